import Derived.Test.YtelogmjfekhmpaaGreatDoorB14
import Derived.RangeFuncNested
import Derived.RangeFuncBound
import Derived.RangeFuncCalls
import Derived.RangeFuncLeaves
import Derived.RangeFuncBox
import Derived.Maps.AppendAt
import Derived.OwnWalkIn
import Derived.TacticsInMore
import Derived.LoopNIn
import Derived.LoopIn
namespace Go.Proofs.YtelogmjfekhmpaaGreatDoor
set_option maxRecDepth 100000
set_option maxHeartbeats 16000000
open Go.RowKit Go.Proofs.Tryz
attribute [local go_sem] Oper.semAt_some
theorem qzR (n:Nat) (s:ByteArray) (w:World) :
  CallsIn Fence.wide n prog 50 #[.string s] w fun e w'=>e=.returned (.func (.func 62) #[] #[.pointer (some ⟨w.heap.size,0,none⟩)])/\w'=w.alloc (.cells #[.string s] 9):=by
 refine callsIn_of_wp func50 rfl trivial ?_ rfl
 simp only[ntmps50,List.size_toArray,List.length_cons,List.length_nil,Nat.reduceAdd,Nat.reduceSub,Array.replicate_succ,Array.replicate_zero,List.push_toArray,List.append_toArray,List.nil_append,List.cons_append]
 gi_wp2
 go_ret
 exact⟨rfl,rfl⟩
theorem qkT{f:Nat}{l:List UInt8}{c:UInt8}{r:List UInt8}(h:l.dropWhile qaP=c :: r):qbI (f+1) l=bs ((c :: r).take (qaU (c :: r))) :: qbI f ((c :: r).drop (qaU (c :: r))):=by
 rw[qbI,h]
theorem qpA(f:Nat):qbI f []=[]:=by cases f<;>simp[qbI]
theorem qkG(l:List UInt8):(l.dropWhile qaP).dropWhile qaP=l.dropWhile qaP:=by
 induction l with
 | nil=>rfl
 | cons c r ih=>
  by_cases h:qaP c=true
  ·rw[List.dropWhile_cons_of_pos h];exact ih
  ·rw[List.dropWhile_cons_of_neg h,List.dropWhile_cons_of_neg h]
theorem qgL(f:Nat)(l:List UInt8):qbI f (l.dropWhile qaP)=qbI f l:=by
 cases f with
 | zero=>rfl
 | succ f=>rw[qbI,qbI,qkG]
theorem qpB(l:List UInt8):qaU l<=l.length:=by
 cases l with
 | nil=>exact Nat.le_refl _
 | cons c r=>
  have a:=(List.takeWhile_prefix (l:=r) (fun x=>!(x==34))).length_le
  have b:=(List.takeWhile_prefix (l:=r) (fun x=>!qaP x)).length_le
  rw[qaU,List.length_cons]
  split
  ·split<;>omega
  ·omega
theorem qnC(c:UInt8)(r:List UInt8):1<=qaU (c :: r):=by
 rw[qaU]
 split<;>omega
def xjT:Value->Nat
 | .string b=>b.size
 | _=>0
theorem xeP (n:Nat) (hn:1<=n) (l Bn n₀:Nat) (s:ByteArray) (hs:s.size<=3000) (xs:List ByteArray) (hxs:xs=qbI s.size s.data.toList) (J Jx:List ByteArray->World->Prop)
  (hA:∀pre W W',J pre W->Below W.heap.size W W'->J pre W')
  (hY:∀pre x W,J pre W->pre.length<xs.length->YieldAt Fence.wide (n-1) prog l #[.string x] W fun e W'=>
   (e=.returned (.bool true)/\J (pre++[x]) W' /\ Below n₀ W W')∨(e=.returned (.bool false)/\Jx (pre++[x]) W'))
  (W:World) (hBn:W.cell? ⟨Bn,0,none⟩=some (.string s)) (h0:J [] W) :
  CallsIn Fence.wide n prog 62 #[.func (.yield l) #[] #[],.pointer (some ⟨Bn,0,none⟩)] W fun e W'=>(∃v,e=.returned v) /\
   ((∃ys,ys=xs/\J ys W')∨(∃pre,pre <+: xs/\Jx pre W')):=by
 have Q:=Lib.hid (qtK s W)
 refine callsIn_of_wp func62 rfl trivial ?_ rfl
 simp only[ntmps62,List.size_toArray,List.length_cons,List.length_nil,Nat.reduceAdd,Nat.reduceSub,Array.replicate_succ,Array.replicate_zero,List.push_toArray,List.append_toArray,List.nil_append,List.cons_append]
 gi_wp2_with (first|(refine⟨trivial,?_⟩;gi_at_call 63;refine (callsIn_wide.2 Q.out).mono ?_;clear Q;rintro e w1 ⟨rfl,K⟩))
 gi_loopw [3] (fun p wr=>∃(pre:List ByteArray)(u:List UInt8)(f:Nat),p=.string (bs u)/\u.dropWhile qaP=u/\xs=pre++qbI f u/\u.length<=f/\u.length<=3000/\J pre wr)
  (fun p _=>xjT p)
 case atStart=>
  have hd:=(List.dropWhile_suffix (l:=s.data.toList) qaP).length_le
  have hz:s.data.toList.length=s.size:=rfl
  exact⟨[],s.data.toList.dropWhile qaP,s.size,rfl,qkG _,by rw[qgL];exact hxs,by omega,by omega,hA _ _ _ h0 K⟩
 case round=>
  obtain⟨pre,u,f,rfl,C,i,L,M,j⟩:=hrel
  cases u with
  | nil=>
   have V:bs []=⟨#[]⟩:=rfl
   rw[V]
   gi_wp2
   go_end0
   refine⟨⟨_,rfl⟩,.inl ⟨pre,by rw[i,qpA];simp,j⟩⟩
  | cons c r=>
   obtain⟨b,d⟩:∃b,b=bs (c :: r):=⟨_,rfl⟩
   have D:b≠⟨#[]⟩:=by rw[d];simp[bs]
   have a:b.size=(c :: r).length:=by rw[d];rfl
   have m:b.data.toList=c :: r:=by rw[d];simp[bs]
   have E:0<b.size:=by rw[a];simp
   have o:qaP c=false:=by
    cases h:qaP c
    ·rfl
    ·exfalso
     have X:=(List.dropWhile_suffix (l:=r) qaP).length_le
     rw[List.dropWhile_cons_of_pos h]at C
     have R:=congrArg List.length C
     rw[List.length_cons]at R
     omega
   have B:=Lib.hid (qtL b wr (by rw[a];exact M) E (by rw[show b[0]=c by subst d;rfl];exact o))
   rw[<- d]
   rw[m]at B
   have Y:b.toList.isEmpty=false:=by rw[d,show (bs (c :: r)).toList=c :: r by simp[bs,ByteArray.toList_eq]];rfl
   obtain⟨f,rfl⟩:∃g,f=g+1:=⟨f-1,by simp at L;omega⟩
   have F:1<=qaU (c :: r):=qnC c r
   have G:qaU (c :: r)<=b.size:=by rw[a];exact qpB _
   rw[qkT C]at i
   obtain⟨k,U⟩:∃k,k=qaU (c :: r):=⟨_,rfl⟩
   rw[<- U]at F G i B
   have q:bs ((c :: r).take k)=b.extract 0 k:=by rw[d];apply ByteArray.ext;simp[bs]
   have t:(b.extract k b.size).data.toList=(c :: r).drop k:=by rw[d];simp[bs];exact List.take_of_length_le (by simp[ByteArray.size])
   rw[q]at i
   have w:pre.length<xs.length:=by rw[i];simp
   have H:Hid (∀ w2,Below wr.heap.size wr w2->YieldAt Fence.wide (n - 1) prog l #[.string (b.extract 0 k)] w2 fun e W'=>
     (e=.returned (.bool true)/\J (pre++[b.extract 0 k]) W' /\ Below n₀ w2 W')∨(e=.returned (.bool false)/\Jx (pre++[b.extract 0 k]) W')):=fun w2 h=>hY _ _ _ (hA _ _ _ j h) w
   have y:Hid (∀w3,Calls prog 63 #[.string (b.extract k b.size),.string ⟨#[32,10]⟩] w3 fun e w'=>e=.returned (.string (bs (((c :: r).drop k).dropWhile qaP)))/\Below w3.heap.size w3 w'):=fun w3=>by
    have:=qtK (b.extract k b.size) w3
    rw[t]at this
    exact this
   have Z:=Lib.hid a
   have HA:=Lib.hid hA
   have S:=Lib.hid i
   have HF:=Lib.hid L
   have HL:=Lib.hid M
   clear hA hY d i hxs m a C D U q t w j L M o
   have T:(k:Int)<=(b.size:Int):=by omega
   gi_wp2_with (first|(refine⟨trivial,?_⟩;gi_at_call 64;refine (callsIn_wide.2 B.out).mono ?_;clear B;rintro e w2 ⟨rfl,N⟩;obtain⟨fn,tmps,assign,body,hy,hR⟩:=H.out w2 N))
   refine hR.mono ?_
   rintro e W3 (⟨rfl,O,aA⟩|⟨rfl,A⟩)
   ·have z:=Lib.hid (y.out W3)
    clear y
    gi_wp2_with (first|(refine⟨trivial,?_⟩;gi_at_call 63;refine (callsIn_wide.2 z.out).mono ?_;clear z;rintro e w4 ⟨rfl,P⟩))
    go_roundw
    case rel=>
     have I:=(List.dropWhile_suffix (l:=(c :: r).drop k) qaP).length_le
     have X:=HF.out
     have R:=HL.out
     rw[List.length_drop]at I
     exact⟨pre++[b.extract 0 k],((c :: r).drop k).dropWhile qaP,f,rfl,qkG _,by rw[qgL,S.out];simp,by omega,by omega,HA.out _ _ _ O P⟩
    case measure=>
     have I:=(List.dropWhile_suffix (l:=(c :: r).drop k) qaP).length_le
     rw[List.length_drop,<- Z.out]at I
     show (bs _).size<b.size
     rw[show (bs (((c :: r).drop k).dropWhile qaP)).size=(((c :: r).drop k).dropWhile qaP).length by simp[bs,ByteArray.size]]
     omega
   ·gi_wp2
    refine bodyPost_ret (results_none rfl _ _ _) rfl ?_
    exact⟨⟨_,rfl⟩,.inr ⟨pre++[b.extract 0 k],⟨qbI f ((c :: r).drop k),by rw[S.out];simp⟩,A⟩⟩
theorem qqV{w w':World}(h:Below w.heap.size w w'):w.grownBy w' none:=⟨h.os,h.tape,h.output,h.size,fun k hk _=>h.block k hk⟩
theorem qvJ (n:Nat) (hn:1<=n) (Bn n₀:Nat) (s:ByteArray) (hs:s.size<=3000) (w:World) (hBn:Bn<w.heap.size) (hc:w.cell? ⟨Bn,0,none⟩=some (.string s)) :
  SeqStopsK Fence.wide n prog 62 #[.pointer (some ⟨Bn,0,none⟩)] (fun x:ByteArray=>#[Value.string x]) (Below n₀) (fun ys=>ys=qbI s.size s.data.toList) (fun pre=>pre <+: qbI s.size s.data.toList) (qbI s.size s.data.toList).length w:=fun l J Jx W hW hA _ hY h0=>
 xeP n hn l Bn n₀ s hs _ rfl J Jx (fun pre W1 W2 h hb=>hA pre W1 W2 none h (qqV hb) (fun _ e=>by cases e)) hY W ((hW.cell (p:=⟨Bn,0,none⟩) hBn).trans hc) h0
end Go.Proofs.YtelogmjfekhmpaaGreatDoor
namespace Go.Proofs.YtelogmjfekhmpaaGreatDoor
open Go.RowKit
theorem xaA {l n:Nat} {P:Program} {o:Oper} {a:Act} {w:World} {K K':Act->World->Prop} {Q:Exit->Act->World->Prop} (hd:∀ c,o.op≠.defer c) (hK:∀ a w,K a w->K' a w)
  (h:o.wp P a w K Q):o.wpIn (Fence.wide.inRound l) n P a w K' Q:=by
 unfold Oper.wp at h
 unfold Oper.wpIn
 refine⟨fun _ _=>trivial,?_⟩
 rw[Oper.semAt_plain _ _ _ hd]
 generalize Sem.run P (execOp a.eval o) w=r at h ⊢
 match r,h with
 | .ok (.value v) w',h=>exact hK _ _ h
 | .ok .skip w',h=>exact hK _ _ h
 | .ok (.defer d) w',h=>exact hK _ _ h
 | .ok (.enter f args) w',h=>
  refine⟨(fun e=>by cases e),(CallsIn.inRound l (callsIn_wide.2 h)).mono ?_⟩
  intro e w2 b
  match e,b with
  | .returned v,b=>exact hK _ _ b
  | .panicked c,b=>exact b
  | .outgrown,b=>exact b
 | .ok (.row row args) w',h=>
  refine⟨(fun e=>by cases e),?_⟩
  intro c g _
  obtain⟨v,w2,r,st⟩:=h c g
  exact⟨v,w2,hK _ _ r,stepsIn_wide.2 st⟩
 | .halt (.panic v) w',h=>exact h
theorem qfS {l n:Nat} {P:Program} {md:Region.Mode} {ops:Array Oper} {Q:Exit->Act->World->Prop} (hd:∀ (i:Nat) (o:Oper),ops[i]?=some o->∀ c,o.op≠.defer c) (hQ:¬ LetsOut Q) :
  ∀(fuel:Nat)(listed:Array Bool)(a:Act)(w:World),wpAny P md ops Q fuel listed a w->wpAnyIn (Fence.wide.inRound l) n P md ops Q fuel listed a w
 | 0,_,_,_,h=>h
 | fuel+1,listed,a,w,h=>by
  refine⟨h.1,fun i hi=>?_⟩
  have h1:=h.2 i hi
  unfold wpOp at h1
  unfold wpOpIn
  cases e:ops[i]? with
  | none=>rw[e]at h1;exact qfS hd hQ fuel _ _ _ h1
  | some o=>
   rw[e]at h1
   dsimp only at h1 ⊢
   split at h1
   ·rename_i hw
    rw[if_pos hw]
    rcases h1 with h1|h1
    ·exact xaA (hd i o e) (fun a w h=>qfS hd hQ fuel _ a w h) h1
    ·exact absurd h1.2 hQ
   ·rename_i hw
    rw[if_neg hw]
    exact⟨fun _ _=>trivial,qfS hd hQ fuel _ _ _ h1⟩
theorem qnF {l n id:Nat} {P:Program} {ops:Array Oper} {Q:Exit->Act->World->Prop} {a:Act} {w:World} (hm:P.follows .mixedOrders=true) (hd:∀ (i:Nat) (o:Oper),ops[i]?=some o->∀ c,o.op≠.defer c) (hQ:¬ LetsOut Q)
  (h:wpAny P .any ops Q ops.size (Array.replicate ops.size false) a w.drew):(Code.region id ops true).wpIn (Fence.wide.inRound l) n P Q a w:=wpIn_region_any hm (qfS hd hQ _ _ _ _ h)
end Go.Proofs.YtelogmjfekhmpaaGreatDoor
