import Derived.Test.YtelogmjfekhmpaaGreatDoorQW2
import Derived.RangeFuncNested
import Derived.RangeFuncBound
import Derived.RangeFuncCalls
import Derived.RangeFuncLeaves
import Derived.RangeFuncBox
import Derived.Maps.AppendAt
import Derived.OwnWalkIn
import Derived.TacticsInMore
import Derived.LoopNIn
import Derived.LoopIn
namespace Go.Proofs.YtelogmjfekhmpaaGreatDoor
set_option maxRecDepth 100000
set_option maxHeartbeats 16000000
open Go.RowKit
attribute [local go_sem] Oper.semAt_some
theorem qzR (n:Nat) (s:ByteArray) (w:World) :
  CallsIn Fence.wide n Tryz.prog 50 #[.string s] w fun e w'=>e=.returned (.func (.func 62) #[] #[.pointer (some ⟨w.heap.size,0,none⟩)])/\w'=w.alloc (.cells #[.string s] 9):=by
 refine callsIn_of_wp Tryz.func50 rfl trivial ?_ rfl
 simp only[Tryz.ntmps50,List.size_toArray,List.length_cons,List.length_nil,Nat.reduceAdd,Nat.reduceSub,Array.replicate_succ,Array.replicate_zero,List.push_toArray,List.append_toArray,List.nil_append,List.cons_append]
 gi_wp2
 go_ret
 exact⟨rfl,rfl⟩
theorem qkW {f:Nat} {l:List UInt8} {c:UInt8} {r:List UInt8} (h:l.dropWhile qaR=c :: r):qbJ (f+1) l=bs ((c :: r).take (qaW (c :: r))) :: qbJ f ((c :: r).drop (qaW (c :: r))):=by
 rw[qbJ,h]
theorem qpA (f:Nat):qbJ f []=[]:=by cases f <;> simp[qbJ]
theorem qkL (l:List UInt8):(l.dropWhile qaR).dropWhile qaR=l.dropWhile qaR:=by
 induction l with
 | nil=>rfl
 | cons c r ih=>
  by_cases h:qaR c=true
  ·rw[List.dropWhile_cons_of_pos h];exact ih
  ·rw[List.dropWhile_cons_of_neg h,List.dropWhile_cons_of_neg h]
theorem qgN (f:Nat) (l:List UInt8):qbJ f (l.dropWhile qaR)=qbJ f l:=by
 cases f with
 | zero=>rfl
 | succ f=>rw[qbJ,qbJ,qkL]
theorem qpB (l:List UInt8):qaW l<=l.length:=by
 cases l with
 | nil=>exact Nat.le_refl _
 | cons c r=>
  have h1:=(List.takeWhile_prefix (l:=r) (fun x=>!(x==34))).length_le
  have h2:=(List.takeWhile_prefix (l:=r) (fun x=>!qaR x)).length_le
  rw[qaW,List.length_cons]
  split
  ·split <;> omega
  ·omega
theorem qnD (c:UInt8) (r:List UInt8):1<=qaW (c :: r):=by
 rw[qaW]
 split <;> omega
def xjS:Value->Nat
 | .string b=>b.size
 | _=>0
theorem xeO (n:Nat) (hn:1<=n) (l Bn n₀:Nat) (s:ByteArray) (hs:s.size<=3000) (xs:List ByteArray) (hxs:xs=qbJ s.size s.data.toList) (J Jx:List ByteArray->World->Prop)
  (hA:∀ pre W W',J pre W->Below W.heap.size W W'->J pre W')
  (hY:∀ pre x W,J pre W->pre.length<xs.length->YieldAt Fence.wide (n - 1) Tryz.prog l #[.string x] W fun e W'=>
   (e=.returned (.bool true)/\J (pre++[x]) W' /\ Below n₀ W W')∨(e=.returned (.bool false)/\Jx (pre++[x]) W'))
  (W:World) (hBn:W.cell? ⟨Bn,0,none⟩=some (.string s)) (h0:J [] W) :
  CallsIn Fence.wide n Tryz.prog 62 #[.func (.yield l) #[] #[],.pointer (some ⟨Bn,0,none⟩)] W fun e W'=>(∃ v,e=.returned v) /\
   ((∃ ys,ys=xs/\J ys W')∨(∃ pre,pre <+: xs/\Jx pre W')):=by
 have HT:=Lib.hid (qtK s W)
 refine callsIn_of_wp Tryz.func62 rfl trivial ?_ rfl
 simp only[Tryz.ntmps62,List.size_toArray,List.length_cons,List.length_nil,Nat.reduceAdd,Nat.reduceSub,Array.replicate_succ,Array.replicate_zero,List.push_toArray,List.append_toArray,List.nil_append,List.cons_append]
 gi_wp2_with (first|(refine⟨trivial,?_⟩;gi_at_call 63;refine (callsIn_wide.2 HT.out).mono ?_;clear HT;rintro e w1 ⟨rfl,aQ⟩))
 gi_loopw [3] (fun p wr=>∃ (pre:List ByteArray) (u:List UInt8) (f:Nat),p=.string (bs u)/\u.dropWhile qaR=u/\xs=pre++qbJ f u/\u.length<=f/\u.length<=3000/\J pre wr)
  (fun p _=>xjS p)
 case atStart=>
  have hd:=(List.dropWhile_suffix (l:=s.data.toList) qaR).length_le
  have hz:s.data.toList.length=s.size:=rfl
  exact⟨[],s.data.toList.dropWhile qaR,s.size,rfl,qkL _,by rw[qgN];exact hxs,by omega,by omega,hA _ _ _ h0 aQ⟩
 case round=>
  obtain⟨pre,u,f,rfl,hu,hx,hf,hl,aB⟩:=hrel
  cases u with
  | nil=>
   have he:bs []=⟨#[]⟩:=rfl
   rw[he]
   gi_wp2
   go_end0
   refine⟨⟨_,rfl⟩,.inl ⟨pre,by rw[hx,qpA];simp,aB⟩⟩
  | cons c r=>
   obtain⟨b,hb⟩:∃ b,b=bs (c :: r):=⟨_,rfl⟩
   have aK:b≠⟨#[]⟩:=by rw[hb];simp[bs]
   have aA:b.size=(c :: r).length:=by rw[hb];rfl
   have aD:b.data.toList=c :: r:=by rw[hb];simp[bs]
   have aL:0<b.size:=by rw[aA];simp
   have aE:qaR c=false:=by
    cases h:qaR c
    ·rfl
    ·exfalso
     have h2:=(List.dropWhile_suffix (l:=r) qaR).length_le
     rw[List.dropWhile_cons_of_pos h]at hu
     have h3:=congrArg List.length hu
     rw[List.length_cons]at h3
     omega
   have HW:=Lib.hid (qtL b wr (by rw[aA];exact hl) aL (by rw[show b[0]=c by subst hb;rfl];exact aE))
   rw[<- hb]
   rw[aD]at HW
   have aU:b.toList.isEmpty=false:=by rw[hb,show (bs (c :: r)).toList=c :: r by simp[bs,ByteArray.toList_eq]];rfl
   obtain⟨f,rfl⟩:∃ g,f=g+1:=⟨f - 1,by simp at hf;omega⟩
   have aM:1<=qaW (c :: r):=qnD c r
   have aN:qaW (c :: r)<=b.size:=by rw[aA];exact qpB _
   rw[qkW hu]at hx
   obtain⟨k,hk⟩:∃ k,k=qaW (c :: r):=⟨_,rfl⟩
   rw[<- hk]at aM aN hx HW
   have aF:bs ((c :: r).take k)=b.extract 0 k:=by rw[hb];apply ByteArray.ext;simp[bs]
   have aG:(b.extract k b.size).data.toList=(c :: r).drop k:=by rw[hb];simp[bs];exact List.take_of_length_le (by simp[ByteArray.size])
   rw[aF]at hx
   have aH:pre.length<xs.length:=by rw[hx];simp
   have aO:Hid (∀ w2,Below wr.heap.size wr w2->YieldAt Fence.wide (n - 1) Tryz.prog l #[.string (b.extract 0 k)] w2 fun e W'=>
     (e=.returned (.bool true)/\J (pre++[b.extract 0 k]) W' /\ Below n₀ w2 W')∨(e=.returned (.bool false)/\Jx (pre++[b.extract 0 k]) W')):=fun w2 h=>hY _ _ _ (hA _ _ _ aB h) aH
   have aI:Hid (∀ w3,Calls Tryz.prog 63 #[.string (b.extract k b.size),.string ⟨#[32,10]⟩] w3 fun e w'=>e=.returned (.string (bs (((c :: r).drop k).dropWhile qaR)))/\Below w3.heap.size w3 w'):=fun w3=>by
    have:=qtK (b.extract k b.size) w3
    rw[aG]at this
    exact this
   have HS:=Lib.hid aA
   have HA:=Lib.hid hA
   have HX:=Lib.hid hx
   have HF:=Lib.hid hf
   have HL:=Lib.hid hl
   clear hA hY hb hx hxs aD aA hu aK hk aF aG aH aB hf hl aE
   have aP:(k:Int)<=(b.size:Int):=by omega
   gi_wp2_with (first|(refine⟨trivial,?_⟩;gi_at_call 64;refine (callsIn_wide.2 HW.out).mono ?_;clear HW;rintro e w2 ⟨rfl,aR⟩;obtain⟨fn,tmps,assign,body,hy,hR⟩:=aO.out w2 aR))
   refine hR.mono ?_
   rintro e W3 (⟨rfl,aS,aV⟩|⟨rfl,aC⟩)
   ·have aJ:=Lib.hid (aI.out W3)
    clear aI
    gi_wp2_with (first|(refine⟨trivial,?_⟩;gi_at_call 63;refine (callsIn_wide.2 aJ.out).mono ?_;clear aJ;rintro e w4 ⟨rfl,aT⟩))
    go_roundw
    case rel=>
     have h1:=(List.dropWhile_suffix (l:=(c :: r).drop k) qaR).length_le
     have h2:=HF.out
     have h3:=HL.out
     rw[List.length_drop]at h1
     exact⟨pre++[b.extract 0 k],((c :: r).drop k).dropWhile qaR,f,rfl,qkL _,by rw[qgN,HX.out];simp,by omega,by omega,HA.out _ _ _ aS aT⟩
    case measure=>
     have h1:=(List.dropWhile_suffix (l:=(c :: r).drop k) qaR).length_le
     rw[List.length_drop,<- HS.out]at h1
     show (bs _).size<b.size
     rw[show (bs (((c :: r).drop k).dropWhile qaR)).size=(((c :: r).drop k).dropWhile qaR).length by simp[bs,ByteArray.size]]
     omega
   ·gi_wp2
    refine bodyPost_ret (results_none rfl _ _ _) rfl ?_
    exact⟨⟨_,rfl⟩,.inr ⟨pre++[b.extract 0 k],⟨qbJ f ((c :: r).drop k),by rw[HX.out];simp⟩,aC⟩⟩
theorem qqV {w w':World} (h:Below w.heap.size w w'):w.grownBy w' none:=⟨h.os,h.tape,h.output,h.size,fun k hk _=>h.block k hk⟩
theorem qvJ (n:Nat) (hn:1<=n) (Bn n₀:Nat) (s:ByteArray) (hs:s.size<=3000) (w:World) (hBn:Bn<w.heap.size) (hc:w.cell? ⟨Bn,0,none⟩=some (.string s)) :
  SeqStopsK Fence.wide n Tryz.prog 62 #[.pointer (some ⟨Bn,0,none⟩)] (fun x:ByteArray=>#[Value.string x]) (Below n₀) (fun ys=>ys=qbJ s.size s.data.toList) (fun pre=>pre <+: qbJ s.size s.data.toList) (qbJ s.size s.data.toList).length w:=fun l J Jx W hW hA _ hY h0=>
 xeO n hn l Bn n₀ s hs _ rfl J Jx (fun pre W1 W2 h hb=>hA pre W1 W2 none h (qqV hb) (fun _ e=>by cases e)) hY W ((hW.cell (p:=⟨Bn,0,none⟩) hBn).trans hc) h0
end Go.Proofs.YtelogmjfekhmpaaGreatDoor
