import Derived.Test.YtelogmjfekhmpaaGreatDoorQW3
import Derived.Test.YtelogmjfekhmpaaGreatDoorCopyN
import Derived.Deep.AppendLies
import Derived.OwnWalk
namespace Go.Proofs.YtelogmjfekhmpaaGreatDoor
set_option maxRecDepth 100000
set_option maxHeartbeats 16000000
open Go.RowKit
def twl (p:UInt8->Bool) (l:List UInt8):Nat:=(l.takeWhile p).length
theorem xiC (p:UInt8->Bool) (l:List UInt8):twl p l<=l.length:=(List.takeWhile_prefix (l:=l) p).length_le
theorem twl_in (p:UInt8->Bool):∀ (l:List UInt8) (i:Nat),i<twl p l->∃ c,l[i]?=some c/\p c=true:=by
 intro l
 induction l with
 | nil=>intro i h;simp[twl]at h
 | cons c r ih=>
  intro i h
  unfold twl at h ih
  by_cases hc:p c=true
  ·rw[List.takeWhile_cons_of_pos hc,List.length_cons]at h
   cases i with
   | zero=>exact⟨c,rfl,hc⟩
   | succ i=>rw[List.getElem?_cons_succ];exact ih i (by omega)
  ·rw[List.takeWhile_cons_of_neg hc]at h;simp at h
theorem xjT (p:UInt8->Bool):∀ (l:List UInt8) (c:UInt8),l[twl p l]?=some c->p c=false:=by
 intro l
 induction l with
 | nil=>intro c h;simp at h
 | cons b r ih=>
  intro c h
  unfold twl at h ih
  by_cases hc:p b=true
  ·rw[List.takeWhile_cons_of_pos hc,List.length_cons,List.getElem?_cons_succ]at h
   exact ih c h
  ·rw[List.takeWhile_cons_of_neg hc]at h
   simp at h
   subst h
   simpa using hc
theorem qxF {p:UInt8->Bool} {l:List UInt8} {k:Nat} (hk:k<=twl p l) {c:UInt8} (hc:l[k]?=some c) (hp:p c=true):k<twl p l:=by
 rcases Nat.lt_or_ge k (twl p l) with h|h
 ·exact h
 ·have e:k=twl p l:=by omega
  rw[e]at hc
  rw[xjT p l c hc]at hp
  cases hp
theorem qxG {p:UInt8->Bool} {l:List UInt8} {k:Nat} (hk:k<=twl p l) (h:∀ c,l[k]?=some c->p c=false):k=twl p l:=by
 rcases Nat.lt_or_ge k (twl p l) with h1|h1
 ·obtain⟨c,hc,hp⟩:=twl_in p l k h1
  rw[h c hc]at hp;cases hp
 ·omega
theorem xeP (r:List UInt8):qaW (34 :: r)=1+twl (fun x=>!(x==34)) r+(if twl (fun x=>!(x==34)) r<r.length then 1 else 0):=by
 rw[qaW,if_pos rfl];rfl
theorem xeQ (c:UInt8) (r:List UInt8) (h:c≠34):qaW (c :: r)=1+twl (fun x=>!qaR x) r:=by
 rw[qaW,if_neg h];rfl
theorem qtM (f:Nat) (b:UInt8) (r:List UInt8) (h:qaR b=true):qbJ f (b :: r)=qbJ f r:=by
 rw[<- qgN f (b :: r),List.dropWhile_cons_of_pos h,qgN]
theorem qvK (f:Nat) (c:UInt8) (r:List UInt8) (h:qaR c=false):qbJ (f+1) (c :: r)=bs ((c :: r).take (qaW (c :: r))) :: qbJ f ((c :: r).drop (qaW (c :: r))):=
 qkW (List.dropWhile_cons_of_neg (by rw[h];simp))
theorem xeR {s:ByteArray} {k i:Nat} (hi:k+i<s.size):(s.data.toList.drop k)[i]?=some s[k+i]:=by
 rw[List.getElem?_drop,List.getElem?_eq_getElem (by simpa using hi)]
 rfl
theorem qkM {c:UInt8} {v:Nat} (hv:v<256):((c.toNat:Int)==(v:Int))=(c==UInt8.ofNat v):=by
 rw[Bool.eq_iff_iff]
 simp only[beq_iff_eq]
 constructor
 ·intro h;apply UInt8.toNat_inj.1;rw[UInt8.toNat_ofNat'];omega
 ·intro h;rw[h,UInt8.toNat_ofNat'];omega
theorem qvL {w:World} {base E:Nat} {e:TypeId} {size:Nat} (hE:w.heap[E]?=some (.cells #[] e (0,0))) (hb:base<=E):w.ownsRow base e size (.slice (some ⟨E,0,none⟩) 0 0) 0 []:=
 ⟨by simp,.inr ⟨E,0,#[],rfl,hb,hE,Nat.le_refl _,Nat.zero_le _,by simp,by simp⟩⟩
structure WG (s:ByteArray) (w wr:World) (v:Value) (at' n:Nat):Prop where
 le:at'<=s.size
 row:∃ pre f,qbJ s.size s.data.toList=pre++qbJ f (s.data.toList.drop at')/\s.size - at'<=f/\pre.length=n/\wr.ownsRow w.heap.size 9 1 v n (pre.map .string)
 few:n<=at'
 below:Below w.heap.size w wr
theorem WG.start {s:ByteArray} {w:World}:WG s w (w.alloc (.cells #[] 9)) (.slice (some ⟨w.heap.size,0,none⟩) 0 0) 0 0:=
 ⟨Nat.zero_le _,⟨[],s.size,by simp,by omega,rfl,qvL (heap_alloc_new _ _) (Nat.le_refl _)⟩,Nat.le_refl _,(Below.refl _ _).alloc (Nat.le_refl _) _⟩
theorem qjS {s:ByteArray} {i:Nat} (h:i<s.size):s.data.toList.drop i=s[i] :: s.data.toList.drop (i+1):=by
 rw[List.drop_eq_getElem_cons (by simpa using h)]
 rfl
theorem WG.blank {s:ByteArray} {w wr:World} {v:Value} {i n:Nat} (h:WG s w wr v i n) (hi:i<s.size) (hb:qaR s[i]=true):WG s w wr v (i+1) n:=by
 obtain⟨pre,f,h1,h2,h3,h4⟩:=h.row
 refine⟨by omega,⟨pre,f,?_,by omega,h3,h4⟩,by have:=h.few;omega,h.below⟩
 rw[h1,qjS hi,qtM _ _ _ hb]
theorem WG.word {s:ByteArray} {w wr w3:World} {v:Value} {i n e g cap:Nat} {o:Obj} (h:WG s w wr v i n) (hi:i<s.size) (hb:qaR s[i]=false) (he:e=i+qaW (s.data.toList.drop i))
  (hown:∀ xs,wr.ownsRow w.heap.size 9 1 v n xs->w3.ownsRow w.heap.size 9 1 (.slice (some ⟨g,0,none⟩) (n+1) cap) (n+1) (xs++[.string (s.extract i e)]))
  (hgrow:(wr.alloc o).grownBy w3 v.ownBlock):WG s w w3 (.slice (some ⟨g,0,none⟩) (n+1) cap) e (n+1):=by
 obtain⟨pre,f,h1,h2,h3,h4⟩:=h.row
 have hl:=qpB (s.data.toList.drop i)
 have aA:1<=qaW (s.data.toList.drop i):=by rw[qjS hi];exact qnD _ _
 have aB:(s.data.toList.drop i).length=s.size - i:=by simp
 obtain⟨f,rfl⟩:∃ g,f=g+1:=⟨f - 1,by omega⟩
 have hx:s.extract i e=bs ((s.data.toList.drop i).take (qaW (s.data.toList.drop i))):=by
  rw[he];exact qgA s i _
 have hs:=h.below.size
 refine⟨by omega,⟨pre++[s.extract i e],f,?_,by omega,by simp[h3],by rw[List.map_append];exact hown _ h4⟩,by have:=h.few;omega,(h.below.alloc hs o).grown hgrow (by simp;omega) (fun q hq=>(r1_lt h4 q hq).1)⟩
 rw[h1,List.append_assoc]
 congr 1
 rw[hx,he,<- List.drop_drop]
 generalize hq:s.data.toList.drop i=q at *
 rw[qjS hi]at hq
 subst hq
 rw[qvK _ _ _ hb]
 rfl
theorem qnE {w:World} {base size n:Nat} {e:TypeId} {v:Value} {xs ys:List Value} (h1:w.ownsRow base e size v n xs) (h2:w.ownsRow base e size v n ys):xs=ys:=by
 rcases h1.2 with ⟨rfl,rfl⟩|⟨g,cap,cur,rfl,_,hg,_,_,_,ht⟩
 ·have a1:=h1.1
  have a2:=h2.1
  rw[Nat.zero_mul]at a1 a2
  rw[List.eq_nil_of_length_eq_zero a1,List.eq_nil_of_length_eq_zero a2]
 ·rcases h2.2 with ⟨hv,-⟩|⟨g',cap',cur',hv,_,aA,_,_,_,aB⟩
  ·cases hv
  ·cases hv
   rw[hg]at aA
   cases aA
   rw[<- ht,aB]
theorem WG.done {s:ByteArray} {w wr:World} {v:Value} {i n:Nat} (h:WG s w wr v i n) (hi:¬ i<s.size):wr.ownsRow w.heap.size 9 1 v (qbJ s.size s.data.toList).length ((qbJ s.size s.data.toList).map .string):=by
 obtain⟨pre,f,h1,h2,h3,h4⟩:=h.row
 rw[List.drop_of_length_le (by simp;omega),qpA,List.append_nil]at h1
 rw[h1,h3]
 exact h4
theorem Tryz.info_strW:(Tryz.prog.info? 9).map (fun i=>(i.zero,i.size,i.bytes))=some (some (.string ⟨#[]⟩),1,16):=by kernel_rfl
theorem qtN (s:ByteArray) (hs:s.size<=3000) (w:World) :
  Calls Tryz.prog 10 #[.string s] w fun e w'=>∃ v,e=.returned v/\Below w.heap.size w w' /\ w'.ownsRow w.heap.size 9 1 v (qbJ s.size s.data.toList).length ((qbJ s.size s.data.toList).map .string):=by
 obtain⟨i0,hi,aQ,aR,aS⟩:=info_parts Tryz.info_strW
 have HI:aF (_/\_/\_/\_):=⟨hi,aQ,aR,aS⟩
 clear hi aQ aR aS
 go_enter Tryz.func10,Tryz.ntmps10
 go_wp2_with fail
 go_loopw [3,4] (fun v iv wr=>∃ (i n:Nat) (va:Option Addr) (vc:Nat),iv=.int .i64 (i:Int)/\v=.slice va n vc/\WG s w wr v i n) (fun _ iv _=>s.size - (intOf iv).toNat)
 case atStart=>exact⟨0,0,_,_,rfl,rfl,WG.start⟩
 case round=>
  obtain⟨i,n,va,vc,rfl,rfl,hW⟩:=hrel
  have HW:=Lib.hid hW
  have bE:=hW.le
  have aX:=hW.few
  have bF:=hW.below.size
  clear hW
  by_cases hlt:i<s.size
  case neg=>
   have aY:¬ (i:Int)<(s.size:Int):=by omega
   have HP:aF (_/\_):=⟨HW.out.below,HW.out.done hlt⟩
   clear HW
   go_wp2_with fail
   go_ret
   exact⟨_,rfl,HP.out⟩
  have aY:(i:Int)<(s.size:Int):=by omega
  have bG:(0:Int)<=(i:Int):=by omega
  have bH:IntKind.i64.wrap ((i:Int)+1)=(i:Int)+1:=by rw[IntKind.wrap_i64];omega
  have e32:(((s[i]).toNat:Int)==32)=(s[i]==32):=qkM (c:=s[i]) (v:=32) (by decide)
  have e10:(((s[i]).toNat:Int)==10)=(s[i]==10):=qkM (c:=s[i]) (v:=10) (by decide)
  have e34:(((s[i]).toNat:Int)==34)=(s[i]==34):=qkM (c:=s[i]) (v:=34) (by decide)
  by_cases hb:qaR s[i]=true
  ·have HN:=Lib.hid (HW.out.blank hlt hb)
   unfold qaR at hb
   cases h32:(s[i]==32) with
   | true=>
    have e32':(((s[i]).toNat:Int)==32)=true:=e32.trans h32
    clear e32 e10 e34 hb h32 HW
    go_wp2_with fail
    go_roundw
    case rel=>exact⟨i+1,n,va,vc,by go_num,rfl,HN.out⟩
    case measure=>simp[intOf];omega
   | false=>
    have e32':(((s[i]).toNat:Int)==32)=false:=e32.trans h32
    have aW:(s[i]==10)=true:=by rw[h32]at hb;simpa using hb
    have e10':(((s[i]).toNat:Int)==10)=true:=e10.trans aW
    clear e32 e10 e34 hb h32 aW HW
    go_wp2_with fail
    go_roundw
    case rel=>exact⟨i+1,n,va,vc,by go_num,rfl,HN.out⟩
    case measure=>simp[intOf];omega
  ·have aM:qaR s[i]=false:=by simpa using hb
   have HB:=Lib.hid aM
   unfold qaR at aM
   rw[Bool.or_eq_false_iff]at aM
   have e32':(((s[i]).toNat:Int)==32)=false:=e32.trans aM.1
   have e10':(((s[i]).toNat:Int)==10)=false:=e10.trans aM.2
   clear e32 e10 hb aM
   have HD:=Lib.hid (qjS hlt)
   cases h34:(s[i]==34) with
   | true=>
    have e34':(((s[i]).toNat:Int)==34)=true:=e34.trans h34
    have hq:s[i]=34:=by simpa using h34
    have HL:aF (qaW (s.data.toList.drop i)=1+twl (fun x=>!(x==34)) (s.data.toList.drop (i+1))+(if twl (fun x=>!(x==34)) (s.data.toList.drop (i+1))<(s.data.toList.drop (i+1)).length then 1 else 0)):=by
     show _=_
     rw[HD.out,hq];exact xeP _
    have HT:=Lib.hid (xiC (fun x=>!(x==34)) (s.data.toList.drop (i+1)))
    have aO:(s.data.toList.drop (i+1)).length=s.size - (i+1):=by simp
    rw[aO]at HT HL
    clear h34 e34 hq aO
    obtain⟨H1,rfl⟩:∃ H1,H1=wr:=⟨_,rfl⟩
    obtain⟨tq,aG⟩:∃ tq,twl (fun x=>!(x==34)) (s.data.toList.drop (i+1))=tq:=⟨_,rfl⟩
    have HK:aF (∀ k,k<=tq->∀ (h:i+1+k<s.size),(s[i+1+k]=34->k=tq)/\(s[i+1+k]≠34->k+1<=tq)):=by
     intro k hk h
     have aP:=xeR (s:=s) (k:=i+1) (i:=k) h
     refine⟨fun e=>?_,fun e=>?_⟩
     ·rw[<- aG];exact qxG (by rw[aG];exact hk) (fun c hc=>by rw[aP]at hc;cases hc;rw[e];rfl)
     ·have:=qxF (p:=fun x=>!(x==34)) (by rw[aG];exact hk) aP (by simpa using e)
      rw[aG]at this;exact this
    rw[aG]at HL HT
    have aZ:=HT.out
    clear aG HT
    go_wp2_with fail
    go_loopw [5] (fun ev w2=>H1=w2/\∃ k j:Nat,ev=.int .i64 (j:Int)/\j=i+1+k/\k<=tq) (fun ev _=>s.size - (intOf ev).toNat)
    case atStart=>exact⟨rfl,0,i+1,by go_num,rfl,Nat.zero_le _⟩
    case round=>
     obtain⟨aV,k,j,rfl,hj,hk⟩:=hrel
     subst aV
     have HJ:=Lib.hid hj
     have bA:j<=i+1+tq:=by omega
     have bB:i+1<=j:=by omega
     have bC:(0:Int)<=(j:Int):=by omega
     have bD:IntKind.i64.wrap ((j:Int)+1)=(j:Int)+1:=by rw[IntKind.wrap_i64];omega
     by_cases hjs:j<s.size
     ·have aT:decide ((j:Int)<(s.size:Int))=true:=by simp;omega
      have aU:(j:Int)<(s.size:Int):=by omega
      have aH:=Lib.hid (HK.out k hk (by omega))
      have e34j:(((s[j]).toNat:Int)==34)=(s[j]==34):=qkM (c:=s[j]) (v:=34) (by decide)
      by_cases hqj:s[j]=34
      ·have e34k:(((s[j]).toNat:Int)==34)=true:=by rw[e34j,hqj];rfl
       have e34n:(((s[j]).toNat:Int) != 34)=false:=by simp[bne,e34k]
       have aI:k=tq:=aH.out.1 (by subst hj;exact hqj)
       have HE:aF (j+1=i+qaW (s.data.toList.drop i)):=by
        show _=_
        rw[HL.out,if_pos (by omega)];omega
       have aJ:(i:Int)<=((j:Int)+1):=by omega
       have aK:((j:Int)+1)<=(s.size:Int):=by omega
       clear e34j hqj aH HK aI hj HJ hk
       obtain⟨pre,aC⟩:∃ xs,H1.ownsRow w.heap.size 9 1 (.slice va n vc) n xs:=by obtain⟨pre,f,-,-,-,h4⟩:=HW.out.row;exact⟨_,h4⟩
       have HX:=Lib.hid aC
       clear aC
       go_wp2_with (at_builtin;refine wpList_append_lies _ rfl (.tmp 65) (.tmp 70) 22 rfl w.heap.size 9 i0 _ 1 16 Tryz.underlying22 HI.out.1 HI.out.2.1 HI.out.2.2.1 HI.out.2.2.2 rfl (by decide) (.slice va n vc) n pre rfl (HX.out.alloc _) ⟨H1.heap.size,0,none⟩ 1 1 [.string (s.extract i (j+1))] rfl rfl (World.news_of_block (heap_alloc_new H1 _)) (by simp[Value.oneCell']) (by decide) (by unfold maxLen;omega) (by omega) (by simp;omega) (H1.heap.size+1) (by simp) ?_;intro g cap w3 aB aA aD aE;refine aF.out ?_)
       refine Lib.hid ?_
       have HF:=Lib.hid (HW.out.word (o:=.cells #[.string (s.extract i (j+1))] 9) (e:=j+1) (g:=g) (cap:=cap) (w3:=w3) hlt HB.out HE.out (fun xs hxs=>by rw[qnE hxs HX.out];exact aB) aA)
       have aL:=HF.out.le
       clear aB aA aD aE HX HW HB HD HL HE
       go_wp2_with fail
       go_roundw
       case rel=>exact⟨j+1,n+1,_,_,by go_num,rfl,HF.out⟩
       case measure=>simp[intOf];omega
      ·have e34k:(((s[j]).toNat:Int)==34)=false:=by rw[e34j];simpa using hqj
       have e34n:(((s[j]).toNat:Int) != 34)=true:=by simp[bne,e34k]
       have aI:k+1<=tq:=aH.out.2 (by subst hj;exact hqj)
       clear e34j hqj aH HK hj hk
       go_wp2_with fail
       go_roundw
       case rel=>exact⟨trivial,k+1,j+1,by go_num,by have:=HJ.out;omega,aI⟩
       case measure=>simp[intOf];omega
     ·have aT:decide ((j:Int)<(s.size:Int))=false:=by simp;omega
      have aU:¬ (j:Int)<(s.size:Int):=by omega
      have HE:aF (j=i+qaW (s.data.toList.drop i)):=by
       show _=_
       rw[HL.out,if_neg (by omega)];omega
      have aJ:(i:Int)<=(j:Int):=by omega
      have aK:(j:Int)<=(s.size:Int):=by omega
      clear HK hj HJ hk
      obtain⟨pre,aC⟩:∃ xs,H1.ownsRow w.heap.size 9 1 (.slice va n vc) n xs:=by obtain⟨pre,f,-,-,-,h4⟩:=HW.out.row;exact⟨_,h4⟩
      have HX:=Lib.hid aC
      clear aC
      go_wp2_with (at_builtin;refine wpList_append_lies _ rfl (.tmp 65) (.tmp 70) 22 rfl w.heap.size 9 i0 _ 1 16 Tryz.underlying22 HI.out.1 HI.out.2.1 HI.out.2.2.1 HI.out.2.2.2 rfl (by decide) (.slice va n vc) n pre rfl (HX.out.alloc _) ⟨H1.heap.size,0,none⟩ 1 1 [.string (s.extract i (j))] rfl rfl (World.news_of_block (heap_alloc_new H1 _)) (by simp[Value.oneCell']) (by decide) (by unfold maxLen;omega) (by omega) (by simp;omega) (H1.heap.size+1) (by simp) ?_;intro g cap w3 aB aA aD aE;refine aF.out ?_)
      refine Lib.hid ?_
      have HF:=Lib.hid (HW.out.word (o:=.cells #[.string (s.extract i (j))] 9) (e:=j) (g:=g) (cap:=cap) (w3:=w3) hlt HB.out HE.out (fun xs hxs=>by rw[qnE hxs HX.out];exact aB) aA)
      have aL:=HF.out.le
      clear aB aA aD aE HX HW HB HD HL HE
      go_wp2_with fail
      go_roundw
      case rel=>exact⟨j,n+1,_,_,by go_num,rfl,HF.out⟩
      case measure=>simp[intOf];omega
   | false=>
    have e34':(((s[i]).toNat:Int)==34)=false:=e34.trans h34
    have hq:s[i]≠34:=by simpa using h34
    have HL:aF (qaW (s.data.toList.drop i)=1+twl (fun x=>!qaR x) (s.data.toList.drop (i+1))):=by
     show _=_
     rw[HD.out];exact xeQ _ _ hq
    have HT:=Lib.hid (xiC (fun x=>!qaR x) (s.data.toList.drop (i+1)))
    have aO:(s.data.toList.drop (i+1)).length=s.size - (i+1):=by simp
    rw[aO]at HT
    clear h34 e34 hq aO
    obtain⟨H1,rfl⟩:∃ H1,H1=wr:=⟨_,rfl⟩
    obtain⟨tq,aG⟩:∃ tq,twl (fun x=>!qaR x) (s.data.toList.drop (i+1))=tq:=⟨_,rfl⟩
    have HK:aF (∀ k,k<=tq->∀ (h:i+1+k<s.size),(qaR s[i+1+k]=true->k=tq)/\(qaR s[i+1+k]=false->k+1<=tq)):=by
     intro k hk h
     have aP:=xeR (s:=s) (k:=i+1) (i:=k) h
     refine⟨fun e=>?_,fun e=>?_⟩
     ·rw[<- aG];exact qxG (by rw[aG];exact hk) (fun c hc=>by rw[aP]at hc;cases hc;rw[e];rfl)
     ·have:=qxF (p:=fun x=>!qaR x) (by rw[aG];exact hk) aP (by rw[e];rfl)
      rw[aG]at this;exact this
    have HS:aF (∀ k,k<=tq->¬ i+1+k<s.size->k=tq):=by
     intro k hk h
     have:=HT.out
     omega
    rw[aG]at HL HT
    have aZ:=HT.out
    clear aG HT
    go_wp2_with fail
    go_loopw [5] (fun ev w2=>H1=w2/\∃ k j:Nat,ev=.int .i64 (j:Int)/\j=i+1+k/\k<=tq) (fun ev _=>s.size - (intOf ev).toNat)
    case atStart=>exact⟨rfl,0,i+1,by go_num,rfl,Nat.zero_le _⟩
    case round=>
     obtain⟨aV,k,j,rfl,hj,hk⟩:=hrel
     subst aV
     have HJ:=Lib.hid hj
     have bA:j<=i+1+tq:=by omega
     have bB:i+1<=j:=by omega
     have bC:(0:Int)<=(j:Int):=by omega
     have bD:IntKind.i64.wrap ((j:Int)+1)=(j:Int)+1:=by rw[IntKind.wrap_i64];omega
     by_cases hjs:j<s.size
     ·have aT:decide ((j:Int)<(s.size:Int))=true:=by simp;omega
      have aU:(j:Int)<(s.size:Int):=by omega
      have aH:=Lib.hid (HK.out k hk (by omega))
      have e32j:(((s[j]).toNat:Int)==32)=(s[j]==32):=qkM (c:=s[j]) (v:=32) (by decide)
      have e10j:(((s[j]).toNat:Int)==10)=(s[j]==10):=qkM (c:=s[j]) (v:=10) (by decide)
      have aN:aF (qaR s[j]=(s[j]==32 || s[j]==10)):=rfl
      cases hq2:(s[j]==32) with
      | true=>
       have e34k:(((s[j]).toNat:Int)==32)=true:=e32j.trans hq2
       have e34n:(((s[j]).toNat:Int) != 32)=false:=by simp[bne,e34k]
       have aI:k=tq:=aH.out.1 (by subst hj;rw[aN.out,hq2];rfl)
       have HE:aF (j=i+qaW (s.data.toList.drop i)):=by
        show _=_
        rw[HL.out];omega
       have aJ:(i:Int)<=(j:Int):=by omega
       have aK:(j:Int)<=(s.size:Int):=by omega
       clear e32j e10j hq2 aH HK HS aI hj HJ hk aN
       obtain⟨pre,aC⟩:∃ xs,H1.ownsRow w.heap.size 9 1 (.slice va n vc) n xs:=by obtain⟨pre,f,-,-,-,h4⟩:=HW.out.row;exact⟨_,h4⟩
       have HX:=Lib.hid aC
       clear aC
       go_wp2_with (at_builtin;refine wpList_append_lies _ rfl (.tmp 65) (.tmp 70) 22 rfl w.heap.size 9 i0 _ 1 16 Tryz.underlying22 HI.out.1 HI.out.2.1 HI.out.2.2.1 HI.out.2.2.2 rfl (by decide) (.slice va n vc) n pre rfl (HX.out.alloc _) ⟨H1.heap.size,0,none⟩ 1 1 [.string (s.extract i (j))] rfl rfl (World.news_of_block (heap_alloc_new H1 _)) (by simp[Value.oneCell']) (by decide) (by unfold maxLen;omega) (by omega) (by simp;omega) (H1.heap.size+1) (by simp) ?_;intro g cap w3 aB aA aD aE;refine aF.out ?_)
       refine Lib.hid ?_
       have HF:=Lib.hid (HW.out.word (o:=.cells #[.string (s.extract i (j))] 9) (e:=j) (g:=g) (cap:=cap) (w3:=w3) hlt HB.out HE.out (fun xs hxs=>by rw[qnE hxs HX.out];exact aB) aA)
       have aL:=HF.out.le
       clear aB aA aD aE HX HW HB HD HL HE
       go_wp2_with fail
       go_roundw
       case rel=>exact⟨j,n+1,_,_,by go_num,rfl,HF.out⟩
       case measure=>simp[intOf];omega
      | false=>
       have e34k:(((s[j]).toNat:Int)==32)=false:=e32j.trans hq2
       have e34n:(((s[j]).toNat:Int) != 32)=true:=by simp[bne,e34k]
       cases hq3:(s[j]==10) with
       | true=>
        have e34l:(((s[j]).toNat:Int)==10)=true:=e10j.trans hq3
        have e34m:(((s[j]).toNat:Int) != 10)=false:=by simp[bne,e34l]
        have aI:k=tq:=aH.out.1 (by subst hj;rw[aN.out,hq2,hq3];rfl)
        have HE:aF (j=i+qaW (s.data.toList.drop i)):=by
         show _=_
         rw[HL.out];omega
        have aJ:(i:Int)<=(j:Int):=by omega
        have aK:(j:Int)<=(s.size:Int):=by omega
        clear e32j e10j hq2 hq3 aH HK HS aI hj HJ hk aN
        obtain⟨pre,aC⟩:∃ xs,H1.ownsRow w.heap.size 9 1 (.slice va n vc) n xs:=by obtain⟨pre,f,-,-,-,h4⟩:=HW.out.row;exact⟨_,h4⟩
        have HX:=Lib.hid aC
        clear aC
        go_wp2_with (at_builtin;refine wpList_append_lies _ rfl (.tmp 65) (.tmp 70) 22 rfl w.heap.size 9 i0 _ 1 16 Tryz.underlying22 HI.out.1 HI.out.2.1 HI.out.2.2.1 HI.out.2.2.2 rfl (by decide) (.slice va n vc) n pre rfl (HX.out.alloc _) ⟨H1.heap.size,0,none⟩ 1 1 [.string (s.extract i (j))] rfl rfl (World.news_of_block (heap_alloc_new H1 _)) (by simp[Value.oneCell']) (by decide) (by unfold maxLen;omega) (by omega) (by simp;omega) (H1.heap.size+1) (by simp) ?_;intro g cap w3 aB aA aD aE;refine aF.out ?_)
        refine Lib.hid ?_
        have HF:=Lib.hid (HW.out.word (o:=.cells #[.string (s.extract i (j))] 9) (e:=j) (g:=g) (cap:=cap) (w3:=w3) hlt HB.out HE.out (fun xs hxs=>by rw[qnE hxs HX.out];exact aB) aA)
        have aL:=HF.out.le
        clear aB aA aD aE HX HW HB HD HL HE
        go_wp2_with fail
        go_roundw
        case rel=>exact⟨j,n+1,_,_,by go_num,rfl,HF.out⟩
        case measure=>simp[intOf];omega
       | false=>
        have e34l:(((s[j]).toNat:Int)==10)=false:=e10j.trans hq3
        have e34m:(((s[j]).toNat:Int) != 10)=true:=by simp[bne,e34l]
        have aI:k+1<=tq:=aH.out.2 (by subst hj;rw[aN.out,hq2,hq3];rfl)
        clear e32j e10j hq2 hq3 aH HK HS hj hk aN
        go_wp2_with fail
        go_roundw
        case rel=>exact⟨trivial,k+1,j+1,by go_num,by have:=HJ.out;omega,aI⟩
        case measure=>simp[intOf];omega
     ·have aT:decide ((j:Int)<(s.size:Int))=false:=by simp;omega
      have aU:¬ (j:Int)<(s.size:Int):=by omega
      have aI:k=tq:=HS.out k hk (by omega)
      have HE:aF (j=i+qaW (s.data.toList.drop i)):=by
       show _=_
       rw[HL.out];omega
      have aJ:(i:Int)<=(j:Int):=by omega
      have aK:(j:Int)<=(s.size:Int):=by omega
      clear HK hj HJ hk HS aI
      obtain⟨pre,aC⟩:∃ xs,H1.ownsRow w.heap.size 9 1 (.slice va n vc) n xs:=by obtain⟨pre,f,-,-,-,h4⟩:=HW.out.row;exact⟨_,h4⟩
      have HX:=Lib.hid aC
      clear aC
      go_wp2_with (at_builtin;refine wpList_append_lies _ rfl (.tmp 65) (.tmp 70) 22 rfl w.heap.size 9 i0 _ 1 16 Tryz.underlying22 HI.out.1 HI.out.2.1 HI.out.2.2.1 HI.out.2.2.2 rfl (by decide) (.slice va n vc) n pre rfl (HX.out.alloc _) ⟨H1.heap.size,0,none⟩ 1 1 [.string (s.extract i (j))] rfl rfl (World.news_of_block (heap_alloc_new H1 _)) (by simp[Value.oneCell']) (by decide) (by unfold maxLen;omega) (by omega) (by simp;omega) (H1.heap.size+1) (by simp) ?_;intro g cap w3 aB aA aD aE;refine aF.out ?_)
      refine Lib.hid ?_
      have HF:=Lib.hid (HW.out.word (o:=.cells #[.string (s.extract i (j))] 9) (e:=j) (g:=g) (cap:=cap) (w3:=w3) hlt HB.out HE.out (fun xs hxs=>by rw[qnE hxs HX.out];exact aB) aA)
      have aL:=HF.out.le
      clear aB aA aD aE HX HW HB HD HL HE
      go_wp2_with fail
      go_roundw
      case rel=>exact⟨j,n+1,_,_,by go_num,rfl,HF.out⟩
      case measure=>simp[intOf];omega
end Go.Proofs.YtelogmjfekhmpaaGreatDoor
