import Derived.Test.YtelogmjfekhmpaaGreatDoorSL0
import Derived.Test.YtelogmjfekhmpaaGreatDoorNB3
namespace Go.Proofs.YtelogmjfekhmpaaGreatDoor
set_option maxRecDepth 100000
set_option maxHeartbeats 16000000
open Go.RowKit
theorem qmC (k:Nat) (hk:k<44) (w:World):Calls Tryz.prog 39 #[.int .i64 (k:Int)] w fun e w'=>e=.returned (.string (wrd k))/\Below w.heap.size w w':=by
 have aA:Hid (∀ x a b w,Calls Tryz.prog 45 #[.int .i64 x,.int .i64 a,.int .i64 b] w _):=fun x a b w=>qcL x a b w
 have HB:Hid (∀ o:Obj,Below w.heap.size w (w.alloc o)):=fun o=>(Below.refl _ _).alloc (Nat.le_refl _) o
 rcases qlF k hk with rfl|rfl|rfl|rfl|rfl|rfl|rfl|rfl|rfl|rfl|rfl|rfl|rfl|rfl|rfl|rfl|rfl|rfl|rfl|rfl|rfl|rfl|rfl|rfl|rfl|rfl|rfl|rfl|rfl|rfl|rfl|rfl|rfl|rfl|rfl|rfl|rfl|rfl|rfl|rfl|rfl|rfl|rfl|rfl
 all_goals
  go_enter Tryz.func39,Tryz.ntmps39
  go_wp2_with fail
  refine (aA.out _ _ _ _).mono ?_
  rintro e w1 ⟨rfl,rfl⟩
  go_wp2_with fail
  go_ret
  first
   | exact⟨qdX rfl,Below.refl _ _⟩
   | exact⟨qdX rfl,HB.out _⟩
theorem qmD (s:ByteArray) (w:World):Calls Tryz.prog 23 #[.string s] w fun e w'=>e=.returned (.int .i64 (opW s:Nat))/\Below w.heap.size w w':=by
 go_enter Tryz.func23,Tryz.ntmps23
 go_wp2_with fail
 go_loopw [3] (fun i wr=>∃ k:Nat,5<=k/\k<=44/\i=.int .i64 (k:Int)/\Hid (opF s k (44 - k)=opW s)/\Below w.heap.size w wr) (fun i _=>44 - (intOf i).toNat)
 case atStart=>exact⟨5,by omega,by omega,rfl,rfl,Below.refl _ _⟩
 case round=>
  obtain⟨k,h5,aE,rfl,HE,hb⟩:=hrel
  by_cases hk:k<44
  ·have aC:(k:Int)<=43:=by omega
   have HC:Hid (Calls Tryz.prog 39 _ wr _):=qmC k hk wr
   cases hq:(wrd k==s) with
   | true=>
    have HF:Hid (Ending.returned (.int .i64 (k:Int))=.returned (.int .i64 ((opW s:Nat):Int))):=by
     show _=_
     rw[<- HE.out,show 44 - k=(43 - k)+1 by omega,xbB hq]
    have aD:((wrd k).toList==s.toList)=true:=(qcN _ _).trans hq
    have HB:=hidF hb
    clear hq HE hb
    go_wp2_with fail
    refine HC.out.mono ?_
    rintro e w1 ⟨rfl,aA⟩
    have aB:=hidF (HB.out.trans (aA.mono HB.out.size))
    clear aA HC
    go_wp2_with fail
    go_ret
    exact⟨HF.out,aB.out⟩
   | false=>
    have HF:Hid (opF s (k+1) (44 - (k+1))=opW s):=by
     show _=_
     rw[<- HE.out,show 44 - k=(44 - (k+1))+1 by omega,xhY hq]
    have aD:((wrd k).toList==s.toList)=false:=(qcN _ _).trans hq
    have HB:=hidF hb
    clear hq HE hb
    go_wp2_with fail
    refine HC.out.mono ?_
    rintro e w1 ⟨rfl,aA⟩
    have aB:=hidF (HB.out.trans (aA.mono HB.out.size))
    clear aA HC
    go_wp2_with fail
    go_roundw
    case rel=>exact⟨k+1,by omega,by omega,by go_num,HF,aB.out⟩
    case measure=>simp[intOf];omega
  ·have aC:¬ (k:Int)<=43:=by omega
   have HF:Hid (Ending.returned (.int .i64 (0:Int))=.returned (.int .i64 ((opW s:Nat):Int))):=by
    show _=_
    rw[<- HE.out,show 44 - k=0 by omega];rfl
   have HB:=hidF hb
   clear HE hb
   go_wp2_with fail
   go_ret
   exact⟨HF.out,HB.out⟩
theorem qfH (s:ByteArray) (w:World) (hs:s.size<=maxLen) :
  Calls Tryz.prog 38 #[.string s] w fun e w'=>e=.returned (.bool (freeB s))/\Below w.heap.size w w':=by
 have aA:Hid (Calls Tryz.prog 40 _ _ _):=qdR s w hs
 have aB:Hid (Calls Tryz.prog 23 _ _ _):=qmD s w
 have HF:Hid (freeB s=(nameB s && (opW s==0) && !(s==bs [121,101,115]) && !(s==bs [110,111]) && !(s==bs [101,110,100]))):=rfl
 have e1:=qiT s [121,101,115]
 have e2:=qiT s [110,111]
 have e3:=qiT s [101,110,100]
 generalize (s==bs [121,101,115])=b1 at *
 generalize (s==bs [110,111])=b2 at *
 generalize (s==bs [101,110,100])=b3 at *
 cases hn:nameB s with
 | false=>
  rw[hn]at aA HF
  go_enter Tryz.func38,Tryz.ntmps38
  go_wp2_with fail
  refine aA.out.mono ?_
  rintro e w1 ⟨rfl,rfl⟩
  go_wp2_with fail
  go_ret
  exact⟨qaD (by rw[HF.out];simp),Below.refl _ _⟩
 | true=>
  rw[hn]at aA HF
  by_cases h0:opW s=0
  ·have aD:(opW s==0)=true:=by simp[h0]
   rw[aD]at HF
   rw[h0]at aB
   cases b1 <;> cases b2 <;> cases b3
   all_goals
    go_enter Tryz.func38,Tryz.ntmps38
    go_wp2_with fail
    refine aA.out.mono ?_
    rintro e w1 ⟨rfl,rfl⟩
    go_wp2_with fail
    refine aB.out.mono ?_
    rintro e w2 ⟨rfl,aC⟩
    have HB:=hidF aC
    clear aC aA aB
    go_wp2_with fail
    go_ret
    exact⟨qaD (by rw[HF.out];rfl),HB.out⟩
  ·have aD:(opW s==0)=false:=by simp[h0]
   have aE:(((opW s:Nat):Int)==0)=false:=by simp;omega
   rw[aD]at HF
   go_enter Tryz.func38,Tryz.ntmps38
   go_wp2_with fail
   refine aA.out.mono ?_
   rintro e w1 ⟨rfl,rfl⟩
   go_wp2_with fail
   refine aB.out.mono ?_
   rintro e w2 ⟨rfl,aC⟩
   have HB:=hidF aC
   clear aC aA aB
   go_wp2_with fail
   go_ret
   exact⟨qaD (by rw[HF.out];simp),HB.out⟩
theorem xcD (S:Nat->Prop) (l:List ByteArray) (v:Value) (x:ByteArray) (w:World) (hl:StrsIn S w l v) :
  Calls Tryz.prog 97 #[v,.string x] w fun e w'=>w'=w/\e=.returned (.bool (l.any (fun y=>y==x))):=by
 obtain⟨ao,cap,rfl,aC,hs,hc⟩:=hl
 unfold maxLen at aC
 go_enter Tryz.func97,Tryz.ntmps97
 go_wp2_with fail
 go_loop [5] (fun i=>∃ k:Nat,k<=l.length/\i=.int .i64 k/\Hid ((l.take k).any (fun y=>y==x)=false)) (fun i=>l.length - (intOf i).toNat)
 case atStart=>exact⟨0,Nat.zero_le _,rfl,rfl⟩
 case round=>
  obtain⟨k,hk,rfl,HA⟩:=hrel
  by_cases aB:k<l.length
  ·obtain⟨b,off,rfl,-,aA⟩:=hc (by intro h;rw[h]at aB;simp at aB)
   have aE:=aA k aB
   cases hq:(l[k]==x) with
   | true=>
    have aD:=(qcN l[k] x).trans hq
    have HF:Hid (true=l.any (fun y=>y==x)):=by
     show _=_
     symm
     rw[List.any_eq_true]
     exact⟨l[k],List.getElem_mem aB,hq⟩
    clear hc aA hq HA
    go_wp2_with fail
    go_ret
    exact⟨rfl,qaD HF.out⟩
   | false=>
    have aD:=(qcN l[k] x).trans hq
    have HF:Hid ((l.take (k+1)).any (fun y=>y==x)=false):=by
     show _=_
     rw[List.take_succ_eq_append_getElem aB,List.any_append,HA.out]
     simp[hq]
    clear hc aA hq HA
    go_wp2_with fail
    go_round
    case rel=>exact⟨k+1,by omega,by go_num,HF⟩
    case measure=>simp[intOf];omega
  ·have HF:Hid (false=l.any (fun y=>y==x)):=by
    show _=_
    have h1:=HA.out
    rw[List.take_of_length_le (by omega)]at h1
    exact h1.symm
   clear hc hs HA
   go_wp2_with fail
   go_ret
   exact⟨rfl,qaD HF.out⟩
end Go.Proofs.YtelogmjfekhmpaaGreatDoor
