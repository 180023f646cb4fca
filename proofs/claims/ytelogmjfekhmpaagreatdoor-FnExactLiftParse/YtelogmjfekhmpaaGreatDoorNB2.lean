import Derived.Test.YtelogmjfekhmpaaGreatDoorNB1
import Derived.Test.YtelogmjfekhmpaaGreatDoorImpl
import Derived.Lib.Hide
import Derived.WideShapes
namespace Go.Proofs.YtelogmjfekhmpaaGreatDoor
set_option maxRecDepth 100000
set_option maxHeartbeats 16000000
open Go.RowKit
theorem xbA (a b:ByteArray):(a==b)=decide (a=b):=by
 obtain⟨x⟩:=a
 obtain⟨y⟩:=b
 show (x==y)=_
 by_cases h:x=y
 ·subst h;simp
 ·have h2:¬ (ByteArray.mk x)=⟨y⟩:=fun e=>h (congrArg ByteArray.data e)
  rw[decide_eq_false h2];simpa using h
theorem qcN (a b:ByteArray):(a.toList==b.toList)=(a==b):=by
 rw[ByteArray.toList_eq,ByteArray.toList_eq,xbA]
 by_cases h:a=b
 ·subst h;simp
 ·have h2:¬ a.data.toList=b.data.toList:=fun e=>h (Go.WideShapes.bytes_inj e)
  rw[decide_eq_false h];simpa using h2
theorem qiT (a:ByteArray) (l:List UInt8):(a.toList==l)=(a==bs l):=by
 rw[<- qcN,ByteArray.toList_eq (bs l),qcC]
theorem xbB {s:ByteArray} {k n:Nat} (h:(wrd k==s)=true):opF s k (n+1)=k:=by rw[opF,if_pos h]
theorem xhY {s:ByteArray} {k n:Nat} (h:(wrd k==s)=false):opF s k (n+1)=opF s (k+1) n:=by rw[opF,if_neg (by rw[h];decide)]
theorem qkQ (b:Nat) (s:ByteArray) (w:World) (hb:Book w b) :
  Calls Tryz.prog 82 #[.pointer (some ⟨b,0,none⟩),.string s] w fun e w'=>e=.returned (.int .i64 (opW s:Nat))/\w'=w:=by
 have HB:Hid (Book w b):=hb
 clear hb
 go_enter Tryz.func82,Tryz.ntmps82
 go_wp2_with fail
 go_loop [5] (fun i=>∃ k:Nat,5<=k/\k<=44/\i=.int .i64 (k:Int)/\Hid (opF s k (44 - k)=opW s)) (fun i=>44 - (intOf i).toNat)
 case atStart=>exact⟨5,by omega,by omega,rfl,rfl⟩
 case round=>
  obtain⟨k,h5,aC,rfl,HE⟩:=hrel
  by_cases hk:k<44
  ·obtain⟨c0,-,-,-⟩:=HB.out k hk
   have aA:(k:Int)<=43:=by omega
   cases hq:(wrd k==s) with
   | true=>
    have HF:Hid (Ending.returned (.int .i64 (k:Int))=.returned (.int .i64 ((opW s:Nat):Int))):=by
     show _=_
     rw[<- HE.out,show 44 - k=(43 - k)+1 by omega,xbB hq]
    have aB:((wrd k).toList==s.toList)=true:=(qcN _ _).trans hq
    clear hq HE
    go_wp2_with fail
    go_ret
    exact⟨HF.out,rfl⟩
   | false=>
    have HF:Hid (opF s (k+1) (44 - (k+1))=opW s):=by
     show _=_
     rw[<- HE.out,show 44 - k=(44 - (k+1))+1 by omega,xhY hq]
    have aB:((wrd k).toList==s.toList)=false:=(qcN _ _).trans hq
    clear hq HE
    go_wp2_with fail
    go_round
    case rel=>exact⟨k+1,by omega,by omega,by go_num,HF⟩
    case measure=>simp[intOf];omega
  ·have aA:¬ (k:Int)<=43:=by omega
   have HF:Hid (Ending.returned (.int .i64 (0:Int))=.returned (.int .i64 ((opW s:Nat):Int))):=by
    show _=_
    rw[<- HE.out,show 44 - k=0 by omega];rfl
   clear HE
   go_wp2_with fail
   go_ret
   exact⟨HF.out,rfl⟩
theorem qgS (b:Nat) (s:ByteArray) (w:World) (hs:s.size<=maxLen) (hb:Book w b) :
  Calls Tryz.prog 84 #[.pointer (some ⟨b,0,none⟩),.string s] w fun e w'=>e=.returned (.bool (freeB s))/\w'=w:=by
 have aA:Hid (Calls Tryz.prog 106 _ _ _):=qgD s w hs
 have aB:Hid (Calls Tryz.prog 82 _ _ _):=qkQ b s w hb
 have HF:Hid (freeB s=(nameB s && (opW s==0) && !(s==bs [121,101,115]) && !(s==bs [110,111]) && !(s==bs [101,110,100]))):=rfl
 have e1:=qiT s [121,101,115]
 have e2:=qiT s [110,111]
 have e3:=qiT s [101,110,100]
 generalize (s==bs [121,101,115])=b1 at *
 generalize (s==bs [110,111])=b2 at *
 generalize (s==bs [101,110,100])=b3 at *
 clear hb
 cases hn:nameB s with
 | false=>
  rw[hn]at aA HF
  go_enter Tryz.func84,Tryz.ntmps84
  go_wp2_with fail
  refine aA.out.mono ?_
  rintro e w1 ⟨rfl,rfl⟩
  go_wp2_with fail
  go_ret
  exact⟨qaD (by rw[HF.out];simp),rfl⟩
 | true=>
  rw[hn]at aA HF
  by_cases h0:opW s=0
  ·have aC:(opW s==0)=true:=by simp[h0]
   rw[aC]at HF
   rw[h0]at aB
   cases b1 <;> cases b2 <;> cases b3
   all_goals
    go_enter Tryz.func84,Tryz.ntmps84
    go_wp2_with fail
    refine aA.out.mono ?_
    rintro e w1 ⟨rfl,rfl⟩
    go_wp2_with fail
    refine aB.out.mono ?_
    rintro e w1 ⟨rfl,rfl⟩
    go_wp2_with fail
    go_ret
    exact⟨qaD (by rw[HF.out];rfl),rfl⟩
  ·have aC:(opW s==0)=false:=by simp[h0]
   have aD:(((opW s:Nat):Int)==0)=false:=by simp;omega
   rw[aC]at HF
   go_enter Tryz.func84,Tryz.ntmps84
   go_wp2_with fail
   refine aA.out.mono ?_
   rintro e w1 ⟨rfl,rfl⟩
   go_wp2_with fail
   refine aB.out.mono ?_
   rintro e w1 ⟨rfl,rfl⟩
   go_wp2_with fail
   go_ret
   exact⟨qaD (by rw[HF.out];simp),rfl⟩
theorem qxT (op:Int) (w:World):Calls Tryz.prog 67 #[.int .i64 op] w fun e w'=>e=.returned (.int .i32 (poF op))/\w'=w:=by
 by_cases h1:op<1
 ·go_enter Tryz.func67,Tryz.ntmps67
  go_wp2_with fail
  go_ret
  exact⟨qaN (by unfold poF;rw[if_pos (.inl h1)]),rfl⟩
 by_cases h2:43<op
 ·go_enter Tryz.func67,Tryz.ntmps67
  go_wp2_with fail
  go_ret
  exact⟨qaN (by unfold poF;rw[if_pos (.inr h2)]),rfl⟩
 by_cases h3:op<36
 ·go_enter Tryz.func67,Tryz.ntmps67
  go_wp2_with fail
  go_ret
  exact⟨qaN (by unfold poF;rw[if_neg (by omega),if_pos h3]),rfl⟩
 ·go_enter Tryz.func67,Tryz.ntmps67
  go_wp2_with fail
  go_ret
  exact⟨qaN (by unfold poF;rw[if_neg (by omega),if_neg (by omega)]),rfl⟩
theorem xbC (x y:ByteArray) (a c n:Int) (w:World):Calls Tryz.prog 87 #[.agg #[.string x,.string y,.int .i64 a,.int .i64 c],.int .i64 n] w fun e w'=>e=.returned (.bool (decide (a<=n/\n<=c)))/\Below w.heap.size w w':=by
 have aA:=(Below.refl w.heap.size w).alloc (Nat.le_refl _) (.cells #[.string x,.string y,.int .i64 a,.int .i64 c] 98)
 by_cases h1:a<=n <;> by_cases h2:n<=c
 all_goals
  go_enter Tryz.func87,Tryz.ntmps87
  go_wp2_with fail
  go_ret
  exact⟨qaD (by simp[h1,h2];try omega),aA⟩
theorem qnM (s m:Int) (x:ByteArray) (a1 a2:Option Addr) (n1 n2 k1 k2:Nat) (w:World):Calls Tryz.prog 93 #[.agg #[.int .i64 s,.int .i64 m,.string x,.slice a1 n1 k1,.slice a2 n2 k2]] w
  fun e w'=>e=.returned (.agg #[.int .i64 s,.int .i64 m,.string x,.slice none 0 0,.slice none 0 0])/\Below w.heap.size w w':=by
 have hb:Below w.heap.size w ((w.alloc (.cells #[.int .i64 s,.int .i64 m,.string x,.slice a1 n1 k1,.slice a2 n2 k2] 25)).alloc (.cells #[.int .i64 s,.int .i64 m,.string x,.slice none 0 0,.slice none 0 0] 67)):=
  ((Below.refl _ _).alloc (Nat.le_refl _) _).alloc (by simp) _
 go_enter Tryz.func93,Tryz.ntmps93
 go_wp2_with fail
 refine bodyPost_ret (v:=.agg #[.int .i64 s,.int .i64 m,.string x,.slice none 0 0,.slice none 0 0]) (by simp[results,Tryz.results93,go_sem]) rfl ?_
 exact⟨rfl,hb⟩
end Go.Proofs.YtelogmjfekhmpaaGreatDoor
