import Derived.Test.YtelogmjfekhmpaaGreatDoorTI0
import Derived.Test.YtelogmjfekhmpaaGreatDoorImpl
import Derived.Lib.AtoiAllCases
namespace Go.Proofs.YtelogmjfekhmpaaGreatDoor
set_option maxRecDepth 100000
set_option maxHeartbeats 16000000
open Go.RowKit
theorem qmM:∀ (D:List UInt8) (acc:Nat),(∀ c,c∈D->digC c=true)->(acc+1)*10 ^ D.length<=1000000000000000000->Lib.parseUint10 acc D=.ok (D.foldl (fun a c=>a*10+(c.toNat - 48)) acc):=by
 intro D
 induction D with
 | nil=>intro acc _ _;rfl
 | cons c r ih=>
  intro acc hd hl
  have hc:=qgC (hd c (List.mem_cons_self ..))
  rw[List.length_cons,Nat.pow_succ]at hl
  have hp:1<=10 ^ r.length:=by have:=Nat.pow_le_pow_right (n:=10) (by decide) (Nat.zero_le r.length);simpa using this
  have aA:(acc+1)*10*10 ^ r.length<=1000000000000000000:=by rw[Nat.mul_assoc,Nat.mul_comm 10];exact hl
  have aB:(acc+1)*10<=1000000000000000000:=Nat.le_trans (Nat.le_mul_of_pos_right _ hp) aA
  simp only[Lib.parseUint10,List.foldl_cons]
  rw[if_pos ⟨hc.1,hc.2⟩,if_neg (by omega),if_neg (by omega)]
  refine ih _ (fun d hd'=>hd d (List.mem_cons_of_mem _ hd')) (Nat.le_trans (Nat.mul_le_mul_right _ ?_) aA)
  omega
theorem qkV (u:Nat) (hu:u<=999999999):Lib.parseMag (Lib.decDigits u)=.ok u:=by
 unfold Lib.parseMag
 rw[if_neg (qfR u),qmM _ 0 (qcJ u) ?_]
 ·exact congrArg _ (qeT u)
 ·have aA:(Lib.decDigits u).length<=9:=by rw[Lib.decDigits_length];exact qkA 8 u (by omega)
  exact Nat.le_trans (Nat.mul_le_mul_left (0+1) (Nat.pow_le_pow_right (by decide) aA)) (by decide)
theorem qsP (m:Int) (h : -999999999<=m/\m<=999999999):Lib.atoiAll (Lib.itoa m)=.ok m:=by
 by_cases h0:m<0
 ·have hi:Lib.itoa m=45 :: Lib.decDigits m.natAbs:=by unfold Lib.itoa;rw[if_pos h0]
  rw[hi,Lib.atoiAll_minus,qkV _ (by omega)]
  simp only[Lib.signed]
  rw[if_neg (by omega)]
  congr 1;omega
 ·have hi:Lib.itoa m=Lib.decDigits m.toNat:=by unfold Lib.itoa;rw[if_neg h0]
  obtain⟨c,r,e,hc⟩:=qhX m.toNat
  have hb:=qgC hc
  rw[hi,e,Lib.atoiAll_plain c r (by omega) (by omega),<- e,qkV _ (by omega)]
  simp only[Lib.signless]
  rw[if_neg (by omega)]
  congr 1;omega
def RNPost (x:ByteArray) (w:World) (e:Ending) (w':World):Prop:=
 Below w.heap.size w w' /\ ((∃ v,numOf x.data.toList=some v/\e=.returned (.tuple #[.int .i64 v,.bool true]))∨(numOf x.data.toList=none/\e=.returned (.tuple #[.int .i64 0,.bool false])))
theorem qjJ {l:List UInt8} (h:∀ v,Lib.atoiAll l≠.ok v):numOf l=none:=by
 cases hn:numOf l with
 | none=>rfl
 | some m=>
  obtain⟨h1,h2⟩:=qdP hn
  refine absurd ?_ (h m)
  rw[<- h2];exact qsP m h1
theorem qoR {l:List UInt8} {v:Int} (h:Lib.atoiAll l=.ok v) (hn:¬ ((-999999999<=v/\v<=999999999)/\Lib.itoa v=l)):numOf l=none:=by
 cases hm:numOf l with
 | none=>rfl
 | some m=>
  obtain⟨h1,h2⟩:=qdP hm
  rw[<- h2,qsP m h1]at h
  cases h
  exact absurd ⟨h1,h2⟩ hn
theorem qmN (B:Nat) (x:ByteArray) (w:World) (hL:LaidU B w) (hB:B<=w.heap.size) (hx:x.size<=10000) :
  Calls Tryz.prog 86 #[.string x] w (RNPost x w):=by
 cases ha:Lib.atoiAll x.data.toList with
 | «syntax» =>
  obtain⟨tp,p,hv⟩:=hL.2.1
  have HC:Hid (Calls Tryz.prog 108 #[.string x] w _):=Tryz.strconv_Atoi_syntax_var x (by omega) ha tp p w (hv w (Below.refl _ _))
  have HN:Hid (numOf x.data.toList=none):=qjJ (fun v e=>by rw[ha]at e;cases e)
  clear hL ha hv
  go_enter Tryz.func86,Tryz.ntmps86
  go_wp2_with fail
  refine HC.out.mono ?_
  rintro e w1 ⟨N,rfl,-,-,hb⟩
  go_wp2_with fail
  go_ret2
  exact⟨hb,.inr ⟨HN.out,rfl⟩⟩
 | range=>
  obtain⟨tp,p,hv⟩:=hL.2.2
  have HC:Hid (Calls Tryz.prog 108 #[.string x] w _):=Tryz.strconv_Atoi_range_var x (by omega) ha tp p w (hv w (Below.refl _ _))
  have HN:Hid (numOf x.data.toList=none):=qjJ (fun v e=>by rw[ha]at e;cases e)
  clear hL ha hv
  go_enter Tryz.func86,Tryz.ntmps86
  go_wp2_with fail
  refine HC.out.mono ?_
  rintro e w1 ⟨N,rfl,-,-,hb⟩
  go_wp2_with fail
  go_ret2
  exact⟨hb,.inr ⟨HN.out,rfl⟩⟩
 | ok v=>
  have aE:=Lib.atoiAll_bounds ha
  have HC:Hid (Calls Tryz.prog 108 #[.string x] w _):=Tryz.strconv_Atoi_ok x (by omega) v ha w
  have HA:Hid (Lib.atoiAll x.data.toList=.ok v):=ha
  have HT:Hid (∀ w1,Below w.heap.size w w1->Lib.TabIs Tryz.prog w1 "internal/strconv.uint64pow10" .u64 Lib.pow10Tab):=fun w1 h1=>hL.1 w1 (h1.mono hB)
  clear hL ha
  by_cases hv : -999999999<=v/\v<=999999999
  case neg=>
   have HD:Hid (∀ W,Calls Tryz.prog 109 #[.int .i64 v] W fun e w'=>e=.returned (.bool false)/\w'=W):=fun W=>by
    have:=qgI v W
    rw[decide_eq_false hv]at this
    exact this
   have HN:Hid (numOf x.data.toList=none):=qoR HA.out (fun h=>hv h.1)
   clear hv
   go_enter Tryz.func86,Tryz.ntmps86
   go_wp2_with fail
   refine HC.out.mono ?_
   rintro e w1 ⟨rfl,aB⟩
   have aA:Below w.heap.size w w1:=by
    rcases aB with rfl|⟨t,rfl⟩
    ·exact Below.refl _ _
    ·exact Lib.bytesWorld_below _ _ _
   clear aB HC
   go_wp2_with (go_at_call 109;refine (HD.out _).mono ?_;rintro e w' ⟨rfl,rfl⟩)
   go_ret2
   exact⟨aA,.inr ⟨HN.out,rfl⟩⟩
  case pos=>
   have HD:Hid (∀ W,Calls Tryz.prog 109 #[.int .i64 v] W fun e w'=>e=.returned (.bool true)/\w'=W):=fun W=>by
    have:=qgI v W
    rw[decide_eq_true hv]at this
    exact this
   have HV:Hid (-999999999<=v/\v<=999999999):=hv
   clear hv
   go_enter Tryz.func86,Tryz.ntmps86
   go_wp2_with fail
   refine HC.out.mono ?_
   rintro e w1 ⟨rfl,aB⟩
   have aA:Below w.heap.size w w1:=by
    rcases aB with rfl|⟨t,rfl⟩
    ·exact Below.refl _ _
    ·exact Lib.bytesWorld_below _ _ _
   have HI:Hid (Calls Tryz.prog 94 #[.int .i64 v] w1 fun e w'=>e=.returned (.string (bs (Lib.itoa v)))/\Below w.heap.size w w'):=by
    refine (Tryz.strconv_Itoa v (by omega) (by omega) w1 (HT.out w1 aA)).mono ?_
    rintro e w' ⟨rfl,k,os,rfl⟩
    exact⟨rfl,aA.trans (Lib.below_grow _ _ aA.size k os)⟩
   clear aB HC HT aA
   by_cases hq:Lib.itoa v=x.data.toList
   ·have aC:((bs (Lib.itoa v)).toList==x.toList)=true:=by rw[hq,bs_of];simp
    have HN:Hid (numOf x.data.toList=some v):=by show _=_;rw[<- hq];exact qjZ v HV.out
    clear hq
    generalize bs (Lib.itoa v)=y at *
    go_wp2_with (first|(go_at_call 109;refine (HD.out _).mono ?_;rintro e w' ⟨rfl,rfl⟩)|(go_at_call 94;refine HI.out.mono ?_;rintro e w2 ⟨rfl,aD⟩))
    go_ret2
    exact⟨by assumption,.inl ⟨v,HN.out,rfl⟩⟩
   ·have aC:((bs (Lib.itoa v)).toList==x.toList)=false:=by
     rw[beq_eq_false_iff_ne]
     intro e
     apply hq
     rw[ByteArray.toList_eq,ByteArray.toList_eq,qcC]at e
     exact e
    have HN:Hid (numOf x.data.toList=none):=qoR HA.out (fun h=>hq h.2)
    clear hq
    generalize bs (Lib.itoa v)=y at *
    go_wp2_with (first|(go_at_call 109;refine (HD.out _).mono ?_;rintro e w' ⟨rfl,rfl⟩)|(go_at_call 94;refine HI.out.mono ?_;rintro e w2 ⟨rfl,aD⟩))
    go_ret2
    exact⟨by assumption,.inr ⟨HN.out,rfl⟩⟩
end Go.Proofs.YtelogmjfekhmpaaGreatDoor
