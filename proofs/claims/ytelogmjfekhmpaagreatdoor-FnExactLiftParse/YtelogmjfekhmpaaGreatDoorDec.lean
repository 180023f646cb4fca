import Derived.Test.YtelogmjfekhmpaaGreatDoorText
import Derived.Test.YtelogmjfekhmpaaGreatDoorRet
import Derived.Deep.RegionWith
import Derived.Laws.IdiomStrings
import Derived.Lib.ItoaMem
namespace Go.Proofs.YtelogmjfekhmpaaGreatDoor
set_option maxRecDepth 100000
set_option maxHeartbeats 16000000
open Go.RowKit
theorem dig_byte (r:Nat) (h:r<10):IntKind.u8.wrap (48+(r:Int))=((UInt8.ofNat (48+r)).toNat:Int):=by
 have:(UInt8.ofNat (48+r)).toNat=48+r:=by simp;omega
 rw[this,IntKind.wrap_u8];omega
theorem xfQ (w:World) (c:UInt8):(convert 90 9 (.slice (some ⟨w.heap.size,0,none⟩) 1 1)).run Tryz.prog (w.alloc (.cells #[.int .u8 (c.toNat:Int)] 5))=.ok (.string (bs [c])) (w.alloc (.cells #[.int .u8 (c.toNat:Int)] 5)):=
 run_convert_bytes_back (P:=Tryz.prog) _ 90 9 5 ⟨w.heap.size,0,none⟩ 1 [c] Tryz.underlying90 Tryz.underlying5 Tryz.underlying9 (fun j hj=>by
  match j,hj with
  | 0,_=>simp[Addr.add])
theorem xiF (W:World) (N:Nat) (c:UInt8) (h:W.cell? ⟨N,0,none⟩=some (.int .u8 (c.toNat:Int))):(convert 90 9 (.slice (some ⟨N,0,none⟩) 1 1)).run Tryz.prog W=.ok (.string (bs [c])) W:=
 run_convert_bytes_back (P:=Tryz.prog) W 90 9 5 ⟨N,0,none⟩ 1 [c] Tryz.underlying90 Tryz.underlying5 Tryz.underlying9 (fun j hj=>by
  match j,hj with
  | 0,_=>exact h)
theorem qrO (x:Int) (c:UInt8) (w:World) (h0:0<=x) (h1:x<10) (hc:Hid (48+x=(c.toNat:Int))):Calls Tryz.prog 48 #[.int .i64 x] w fun e w'=>e=.returned (.string (bs [c]))/\Below w.heap.size w w':=by
 have aA:Hid ((convert 90 9 (.slice (some ⟨w.heap.size,0,none⟩) 1 1)).run Tryz.prog (w.alloc (.cells #[.int .u8 (48+x)] 5))=.ok (.string (bs [c])) (w.alloc (.cells #[.int .u8 (48+x)] 5))):=by
  show _=_
  rw[hc.out];exact xfQ w c
 clear hc
 go_enter Tryz.func48,Tryz.ntmps48
 go_wp2_with fail
 rw[aA.out]
 clear aA
 go_wp2_with fail
 go_ret
 exact⟨rfl,(Below.refl _ _).alloc (Nat.le_refl _) _⟩
theorem qpI (r:Nat) (h:r<10):(48:Int)+(r:Int)=((UInt8.ofNat (48+r)).toNat:Int):=by
 have:(UInt8.ofNat (48+r)).toNat=48+r:=by simp;omega
 rw[this];omega
theorem qiO (m:Nat):∀ (x:Nat) (w:World),x<=m->x<=999999999->Calls Tryz.prog 48 #[.int .i64 (x:Int)] w fun e w'=>e=.returned (.string (bs (Lib.decDigits x)))/\Below w.heap.size w w':=by
 induction m with
 | zero=>
  intro x w hx _
  rw[Lib.decDigits_one (by omega)]
  exact qrO x _ w (by omega) (by omega) (qpI x (by omega))
 | succ m ih=>
  intro x w hx aD
  by_cases h10:x<10
  ·rw[Lib.decDigits_one h10]
   exact qrO x _ w (by omega) (by omega) (qpI x h10)
  have HD:Hid (Lib.decDigits x=Lib.decDigits (x / 10)++[UInt8.ofNat (48+x % 10)]):=by show _=_;rw[Lib.decDigits,dif_neg h10]
  have aA:(Lib.decDigits (x / 10)).length<=21:=by
   have:=Lib.itoa_length_le ((x / 10:Nat):Int) (by omega) (by omega)
   rw[Lib.itoa_nonneg]at this;omega
  obtain⟨q,hq⟩:∃ q:Int,q=(x:Int) / 10:=⟨_,rfl⟩
  have HQ:Hid (∀ W:World,Calls Tryz.prog 48 #[.int .i64 ((x:Int) / 10)] W fun e w'=>e=.returned (.string (bs (Lib.decDigits (x / 10))))/\Below W.heap.size W w'):=fun W=>by
   have:=ih (x / 10) W (by omega) (by omega)
   rwa [show (((x / 10:Nat)):Int)=(x:Int) / 10 by omega]at this
  have aE:∀ (W:World) (N:Nat),W.cell? ⟨N,0,none⟩=some (.int .u8 (48+(x:Int) % 10))->(convert 90 9 (.slice (some ⟨N,0,none⟩) 1 1)).run Tryz.prog W=.ok (.string (bs [UInt8.ofNat (48+x % 10)])) W:=fun W N hN=>by
   refine xiF W N (UInt8.ofNat (48+x % 10)) ?_
   rw[hN,<- qpI (x % 10) (by omega),show (((x % 10:Nat)):Int)=(x:Int) % 10 by omega]
  generalize UInt8.ofNat (48+x % 10)=c at *
  generalize Lib.decDigits (x / 10)=dl at *
  have aF:(bs dl).size+(bs [c]).size<=9223372036854775807:=by rw[qaJ,qaJ];simp;omega
  have aC:(bs dl).size<=21:=by rw[qaJ];exact aA
  have aG:(bs [c]).size=1:=by rw[qaJ];rfl
  have HA:Hid (bs dl++bs [c]=bs (Lib.decDigits x)):=by show _=_;rw[HD.out,qaU]
  clear HD aA
  have aH:IntKind.i64.wrap ((x:Int) / 10)=(x:Int) / 10:=by rw[IntKind.wrap_i64];omega
  have aI:IntKind.i64.wrap ((x:Int) % 10)=(x:Int) % 10:=by rw[IntKind.wrap_i64];omega
  have aJ:IntKind.i64.wrap (48+(x:Int) % 10)=48+(x:Int) % 10:=by rw[IntKind.wrap_i64];omega
  have aK:IntKind.u8.wrap (48+(x:Int) % 10)=48+(x:Int) % 10:=by rw[IntKind.wrap_u8];omega
  have aL:(x:Int).tmod 10=(x:Int) % 10:=Int.tmod_eq_emod_of_nonneg (by omega)
  clear ih hq
  go_enter Tryz.func48,Tryz.ntmps48
  go_wp2_with fail
  go_region_with (go_at_call 48;refine (HQ.out _).mono ?_;rintro e w1 ⟨rfl,aB⟩;obtain⟨aM,-⟩:=bcell aB)
  all_goals
   go_wp2_with fail
   go_ret
   refine⟨qdX HA.out,?_⟩
  all_goals first
   | exact (qaA ((Below.refl _ w).drew) (Nat.le_refl _) aB).alloc (by have:=aB.size;simp at this ⊢;omega) _
   | exact qaA (((Below.refl _ w).drew).alloc (by simp) _) (by simp) aB
   | exact qaA (((Below.refl _ w).alloc (Nat.le_refl _) _).drew) (by simp) aB
theorem xaP (x:Int) (w:World) (h0 : -999999999<=x) (h1:x<=999999999):Calls Tryz.prog 48 #[.int .i64 x] w fun e w'=>e=.returned (.string (bs (Lib.itoa x)))/\Below w.heap.size w w':=by
 by_cases hn:0<=x
 ·obtain⟨n,rfl⟩:=Int.eq_ofNat_of_zero_le hn
  rw[Lib.itoa_nonneg]
  exact qiO n n w (Nat.le_refl _) (by omega)
 ·obtain⟨n,hx⟩:∃ n:Nat,x = -(n:Int):=⟨x.natAbs,by omega⟩
  subst hx
  have aA:(Lib.decDigits n).length<=21:=by
   have:=Lib.itoa_length_le (n:Int) (by omega) (by omega)
   rw[Lib.itoa_nonneg]at this;omega
  have HQ:Hid (Calls Tryz.prog 48 #[.int .i64 (n:Int)] w _):=qiO n n w (Nat.le_refl _) (by omega)
  have aD:(bs (Lib.decDigits n)).size<=21:=by rw[qaJ];exact aA
  have HA:Hid (bs [45]++bs (Lib.decDigits n)=bs (Lib.itoa (-(n:Int)))):=by show _=_;rw[Lib.itoa_neg n (by omega),qaU];rfl
  generalize Lib.decDigits n=dl at *
  have aB:(-(n:Int))<0:=by omega
  go_enter Tryz.func48,Tryz.ntmps48
  go_wp2_with fail
  refine HQ.out.mono ?_
  rintro e w1 ⟨rfl,aC⟩
  go_wp2_with fail
  go_ret
  exact⟨qdX HA.out,aC⟩
end Go.Proofs.YtelogmjfekhmpaaGreatDoor
