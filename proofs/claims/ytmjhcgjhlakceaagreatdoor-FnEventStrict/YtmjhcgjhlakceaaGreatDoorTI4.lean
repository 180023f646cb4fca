import Derived.Test.YtmjhcgjhlakceaaGreatDoorTI2
import Derived.Test.YtmjhcgjhlakceaaGreatDoorB29
import Derived.Defers
import Derived.Recover
import Derived.RegionDies
namespace Go.Proofs.YtmjhcgjhlakceaaGreatDoor
open Go.RowKit
theorem TRPost.drew {R i m q : Nat} {s : ByteArray} {w w' : World} {e : Ending} (h : Sc w R s i) (hp : TRPost R s i m (w.drewN q) e w') : TRPost R s i m w e w' := by
 rcases hp with ⟨t, p, v, y1, y2, y3, y4, y5, y6⟩ | ⟨y1, y2, y3⟩
 ·exact .inl ⟨t, p, v, y1, y2, y3, y4, y5, ((Scan.refl h).drewN q).trans y6⟩
 ·exact .inr ⟨y1, y2, ((Scan.refl h).drewN q).near.trans y3⟩
theorem funcIn_nil {P : Program} {t : TypeId} {ps rs : Array TypeId} {b : Bool} (d : Nat) (fn : Fn) (first cap : Array Value) (w : World) (h : P.underlying t = some (.func ps rs b)) : (Op.equalIn (d + 1) t (.func fn first cap) .nilFunc).run P w = .ok false w := by
 simp [Op.equalIn, run_underlying h]
theorem nilIn_nil {P : Program} {t : TypeId} {ps rs : Array TypeId} {b : Bool} (d : Nat) (w : World) (h : P.underlying t = some (.func ps rs b)) : (Op.equalIn (d + 1) t .nilFunc .nilFunc).run P w = .ok true w := by
 simp [Op.equalIn, run_underlying h]
theorem Tryz.func_ne (fn : Fn) (first cap : Array Value) (w : World) : (binOp .neq 100 (.func fn first cap) .nilFunc).run Tryz.prog w = .ok (.bool true) w := by
 have : (Op.equal 100 (.func fn first cap) .nilFunc).run Tryz.prog w = .ok false w := funcIn_nil 9999 fn first cap w Tryz.underlying100
 simp only [binOp]
 simp [this]
theorem Tryz.func_nil (w : World) : (binOp .neq 100 .nilFunc .nilFunc).run Tryz.prog w = .ok (.bool false) w := by
 have : (Op.equal 100 .nilFunc .nilFunc).run Tryz.prog w = .ok true w := nilIn_nil 9999 w Tryz.underlying100
 simp only [binOp]
 simp [this]
set_option maxRecDepth 100000 in
set_option maxHeartbeats 4000000 in
theorem tree_stepI (m : Nat) (hm : TRSaid m) : TRSaid (m + 1) := by
 intro B R s i w hL hBR h hM hi hs hlt
 have hR := h.lt
 have c0 := h.c0
 have c1 := h.c1
 have hfn := Tryz.func_ne
 have hfz := Tryz.func_nil
 by_cases hin : i < s.size
 case neg =>
  have HDn : Hid (∀ W, Calls Tryz.prog 55 #[.bool (decide (i < s.size))] W fun e w' => e = .panicked refusal /\ w' = W) := fun W => by
   rw [decide_eq_false hin]; exact demand_no W
  have HN : Hid (parseU (m + 1) (s.data.toList.drop i) = none) := by
   have : s.data.toList.drop i = [] := List.drop_of_length_le (by simp; omega)
   rw [this]
   exact pu_else (by decide) (by decide) (by decide) (by decide) (by decide) (by decide)
  have HP : Hid (TRPost R s i (m + 1) w (.panicked refusal) w.drew) := .inr ⟨HN.out, rfl, ((Scan.refl h).drewN 1).near⟩
  clear h hL hM hm hin
  go_enter Tryz.func105, Tryz.ntmps105
  go_wp2_with fail
  go_region_dies
  all_goals (go_at_call 55; refine (HDn.out _).mono ?_; rintro e w' ⟨rfl, rfl⟩; exact ⟨rfl, HP.out⟩)
 have hd : decide ((i : Int) < (s.size : Int)) = true := by simp; omega
 have hgi : (i : Int) < (s.size : Int) := by omega
 have hin' : ((i : Int)).toNat = i := by omega
 have hb1 : (s[i].toNat : Int) < 256 := by have := s[i].toNat_lt; omega
 have hb2 : s[i].toNat < 256 := s[i].toNat_lt
 have hhead : (s.data.toList.drop i).headD 0 = s[i] := by rw [drop_at s i hin]; rfl
 have hMc := hM s[i]
 have HSc : Hid (Sc w R s i) := h
 have HL : Hid (∀ q, LaidU B (w.drewN q)) := fun q => hL.near ((Scan.refl h).drewN q).near hBR hR
 have HScq : Hid (∀ q, Sc (w.drewN q) R s i) := fun q => ((Scan.refl h).drewN q).sc h
 have HMq : Hid (∀ q, Meth (w.drewN q) R) := fun q => hM.scan ((Scan.refl h).drewN q)
 have HTR : Hid (TRSaid m) := hm
 have HNe : Hid (∀ q, Near R w (w.drewN q)) := fun q => ((Scan.refl h).drewN q).near
 clear h hL hM hm
 by_cases k1 : digC s[i] = true ∨ s[i] = 45
 ·have hv : methV R s[i] = .func (.func 68) #[.pointer (some ⟨R, 0, none⟩)] #[] := by unfold methV; rw [if_pos k1]
  have HK : Hid (∀ q, Calls Tryz.prog 68 #[.pointer (some ⟨R, 0, none⟩)] (w.drewN q) (TRPost R s i (m + 1) w)) := fun q => (numI_any m B R s i _ (HL.out q) hBR (HScq.out q) hin hs (by rw [hhead]; exact k1)).mono fun e w' hp => hp.drew HSc.out
  rw [hv] at hMc
  clear hv k1 hhead HL HScq HMq HTR
  go_enter Tryz.func105, Tryz.ntmps105
  go_wp2_with fail
  go_quiet (first | (go_at_call 55; refine Calls.quiet_of_same (demand_yes _)))
  go_wp2_with fail
  go_quiet (fail)
  go_wp2_with (go_at_call 55; refine (demand_yes _).mono ?_; rintro e w' ⟨rfl, rfl⟩)
  refine (HK.out _).mono ?_
  rintro e w' hp
  have HP : Hid (TRPost R s i (m + 1) w e w') := hp
  clear hp HK
  rcases HP.out with ⟨t, p, v, y1, y2, y3, rfl, y5, y6⟩ | ⟨y1, rfl, y3⟩
  ·clear y1 y2 y3 y5 y6
   go_wp2_with fail
   go_ret
   exact HP.out
  ·exact ⟨rfl, HP.out⟩
 by_cases k2 : s[i] = 34
 ·have hv : methV R s[i] = .func (.func 71) #[.pointer (some ⟨R, 0, none⟩)] #[] := by unfold methV; rw [if_neg k1, if_pos k2]
  have HK : Hid (∀ q, Calls Tryz.prog 71 #[.pointer (some ⟨R, 0, none⟩)] (w.drewN q) (TRPost R s i (m + 1) w)) := fun q => (quotedI_any m R s i _ (HScq.out q) hi hs (by rw [hhead]; exact k2)).mono fun e w' hp => hp.drew HSc.out
  rw [hv] at hMc
  clear hv k2 k1 hhead HL HScq HMq HTR
  go_enter Tryz.func105, Tryz.ntmps105
  go_wp2_with fail
  go_quiet (first | (go_at_call 55; refine Calls.quiet_of_same (demand_yes _)))
  go_wp2_with fail
  go_quiet (fail)
  go_wp2_with (go_at_call 55; refine (demand_yes _).mono ?_; rintro e w' ⟨rfl, rfl⟩)
  refine (HK.out _).mono ?_
  rintro e w' hp
  have HP : Hid (TRPost R s i (m + 1) w e w') := hp
  clear hp HK
  rcases HP.out with ⟨t, p, v, y1, y2, y3, rfl, y5, y6⟩ | ⟨y1, rfl, y3⟩
  ·clear y1 y2 y3 y5 y6
   go_wp2_with fail
   go_ret
   exact HP.out
  ·exact ⟨rfl, HP.out⟩
 by_cases k3 : s[i] = 121 ∨ s[i] = 110
 ·have hv : methV R s[i] = .func (.func 69) #[.pointer (some ⟨R, 0, none⟩)] #[] := by unfold methV; rw [if_neg k1, if_neg k2, if_pos k3]
  have HK : Hid (∀ q, Calls Tryz.prog 69 #[.pointer (some ⟨R, 0, none⟩)] (w.drewN q) (TRPost R s i (m + 1) w)) := fun q => (flagI_any m R s i _ (HScq.out q) hi hs (by rw [hhead]; exact k3)).mono fun e w' hp => hp.drew HSc.out
  rw [hv] at hMc
  clear hv k3 k1 k2 hhead HL HScq HMq HTR
  go_enter Tryz.func105, Tryz.ntmps105
  go_wp2_with fail
  go_quiet (first | (go_at_call 55; refine Calls.quiet_of_same (demand_yes _)))
  go_wp2_with fail
  go_quiet (fail)
  go_wp2_with (go_at_call 55; refine (demand_yes _).mono ?_; rintro e w' ⟨rfl, rfl⟩)
  refine (HK.out _).mono ?_
  rintro e w' hp
  have HP : Hid (TRPost R s i (m + 1) w e w') := hp
  clear hp HK
  rcases HP.out with ⟨t, p, v, y1, y2, y3, rfl, y5, y6⟩ | ⟨y1, rfl, y3⟩
  ·clear y1 y2 y3 y5 y6
   go_wp2_with fail
   go_ret
   exact HP.out
  ·exact ⟨rfl, HP.out⟩
 by_cases k4 : s[i] = 91
 ·have hv : methV R s[i] = .func (.func 72) #[.pointer (some ⟨R, 0, none⟩)] #[] := by unfold methV; rw [if_neg k1, if_neg k2, if_neg k3, if_pos k4]
  have HK : Hid (∀ q, Calls Tryz.prog 72 #[.pointer (some ⟨R, 0, none⟩)] (w.drewN q) (TRPost R s i (m + 1) w)) := fun q => (listI_any m HTR.out B R s i _ (HL.out q) hBR (HScq.out q) (HMq.out q) hi hs (by omega) (by rw [hhead]; exact k4)).mono fun e w' hp => hp.drew HSc.out
  rw [hv] at hMc
  clear hv k4 k1 k2 k3 hhead HL HScq HMq HTR
  go_enter Tryz.func105, Tryz.ntmps105
  go_wp2_with fail
  go_quiet (first | (go_at_call 55; refine Calls.quiet_of_same (demand_yes _)))
  go_wp2_with fail
  go_quiet (fail)
  go_wp2_with (go_at_call 55; refine (demand_yes _).mono ?_; rintro e w' ⟨rfl, rfl⟩)
  refine (HK.out _).mono ?_
  rintro e w' hp
  have HP : Hid (TRPost R s i (m + 1) w e w') := hp
  clear hp HK
  rcases HP.out with ⟨t, p, v, y1, y2, y3, rfl, y5, y6⟩ | ⟨y1, rfl, y3⟩
  ·clear y1 y2 y3 y5 y6
   go_wp2_with fail
   go_ret
   exact HP.out
  ·exact ⟨rfl, HP.out⟩
 by_cases k5 : s[i] = 123
 ·have hv : methV R s[i] = .func (.func 73) #[.pointer (some ⟨R, 0, none⟩)] #[] := by unfold methV; rw [if_neg k1, if_neg k2, if_neg k3, if_neg k4, if_pos k5]
  have HK : Hid (∀ q, Calls Tryz.prog 73 #[.pointer (some ⟨R, 0, none⟩)] (w.drewN q) (TRPost R s i (m + 1) w)) := fun q => (formI_any m HTR.out B R s i _ (HL.out q) hBR (HScq.out q) (HMq.out q) hi hs (by omega) (by rw [hhead]; exact k5)).mono fun e w' hp => hp.drew HSc.out
  rw [hv] at hMc
  clear hv k5 k1 k2 k3 k4 hhead HL HScq HMq HTR
  go_enter Tryz.func105, Tryz.ntmps105
  go_wp2_with fail
  go_quiet (first | (go_at_call 55; refine Calls.quiet_of_same (demand_yes _)))
  go_wp2_with fail
  go_quiet (fail)
  go_wp2_with (go_at_call 55; refine (demand_yes _).mono ?_; rintro e w' ⟨rfl, rfl⟩)
  refine (HK.out _).mono ?_
  rintro e w' hp
  have HP : Hid (TRPost R s i (m + 1) w e w') := hp
  clear hp HK
  rcases HP.out with ⟨t, p, v, y1, y2, y3, rfl, y5, y6⟩ | ⟨y1, rfl, y3⟩
  ·clear y1 y2 y3 y5 y6
   go_wp2_with fail
   go_ret
   exact HP.out
  ·exact ⟨rfl, HP.out⟩
 by_cases k6 : s[i] = 126 ∨ s[i] = 63
 ·have hv : methV R s[i] = .func (.func 70) #[.pointer (some ⟨R, 0, none⟩)] #[] := by unfold methV; rw [if_neg k1, if_neg k2, if_neg k3, if_neg k4, if_neg k5, if_pos k6]
  have HK : Hid (∀ q, Calls Tryz.prog 70 #[.pointer (some ⟨R, 0, none⟩)] (w.drewN q) (TRPost R s i (m + 1) w)) := fun q => (maybeI_any m HTR.out B R s i _ (HL.out q) hBR (HScq.out q) (HMq.out q) hi hs (by omega) (by rw [hhead]; exact k6)).mono fun e w' hp => hp.drew HSc.out
  rw [hv] at hMc
  clear hv k6 k1 k2 k3 k4 k5 hhead HL HScq HMq HTR
  go_enter Tryz.func105, Tryz.ntmps105
  go_wp2_with fail
  go_quiet (first | (go_at_call 55; refine Calls.quiet_of_same (demand_yes _)))
  go_wp2_with fail
  go_quiet (fail)
  go_wp2_with (go_at_call 55; refine (demand_yes _).mono ?_; rintro e w' ⟨rfl, rfl⟩)
  refine (HK.out _).mono ?_
  rintro e w' hp
  have HP : Hid (TRPost R s i (m + 1) w e w') := hp
  clear hp HK
  rcases HP.out with ⟨t, p, v, y1, y2, y3, rfl, y5, y6⟩ | ⟨y1, rfl, y3⟩
  ·clear y1 y2 y3 y5 y6
   go_wp2_with fail
   go_ret
   exact HP.out
  ·exact ⟨rfl, HP.out⟩
 have hv : methV R s[i] = .nilFunc := by unfold methV; rw [if_neg k1, if_neg k2, if_neg k3, if_neg k4, if_neg k5, if_neg k6]
 have HP : Hid (∀ q, TRPost R s i (m + 1) w (.panicked refusal) (w.drewN q)) := fun q => .inr ⟨pu_else (by rw [hhead]; exact k1) (by rw [hhead]; exact k2) (by rw [hhead]; exact k3) (by rw [hhead]; exact k4) (by rw [hhead]; exact k5) (by rw [hhead]; exact k6), rfl, HNe.out q⟩
 rw [hv] at hMc
 clear hv k1 k2 k3 k4 k5 k6 hhead HL HScq HMq HTR
 go_enter Tryz.func105, Tryz.ntmps105
 go_wp2_with fail
 go_quiet (first | (go_at_call 55; refine Calls.quiet_of_same (demand_yes _)))
 go_wp2_with fail
 go_quiet (fail)
 go_wp2_with (go_at_call 55; refine (demand_no _).mono ?_; rintro e w' ⟨rfl, rfl⟩)
 exact ⟨rfl, HP.out _⟩
theorem treeI_any : ∀ m, TRSaid m := by
 intro m
 induction m with
 | zero => intro B R s i w _ _ _ _ _ _ hlt; omega
 | succ m ih => exact tree_stepI m ih
end Go.Proofs.YtmjhcgjhlakceaaGreatDoor
