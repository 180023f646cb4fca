/-
  The program's reader of trees: tree, whole, caught.
-/
import Derived.Test.YtfbfchffnapnnaaGreatDoorB22
import Derived.Test.YtfbfchffnapnnaaGreatDoorB21
import Derived.Defers
import Derived.Recover
import Derived.RegionDies
namespace Go.Proofs.YtfbfchffnapnnaaGreatDoor
open Go.RowKit

theorem TRPost.drew {R i m q : Nat} {s : ByteArray} {w w' : World} {e : Ending} (h : Sc w R s i) (hp : TRPost R s i m (w.drewN q) e w') : TRPost R s i m w e w' := by
  rcases hp with ⟨t, p, v, y1, y2, y3, y4, y5, y6⟩ | ⟨y1, y2, y3⟩
  · exact .inl ⟨t, p, v, y1, y2, y3, y4, y5, ((Scan.refl h).drewN q).trans y6⟩
  · exact .inr ⟨y1, y2, ((Scan.refl h).drewN q).near.trans y3⟩

theorem funcIn_nil {P : Program} {t : TypeId} {ps rs : Array TypeId} {b : Bool} (d : Nat) (fn : Fn) (first cap : Array Value) (w : World) (h : P.underlying t = some (.func ps rs b)) : (Op.equalIn (d + 1) t (.func fn first cap) .nilFunc).run P w = .ok false w := by
  simp [Op.equalIn, run_underlying h]
theorem nilIn_nil {P : Program} {t : TypeId} {ps rs : Array TypeId} {b : Bool} (d : Nat) (w : World) (h : P.underlying t = some (.func ps rs b)) : (Op.equalIn (d + 1) t .nilFunc .nilFunc).run P w = .ok true w := by
  simp [Op.equalIn, run_underlying h]
theorem Tryz.func_ne (fn : Fn) (first cap : Array Value) (w : World) : (binOp .neq 59 (.func fn first cap) .nilFunc).run Tryz.prog w = .ok (.bool true) w := by
  have : (Op.equal 59 (.func fn first cap) .nilFunc).run Tryz.prog w = .ok false w := funcIn_nil 9999 fn first cap w Tryz.underlying59
  simp only [binOp]
  simp [this]
theorem Tryz.func_nil (w : World) : (binOp .neq 59 .nilFunc .nilFunc).run Tryz.prog w = .ok (.bool false) w := by
  have : (Op.equal 59 .nilFunc .nilFunc).run Tryz.prog w = .ok true w := nilIn_nil 9999 w Tryz.underlying59
  simp only [binOp]
  simp [this]

set_option maxRecDepth 100000 in
set_option maxHeartbeats 4000000 in
theorem tree_stepI (m : Nat) (hm : TRSaid m) : TRSaid (m + 1) := by
  intro B R s i w hL hBR h hM hi hs hlt
  have hR := h.lt
  have c0 := h.c0
  have c1 := h.c1
  have hfn := Tryz.func_ne
  have hfz := Tryz.func_nil
  by_cases hin : i < s.size
  case neg =>
    have HDn : Hid (∀ W, Calls Tryz.prog 95 #[.bool (decide (i < s.size))] W fun e w' => e = .panicked refusal ∧ w' = W) := fun W => by
      rw [decide_eq_false hin]; exact demand_no W
    have HN : Hid (parseU (m + 1) (s.data.toList.drop i) = none) := by
      have : s.data.toList.drop i = [] := List.drop_of_length_le (by simp; omega)
      rw [this]
      exact pu_else (by decide) (by decide) (by decide) (by decide) (by decide) (by decide)
    have HP : Hid (TRPost R s i (m + 1) w (.panicked refusal) w.drew) := .inr ⟨HN.out, rfl, ((Scan.refl h).drewN 1).near⟩
    clear h hL hM hm hin
    go_enter Tryz.func62, Tryz.ntmps62
    go_wp2_with fail
    go_region_dies
    all_goals (go_at_call 95; refine (HDn.out _).mono ?_; rintro e w' ⟨rfl, rfl⟩; exact ⟨rfl, HP.out⟩)
  have hd : decide ((i : Int) < (s.size : Int)) = true := by simp; omega
  have hgi : (i : Int) < (s.size : Int) := by omega
  have hin' : ((i : Int)).toNat = i := by omega
  have hb1 : (s[i].toNat : Int) < 256 := by have := s[i].toNat_lt; omega
  have hb2 : s[i].toNat < 256 := s[i].toNat_lt
  have hhead : (s.data.toList.drop i).headD 0 = s[i] := by rw [drop_at s i hin]; rfl
  have hMc := hM s[i]
  have HSc : Hid (Sc w R s i) := h
  have HL : Hid (∀ q, LaidU B (w.drewN q)) := fun q => hL.near ((Scan.refl h).drewN q).near hBR hR
  have HScq : Hid (∀ q, Sc (w.drewN q) R s i) := fun q => ((Scan.refl h).drewN q).sc h
  have HMq : Hid (∀ q, Meth (w.drewN q) R) := fun q => hM.scan ((Scan.refl h).drewN q)
  have HTR : Hid (TRSaid m) := hm
  have HNe : Hid (∀ q, Near R w (w.drewN q)) := fun q => ((Scan.refl h).drewN q).near
  clear h hL hM hm
  by_cases k1 : digC s[i] = true ∨ s[i] = 45
  · have hv : methV R s[i] = .func (.func 56) #[.pointer (some ⟨R, 0, none⟩)] #[] := by unfold methV; rw [if_pos k1]
    have HK : Hid (∀ q, Calls Tryz.prog 56 #[.pointer (some ⟨R, 0, none⟩)] (w.drewN q) (TRPost R s i (m + 1) w)) := fun q => (numI_any m B R s i _ (HL.out q) hBR (HScq.out q) hin hs (by rw [hhead]; exact k1)).mono fun e w' hp => hp.drew HSc.out
    rw [hv] at hMc
    clear hv k1 hhead HL HScq HMq HTR
    go_enter Tryz.func62, Tryz.ntmps62
    go_wp2_with fail
    go_quiet (first | (go_at_call 95; refine Calls.quiet_of_same (demand_yes _)))
    go_wp2_with fail
    go_quiet (fail)
    go_wp2_with (go_at_call 95; refine (demand_yes _).mono ?_; rintro e w' ⟨rfl, rfl⟩)
    refine (HK.out _).mono ?_
    rintro e w' hp
    have HP : Hid (TRPost R s i (m + 1) w e w') := hp
    clear hp HK
    rcases HP.out with ⟨t, p, v, y1, y2, y3, rfl, y5, y6⟩ | ⟨y1, rfl, y3⟩
    · clear y1 y2 y3 y5 y6
      go_wp2_with fail
      go_ret
      exact HP.out
    · exact ⟨rfl, HP.out⟩
  by_cases k2 : s[i] = 34
  · have hv : methV R s[i] = .func (.func 59) #[.pointer (some ⟨R, 0, none⟩)] #[] := by unfold methV; rw [if_neg k1, if_pos k2]
    have HK : Hid (∀ q, Calls Tryz.prog 59 #[.pointer (some ⟨R, 0, none⟩)] (w.drewN q) (TRPost R s i (m + 1) w)) := fun q => (quotedI_any m R s i _ (HScq.out q) hi hs (by rw [hhead]; exact k2)).mono fun e w' hp => hp.drew HSc.out
    rw [hv] at hMc
    clear hv k2 k1 hhead HL HScq HMq HTR
    go_enter Tryz.func62, Tryz.ntmps62
    go_wp2_with fail
    go_quiet (first | (go_at_call 95; refine Calls.quiet_of_same (demand_yes _)))
    go_wp2_with fail
    go_quiet (fail)
    go_wp2_with (go_at_call 95; refine (demand_yes _).mono ?_; rintro e w' ⟨rfl, rfl⟩)
    refine (HK.out _).mono ?_
    rintro e w' hp
    have HP : Hid (TRPost R s i (m + 1) w e w') := hp
    clear hp HK
    rcases HP.out with ⟨t, p, v, y1, y2, y3, rfl, y5, y6⟩ | ⟨y1, rfl, y3⟩
    · clear y1 y2 y3 y5 y6
      go_wp2_with fail
      go_ret
      exact HP.out
    · exact ⟨rfl, HP.out⟩
  by_cases k3 : s[i] = 121 ∨ s[i] = 110
  · have hv : methV R s[i] = .func (.func 57) #[.pointer (some ⟨R, 0, none⟩)] #[] := by unfold methV; rw [if_neg k1, if_neg k2, if_pos k3]
    have HK : Hid (∀ q, Calls Tryz.prog 57 #[.pointer (some ⟨R, 0, none⟩)] (w.drewN q) (TRPost R s i (m + 1) w)) := fun q => (flagI_any m R s i _ (HScq.out q) hi hs (by rw [hhead]; exact k3)).mono fun e w' hp => hp.drew HSc.out
    rw [hv] at hMc
    clear hv k3 k1 k2 hhead HL HScq HMq HTR
    go_enter Tryz.func62, Tryz.ntmps62
    go_wp2_with fail
    go_quiet (first | (go_at_call 95; refine Calls.quiet_of_same (demand_yes _)))
    go_wp2_with fail
    go_quiet (fail)
    go_wp2_with (go_at_call 95; refine (demand_yes _).mono ?_; rintro e w' ⟨rfl, rfl⟩)
    refine (HK.out _).mono ?_
    rintro e w' hp
    have HP : Hid (TRPost R s i (m + 1) w e w') := hp
    clear hp HK
    rcases HP.out with ⟨t, p, v, y1, y2, y3, rfl, y5, y6⟩ | ⟨y1, rfl, y3⟩
    · clear y1 y2 y3 y5 y6
      go_wp2_with fail
      go_ret
      exact HP.out
    · exact ⟨rfl, HP.out⟩
  by_cases k4 : s[i] = 91
  · have hv : methV R s[i] = .func (.func 60) #[.pointer (some ⟨R, 0, none⟩)] #[] := by unfold methV; rw [if_neg k1, if_neg k2, if_neg k3, if_pos k4]
    have HK : Hid (∀ q, Calls Tryz.prog 60 #[.pointer (some ⟨R, 0, none⟩)] (w.drewN q) (TRPost R s i (m + 1) w)) := fun q => (listI_any m HTR.out B R s i _ (HL.out q) hBR (HScq.out q) (HMq.out q) hi hs (by omega) (by rw [hhead]; exact k4)).mono fun e w' hp => hp.drew HSc.out
    rw [hv] at hMc
    clear hv k4 k1 k2 k3 hhead HL HScq HMq HTR
    go_enter Tryz.func62, Tryz.ntmps62
    go_wp2_with fail
    go_quiet (first | (go_at_call 95; refine Calls.quiet_of_same (demand_yes _)))
    go_wp2_with fail
    go_quiet (fail)
    go_wp2_with (go_at_call 95; refine (demand_yes _).mono ?_; rintro e w' ⟨rfl, rfl⟩)
    refine (HK.out _).mono ?_
    rintro e w' hp
    have HP : Hid (TRPost R s i (m + 1) w e w') := hp
    clear hp HK
    rcases HP.out with ⟨t, p, v, y1, y2, y3, rfl, y5, y6⟩ | ⟨y1, rfl, y3⟩
    · clear y1 y2 y3 y5 y6
      go_wp2_with fail
      go_ret
      exact HP.out
    · exact ⟨rfl, HP.out⟩
  by_cases k5 : s[i] = 123
  · have hv : methV R s[i] = .func (.func 61) #[.pointer (some ⟨R, 0, none⟩)] #[] := by unfold methV; rw [if_neg k1, if_neg k2, if_neg k3, if_neg k4, if_pos k5]
    have HK : Hid (∀ q, Calls Tryz.prog 61 #[.pointer (some ⟨R, 0, none⟩)] (w.drewN q) (TRPost R s i (m + 1) w)) := fun q => (formI_any m HTR.out B R s i _ (HL.out q) hBR (HScq.out q) (HMq.out q) hi hs (by omega) (by rw [hhead]; exact k5)).mono fun e w' hp => hp.drew HSc.out
    rw [hv] at hMc
    clear hv k5 k1 k2 k3 k4 hhead HL HScq HMq HTR
    go_enter Tryz.func62, Tryz.ntmps62
    go_wp2_with fail
    go_quiet (first | (go_at_call 95; refine Calls.quiet_of_same (demand_yes _)))
    go_wp2_with fail
    go_quiet (fail)
    go_wp2_with (go_at_call 95; refine (demand_yes _).mono ?_; rintro e w' ⟨rfl, rfl⟩)
    refine (HK.out _).mono ?_
    rintro e w' hp
    have HP : Hid (TRPost R s i (m + 1) w e w') := hp
    clear hp HK
    rcases HP.out with ⟨t, p, v, y1, y2, y3, rfl, y5, y6⟩ | ⟨y1, rfl, y3⟩
    · clear y1 y2 y3 y5 y6
      go_wp2_with fail
      go_ret
      exact HP.out
    · exact ⟨rfl, HP.out⟩
  by_cases k6 : s[i] = 126 ∨ s[i] = 63
  · have hv : methV R s[i] = .func (.func 58) #[.pointer (some ⟨R, 0, none⟩)] #[] := by unfold methV; rw [if_neg k1, if_neg k2, if_neg k3, if_neg k4, if_neg k5, if_pos k6]
    have HK : Hid (∀ q, Calls Tryz.prog 58 #[.pointer (some ⟨R, 0, none⟩)] (w.drewN q) (TRPost R s i (m + 1) w)) := fun q => (maybeI_any m HTR.out B R s i _ (HL.out q) hBR (HScq.out q) (HMq.out q) hi hs (by omega) (by rw [hhead]; exact k6)).mono fun e w' hp => hp.drew HSc.out
    rw [hv] at hMc
    clear hv k6 k1 k2 k3 k4 k5 hhead HL HScq HMq HTR
    go_enter Tryz.func62, Tryz.ntmps62
    go_wp2_with fail
    go_quiet (first | (go_at_call 95; refine Calls.quiet_of_same (demand_yes _)))
    go_wp2_with fail
    go_quiet (fail)
    go_wp2_with (go_at_call 95; refine (demand_yes _).mono ?_; rintro e w' ⟨rfl, rfl⟩)
    refine (HK.out _).mono ?_
    rintro e w' hp
    have HP : Hid (TRPost R s i (m + 1) w e w') := hp
    clear hp HK
    rcases HP.out with ⟨t, p, v, y1, y2, y3, rfl, y5, y6⟩ | ⟨y1, rfl, y3⟩
    · clear y1 y2 y3 y5 y6
      go_wp2_with fail
      go_ret
      exact HP.out
    · exact ⟨rfl, HP.out⟩
  have hv : methV R s[i] = .nilFunc := by unfold methV; rw [if_neg k1, if_neg k2, if_neg k3, if_neg k4, if_neg k5, if_neg k6]
  have HP : Hid (∀ q, TRPost R s i (m + 1) w (.panicked refusal) (w.drewN q)) := fun q => .inr ⟨pu_else (by rw [hhead]; exact k1) (by rw [hhead]; exact k2) (by rw [hhead]; exact k3) (by rw [hhead]; exact k4) (by rw [hhead]; exact k5) (by rw [hhead]; exact k6), rfl, HNe.out q⟩
  rw [hv] at hMc
  clear hv k1 k2 k3 k4 k5 k6 hhead HL HScq HMq HTR
  go_enter Tryz.func62, Tryz.ntmps62
  go_wp2_with fail
  go_quiet (first | (go_at_call 95; refine Calls.quiet_of_same (demand_yes _)))
  go_wp2_with fail
  go_quiet (fail)
  go_wp2_with (go_at_call 95; refine (demand_no _).mono ?_; rintro e w' ⟨rfl, rfl⟩)
  exact ⟨rfl, HP.out _⟩

theorem treeI_any : ∀ m, TRSaid m := by
  intro m
  induction m with
  | zero => intro B R s i w _ _ _ _ _ _ hlt; omega
  | succ m ih => exact tree_stepI m ih

/-- What whole makes. -/
def WhT (R : Nat) (s : ByteArray) (m : Nat) (w : World) (e : Ending) (w' : World) : Prop :=
  Near R w w' ∧ ((∃ (t : T m) (v : Value), parseU m s.data.toList = some (t, []) ∧ e = .returned v ∧ InnerT (fun b => w.heap.size ≤ b ∧ b < w'.heap.size) w' m t v) ∨
    ((∀ t, parseU m s.data.toList ≠ some (t, [])) ∧ e = .panicked refusal))

set_option maxRecDepth 100000 in
set_option maxHeartbeats 1000000 in
theorem wholeI_any (m B R : Nat) (s : ByteArray) (w : World) (hL : LaidU B w) (hBR : B ≤ R) (h : Sc w R s 0) (hM : Meth w R) (hs : s.size ≤ 10000) (hm : s.size < m) :
    Calls Tryz.prog 27 #[.pointer (some ⟨R, 0, none⟩)] w (WhT R s m w) := by
  have hR := h.lt
  have HSc : Hid (Sc w R s 0) := h
  have HC : Hid (Calls Tryz.prog 62 #[.pointer (some ⟨R, 0, none⟩)] w (TRPost R s 0 m w)) := treeI_any m B R s 0 w hL hBR h hM (Nat.zero_le _) hs (by omega)
  clear h hL hM
  go_enter Tryz.func27, Tryz.ntmps27
  go_wp2_with fail
  refine HC.out.mono ?_
  rintro e w1 (⟨t, q, v, y1, y2, y3, rfl, y4, y5⟩ | ⟨y1, rfl, y2⟩)
  case inr =>
    rw [List.drop_zero] at y1
    exact ⟨rfl, y2, .inr ⟨fun k e => (by rw [y1] at e; cases e), rfl⟩⟩
  rw [List.drop_zero] at y1
  obtain ⟨zt, zx, rfl⟩ := id y4.iface
  have hz1 := y5.near.size
  have HS1 : Hid (Scan R w w1 q) := y5
  have HE : Hid (Calls Tryz.prog 63 #[.pointer (some ⟨R, 0, none⟩)] w1 _) := wantEnd_any _ R s q (y5.sc HSc.out)
  have HY : Hid (InnerT (fun b => w.heap.size ≤ b ∧ b < w1.heap.size) w1 m t (.iface zt zx) ∧ parseU m s.data.toList = some (t, s.data.toList.drop q)) := ⟨y4, y1⟩
  clear HC y1 y4 y5
  go_wp2_with fail
  refine HE.out.mono ?_
  rintro e w2 (⟨v1, rfl, v2⟩ | ⟨v1, rfl, v2⟩)
  case inr =>
    refine ⟨rfl, HS1.out.near.trans v2, .inr ⟨fun k' e => ?_, rfl⟩⟩
    rw [HY.out.2] at e
    simp only [Option.some.injEq, Prod.mk.injEq] at e
    have := congrArg List.length e.2
    simp at this
    omega
  have HP : Hid (WhT R s m w (.returned (.iface zt zx)) w2) := by
    refine ⟨HS1.out.near.trans v2.near, .inl ⟨t, _, ?_, rfl, HY.out.1.keep (fun b hb => v2.near.block b hb.2 (by omega)) (fun b hb => ⟨hb.1, Nat.lt_of_lt_of_le hb.2 v2.near.size⟩)⟩⟩
    rw [HY.out.2, v1]; simp
  clear HE HY HS1 v1 v2
  go_wp2_with fail
  go_ret
  exact HP.out

theorem Tryz.assert_yesT (w : World) : (Instr.typeAssert (.iface 119 (.agg #[])) 20 119 true).run Tryz.prog w = .ok (.tuple #[.agg #[], .bool true]) w := by kernel_rfl
theorem Tryz.assert_nilT (w : World) : (Instr.typeAssert .nilIface 20 119 true).run Tryz.prog w = .ok (.tuple #[.agg #[], .bool false]) w := by kernel_rfl

set_option maxHeartbeats 400000 in
theorem catchT_refusal (w : World) :
    CallsD Tryz.prog 55 #[] (.panicking [{ v := .iface 119 (.agg #[]), recovered := false }]) w fun e u' w' =>
      e = .returned (.tuple #[]) ∧ u' = .panicking [{ v := .iface 119 (.agg #[]), recovered := true }] ∧ w' = w := by
  have hta := Tryz.assert_yesT
  refine callsD_of_wpS Tryz.func55 rfl fun c₀ cs hu => ?_
  apply wpS_seq
  apply wpS_region
  simp [wpOpsS, go_sem, recoverD, hu, Tryz.ntmps55, Exit.thenS]
  refine wpS_of_wp ?_
  go_wp2
  exact ⟨rfl, _, rfl, .tuple #[], by simp [results, Tryz.results55], rfl, rfl, rfl⟩

set_option maxHeartbeats 400000 in
theorem catchT_nothing (w : World) :
    CallsD Tryz.prog 55 #[] .returning w fun e u' w' => e = .returned (.tuple #[]) ∧ u' = .returning ∧ w' = w := by
  have hta := Tryz.assert_nilT
  refine callsD_of_wpS Tryz.func55 rfl fun c₀ cs hu => ?_
  apply wpS_seq
  apply wpS_region
  simp [wpOpsS, go_sem, recoverD, hu, Tryz.ntmps55, Exit.thenS]
  refine wpS_of_wp ?_
  go_wp2
  exact ⟨rfl, _, by rw [← hu], .tuple #[], by simp [results, Tryz.results55], rfl, rfl, rfl⟩

/-- What caught makes. -/
def CaughtT (R : Nat) (s : ByteArray) (m : Nat) (w : World) (e : Ending) (w' : World) : Prop :=
  Near R w w' ∧ ((∃ (t : T m) (v : Value), parseU m s.data.toList = some (t, []) ∧ e = .returned (.tuple #[v, .bool true]) ∧ InnerT (fun b => w.heap.size ≤ b ∧ b < w'.heap.size) w' m t v) ∨
    ((∀ t, parseU m s.data.toList ≠ some (t, [])) ∧ e = .returned (.tuple #[.nilIface, .bool false])))

set_option maxRecDepth 100000 in
set_option maxHeartbeats 1000000 in
theorem caughtT_any (m B R : Nat) (s : ByteArray) (w : World) (hL : LaidU B w) (hBR : B ≤ R) (h : Sc w R s 0) (hM : Meth w R) (hs : s.size ≤ 10000) (hm : s.size < m) :
    Calls Tryz.prog 25 #[.func (.func 27) #[.pointer (some ⟨R, 0, none⟩)] #[]] w (CaughtT R s m w) := by
  have HC : Hid (Calls Tryz.prog 27 #[.pointer (some ⟨R, 0, none⟩)] w (WhT R s m w)) := wholeI_any m B R s w hL hBR h hM hs hm
  clear h hL hM
  go_enter_defers Tryz.func25, Tryz.ntmps25
  go_wp2_with fail
  refine HC.out.mono ?_
  rintro e w1 ⟨hn, ⟨t, v, y1, rfl, y4⟩ | ⟨y1, rfl⟩⟩
  · obtain ⟨zt, zx, rfl⟩ := id y4.iface
    have HP : Hid (CaughtT R s m w (.returned (.tuple #[.iface zt zx, .bool true])) w1) := ⟨hn, .inl ⟨t, _, y1, rfl, y4⟩⟩
    clear HC y1 y4 hn
    go_wp2_with fail
    refine leaves_cons (f := 55) (args := #[]) (by simp) (by simp [go_sem]) ?_
    refine (catchT_nothing _).mono ?_
    rintro e u' w'' ⟨rfl, rfl, rfl⟩
    exact ⟨.tuple #[.iface zt zx, .bool true], by simp [results, Tryz.results25, go_sem], HP.out⟩
  · have HP : Hid (CaughtT R s m w (.returned (.tuple #[.nilIface, .bool false])) w1) := ⟨hn, .inr ⟨y1, rfl⟩⟩
    clear HC y1 hn
    refine leaves_cons (f := 55) (args := #[]) (by simp) (by simp [go_sem]) ?_
    refine (catchT_refusal _).mono ?_
    rintro e u' w'' ⟨rfl, rfl, rfl⟩
    exact ⟨.tuple #[.nilIface, .bool false], by simp [results, Tryz.results25, go_sem], HP.out⟩

end Go.Proofs.YtfbfchffnapnnaaGreatDoor
