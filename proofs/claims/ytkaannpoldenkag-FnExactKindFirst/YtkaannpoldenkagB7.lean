/-
  Several texts in one, in their order.
-/
import Derived.Test.YtkaannpoldenkagImplN
import Derived.Test.YtkaannpoldenkagTextN
import Derived.Test.YtkaannpoldenkagKPlain

/-
  The program's own function on a form's names: areFormNames.
-/
namespace Go.Proofs.Ytkaannpoldenkag
open Go.RowKit

set_option maxHeartbeats 1000000 in
theorem areFormNames_any (S : Nat → Prop) (l : List ByteArray) (v : Value) (w : World) (hl : StrsIn S w l v) :
    Calls Try.prog 95 #[v] w fun e w' => e = .returned (.bool (riseB l)) ∧ w' = w := by
  obtain ⟨ao, cap, rfl, hlen, hs, hc⟩ := hl
  unfold maxLen at hlen
  go_enter Try.func95, Try.ntmps95
  go_wp2_with fail
  go_loop [7] (fun i => ∃ k : Nat, k ≤ l.length ∧ i = .int .i64 k ∧ riseTo l k = true) (fun i => l.length - (intOf i).toNat)
  case atStart => exact ⟨0, Nat.zero_le _, rfl, by simp [riseTo]⟩
  case round =>
    obtain ⟨k, hk, rfl, hall⟩ := hrel
    have HA : Hid (riseTo l k = true) := hall
    clear hall
    by_cases hlt : k < l.length
    · obtain ⟨b, off, rfl, hbB, hcell⟩ := hc (by intro h; rw [h] at hlt; simp at hlt)
      have f0 := hcell k hlt
      have hsk := hs l[k] (List.getElem_mem hlt)
      have hgk : l.getD k ByteArray.empty = l[k] := by simp [List.getD, hlt]
      cases hnm : nameB l[k] with
      | false =>
        have HF : Hid (riseB l = false) := riseTo_false l k hlt (by simp only [riseAt, hgk, hnm, Bool.false_and])
        have HC : Hid (∀ w, Calls Try.prog 103 #[.string l[k]] w fun e w' => e = .returned (.bool false) ∧ w' = w) := fun w => by rw [← hnm]; exact isName_any _ w hsk
        clear hc hs hcell hgk hnm
        generalize l[k] = s at *
        go_wp2_with (go_at_call 103; refine (HC.out _).mono ?_; rintro e w' ⟨rfl, rfl⟩)
        go_ret
        exact ⟨bool_ret HF.out.symm, rfl⟩
      | true =>
        have HC : Hid (∀ w, Calls Try.prog 103 #[.string l[k]] w fun e w' => e = .returned (.bool true) ∧ w' = w) := fun w => by rw [← hnm]; exact isName_any _ w hsk
        rcases Nat.eq_zero_or_pos k with rfl | hkp
        · have HR : Hid (riseTo l (0 + 1) = true) := by show _ = _; rw [riseTo_succ, HA.out, riseAt, hgk, hnm]; rfl
          clear hc hs hcell hgk hnm
          rw [Nat.add_zero] at f0
          generalize l[0] = s at *
          go_wp2_with (go_at_call 103; refine (HC.out _).mono ?_; rintro e w' ⟨rfl, rfl⟩)
          go_round
          case rel => exact ⟨0 + 1, by omega, by go_num, HR.out⟩
          case measure => simp [intOf]; omega
        · obtain ⟨j, rfl⟩ : ∃ j, k = j + 1 := ⟨k - 1, by omega⟩
          have f1 := hcell j (by omega)
          have hgj : l.getD j ByteArray.empty = l[j] := by simp [List.getD, show j < l.length by omega]
          cases hlt' : ltB l[j] l[j + 1] with
          | false =>
            have HF : Hid (riseB l = false) := riseTo_false l (j + 1) hlt (by simp only [riseAt, hgk, Nat.add_sub_cancel, hgj, hlt']; simp)
            unfold ltB at hlt'
            clear hc hs hcell hgk hgj hnm
            generalize l[j] = r at *
            generalize l[j + 1] = s at *
            go_wp2_with (go_at_call 103; refine (HC.out _).mono ?_; rintro e w' ⟨rfl, rfl⟩)
            go_ret
            exact ⟨bool_ret HF.out.symm, rfl⟩
          | true =>
            have HR : Hid (riseTo l (j + 1 + 1) = true) := by show _ = _; rw [riseTo_succ, HA.out, riseAt, hgk, hnm, Nat.add_sub_cancel, hgj, hlt']; simp
            unfold ltB at hlt'
            clear hc hs hcell hgk hgj hnm
            generalize l[j] = r at *
            generalize l[j + 1] = s at *
            go_wp2_with (go_at_call 103; refine (HC.out _).mono ?_; rintro e w' ⟨rfl, rfl⟩)
            go_round
            case rel => exact ⟨j + 1 + 1, by omega, by go_num, HR.out⟩
            case measure => simp [intOf]; omega
    · have HF : Hid (riseB l = true) := by show _ = _; rw [riseB, show l.length = k by omega]; exact HA.out
      clear hc hs
      go_wp2_with fail
      go_ret
      exact ⟨bool_ret HF.out.symm, rfl⟩

end Go.Proofs.Ytkaannpoldenkag

/-
  Plain mathematics: the text of a schema, and how long it is.
-/
namespace Go.Proofs.Ytkaannpoldenkag
open Go.RowKit

/-- What the first of a list gives. -/
def headL {α : Type} (f : α → List UInt8) : List α → List UInt8
  | [] => []
  | k :: _ => f k

/-- The text of a schema. -/
def txtK : (n : Nat) → K n → List UInt8
  | 0, _ => []
  | n + 1, t =>
    if Kd.sort t = 1 then [110, 117, 109]
    else if Kd.sort t = 2 then [116, 101, 120, 116]
    else if Kd.sort t = 3 then [102, 108, 97, 103]
    else if Kd.sort t = 4 then 91 :: headL (txtK n) (Kd.kids t) ++ [93]
    else if Kd.sort t = 6 then 63 :: headL (txtK n) (Kd.kids t)
    else 123 :: joinL (zipL (Kd.names t) ((Kd.kids t).map (txtK n))) ++ [125]

theorem txtK_len : ∀ (n : Nat) (t : K n) (d : Int), goodK n t d = true → (txtK n t).length + 10 ≤ 24 * cntK n t := by
  intro n
  induction n with
  | zero => intro t d h; simp [goodK] at h
  | succ n ih =>
    intro t d h
    simp only [goodK, Bool.and_eq_true] at h
    have ha : aloneKF (Kd.sort t) (Kd.names t) (Kd.kids t).length = true := h.1.2
    have hk := List.all_eq_true.1 h.2
    have hkids : lenL ((Kd.kids t).map (txtK n)) ≤ 24 * sumL (fun x => cntK n x) (Kd.kids t) := by
      unfold lenL
      rw [sumL_map, ← sumL_mul]
      exact sumL_le _ _ _ fun x hx => ih x (d + 1) (hk x hx)
    have hc : cntK (n + 1) t = 1 + sumL (fun x => cntK n x) (Kd.kids t) := rfl
    rw [hc]
    have hhead : (headL (txtK n) (Kd.kids t)).length ≤ 24 * sumL (fun x => cntK n x) (Kd.kids t) := by
      cases hkk : Kd.kids t with
      | nil => simp [headL]
      | cons k r =>
        have h1 := ih k (d + 1) (hk k (by rw [hkk]; exact List.mem_cons_self ..))
        simp only [headL, sumL]
        omega
    unfold aloneKF at ha
    simp only [txtK]
    by_cases h1 : Kd.sort t = 1
    · rw [if_pos h1]; simp; omega
    rw [if_neg h1] at ha ⊢
    by_cases h2 : Kd.sort t = 2
    · rw [if_pos h2]; simp; omega
    rw [if_neg h2] at ha ⊢
    by_cases h3 : Kd.sort t = 3
    · rw [if_pos h3]; simp; omega
    rw [if_neg h3] at ha ⊢
    by_cases h4 : Kd.sort t = 4
    · rw [if_pos h4]; simp only [List.length_append, List.length_cons, List.length_nil]; omega
    rw [if_neg h4] at ha ⊢
    by_cases h6 : Kd.sort t = 6
    · rw [if_pos h6]; simp only [List.length_cons]; omega
    rw [if_neg h6]
    by_cases h5 : Kd.sort t = 5
    · rw [if_pos h5] at ha
      simp only [Bool.and_eq_true] at ha
      have := zipL_len (Kd.names t) ((Kd.kids t).map (txtK n)) (riseB_names _ ha.2)
      simp only [List.length_append, List.length_cons, List.length_nil]
      omega
    · rw [if_neg h5, if_neg h6] at ha; cases ha

theorem txtK_ne : ∀ (n : Nat) (t : K n) (d : Int), goodK n t d = true → txtK n t ≠ [] := by
  intro n t d h
  cases n with
  | zero => simp [goodK] at h
  | succ n =>
    simp only [txtK]
    split
    · simp
    split
    · simp
    split
    · simp
    split
    · simp
    split
    · simp
    · simp

/-- What KindWrite answers. -/
def textKF (n : Nat) (t : K n) : ByteArray := if okK n t = true then bs (txtK n t) else bs []

theorem okK_get {n : Nat} {t : K n} (h : okK n t = true) : goodK n t 1 = true ∧ cntK n t ≤ 40 := by
  simpa only [okK, Bool.and_eq_true, decide_eq_true_eq] using h

theorem str_retK {a b : ByteArray} (h : a = b) : Ending.returned (.string a) = .returned (.string b) := by rw [h]

/-- What is written so far. -/
def soFarK (parts : List (List UInt8)) (k : Nat) : ByteArray := bs (joinL (parts.take k))

theorem soFarK_step (parts : List (List UInt8)) (k : Nat) (h : k < parts.length) (hk : ¬ k = 0) : soFarK parts (k + 1) = soFarK parts k ++ bs [44] ++ bs parts[k] := by
  unfold soFarK; rw [joinL_take_succ _ _ h, if_neg hk, bs_append, bs_append]
theorem soFarK_first (parts : List (List UInt8)) (h : 0 < parts.length) : soFarK parts (0 + 1) = bs [] ++ bs parts[0] := by
  unfold soFarK; rw [joinL_take_succ _ _ h, if_pos rfl, bs_append]

end Go.Proofs.Ytkaannpoldenkag
