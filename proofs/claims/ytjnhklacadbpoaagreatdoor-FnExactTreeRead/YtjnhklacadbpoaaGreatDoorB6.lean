/-
  Several texts in one, in their order.
-/
import Derived.Test.YtjnhklacadbpoaaGreatDoorB4

/-
  Plain mathematics: a text ahead is gone over; up to a byte; texts with commas between, from the left.
-/
namespace Go.Proofs.YtjnhklacadbpoaaGreatDoor
open Go.RowKit

theorem takeWhile_all {p : UInt8 → Bool} (a b : List UInt8) (h : ∀ c, c ∈ a → p c = true) (hb : ∀ c r, b = c :: r → p c = false) : (a ++ b).takeWhile p = a := by
  induction a with
  | nil => cases b with
    | nil => rfl
    | cons c r => simp [hb c r rfl]
  | cons x r ih =>
    rw [List.cons_append, List.takeWhile_cons, h x (List.mem_cons_self ..)]
    simp only [if_true]
    rw [ih (fun c hc => h c (List.mem_cons_of_mem _ hc))]

theorem dropWhile_all {p : UInt8 → Bool} (a b : List UInt8) (h : ∀ c, c ∈ a → p c = true) (hb : ∀ c r, b = c :: r → p c = false) : (a ++ b).dropWhile p = b := by
  induction a with
  | nil => cases b with
    | nil => rfl
    | cons c r => simp [hb c r rfl]
  | cons x r ih =>
    rw [List.cons_append, List.dropWhile_cons, h x (List.mem_cons_self ..)]
    simp only [if_true]
    exact ih (fun c hc => h c (List.mem_cons_of_mem _ hc))

/-- Up to a byte, which stays. -/
def untilP (c : UInt8) (s : List UInt8) : Option (List UInt8 × List UInt8) :=
  if s.contains c then some (s.takeWhile (· != c), s.dropWhile (· != c)) else none

/-- A text ahead is gone over. -/
def eatP (w s : List UInt8) : Option (List UInt8) := if w.isPrefixOf s then some (s.drop w.length) else none

theorem eatP_some {w s r : List UInt8} (h : eatP w s = some r) : s = w ++ r := by
  unfold eatP at h
  split at h
  · next hp =>
    cases h
    obtain ⟨t, rfl⟩ := List.isPrefixOf_iff_prefix.1 hp
    simp
  · cases h

theorem eatP_append (w r : List UInt8) : eatP w (w ++ r) = some r := by
  unfold eatP
  rw [if_pos (List.isPrefixOf_iff_prefix.2 ⟨r, rfl⟩)]
  simp

theorem eatP_one_cons (c : UInt8) (r : List UInt8) : eatP [c] (c :: r) = some r := eatP_append [c] r

theorem eatP_one_ne (c d : UInt8) (r : List UInt8) (h : d ≠ c) : eatP [c] (d :: r) = none := by
  unfold eatP
  rw [if_neg]
  simp only [List.isPrefixOf, Bool.and_true, beq_iff_eq]
  exact fun e => h e.symm

theorem untilP_some {c : UInt8} {s w r : List UInt8} (h : untilP c s = some (w, r)) : ∃ r', r = c :: r' ∧ s = w ++ c :: r' ∧ ∀ x, x ∈ w → x ≠ c := by
  unfold untilP at h
  split at h
  · next hc =>
    cases h
    induction s with
    | nil => simp at hc
    | cons x s ih =>
      by_cases hx : x = c
      · subst hx; exact ⟨s, by simp⟩
      · have hc' : s.contains c = true := by
          have h1 : c = x ∨ c ∈ s := by simpa using hc
          rcases h1 with h1 | h1
          · exact absurd h1.symm hx
          · simpa using h1
        obtain ⟨r', h1, h2, h3⟩ := ih hc'
        have hb : (x != c) = true := by simpa using hx
        refine ⟨r', ?_, ?_, ?_⟩
        · rw [List.dropWhile_cons, hb]; simpa using h1
        · rw [List.takeWhile_cons, hb]; simpa using h2
        · intro y hy
          rw [List.takeWhile_cons, hb] at hy
          simp only [if_true] at hy
          rcases List.mem_cons.1 hy with rfl | hy
          · exact hx
          · exact h3 y hy
  · cases h

theorem untilP_append (c : UInt8) (w r : List UInt8) (h : ∀ x, x ∈ w → x ≠ c) : untilP c (w ++ c :: r) = some (w, c :: r) := by
  unfold untilP
  rw [if_pos (by simp)]
  have h1 : ∀ x, x ∈ w → (x != c) = true := fun x hx => by simpa using h x hx
  have h2 : ∀ x y, (c :: r) = x :: y → (x != c) = false := by intro x y e; cases e; simp
  rw [takeWhile_all w (c :: r) h1 h2, dropWhile_all w (c :: r) h1 h2]

/-- What follows of texts with commas, the first with none ahead if it is the first. -/
def tailL (first : Bool) : List (List UInt8) → List UInt8
  | [] => []
  | x :: r => (if first = true then x else 44 :: x) ++ tailL false r

theorem tailL_cons_false (x : List UInt8) (r : List (List UInt8)) : tailL false (x :: r) = 44 :: joinL (x :: r) := by
  induction r generalizing x with
  | nil => simp [tailL, joinL]
  | cons y r ih => rw [tailL, ih]; simp [joinL]

theorem tailL_true (l : List (List UInt8)) : tailL true l = joinL l := by
  cases l with
  | nil => rfl
  | cons x r =>
    cases r with
    | nil => simp [tailL, joinL]
    | cons y r => rw [tailL, tailL_cons_false]; simp [joinL]

theorem nameB_bytes {s : ByteArray} (h : nameB s = true) : ∀ c, c ∈ s.data.toList → nmByte c = true := by
  simp only [nameB, Bool.and_eq_true] at h
  exact List.all_eq_true.1 h.2

theorem nm_ne {c : UInt8} (h : nmByte c = true) : c ≠ 58 ∧ c ≠ 125 ∧ c ≠ 44 := by
  refine ⟨?_, ?_, ?_⟩ <;> (rintro rfl; exact absurd h (by decide))

theorem riseB_name {l : List ByteArray} (h : riseB l = true) : ∀ s, s ∈ l → nameB s = true := by
  intro s hs
  obtain ⟨i, hi, rfl⟩ := List.getElem_of_mem hs
  unfold riseB riseTo at h
  have := List.all_eq_true.1 h i (List.mem_range.2 hi)
  simp only [riseAt, Bool.and_eq_true] at this
  have h2 := this.1
  rwa [List.getD_eq_getElem?_getD, List.getElem?_eq_getElem hi] at h2

theorem untilP_at (c : UInt8) (l : List UInt8) (k : Nat) (h : ∀ x, x ∈ l.take k → x ≠ c) (he : l.drop k = c :: l.drop (k + 1)) : untilP c l = some (l.take k, l.drop k) := by
  have e : l = l.take k ++ c :: l.drop (k + 1) := by rw [← he]; simp
  conv => lhs; rw [e]
  rw [untilP_append c _ _ h, he]

theorem untilP_never (c : UInt8) (l : List UInt8) (h : ∀ x, x ∈ l → x ≠ c) : untilP c l = none := by
  unfold untilP
  rw [if_neg]
  intro hc
  have : c ∈ l := by simpa using hc
  exact h c this rfl

theorem extract_toList (s : ByteArray) (i k : Nat) : (s.extract i (i + k)).toList = (s.data.toList.drop i).take k := by
  rw [ByteArray.toList_eq]
  have : (s.extract i (i + k)).data.toList = (s.data.toList.drop i).take k := by
    simp [ByteArray.data_extract, List.extract_eq_take_drop]
  exact this

theorem eatP_yes (s : ByteArray) (i : Nat) (w : ByteArray) (he : (s.extract i (i + w.size)).toList = w.toList) : eatP w.data.toList (s.data.toList.drop i) = some (s.data.toList.drop (i + w.size)) := by
  rw [extract_toList s i w.size, ByteArray.toList_eq] at he
  unfold eatP
  have hp : w.data.toList <+: s.data.toList.drop i := by rw [← he]; exact List.take_prefix _ _
  rw [if_pos (List.isPrefixOf_iff_prefix.2 hp), List.drop_drop]
  simp

theorem eatP_no (s : ByteArray) (i : Nat) (w : ByteArray) (hi : i ≤ s.size) (h : ¬ (i + w.size ≤ s.size ∧ (s.extract i (i + w.size)).toList = w.toList)) : eatP w.data.toList (s.data.toList.drop i) = none := by
  unfold eatP
  rw [if_neg]
  intro hp
  obtain ⟨t, ht⟩ := List.isPrefixOf_iff_prefix.1 hp
  apply h
  have hl := congrArg List.length ht
  simp at hl
  refine ⟨by omega, ?_⟩
  rw [extract_toList s i w.size, ← ht, ByteArray.toList_eq]
  have : w.size = w.data.toList.length := by simp
  rw [this, List.take_left]

theorem drop_at (s : ByteArray) (j : Nat) (h : j < s.size) : s.data.toList.drop j = s[j] :: s.data.toList.drop (j + 1) := by
  rw [List.drop_eq_getElem_cons (by simpa using h)]
  simp [ByteArray.getElem_eq_getElem_data]

theorem take_more (s : ByteArray) (i k : Nat) (c : UInt8) (h : i + k < s.size) (ha : ∀ x, x ∈ (s.data.toList.drop i).take k → x ≠ c) (hc : s[i + k] ≠ c) : ∀ x, x ∈ (s.data.toList.drop i).take (k + 1) → x ≠ c := by
  intro x hx
  have hl : k < (s.data.toList.drop i).length := by simp; omega
  rw [List.take_succ_eq_append_getElem hl] at hx
  rcases List.mem_append.1 hx with hx | hx
  · exact ha x hx
  · rw [List.mem_singleton] at hx
    subst hx
    simpa [ByteArray.getElem_eq_getElem_data] using hc

theorem extract_bs (s : ByteArray) (i k : Nat) : s.extract i (i + k) = bs ((s.data.toList.drop i).take k) := by
  have := extract_toList s i k
  rw [ByteArray.toList_eq] at this
  rw [← this, bs_of]

end Go.Proofs.YtjnhklacadbpoaaGreatDoor

/-
  Plain mathematics: the text of a schema, and how long it is.
-/
namespace Go.Proofs.YtjnhklacadbpoaaGreatDoor
open Go.RowKit

/-- What the first of a list gives. -/
def headL {α : Type} (f : α → List UInt8) : List α → List UInt8
  | [] => []
  | k :: _ => f k

/-- The text of a schema. -/
def txtK : (n : Nat) → K n → List UInt8
  | 0, _ => []
  | n + 1, t =>
    if Kd.sort t = 1 then [110, 117, 109]
    else if Kd.sort t = 2 then [116, 101, 120, 116]
    else if Kd.sort t = 3 then [102, 108, 97, 103]
    else if Kd.sort t = 4 then 91 :: headL (txtK n) (Kd.kids t) ++ [93]
    else if Kd.sort t = 6 then 63 :: headL (txtK n) (Kd.kids t)
    else 123 :: joinL (zipL (Kd.names t) ((Kd.kids t).map (txtK n))) ++ [125]

theorem txtK_len : ∀ (n : Nat) (t : K n) (d : Int), goodK n t d = true → (txtK n t).length + 10 ≤ 24 * cntK n t := by
  intro n
  induction n with
  | zero => intro t d h; simp [goodK] at h
  | succ n ih =>
    intro t d h
    simp only [goodK, Bool.and_eq_true] at h
    have ha : aloneKF (Kd.sort t) (Kd.names t) (Kd.kids t).length = true := h.1.2
    have hk := List.all_eq_true.1 h.2
    have hkids : lenL ((Kd.kids t).map (txtK n)) ≤ 24 * sumL (fun x => cntK n x) (Kd.kids t) := by
      unfold lenL
      rw [sumL_map, ← sumL_mul]
      exact sumL_le _ _ _ fun x hx => ih x (d + 1) (hk x hx)
    have hc : cntK (n + 1) t = 1 + sumL (fun x => cntK n x) (Kd.kids t) := rfl
    rw [hc]
    have hhead : (headL (txtK n) (Kd.kids t)).length ≤ 24 * sumL (fun x => cntK n x) (Kd.kids t) := by
      cases hkk : Kd.kids t with
      | nil => simp [headL]
      | cons k r =>
        have h1 := ih k (d + 1) (hk k (by rw [hkk]; exact List.mem_cons_self ..))
        simp only [headL, sumL]
        omega
    unfold aloneKF at ha
    simp only [txtK]
    by_cases h1 : Kd.sort t = 1
    · rw [if_pos h1]; simp; omega
    rw [if_neg h1] at ha ⊢
    by_cases h2 : Kd.sort t = 2
    · rw [if_pos h2]; simp; omega
    rw [if_neg h2] at ha ⊢
    by_cases h3 : Kd.sort t = 3
    · rw [if_pos h3]; simp; omega
    rw [if_neg h3] at ha ⊢
    by_cases h4 : Kd.sort t = 4
    · rw [if_pos h4]; simp only [List.length_append, List.length_cons, List.length_nil]; omega
    rw [if_neg h4] at ha ⊢
    by_cases h6 : Kd.sort t = 6
    · rw [if_pos h6]; simp only [List.length_cons]; omega
    rw [if_neg h6]
    by_cases h5 : Kd.sort t = 5
    · rw [if_pos h5] at ha
      simp only [Bool.and_eq_true] at ha
      have := zipL_len (Kd.names t) ((Kd.kids t).map (txtK n)) (riseB_names _ ha.2)
      simp only [List.length_append, List.length_cons, List.length_nil]
      omega
    · rw [if_neg h5, if_neg h6] at ha; cases ha

theorem txtK_ne : ∀ (n : Nat) (t : K n) (d : Int), goodK n t d = true → txtK n t ≠ [] := by
  intro n t d h
  cases n with
  | zero => simp [goodK] at h
  | succ n =>
    simp only [txtK]
    split
    · simp
    split
    · simp
    split
    · simp
    split
    · simp
    split
    · simp
    · simp

/-- What KindWrite answers. -/
def textKF (n : Nat) (t : K n) : ByteArray := if okK n t = true then bs (txtK n t) else bs []

theorem okK_get {n : Nat} {t : K n} (h : okK n t = true) : goodK n t 1 = true ∧ cntK n t ≤ 40 := by
  simpa only [okK, Bool.and_eq_true, decide_eq_true_eq] using h

theorem str_retK {a b : ByteArray} (h : a = b) : Ending.returned (.string a) = .returned (.string b) := by rw [h]

/-- What is written so far. -/
def soFarK (parts : List (List UInt8)) (k : Nat) : ByteArray := bs (joinL (parts.take k))

theorem soFarK_step (parts : List (List UInt8)) (k : Nat) (h : k < parts.length) (hk : ¬ k = 0) : soFarK parts (k + 1) = soFarK parts k ++ bs [44] ++ bs parts[k] := by
  unfold soFarK; rw [joinL_take_succ _ _ h, if_neg hk, bs_append, bs_append]
theorem soFarK_first (parts : List (List UInt8)) (h : 0 < parts.length) : soFarK parts (0 + 1) = bs [] ++ bs parts[0] := by
  unfold soFarK; rw [joinL_take_succ _ _ h, if_pos rfl, bs_append]

end Go.Proofs.YtjnhklacadbpoaaGreatDoor

/-
  The program's own function on a form's names: areFormNames.
-/
namespace Go.Proofs.YtjnhklacadbpoaaGreatDoor
open Go.RowKit

set_option maxHeartbeats 1000000 in
theorem areFormNames_any (S : Nat → Prop) (l : List ByteArray) (v : Value) (w : World) (hl : StrsIn S w l v) :
    Calls Tryz.prog 60 #[v] w fun e w' => e = .returned (.bool (riseB l)) ∧ w' = w := by
  obtain ⟨ao, cap, rfl, hlen, hs, hc⟩ := hl
  unfold maxLen at hlen
  go_enter Tryz.func60, Tryz.ntmps60
  go_wp2_with fail
  go_loop [7] (fun i => ∃ k : Nat, k ≤ l.length ∧ i = .int .i64 k ∧ riseTo l k = true) (fun i => l.length - (intOf i).toNat)
  case atStart => exact ⟨0, Nat.zero_le _, rfl, by simp [riseTo]⟩
  case round =>
    obtain ⟨k, hk, rfl, hall⟩ := hrel
    have HA : Hid (riseTo l k = true) := hall
    clear hall
    by_cases hlt : k < l.length
    · obtain ⟨b, off, rfl, hbB, hcell⟩ := hc (by intro h; rw [h] at hlt; simp at hlt)
      have f0 := hcell k hlt
      have hsk := hs l[k] (List.getElem_mem hlt)
      have hgk : l.getD k ByteArray.empty = l[k] := by simp [List.getD, hlt]
      cases hnm : nameB l[k] with
      | false =>
        have HF : Hid (riseB l = false) := riseTo_false l k hlt (by simp only [riseAt, hgk, hnm, Bool.false_and])
        have HC : Hid (∀ w, Calls Tryz.prog 90 #[.string l[k]] w fun e w' => e = .returned (.bool false) ∧ w' = w) := fun w => by rw [← hnm]; exact isName_any _ w hsk
        clear hc hs hcell hgk hnm
        generalize l[k] = s at *
        go_wp2_with (go_at_call 90; refine (HC.out _).mono ?_; rintro e w' ⟨rfl, rfl⟩)
        go_ret
        exact ⟨bool_ret HF.out.symm, rfl⟩
      | true =>
        have HC : Hid (∀ w, Calls Tryz.prog 90 #[.string l[k]] w fun e w' => e = .returned (.bool true) ∧ w' = w) := fun w => by rw [← hnm]; exact isName_any _ w hsk
        rcases Nat.eq_zero_or_pos k with rfl | hkp
        · have HR : Hid (riseTo l (0 + 1) = true) := by show _ = _; rw [riseTo_succ, HA.out, riseAt, hgk, hnm]; rfl
          clear hc hs hcell hgk hnm
          rw [Nat.add_zero] at f0
          generalize l[0] = s at *
          go_wp2_with (go_at_call 90; refine (HC.out _).mono ?_; rintro e w' ⟨rfl, rfl⟩)
          go_round
          case rel => exact ⟨0 + 1, by omega, by go_num, HR.out⟩
          case measure => simp [intOf]; omega
        · obtain ⟨j, rfl⟩ : ∃ j, k = j + 1 := ⟨k - 1, by omega⟩
          have f1 := hcell j (by omega)
          have hgj : l.getD j ByteArray.empty = l[j] := by simp [List.getD, show j < l.length by omega]
          cases hlt' : ltB l[j] l[j + 1] with
          | false =>
            have HF : Hid (riseB l = false) := riseTo_false l (j + 1) hlt (by simp only [riseAt, hgk, Nat.add_sub_cancel, hgj, hlt']; simp)
            unfold ltB at hlt'
            clear hc hs hcell hgk hgj hnm
            generalize l[j] = r at *
            generalize l[j + 1] = s at *
            go_wp2_with (go_at_call 90; refine (HC.out _).mono ?_; rintro e w' ⟨rfl, rfl⟩)
            go_ret
            exact ⟨bool_ret HF.out.symm, rfl⟩
          | true =>
            have HR : Hid (riseTo l (j + 1 + 1) = true) := by show _ = _; rw [riseTo_succ, HA.out, riseAt, hgk, hnm, Nat.add_sub_cancel, hgj, hlt']; simp
            unfold ltB at hlt'
            clear hc hs hcell hgk hgj hnm
            generalize l[j] = r at *
            generalize l[j + 1] = s at *
            go_wp2_with (go_at_call 90; refine (HC.out _).mono ?_; rintro e w' ⟨rfl, rfl⟩)
            go_round
            case rel => exact ⟨j + 1 + 1, by omega, by go_num, HR.out⟩
            case measure => simp [intOf]; omega
    · have HF : Hid (riseB l = true) := by show _ = _; rw [riseB, show l.length = k by omega]; exact HA.out
      clear hc hs
      go_wp2_with fail
      go_ret
      exact ⟨bool_ret HF.out.symm, rfl⟩

end Go.Proofs.YtjnhklacadbpoaaGreatDoor
