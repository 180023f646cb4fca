/-
  Several texts in one, in their order.
-/
import Derived.Test.YtjnhklacadbpoaaGreatDoorB1

/-
  Plain mathematics: lists of bytes as texts; texts with a comma between; how long they are.
-/
namespace Go.Proofs.YtjnhklacadbpoaaGreatDoor
open Go.RowKit

/-- A list of bytes as a text. -/
def bs (l : List UInt8) : ByteArray := ⟨l.toArray⟩

theorem bs_append (a b : List UInt8) : bs a ++ bs b = bs (a ++ b) := by
  apply ByteArray.ext
  simp [bs]

theorem bs_size (l : List UInt8) : (bs l).size = l.length := by simp [bs, ByteArray.size]

theorem bs_of (s : ByteArray) : bs s.data.toList = s := by
  apply ByteArray.ext; simp [bs]

theorem bs_toList (l : List UInt8) : (bs l).data.toList = l := by simp [bs]

/-- Texts with a comma between, each with what stands ahead of it. -/
def joinL : List (List UInt8) → List UInt8
  | [] => []
  | [x] => x
  | x :: y :: r => x ++ 44 :: joinL (y :: r)

theorem joinL_snoc (l : List (List UInt8)) (x : List UInt8) (h : l ≠ []) : joinL (l ++ [x]) = joinL l ++ 44 :: x := by
  induction l with
  | nil => exact absurd rfl h
  | cons a r ih =>
    cases r with
    | nil => simp [joinL]
    | cons b r => simp only [List.cons_append, joinL] at ih ⊢; rw [ih (by simp)]; simp

/-- What the kids of a form are called, each with its text. -/
def zipL : List ByteArray → List (List UInt8) → List (List UInt8)
  | a :: r, x :: s => (a.data.toList ++ 58 :: x) :: zipL r s
  | _, _ => []

/-- How long it is at most: a part at most 82 bytes. -/
def lenL (l : List (List UInt8)) : Nat := sumL (fun x => x.length + 10) l

theorem joinL_len (l : List (List UInt8)) : (joinL l).length ≤ lenL l := by
  induction l with
  | nil => simp [joinL]
  | cons a r ih =>
    cases r with
    | nil => simp [joinL, lenL, sumL]
    | cons b r => simp only [joinL, lenL, sumL, List.length_append, List.length_cons] at ih ⊢; omega

theorem zipL_len (a : List ByteArray) (l : List (List UInt8)) (h : ∀ s, s ∈ a → s.size ≤ 8) : (joinL (zipL a l)).length ≤ lenL l := by
  have key : ∀ (a : List ByteArray) (l : List (List UInt8)), (∀ s, s ∈ a → s.size ≤ 8) → (joinL (zipL a l)).length + (if (zipL a l).isEmpty then 0 else 1) ≤ lenL l := by
    intro a
    induction a with
    | nil => intro l _; simp [zipL, joinL]
    | cons s r ih =>
      intro l h
      cases l with
      | nil => simp [zipL, joinL]
      | cons x t =>
        have hs : s.size ≤ 8 := h s (List.mem_cons_self ..)
        have hs' : s.data.toList.length ≤ 8 := by simpa using hs
        have := ih t (fun u hu => h u (List.mem_cons_of_mem _ hu))
        simp only [zipL, lenL, sumL] at this ⊢
        cases hz : zipL r t with
        | nil => simp [joinL]; rw [hz] at this; simp [joinL] at this; simp at hs'; omega
        | cons y z =>
          rw [hz] at this
          simp only [joinL, List.length_append, List.length_cons] at this ⊢
          simp at this ⊢
          simp at hs'
          omega
  have := key a l h
  omega

theorem sumL_le {α : Type} (f g : α → Nat) (l : List α) (h : ∀ x, x ∈ l → f x ≤ g x) : sumL f l ≤ sumL g l := by
  induction l with
  | nil => simp [sumL]
  | cons a r ih =>
    have h1 := h a (List.mem_cons_self ..)
    have h2 := ih (fun x hx => h x (List.mem_cons_of_mem _ hx))
    simp only [sumL]; omega

theorem sumL_map {α β : Type} (f : β → Nat) (g : α → β) (l : List α) : sumL f (l.map g) = sumL (fun x => f (g x)) l := by
  induction l with
  | nil => rfl
  | cons a r ih => simp only [List.map_cons, sumL, ih]

theorem sumL_mul {α : Type} (c : Nat) (f : α → Nat) (l : List α) : sumL (fun x => c * f x) l = c * sumL f l := by
  induction l with
  | nil => simp [sumL]
  | cons a r ih => simp only [sumL, ih, Nat.mul_add]

theorem riseB_names (l : List ByteArray) (h : riseB l = true) : ∀ s, s ∈ l → s.size ≤ 8 := by
  intro s hs
  obtain ⟨i, hi, rfl⟩ := List.getElem_of_mem hs
  unfold riseB riseTo at h
  have := List.all_eq_true.1 h i (List.mem_range.2 hi)
  simp only [riseAt, Bool.and_eq_true, nameB, decide_eq_true_eq] at this
  have h2 := this.1.1.1.2
  simpa [List.getD, hi] using h2

theorem joinL_take_len (l : List (List UInt8)) (k : Nat) : (joinL (l.take k)).length ≤ (joinL l).length := by
  induction l generalizing k with
  | nil => simp [joinL]
  | cons a r ih =>
    cases k with
    | zero => simp [joinL]
    | succ k =>
      rw [List.take_succ_cons]
      cases r with
      | nil => simp [joinL]
      | cons b r =>
        cases k with
        | zero => simp [joinL]
        | succ k =>
          have := ih (k + 1)
          rw [List.take_succ_cons] at this ⊢
          simp only [joinL, List.length_append, List.length_cons] at this ⊢
          omega

theorem joinL_one (x : List UInt8) : joinL [x] = x := rfl

theorem joinL_take_succ (l : List (List UInt8)) (k : Nat) (h : k < l.length) : joinL (l.take (k + 1)) = (if k = 0 then [] else joinL (l.take k) ++ [44]) ++ l[k] := by
  rw [List.take_succ_eq_append_getElem h]
  by_cases hk : k = 0
  · subst hk; simp [joinL]
  · rw [if_neg hk, joinL_snoc _ _ (by intro e; have := congrArg List.length e; rw [List.length_take, List.length_nil] at this; omega)]; simp

theorem zipL_length (a : List ByteArray) (l : List (List UInt8)) (h : a.length = l.length) : (zipL a l).length = l.length := by
  induction a generalizing l with
  | nil => cases l with
    | nil => rfl
    | cons x r => simp at h
  | cons s r ih => cases l with
    | nil => simp at h
    | cons x t => simp only [zipL, List.length_cons] at h ⊢; rw [ih t (by omega)]

theorem zipL_get (a : List ByteArray) (l : List (List UInt8)) (k : Nat) (h1 : k < a.length) (h2 : k < l.length) (h3 : k < (zipL a l).length) : (zipL a l)[k] = a[k].data.toList ++ 58 :: l[k] := by
  induction a generalizing l k with
  | nil => simp at h1
  | cons s r ih => cases l with
    | nil => simp at h2
    | cons x t => cases k with
      | zero => rfl
      | succ k =>
        simp only [zipL, List.getElem_cons_succ]
        exact ih t k (by simpa using h1) (by simpa using h2) (by simpa [zipL] using h3)

end Go.Proofs.YtjnhklacadbpoaaGreatDoor

/-
  Small facts on what a call returns.
-/
namespace Go.Proofs.YtjnhklacadbpoaaGreatDoor
open Go.RowKit

theorem ret_int {k : IntKind} {a b : Int} (h : a = b) : Ending.returned (.int k a) = .returned (.int k b) := by rw [h]
theorem str_ret {a b : ByteArray} (h : a = b) : Ending.returned (.string a) = .returned (.string b) := by rw [h]

end Go.Proofs.YtjnhklacadbpoaaGreatDoor

/-
  Plain mathematics of schemas: a schema of depth at most n, its size, its parts, when it is ok. No program stands behind this text.
-/
namespace Go.Proofs.YtjnhklacadbpoaaGreatDoor
open Go.RowKit

/-- One node of a schema, its kids of whatever make. -/
structure Kd (α : Type) where
  sort : Int
  names : List ByteArray
  kids : List α

/-- Schemas of at most n levels. -/
def K : Nat → Type
  | 0 => Empty
  | n + 1 => Kd (K n)

/-- What the measure of a schema counts. -/
def szK : (n : Nat) → K n → Nat
  | 0, _ => 0
  | n + 1, t => szN (Kd.names t) + sumL (fun k => szK n k + 1) (Kd.kids t)

def cntK : (n : Nat) → K n → Nat
  | 0, _ => 0
  | n + 1, t => 1 + sumL (fun k => cntK n k) (Kd.kids t)

/-- A node is ok, but for its kids. -/
def aloneKF (s : Int) (l : List ByteArray) (kl : Nat) : Bool :=
  if s = 1 then ((l.length : Int) == 0) && ((kl : Int) == 0)
  else if s = 2 then ((l.length : Int) == 0) && ((kl : Int) == 0)
  else if s = 3 then ((l.length : Int) == 0) && ((kl : Int) == 0)
  else if s = 4 then ((l.length : Int) == 0) && ((kl : Int) == 1)
  else if s = 5 then ((l.length : Int) == (kl : Int)) && riseB l
  else if s = 6 then ((l.length : Int) == 0) && ((kl : Int) == 1)
  else false

def aloneK {α : Type} (t : Kd α) : Bool := aloneKF t.sort t.names t.kids.length

/-- All nodes of a schema are ok by themselves and it is at most so deep. -/
def goodK : (n : Nat) → K n → Int → Bool
  | 0, _, _ => false
  | n + 1, t, d => decide (d ≤ 6) && aloneK (show Kd (K n) from t) && (Kd.kids t).all (fun k => goodK n k (d + 1))

/-- A schema is ok. -/
def okK (n : Nat) (t : K n) : Bool := goodK n t 1 && decide (cntK n t ≤ 40)

theorem cntK_pos : ∀ (n : Nat) (t : K n) (d : Int), goodK n t d = true → 1 ≤ cntK n t := by
  intro n t d h
  cases n with
  | zero => simp [goodK] at h
  | succ n => simp only [cntK]; omega

/-- What l2Parts answers. -/
def partsK (n : Nat) (t : K n) (d : Int) : Int := if goodK n t d = true ∧ cntK n t ≤ 40 then (cntK n t : Int) else -1

theorem partsK_no (n : Nat) (t : K (n + 1)) (d : Int) (h : (decide (d ≤ 6) && aloneK (show Kd (K n) from t)) = false) : partsK (n + 1) t d = -1 := by
  unfold partsK; rw [if_neg]; rintro ⟨h1, -⟩; simp only [goodK, h, Bool.false_and] at h1; cases h1

theorem partsK_kid (n : Nat) (t : K (n + 1)) (d : Int) (k : Nat) (hk : k < (Kd.kids t).length) (h : partsK n (Kd.kids t)[k] (d + 1) < 0) : partsK (n + 1) t d = -1 := by
  unfold partsK; rw [if_neg]
  rintro ⟨h1, h2⟩
  simp only [goodK, Bool.and_eq_true, List.all_eq_true] at h1
  have hg := h1.2 _ (List.getElem_mem hk)
  have hc := sumL_mono (fun k => cntK n k) (Kd.kids t) _ (List.getElem_mem hk)
  simp only [cntK] at h2
  unfold partsK at h
  rw [if_pos ⟨hg, by omega⟩] at h
  omega

theorem partsK_many (n : Nat) (t : K (n + 1)) (d : Int) (k : Nat) (h : 40 < 1 + sumL (fun k => cntK n k) ((Kd.kids t).take k)) : partsK (n + 1) t d = -1 := by
  unfold partsK; rw [if_neg]
  rintro ⟨-, h2⟩
  have := sumL_append (fun k => cntK n k) ((Kd.kids t).take k) ((Kd.kids t).drop k)
  rw [List.take_append_drop] at this
  simp only [cntK] at h2
  omega

theorem partsK_yes (n : Nat) (t : K (n + 1)) (d : Int) (h : (decide (d ≤ 6) && aloneK (show Kd (K n) from t)) = true) (hall : (Kd.kids t).all (fun k => goodK n k (d + 1)) = true) (hs : 1 + sumL (fun k => cntK n k) (Kd.kids t) ≤ 40) :
    partsK (n + 1) t d = 1 + (sumL (fun k => cntK n k) (Kd.kids t) : Int) := by
  unfold partsK; rw [if_pos]
  · simp only [cntK]; omega
  · exact ⟨by simp only [goodK, h, hall, Bool.and_self], by simp only [cntK]; omega⟩

theorem partsK_get (n : Nat) (t : K n) (d : Int) (h : 0 ≤ partsK n t d) : partsK n t d = cntK n t ∧ goodK n t d = true ∧ cntK n t ≤ 40 := by
  unfold partsK at h ⊢
  by_cases hc : goodK n t d = true ∧ cntK n t ≤ 40
  · rw [if_pos hc]; exact ⟨rfl, hc⟩
  · rw [if_neg hc] at h; omega

theorem partsK_le (n : Nat) (t : K n) (d : Int) : -1 ≤ partsK n t d ∧ partsK n t d ≤ 40 := by
  unfold partsK; split <;> omega

theorem okK_eq (n : Nat) (t : K n) : decide (0 < partsK n t 1) = okK n t := by
  unfold partsK okK
  by_cases hc : goodK n t 1 = true ∧ cntK n t ≤ 40
  · rw [if_pos hc, hc.1]
    have := cntK_pos n t 1 hc.1
    simp [hc.2]; omega
  · rw [if_neg hc]
    cases hg : goodK n t 1 with
    | false => simp
    | true => simp [hg] at hc; simp; omega

theorem all_take_kidK {α : Type} {p : α → Bool} {l : List α} (k : Nat) (h : k < l.length) (ht : (l.take k).all p = true) (hf : p l[k] = true) : (l.take (k + 1)).all p = true := by
  rw [List.take_succ_eq_append_getElem h, List.all_append, ht]; simpa using hf

end Go.Proofs.YtjnhklacadbpoaaGreatDoor

/-
  The measure of the laws: what szStringS, szTreeS and szTree answer.
-/
namespace Go.Proofs.YtjnhklacadbpoaaGreatDoor
open Go.RowKit


/-- what is left behind the first k names -/
def leftN (l : List ByteArray) (k : Nat) (left : Int) : Int := left - l.length - sumL (fun s : ByteArray => s.size) (l.take k)

theorem szN_eq (l : List ByteArray) : szN l = l.length + sumL (fun s : ByteArray => s.size) l := by
  induction l with
  | nil => rfl
  | cons x r ih => simp only [szN, sumL, List.length_cons, ih]; omega

/-- what is left behind the first k kids -/
def leftK {α : Type} (f : α → Nat) (l : List α) (k : Nat) (left : Int) : Int := leftB (l.length + sumL f (l.take k)) left

theorem sumL_one {α : Type} (f : α → Nat) (l : List α) : sumL (fun k => f k + 1) l = l.length + sumL f l := by
  induction l with
  | nil => rfl
  | cons x r ih => simp only [sumL, List.length_cons, ih]; omega

theorem leftK_succ {α : Type} (f : α → Nat) (l : List α) (k : Nat) (left : Int) (h : k < l.length) : leftK f l (k + 1) left = leftB (f l[k]) (leftK f l k left) := by
  unfold leftK; rw [leftB_add, sumL_take_succ _ _ _ h]; congr 1; omega

end Go.Proofs.YtjnhklacadbpoaaGreatDoor

/-
  The program's own functions on names: what they answer.
-/
namespace Go.Proofs.YtjnhklacadbpoaaGreatDoor
open Go.RowKit

theorem bool_ret {a b : Bool} (h : a = b) : Ending.returned (.bool a) = .returned (.bool b) := by rw [h]

def digB (n : Int) : Bool := decide (48 ≤ n ∧ n ≤ 57)

set_option maxHeartbeats 400000 in
theorem isDigit_any (x : Int) (w : World) (_h0 : 0 ≤ x) (_h1 : x ≤ 255) : Calls Tryz.prog 92 #[.int .u8 x] w fun e w' => e = .returned (.bool (digB x)) ∧ w' = w := by
  by_cases h : 48 ≤ x <;> by_cases h2 : x ≤ 57
  all_goals
    go_enter Tryz.func92, Tryz.ntmps92
    go_wp2
    go_ret
    exact ⟨bool_ret (by simp [digB, h, h2]; try omega), rfl⟩

theorem head_eq (s : ByteArray) (h : 0 < s.size) : s.data.toList.headD 0 = s[0] := by
  cases hx : s.data.toList with
  | nil => have := congrArg List.length hx; simp at this; simp [this] at h
  | cons a r => simp [ByteArray.getElem_eq_getElem_data, ← Array.getElem_toList, hx]

theorem nmByte_dig (c : UInt8) (h : nmByte c = true) : upByte c = !digB c.toNat := by
  unfold nmByte at h
  rw [decide_eq_true_eq] at h
  unfold upByte digB
  rcases h with h | h
  · rw [decide_eq_true h, decide_eq_false (by omega)]; rfl
  · rw [decide_eq_false (by omega), decide_eq_true h]; rfl

/-- A name, as the program asks it: no digit ahead. -/
theorem nameB_eq (s : ByteArray) (h1 : 1 ≤ s.size) (h2 : s.size ≤ 8) : nameB s = (!digB (s[0].toNat : Int) && s.data.toList.all nmByte) := by
  unfold nameB
  rw [head_eq s (by omega)]
  cases hall : s.data.toList.all nmByte with
  | false => simp
  | true =>
    have h0 : nmByte s[0] = true := List.all_eq_true.1 hall _ (by simp [ByteArray.getElem_eq_getElem_data])
    rw [nmByte_dig _ h0]; simp [h1, h2]

set_option maxHeartbeats 400000 in
theorem isName_any (s : ByteArray) (w : World) (hs : s.size ≤ maxLen) : Calls Tryz.prog 90 #[.string s] w fun e w' => e = .returned (.bool (nameB s)) ∧ w' = w := by
  unfold maxLen at hs
  by_cases hl : 1 ≤ s.size ∧ s.size ≤ 8
  · obtain ⟨hl1, hl2⟩ := hl
    have HN : Hid (nameB s = (!digB (s[0].toNat : Int) && s.data.toList.all nmByte)) := nameB_eq s hl1 hl2
    have hu0 : ∀ k (h : k < s.size), (s[k].toNat : Int) ≤ 255 := fun k h => by have := s[k].toNat_lt; omega
    have hu00 := hu0 0 (by omega)
    cases hd : digB (s[0].toNat : Int) with
    | true =>
      have HF : Hid (nameB s = false) := by show _ = _; rw [HN.out, hd]; simp
      clear hu0
      go_enter Tryz.func90, Tryz.ntmps90
      go_wp2_with fail
      refine (isDigit_any _ _ (by omega) hu00).mono ?_
      rintro e w' ⟨rfl, rfl⟩
      rw [hd]
      go_wp2_with fail
      go_ret
      exact ⟨bool_ret HF.out.symm, rfl⟩
    | false =>
      have HD : Hid (digB (s[0].toNat : Int) = false) := hd
      have HU : Hid (∀ k (h : k < s.size), (s[k].toNat : Int) ≤ 255) := hu0
      clear hu0 hd
      go_enter Tryz.func90, Tryz.ntmps90
      go_wp2_with fail
      refine (isDigit_any _ _ (by omega) hu00).mono ?_
      rintro e w' ⟨rfl, rfl⟩
      rw [HD.out]
      go_wp2_with fail
      go_loop [19] (fun i => ∃ k : Nat, k ≤ s.size ∧ i = .int .i64 k ∧ (s.data.toList.take k).all nmByte = true) (fun i => s.size - (intOf i).toNat)
      case atStart => exact ⟨0, Nat.zero_le _, rfl, by simp⟩
      case round =>
        obtain ⟨k, hk, rfl, hall⟩ := hrel
        have HA : Hid ((s.data.toList.take k).all nmByte = true) := hall
        clear hall
        by_cases hlt : k < s.size
        · have huk := HU.out k hlt
          have HDig : Hid (digB (s[k].toNat : Int) = decide (48 ≤ (s[k].toNat : Int) ∧ (s[k].toNat : Int) ≤ 57)) := rfl
          cases hb : nmByte s[k] with
          | true =>
            have HB : Hid (nmByte s[k] = true) := hb
            unfold nmByte at hb
            rw [decide_eq_true_eq] at hb
            rcases hb with ⟨h1, h2⟩ | ⟨h1, h2⟩
            · have hdk : digB (s[k].toNat : Int) = false := by rw [HDig.out]; exact decide_eq_false (by omega)
              go_wp2_with (go_at_call 92; refine (isDigit_any _ _ (by omega) huk).mono ?_; rintro e w' ⟨rfl, rfl⟩; rw [hdk])
              go_round
              case rel => exact ⟨k + 1, by omega, by go_num, all_take_succ k hlt HA.out HB.out⟩
              case measure => simp [intOf]; omega
            · have hdk : digB (s[k].toNat : Int) = true := by rw [HDig.out]; exact decide_eq_true ⟨by omega, by omega⟩
              go_wp2_with (go_at_call 92; refine (isDigit_any _ _ (by omega) huk).mono ?_; rintro e w' ⟨rfl, rfl⟩; rw [hdk])
              go_round
              case rel => exact ⟨k + 1, by omega, by go_num, all_take_succ k hlt HA.out HB.out⟩
              case measure => simp [intOf]; omega
          | false =>
            have HF : Hid (nameB s = false) := by show _ = _; rw [nameB, all_false_at k hlt hb]; simp
            unfold nmByte at hb
            rw [decide_eq_false_iff_not] at hb
            have hdk : digB (s[k].toNat : Int) = false := by rw [HDig.out]; exact decide_eq_false (by omega)
            rcases (show (s[k].toNat : Int) < 97 ∨ 122 < (s[k].toNat : Int) by omega) with h1 | h1
            all_goals
              clear hb
              go_wp2_with (go_at_call 92; refine (isDigit_any _ _ (by omega) huk).mono ?_; rintro e w' ⟨rfl, rfl⟩; rw [hdk])
              go_ret
              exact ⟨bool_ret HF.out.symm, rfl⟩
        · have HF : Hid (nameB s = true) := by show _ = _; rw [HN.out, HD.out, all_take_all k (by omega) HA.out]; simp
          go_wp2_with fail
          go_ret
          exact ⟨bool_ret HF.out.symm, rfl⟩
  · have HF : Hid (nameB s = false) := by show _ = _; rw [nameB, decide_eq_false hl]; simp
    rcases (show s.size < 1 ∨ 8 < s.size by omega) with h1 | h1
    all_goals
      clear hl
      go_enter Tryz.func90, Tryz.ntmps90
      go_wp2_with fail
      go_ret
      exact ⟨bool_ret HF.out.symm, rfl⟩

end Go.Proofs.YtjnhklacadbpoaaGreatDoor

/-
  What the program's type switches over its inner trees answer.
-/
namespace Go.Proofs.YtjnhklacadbpoaaGreatDoor
open Go.RowKit

theorem Tryz.yes_num (x : Value) (w : World) : (Instr.typeAssert (.iface 75 x) 42 75 true).run Tryz.prog w = .ok (.tuple #[x, .bool true]) w := by kernel_rfl
theorem Tryz.no_num_text (x : Value) (w : World) : (Instr.typeAssert (.iface 77 x) 42 75 true).run Tryz.prog w = .ok (.tuple #[.int .i64 0, .bool false]) w := by kernel_rfl
theorem Tryz.yes_text (x : Value) (w : World) : (Instr.typeAssert (.iface 77 x) 42 77 true).run Tryz.prog w = .ok (.tuple #[x, .bool true]) w := by kernel_rfl
theorem Tryz.no_num_flag (x : Value) (w : World) : (Instr.typeAssert (.iface 78 x) 42 75 true).run Tryz.prog w = .ok (.tuple #[.int .i64 0, .bool false]) w := by kernel_rfl
theorem Tryz.no_text_flag (x : Value) (w : World) : (Instr.typeAssert (.iface 78 x) 42 77 true).run Tryz.prog w = .ok (.tuple #[.string ByteArray.empty, .bool false]) w := by kernel_rfl
theorem Tryz.yes_flag (x : Value) (w : World) : (Instr.typeAssert (.iface 78 x) 42 78 true).run Tryz.prog w = .ok (.tuple #[x, .bool true]) w := by kernel_rfl
theorem Tryz.no_num_list (x : Value) (w : World) : (Instr.typeAssert (.iface 81 x) 42 75 true).run Tryz.prog w = .ok (.tuple #[.int .i64 0, .bool false]) w := by kernel_rfl
theorem Tryz.no_text_list (x : Value) (w : World) : (Instr.typeAssert (.iface 81 x) 42 77 true).run Tryz.prog w = .ok (.tuple #[.string ByteArray.empty, .bool false]) w := by kernel_rfl
theorem Tryz.no_flag_list (x : Value) (w : World) : (Instr.typeAssert (.iface 81 x) 42 78 true).run Tryz.prog w = .ok (.tuple #[.bool false, .bool false]) w := by kernel_rfl
theorem Tryz.yes_list (x : Value) (w : World) : (Instr.typeAssert (.iface 81 x) 42 81 true).run Tryz.prog w = .ok (.tuple #[x, .bool true]) w := by kernel_rfl
theorem Tryz.no_num_form (x : Value) (w : World) : (Instr.typeAssert (.iface 84 x) 42 75 true).run Tryz.prog w = .ok (.tuple #[.int .i64 0, .bool false]) w := by kernel_rfl
theorem Tryz.no_text_form (x : Value) (w : World) : (Instr.typeAssert (.iface 84 x) 42 77 true).run Tryz.prog w = .ok (.tuple #[.string ByteArray.empty, .bool false]) w := by kernel_rfl
theorem Tryz.no_flag_form (x : Value) (w : World) : (Instr.typeAssert (.iface 84 x) 42 78 true).run Tryz.prog w = .ok (.tuple #[.bool false, .bool false]) w := by kernel_rfl
theorem Tryz.no_list_form (x : Value) (w : World) : (Instr.typeAssert (.iface 84 x) 42 81 true).run Tryz.prog w = .ok (.tuple #[.slice none 0 0, .bool false]) w := by kernel_rfl
theorem Tryz.yes_form (x : Value) (w : World) : (Instr.typeAssert (.iface 84 x) 42 84 true).run Tryz.prog w = .ok (.tuple #[x, .bool true]) w := by kernel_rfl
theorem Tryz.no_num_maybe (x : Value) (w : World) : (Instr.typeAssert (.iface 86 x) 42 75 true).run Tryz.prog w = .ok (.tuple #[.int .i64 0, .bool false]) w := by kernel_rfl
theorem Tryz.no_text_maybe (x : Value) (w : World) : (Instr.typeAssert (.iface 86 x) 42 77 true).run Tryz.prog w = .ok (.tuple #[.string ByteArray.empty, .bool false]) w := by kernel_rfl
theorem Tryz.no_flag_maybe (x : Value) (w : World) : (Instr.typeAssert (.iface 86 x) 42 78 true).run Tryz.prog w = .ok (.tuple #[.bool false, .bool false]) w := by kernel_rfl
theorem Tryz.no_list_maybe (x : Value) (w : World) : (Instr.typeAssert (.iface 86 x) 42 81 true).run Tryz.prog w = .ok (.tuple #[.slice none 0 0, .bool false]) w := by kernel_rfl
theorem Tryz.no_form_maybe (x : Value) (w : World) : (Instr.typeAssert (.iface 86 x) 42 84 true).run Tryz.prog w = .ok (.tuple #[.agg #[.slice none 0 0, .slice none 0 0], .bool false]) w := by kernel_rfl
theorem Tryz.yes_maybe (x : Value) (w : World) : (Instr.typeAssert (.iface 86 x) 42 86 true).run Tryz.prog w = .ok (.tuple #[x, .bool true]) w := by kernel_rfl

end Go.Proofs.YtjnhklacadbpoaaGreatDoor

/-
  The copies that the laws make: what toStringS, toTreeS and toTree answer.
-/
namespace Go.Proofs.YtjnhklacadbpoaaGreatDoor
open Go.RowKit

theorem Tryz.info_str : (Tryz.prog.info? 9).map (fun i => (i.zero, i.size, i.bytes)) = some (some (.string ByteArray.empty), 1, 16) := by kernel_rfl
theorem Tryz.info_tree : (Tryz.prog.info? 26).map (fun i => (i.zero, i.size, i.bytes)) = some (some (.agg #[.int .i64 0, .int .i64 0, .string ByteArray.empty, .slice none 0 0, .slice none 0 0]), 5, 80) := by kernel_rfl

theorem make_trees (n : Nat) (hn : n ≤ 1048576) (w : World) : (Instr.makeSlice 24 (.int .i64 (n : Int)) (.int .i64 (n : Int))).run Tryz.prog w =
    .ok (.slice (some ⟨w.heap.size, 0, none⟩) n n) (w.alloc (.cells (madeCells #[.int .i64 0, .int .i64 0, .string ByteArray.empty, .slice none 0 0, .slice none 0 0] (n * 5)) 26)) := by
  obtain ⟨i0, hi, hz0, hz1, hz2⟩ := info_parts Tryz.info_tree
  have := run_make (P := Tryz.prog) w 24 26 i0 _ Tryz.underlying24 hi hz0 .i64 .i64 (n : Int) (n : Int) (by omega) (by omega) (by rw [hz2]; omega) (by omega)
  rw [hz1] at this
  simpa [Value.cells] using this

end Go.Proofs.YtjnhklacadbpoaaGreatDoor
