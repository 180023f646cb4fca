/-
  Several texts in one, in their order.
-/
import Derived.Test.YtpnnbdejneoccaaB1
import Derived.Test.YtpnnbdejneoccaaB5

/-
  Plain mathematics: the bytes of events.
-/
namespace Go.Proofs.Ytpnnbdejneoccaa
open Go.RowKit

/-- A byte of a number. -/
def b8 (i : Int) : UInt8 := UInt8.ofNat (i % 256).toNat

/-- A short text, its length ahead. -/
def shortB (x : ByteArray) : List UInt8 := b8 x.size :: x.data.toList

/-- A number by sevens of bits, the lowest first. -/
def num7 : Nat → Int → List UInt8
  | 0, n => [b8 n]
  | f + 1, n => if n < 128 then [b8 n] else b8 (n % 128 + 128) :: num7 f (n / 128)

def numB (v : Int) : List UInt8 := (if v < 0 then 1 else 0) :: num7 5 (if v < 0 then -v else v)

/-- The bytes of each kid, its name ahead if there is one. -/
def partsP {α : Type} (f : α → List UInt8) (s : Int) (ns : List ByteArray) (ks : List α) : List (List UInt8) :=
  if s = 5 then List.zipWith (fun x k => shortB x ++ f k) ns ks else ks.map f

/-- The bytes of a tree. -/
def packT : (n : Nat) → T n → List UInt8
  | 0, _ => []
  | n + 1, t =>
    if Nd.sort t = 1 then b8 (Nd.sort t) :: numB (Nd.num t)
    else if Nd.sort t = 2 then b8 (Nd.sort t) :: shortB (Nd.text t)
    else if Nd.sort t = 3 then [b8 (Nd.sort t), b8 (Nd.num t)]
    else b8 (Nd.sort t) :: b8 (Nd.kids t).length :: (partsP (packT n) (Nd.sort t) (Nd.names t) (Nd.kids t)).flatten

/-- The bytes of an event. -/
def packE (n : Nat) (x : ByteArray) (v : Int) (t : T n) : List UInt8 := shortB x ++ b8 v :: packT n t

theorem num7_len : ∀ (f : Nat) (n : Int), 1 ≤ (num7 f n).length ∧ (num7 f n).length ≤ f + 1 := by
  intro f
  induction f with
  | zero => intro n; simp [num7]
  | succ f ih =>
    intro n
    unfold num7
    by_cases h : n < 128
    · rw [if_pos h]; simp
    · rw [if_neg h]; have := ih (n / 128); simp; omega

theorem numB_len (v : Int) : 2 ≤ (numB v).length ∧ (numB v).length ≤ 7 := by
  unfold numB; have := num7_len 5 (if v < 0 then -v else v); simp; omega

theorem shortB_len (x : ByteArray) : (shortB x).length = x.size + 1 := by simp [shortB]

theorem flat_le {l : List (List UInt8)} {β : Type} (ks : List β) (f : β → Nat) (hl : l.length = ks.length) (h : ∀ i (h1 : i < l.length) (h2 : i < ks.length), l[i].length ≤ f ks[i]) : l.flatten.length ≤ sumL f ks := by
  induction ks generalizing l with
  | nil =>
    have : l = [] := List.eq_nil_of_length_eq_zero (by simpa using hl)
    subst this
    simp [sumL]
  | cons k ks ih =>
    cases l with
    | nil => simp at hl
    | cons a l =>
      have h0 := h 0 (by simp) (by simp)
      simp only [List.getElem_cons_zero] at h0
      have := ih (l := l) (by simpa using hl) (fun i h1 h2 => by have := h (i + 1) (by simpa using h1) (by simpa using h2); simpa using this)
      simp only [List.flatten_cons, List.length_append, sumL]
      omega

theorem sumL_mul71 {β : Type} (f : β → Nat) : ∀ ks : List β, sumL (fun k => 71 * f k) ks = 71 * sumL f ks := by
  intro ks
  induction ks with
  | nil => rfl
  | cons k ks ih => simp only [sumL, ih]; omega

theorem packT_len : ∀ (n : Nat) (t : T n) (d : Int), goodT n t d = true → 2 ≤ (packT n t).length ∧ (packT n t).length + 9 ≤ 71 * cntT n t := by
  intro n
  induction n with
  | zero => intro t d h; exact absurd h (by simp [goodT])
  | succ n ih =>
    intro t d h
    simp only [goodT, Bool.and_eq_true, List.all_eq_true] at h
    obtain ⟨⟨-, ha⟩, hk⟩ := h
    have hc : cntT (n + 1) t = 1 + sumL (fun k => cntT n k) (Nd.kids t) := rfl
    have ha' : aloneF (Nd.sort t) (Nd.num t) (Nd.text t) (Nd.names t) (Nd.kids t).length = true := ha
    unfold aloneF at ha'
    unfold packT
    by_cases h1 : Nd.sort t = 1
    · rw [if_pos h1]; have := numB_len (Nd.num t); simp; omega
    rw [if_neg h1]; rw [if_neg h1] at ha'
    by_cases h2 : Nd.sort t = 2
    · rw [if_pos h2]; rw [if_pos h2] at ha'
      have ht : (Nd.text t).size ≤ 60 := by simp [textB] at ha'; omega
      have := shortB_len (Nd.text t); simp; omega
    rw [if_neg h2]; rw [if_neg h2] at ha'
    by_cases h3 : Nd.sort t = 3
    · rw [if_pos h3]; simp; omega
    rw [if_neg h3]; rw [if_neg h3] at ha'
    have hfl : (partsP (packT n) (Nd.sort t) (Nd.names t) (Nd.kids t)).flatten.length ≤ 71 * sumL (fun k => cntT n k) (Nd.kids t) := by
      rw [← sumL_mul71]
      by_cases h5 : Nd.sort t = 5
      · have hx : (Nd.names t).length = (Nd.kids t).length ∧ riseB (Nd.names t) = true := by
          rw [if_neg (by omega), if_pos h5] at ha'
          simp at ha'
          exact ⟨by omega, ha'.2⟩
        unfold partsP
        rw [if_pos h5]
        refine flat_le _ _ (by rw [List.length_zipWith]; omega) (fun i i1 i2 => ?_)
        rw [List.getElem_zipWith, List.length_append, shortB_len]
        have := (ih (Nd.kids t)[i] (d + 1) (hk _ (List.getElem_mem i2))).2
        have := riseB_names _ hx.2 (Nd.names t)[i] (List.getElem_mem _)
        omega
      · unfold partsP
        rw [if_neg h5]
        refine flat_le _ _ (by rw [List.length_map]) (fun i i1 i2 => ?_)
        rw [List.getElem_map]
        have := (ih (Nd.kids t)[i] (d + 1) (hk _ (List.getElem_mem i2))).2
        omega
    simp only [List.length_cons]
    omega

end Go.Proofs.Ytpnnbdejneoccaa

/-
  The program's own function on a form's names: areFormNames.
-/
namespace Go.Proofs.Ytpnnbdejneoccaa
open Go.RowKit

set_option maxHeartbeats 1000000 in
theorem areFormNames_any (S : Nat → Prop) (l : List ByteArray) (v : Value) (w : World) (hl : StrsIn S w l v) :
    Calls Try.prog 79 #[v] w fun e w' => e = .returned (.bool (riseB l)) ∧ w' = w := by
  obtain ⟨ao, cap, rfl, hlen, hs, hc⟩ := hl
  unfold maxLen at hlen
  go_enter Try.func79, Try.ntmps79
  go_wp2_with fail
  go_loop [7] (fun i => ∃ k : Nat, k ≤ l.length ∧ i = .int .i64 k ∧ riseTo l k = true) (fun i => l.length - (intOf i).toNat)
  case atStart => exact ⟨0, Nat.zero_le _, rfl, by simp [riseTo]⟩
  case round =>
    obtain ⟨k, hk, rfl, hall⟩ := hrel
    have HA : Hid (riseTo l k = true) := hall
    clear hall
    by_cases hlt : k < l.length
    · obtain ⟨b, off, rfl, hbB, hcell⟩ := hc (by intro h; rw [h] at hlt; simp at hlt)
      have f0 := hcell k hlt
      have hsk := hs l[k] (List.getElem_mem hlt)
      have hgk : l.getD k ByteArray.empty = l[k] := by simp [List.getD, hlt]
      cases hnm : nameB l[k] with
      | false =>
        have HF : Hid (riseB l = false) := riseTo_false l k hlt (by simp only [riseAt, hgk, hnm, Bool.false_and])
        have HC : Hid (∀ w, Calls Try.prog 43 #[.string l[k]] w fun e w' => e = .returned (.bool false) ∧ w' = w) := fun w => by rw [← hnm]; exact isName_any _ w hsk
        clear hc hs hcell hgk hnm
        generalize l[k] = s at *
        go_wp2_with (go_at_call 43; refine (HC.out _).mono ?_; rintro e w' ⟨rfl, rfl⟩)
        go_ret
        exact ⟨bool_ret HF.out.symm, rfl⟩
      | true =>
        have HC : Hid (∀ w, Calls Try.prog 43 #[.string l[k]] w fun e w' => e = .returned (.bool true) ∧ w' = w) := fun w => by rw [← hnm]; exact isName_any _ w hsk
        rcases Nat.eq_zero_or_pos k with rfl | hkp
        · have HR : Hid (riseTo l (0 + 1) = true) := by show _ = _; rw [riseTo_succ, HA.out, riseAt, hgk, hnm]; rfl
          clear hc hs hcell hgk hnm
          rw [Nat.add_zero] at f0
          generalize l[0] = s at *
          go_wp2_with (go_at_call 43; refine (HC.out _).mono ?_; rintro e w' ⟨rfl, rfl⟩)
          go_round
          case rel => exact ⟨0 + 1, by omega, by go_num, HR.out⟩
          case measure => simp [intOf]; omega
        · obtain ⟨j, rfl⟩ : ∃ j, k = j + 1 := ⟨k - 1, by omega⟩
          have f1 := hcell j (by omega)
          have hgj : l.getD j ByteArray.empty = l[j] := by simp [List.getD, show j < l.length by omega]
          cases hlt' : ltB l[j] l[j + 1] with
          | false =>
            have HF : Hid (riseB l = false) := riseTo_false l (j + 1) hlt (by simp only [riseAt, hgk, Nat.add_sub_cancel, hgj, hlt']; simp)
            unfold ltB at hlt'
            clear hc hs hcell hgk hgj hnm
            generalize l[j] = r at *
            generalize l[j + 1] = s at *
            go_wp2_with (go_at_call 43; refine (HC.out _).mono ?_; rintro e w' ⟨rfl, rfl⟩)
            go_ret
            exact ⟨bool_ret HF.out.symm, rfl⟩
          | true =>
            have HR : Hid (riseTo l (j + 1 + 1) = true) := by show _ = _; rw [riseTo_succ, HA.out, riseAt, hgk, hnm, Nat.add_sub_cancel, hgj, hlt']; simp
            unfold ltB at hlt'
            clear hc hs hcell hgk hgj hnm
            generalize l[j] = r at *
            generalize l[j + 1] = s at *
            go_wp2_with (go_at_call 43; refine (HC.out _).mono ?_; rintro e w' ⟨rfl, rfl⟩)
            go_round
            case rel => exact ⟨j + 1 + 1, by omega, by go_num, HR.out⟩
            case measure => simp [intOf]; omega
    · have HF : Hid (riseB l = true) := by show _ = _; rw [riseB, show l.length = k by omega]; exact HA.out
      clear hc hs
      go_wp2_with fail
      go_ret
      exact ⟨bool_ret HF.out.symm, rfl⟩

end Go.Proofs.Ytpnnbdejneoccaa

/-
  The program's own functions on one node: hasJustItsSort.
-/
namespace Go.Proofs.Ytpnnbdejneoccaa
open Go.RowKit

set_option maxRecDepth 100000 in
set_option maxHeartbeats 2000000 in
theorem just_1 (m : Int) (x : ByteArray) (l : List ByteArray) (ka : Option Addr) (kl kc : Nat) (w : World) (na : Option Addr) (nc : Nat) :
    Calls Try.prog 64 #[.agg #[.int .i64 1, .int .i64 m, .string x, .slice na l.length nc, .slice ka kl kc]] w fun e w' => e = .returned (.bool (decide (-999999999 ≤ m ∧ m ≤ 999999999) && x.toList.isEmpty && ((l.length : Int) == 0) && ((kl : Int) == 0))) ∧ Below w.heap.size w w' := by
  go_enter Try.func64, Try.ntmps64
  go_wp2_with (go_at_call 77; refine (isTreeNum_any _ _).mono ?_; rintro e w' ⟨rfl, rfl⟩)
  all_goals
    go_ret
    exact ⟨bool_ret (by simp_all), (Below.refl _ _).alloc (Nat.le_refl _) _⟩


set_option maxRecDepth 100000 in
set_option maxHeartbeats 2000000 in
theorem just_2 (m : Int) (x : ByteArray) (l : List ByteArray) (ka : Option Addr) (kl kc : Nat) (w : World) (na : Option Addr) (nc : Nat) (hx : x.size ≤ maxLen) :
    Calls Try.prog 64 #[.agg #[.int .i64 2, .int .i64 m, .string x, .slice na l.length nc, .slice ka kl kc]] w fun e w' => e = .returned (.bool ((m == 0) && textB x && ((l.length : Int) == 0) && ((kl : Int) == 0))) ∧ Below w.heap.size w w' := by
  go_enter Try.func64, Try.ntmps64
  go_wp2_with (go_at_call 78; refine (isTreeText_any _ _ hx).mono ?_; rintro e w' ⟨rfl, rfl⟩)
  all_goals
    go_ret
    exact ⟨bool_ret (by simp_all), (Below.refl _ _).alloc (Nat.le_refl _) _⟩


set_option maxRecDepth 100000 in
set_option maxHeartbeats 2000000 in
theorem just_3 (m : Int) (x : ByteArray) (l : List ByteArray) (ka : Option Addr) (kl kc : Nat) (w : World) (na : Option Addr) (nc : Nat) :
    Calls Try.prog 64 #[.agg #[.int .i64 3, .int .i64 m, .string x, .slice na l.length nc, .slice ka kl kc]] w fun e w' => e = .returned (.bool (decide (0 ≤ m ∧ m ≤ 1) && x.toList.isEmpty && ((l.length : Int) == 0) && ((kl : Int) == 0))) ∧ Below w.heap.size w w' := by
  by_cases h0 : m = 0
  · subst h0
    go_enter Try.func64, Try.ntmps64
    go_wp2_with fail
    all_goals
      go_ret
      exact ⟨bool_ret (by simp_all), (Below.refl _ _).alloc (Nat.le_refl _) _⟩
  by_cases h1 : m = 1
  · subst h1
    go_enter Try.func64, Try.ntmps64
    go_wp2_with fail
    all_goals
      go_ret
      exact ⟨bool_ret (by simp_all), (Below.refl _ _).alloc (Nat.le_refl _) _⟩
  have hd : decide (0 ≤ m ∧ m ≤ 1) = false := decide_eq_false (by omega)
  have hm0 : (m == 0) = false := by simpa using h0
  have hm1 : (m == 1) = false := by simpa using h1
  rw [hd]
  clear hd h0 h1
  go_enter Try.func64, Try.ntmps64
  go_wp2_with fail
  all_goals
    go_ret
    exact ⟨bool_ret (by simp_all), (Below.refl _ _).alloc (Nat.le_refl _) _⟩

set_option maxRecDepth 100000 in
set_option maxHeartbeats 2000000 in
theorem just_4 (m : Int) (x : ByteArray) (l : List ByteArray) (ka : Option Addr) (kl kc : Nat) (w : World) (na : Option Addr) (nc : Nat) :
    Calls Try.prog 64 #[.agg #[.int .i64 4, .int .i64 m, .string x, .slice na l.length nc, .slice ka kl kc]] w fun e w' => e = .returned (.bool ((m == 0) && x.toList.isEmpty && ((l.length : Int) == 0) && decide ((kl : Int) ≤ 20))) ∧ Below w.heap.size w w' := by
  go_enter Try.func64, Try.ntmps64
  go_wp2_with fail
  all_goals
    go_ret
    exact ⟨bool_ret (by simp_all), (Below.refl _ _).alloc (Nat.le_refl _) _⟩


set_option maxRecDepth 100000 in
set_option maxHeartbeats 2000000 in
theorem just_6 (m : Int) (x : ByteArray) (l : List ByteArray) (ka : Option Addr) (kl kc : Nat) (w : World) (na : Option Addr) (nc : Nat) :
    Calls Try.prog 64 #[.agg #[.int .i64 6, .int .i64 m, .string x, .slice na l.length nc, .slice ka kl kc]] w fun e w' => e = .returned (.bool ((m == 0) && x.toList.isEmpty && ((l.length : Int) == 0) && decide ((kl : Int) ≤ 1))) ∧ Below w.heap.size w w' := by
  go_enter Try.func64, Try.ntmps64
  go_wp2_with fail
  all_goals
    go_ret
    exact ⟨bool_ret (by simp_all), (Below.refl _ _).alloc (Nat.le_refl _) _⟩


end Go.Proofs.Ytpnnbdejneoccaa

/-
  The program's own functions on one node, more: hasJustItsSort at forms, at other sorts, at all.
-/
namespace Go.Proofs.Ytpnnbdejneoccaa
open Go.RowKit

set_option maxRecDepth 100000 in
set_option maxHeartbeats 2000000 in
theorem just_5 (m : Int) (x : ByteArray) (l : List ByteArray) (ka : Option Addr) (kl kc : Nat) (w : World) (na : Option Addr) (nc : Nat) (S : Nat → Prop) (hl : StrsIn S w l (.slice na l.length nc)) (hB : ∀ b, S b → b < w.heap.size) :
    Calls Try.prog 64 #[.agg #[.int .i64 5, .int .i64 m, .string x, .slice na l.length nc, .slice ka kl kc]] w fun e w' => e = .returned (.bool ((m == 0) && x.toList.isEmpty && ((l.length : Int) == (kl : Int)) && riseB l)) ∧ Below w.heap.size w w' := by
  by_cases hm : m = 0
  · subst hm
    cases hx : x.toList.isEmpty with
    | false =>
      go_enter Try.func64, Try.ntmps64
      go_wp2_with fail
      all_goals
        go_ret
        exact ⟨bool_ret (by simp_all), (Below.refl _ _).alloc (Nat.le_refl _) _⟩
    | true =>
      by_cases hk : l.length = kl
      · subst hk
        have hb0 := (Below.refl w.heap.size w).alloc (Nat.le_refl _) (.cells #[.int .i64 5, .int .i64 0, .string x, .slice na l.length nc, .slice ka l.length kc] 33)
        have hl' := hl.keep (same_below hb0 hB) (fun _ h => h)
        have HC : Hid (Calls Try.prog 79 #[.slice na l.length nc] _ _) := areFormNames_any S l _ _ hl'
        have hk : ((l.length : Int) == (l.length : Int)) = true := by simp
        clear hl hl' hB
        cases h0 : ((l.length : Int) == 0) with
        | true =>
          go_enter Try.func64, Try.ntmps64
          go_wp2_with fail
          refine HC.out.mono ?_
          rintro e w' ⟨rfl, rfl⟩
          go_wp2_with fail
          go_ret
          exact ⟨by simp, hb0⟩
        | false =>
          go_enter Try.func64, Try.ntmps64
          go_wp2_with fail
          refine HC.out.mono ?_
          rintro e w' ⟨rfl, rfl⟩
          go_wp2_with fail
          go_ret
          exact ⟨by simp, hb0⟩
      · have hk' : ((l.length : Int) == (kl : Int)) = false := by simp; omega
        rw [hk']
        clear hk
        cases h0 : ((l.length : Int) == 0) <;> cases h1 : ((kl : Int) == 0)
        all_goals
          go_enter Try.func64, Try.ntmps64
          go_wp2_with fail
          go_ret
          exact ⟨rfl, (Below.refl _ _).alloc (Nat.le_refl _) _⟩
  · have hm' : (m == 0) = false := by simpa using hm
    rw [hm']
    clear hm
    go_enter Try.func64, Try.ntmps64
    go_wp2_with fail
    all_goals
      go_ret
      exact ⟨bool_ret (by simp_all), (Below.refl _ _).alloc (Nat.le_refl _) _⟩

set_option maxRecDepth 100000 in
set_option maxHeartbeats 2000000 in
theorem just_other (s m : Int) (x : ByteArray) (l : List ByteArray) (ka : Option Addr) (kl kc : Nat) (w : World) (na : Option Addr) (nc : Nat)
    (h1 : (s == 1) = false) (h2 : (s == 2) = false) (h3 : (s == 3) = false) (h4 : (s == 4) = false) (h5 : (s == 5) = false) (h6 : (s == 6) = false) :
    Calls Try.prog 64 #[.agg #[.int .i64 s, .int .i64 m, .string x, .slice na l.length nc, .slice ka kl kc]] w fun e w' => e = .returned (.bool false) ∧ Below w.heap.size w w' := by
  go_enter Try.func64, Try.ntmps64
  go_wp2_with fail
  all_goals
    go_ret
    exact ⟨rfl, (Below.refl _ _).alloc (Nat.le_refl _) _⟩

theorem just_any (s m : Int) (x : ByteArray) (l : List ByteArray) (ka : Option Addr) (kl kc : Nat) (w : World) (na : Option Addr) (nc : Nat) (hx : x.size ≤ maxLen)
    (S : Nat → Prop) (hl : StrsIn S w l (.slice na l.length nc)) (hB : ∀ b, S b → b < w.heap.size) :
    Calls Try.prog 64 #[.agg #[.int .i64 s, .int .i64 m, .string x, .slice na l.length nc, .slice ka kl kc]] w fun e w' => e = .returned (.bool (aloneF s m x l kl)) ∧ Below w.heap.size w w' := by
  unfold aloneF
  by_cases h1 : s = 1
  · subst h1; rw [if_pos rfl]; exact just_1 m x l ka kl kc w na nc
  rw [if_neg h1]
  by_cases h2 : s = 2
  · subst h2; rw [if_pos rfl]; exact just_2 m x l ka kl kc w na nc hx
  rw [if_neg h2]
  by_cases h3 : s = 3
  · subst h3; rw [if_pos rfl]; exact just_3 m x l ka kl kc w na nc
  rw [if_neg h3]
  by_cases h4 : s = 4
  · subst h4; rw [if_pos rfl]; exact just_4 m x l ka kl kc w na nc
  rw [if_neg h4]
  by_cases h5 : s = 5
  · subst h5; rw [if_pos rfl]; exact just_5 m x l ka kl kc w na nc S hl hB
  rw [if_neg h5]
  by_cases h6 : s = 6
  · subst h6; rw [if_pos rfl]; exact just_6 m x l ka kl kc w na nc
  rw [if_neg h6]
  exact just_other s m x l ka kl kc w na nc (by simp [h1]) (by simp [h2]) (by simp [h3]) (by simp [h4]) (by simp [h5]) (by simp [h6])

end Go.Proofs.Ytpnnbdejneoccaa
