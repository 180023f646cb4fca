/-
  Plain mathematics: what has a text is read from it; what is read has that text.
-/
import Derived.Test.YtnpckelaileooaaGreatDoorParse
import Derived.Laws.Closers25b
namespace Go.Proofs.YtnpckelaileooaaGreatDoor
open Go.RowKit

/-- How a text begins. -/
def begB (c : UInt8) : Bool := digC c || c == 45 || c == 34 || c == 121 || c == 110 || c == 91 || c == 123 || c == 126 || c == 63

theorem digits_head (u : Nat) : ∃ c r, Lib.decDigits u = c :: r ∧ digC c = true := by
  cases h : Lib.decDigits u with
  | nil => exact absurd h (decDigits_ne u)
  | cons c r => exact ⟨c, r, rfl, decDigits_dig u c (by rw [h]; exact List.mem_cons_self ..)⟩

theorem itoa_head (m : Int) : ∃ c r, Lib.itoa m = c :: r ∧ (digC c = true ∨ c = 45) := by
  unfold Lib.itoa
  split
  · exact ⟨45, _, rfl, .inr rfl⟩
  · obtain ⟨c, r, h1, h2⟩ := digits_head m.toNat
    exact ⟨c, r, h1, .inl h2⟩

theorem txtL_head (n : Nat) (t : T (n + 1)) : ∃ c r, txtL (n + 1) t = c :: r ∧ begB c = true := by
  simp only [txtL]
  split
  · obtain ⟨c, r, h1, h2⟩ := itoa_head (Nd.num t)
    refine ⟨c, r, h1, ?_⟩
    rcases h2 with h2 | h2
    · simp [begB, h2]
    · subst h2; decide
  split
  · exact ⟨34, _, rfl, by decide⟩
  split
  · split
    · exact ⟨121, _, rfl, by decide⟩
    · exact ⟨110, _, rfl, by decide⟩
  split
  · cases Nd.kids t with
    | nil => exact ⟨126, _, rfl, by decide⟩
    | cons k r => exact ⟨63, _, rfl, by decide⟩
  split
  · exact ⟨123, _, rfl, by decide⟩
  · exact ⟨91, _, rfl, by decide⟩

theorem good_head (n : Nat) (t : T n) (d : Int) (h : goodT n t d = true) : ∃ c r, txtL n t = c :: r ∧ begB c = true := by
  cases n with
  | zero => simp [goodT] at h
  | succ n => exact txtL_head n t

theorem beg_ne {c : UInt8} (h : begB c = true) : c ≠ 93 ∧ c ≠ 125 ∧ c ≠ 44 := by
  refine ⟨?_, ?_, ?_⟩ <;> (rintro rfl; exact absurd h (by decide))

theorem listP_complete {α : Type} (f : Nat → List UInt8 → Option (α × List UInt8 × Nat)) (txt : α → List UInt8) (cnt : α → Nat) (ks : List α)
    (hf : ∀ k, k ∈ ks → ∀ p post, p + cnt k ≤ 120 → noDig post = true → f p (txt k ++ post) = some (k, post, p + cnt k))
    (hh : ∀ k, k ∈ ks → ∃ c r, txt k = c :: r ∧ begB c = true) (hc : ∀ k, k ∈ ks → 1 ≤ cnt k)
    (fuel : Nat) (acc : List α) (p : Nat) (post : List UInt8) (hp : p + sumL cnt ks ≤ 120) (hfu : 121 ≤ fuel + p) :
    listP f fuel acc p (tailL (decide (acc.length = 0)) (ks.map txt) ++ 93 :: post) = some (acc ++ ks, post, p + sumL cnt ks) := by
  induction ks generalizing fuel acc p with
  | nil =>
    cases fuel with
    | zero => simp [sumL] at hp; omega
    | succ k => simp [listP, tailL, eatP_one_cons, sumL]
  | cons x ks ih =>
    have hx1 := hc x (List.mem_cons_self ..)
    simp only [sumL] at hp
    cases fuel with
    | zero => omega
    | succ k =>
      obtain ⟨c, r, e, hb⟩ := hh x (List.mem_cons_self ..)
      have hnx := beg_ne hb
      have hnd : noDig (tailL false (ks.map txt) ++ 93 :: post) = true := by
        cases ks with
        | nil => rfl
        | cons y ks => rw [List.map_cons, tailL_cons_false]; rfl
      have step := hf x (List.mem_cons_self ..) p (tailL false (ks.map txt) ++ 93 :: post) (by omega) hnd
      have rest := ih (fun k hk => hf k (List.mem_cons_of_mem _ hk)) (fun k hk => hh k (List.mem_cons_of_mem _ hk)) (fun k hk => hc k (List.mem_cons_of_mem _ hk)) k (acc ++ [x]) (p + cnt x) (by omega) (by omega)
      have hacc : decide ((acc ++ [x]).length = 0) = false := by simp
      rw [hacc] at rest
      simp only [List.map_cons, tailL, List.append_assoc]
      by_cases h0 : acc.length = 0
      · simp only [h0, decide_true, if_true]
        rw [listP]
        have hh1 : eatP [93] (txt x ++ (tailL false (ks.map txt) ++ 93 :: post)) = none := by rw [e, List.cons_append]; exact eatP_one_ne _ _ _ hnx.1
        rw [hh1]
        simp only [h0, if_true]
        rw [step]
        simp only
        rw [rest]
        simp [sumL, Nat.add_assoc]
      · simp only [h0, decide_false, if_false, Bool.false_eq_true]
        rw [listP, List.cons_append, eatP_one_ne _ _ _ (by decide)]
        simp only [h0, if_false, eatP_one_cons]
        rw [step]
        simp only
        rw [rest]
        simp [sumL, Nat.add_assoc]

theorem formP_complete {α : Type} (f : Nat → List UInt8 → Option (α × List UInt8 × Nat)) (txt : α → List UInt8) (cnt : α → Nat) (ks : List α)
    (hf : ∀ k, k ∈ ks → ∀ p post, p + cnt k ≤ 120 → noDig post = true → f p (txt k ++ post) = some (k, post, p + cnt k))
    (hc : ∀ k, k ∈ ks → 1 ≤ cnt k) (ms : List ByteArray) (hms : ∀ s, s ∈ ms → nameB s = true) (hlen : ms.length = ks.length)
    (fuel : Nat) (ns : List ByteArray) (acc : List α) (p : Nat) (post : List UInt8) (hp : p + sumL cnt ks ≤ 120) (hfu : 121 ≤ fuel + p) :
    formP f fuel ns acc p (tailL (decide (ns.length = 0)) (zipL ms (ks.map txt)) ++ 125 :: post) = some (ns ++ ms, acc ++ ks, post, p + sumL cnt ks) := by
  induction ks generalizing fuel ns acc p ms with
  | nil =>
    have : ms = [] := List.eq_nil_of_length_eq_zero (by simpa using hlen)
    subst this
    cases fuel with
    | zero => simp [sumL] at hp; omega
    | succ k => simp [formP, tailL, zipL, eatP_one_cons, sumL]
  | cons x ks ih =>
    have hx1 := hc x (List.mem_cons_self ..)
    simp only [sumL] at hp
    cases ms with
    | nil => simp at hlen
    | cons m ms =>
    cases fuel with
    | zero => omega
    | succ k =>
      have hm := hms m (List.mem_cons_self ..)
      have hmb := nameB_bytes hm
      have hsz : 1 ≤ m.size := by simp only [nameB, Bool.and_eq_true, decide_eq_true_eq] at hm; exact hm.1.1.1
      have hnd : noDig (tailL false (zipL ms (ks.map txt)) ++ 125 :: post) = true := by
        cases hz : zipL ms (ks.map txt) with
        | nil => rfl
        | cons y z => rw [tailL_cons_false]; rfl
      have step := hf x (List.mem_cons_self ..) p (tailL false (zipL ms (ks.map txt)) ++ 125 :: post) (by omega) hnd
      have rest := ih (fun k hk => hf k (List.mem_cons_of_mem _ hk)) (fun k hk => hc k (List.mem_cons_of_mem _ hk)) ms (fun s hs => hms s (List.mem_cons_of_mem _ hs)) (by simpa using hlen) k (ns ++ [m]) (acc ++ [x]) (p + cnt x) (by omega) (by omega)
      have hacc : decide ((ns ++ [m]).length = 0) = false := by simp
      rw [hacc] at rest
      have hun := untilP_append 58 m.data.toList (txt x ++ (tailL false (zipL ms (ks.map txt)) ++ 125 :: post)) (fun c hc => (nm_ne (hmb c hc)).1)
      have hmne : ∃ c r, m.data.toList = c :: r := by
        cases hd : m.data.toList with
        | nil =>
          have h1 : m.data.toList.length = 0 := by rw [hd]; rfl
          have h2 : m.data.toList.length = m.size := by simp
          omega
        | cons c r => exact ⟨c, r, rfl⟩
      obtain ⟨c, r, e⟩ := hmne
      have hcn := nm_ne (hmb c (by rw [e]; exact List.mem_cons_self ..))
      simp only [List.map_cons, zipL, tailL, List.append_assoc]
      by_cases h0 : ns.length = 0
      · simp only [h0, decide_true, if_true, List.append_assoc, List.cons_append]
        rw [formP]
        have hh1 : eatP [125] (m.data.toList ++ 58 :: (txt x ++ (tailL false (zipL ms (ks.map txt)) ++ 125 :: post))) = none := by rw [e, List.cons_append]; exact eatP_one_ne _ _ _ hcn.2.1
        rw [hh1]
        simp only [h0, if_true]
        rw [hun]
        simp only [List.drop_succ_cons, List.drop_zero]
        rw [step]
        simp only [bs_of]
        rw [rest]
        simp [sumL, Nat.add_assoc]
      · simp only [h0, decide_false, if_false, Bool.false_eq_true, List.append_assoc, List.cons_append]
        rw [formP, eatP_one_ne _ _ _ (by decide)]
        simp only [h0, if_false, eatP_one_cons]
        rw [hun]
        simp only [List.drop_succ_cons, List.drop_zero]
        rw [step]
        simp only [bs_of]
        rw [rest]
        simp [sumL, Nat.add_assoc]

theorem textB_bytes {s : ByteArray} (h : textB s = true) : ∀ c, c ∈ s.data.toList → c ≠ 34 := by
  simp only [textB, Bool.and_eq_true] at h
  intro c hc
  have := List.all_eq_true.1 h.2 c hc
  rintro rfl
  exact absurd this (by decide)

theorem ba_empty {x : ByteArray} (h : x.toList.isEmpty = true) : x = ByteArray.empty :=
  (toList_nil_iff_emptyBytes x).1 (by simpa using h)

theorem ba_emp : ByteArray.empty.toList.isEmpty = true := by
  have : ByteArray.empty.toList = [] := (toList_nil_iff_emptyBytes _).2 rfl
  simp [this]

end Go.Proofs.YtnpckelaileooaaGreatDoor
