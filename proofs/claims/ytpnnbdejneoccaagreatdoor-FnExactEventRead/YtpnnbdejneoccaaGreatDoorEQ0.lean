/-
  Plain mathematics: the texts of events.
-/
import Derived.Test.YtpnnbdejneoccaaGreatDoorB17
import Derived.Test.YtpnnbdejneoccaaGreatDoorEvWrite
import Derived.Test.YtpnnbdejneoccaaGreatDoorB13
namespace Go.Proofs.YtpnnbdejneoccaaGreatDoor
open Go.RowKit

/-- The text of an event. -/
def txtE (n : Nat) (x : ByteArray) (v : Int) (t : T n) : List UInt8 := x.data.toList ++ 64 :: (Lib.itoa v ++ txtL n t)

theorem textE_yes {n : Nat} {x : ByteArray} {v : Int} {t : T n} (h : okE n x v t = true) : (textE n x v t).data.toList = txtE n x v t := by
  rw [textE, if_pos h]
  unfold txtE bs
  simp

theorem txtE_ne {n : Nat} {x : ByteArray} {v : Int} {t : T n} : txtE n x v t ≠ [] := by
  unfold txtE; simp

theorem takeWhile_app {p : UInt8 → Bool} (a : List UInt8) (c : UInt8) (r : List UInt8) (ha : ∀ x, x ∈ a → p x = true) (hc : p c = false) : (a ++ c :: r).takeWhile p = a := by
  induction a with
  | nil => simp [hc]
  | cons y a ih =>
    rw [List.cons_append, List.takeWhile_cons, if_pos (ha y (List.mem_cons_self ..)), ih (fun x hx => ha x (List.mem_cons_of_mem _ hx))]

theorem takeWhile_allE {p : UInt8 → Bool} (a : List UInt8) (ha : ∀ x, x ∈ a → p x = true) : a.takeWhile p = a := by
  induction a with
  | nil => rfl
  | cons y a ih => rw [List.takeWhile_cons, if_pos (ha y (List.mem_cons_self ..)), ih (fun x hx => ha x (List.mem_cons_of_mem _ hx))]

theorem dec_two (k : Nat) (h : k ≤ 12) : (Lib.decDigits k).length ≤ 2 := by
  rw [Lib.decDigits]
  split
  · simp
  · rw [Lib.decDigits, dif_pos (by omega)]
    simp

/-- What an event that is ok gives its text. -/
theorem okE_text {m : Nat} {x : ByteArray} {v : Int} {t : T (m + 1)} (h : okE (m + 1) x v t = true) : (∀ c, c ∈ x.data.toList → nmByte c = true) ∧ x.size ≤ 8 ∧ (1 ≤ v ∧ v ≤ 12) ∧ goodT (m + 1) t 1 = true ∧ (∃ r, txtL (m + 1) t = 123 :: r) ∧ (∀ c, c ∈ Lib.itoa v → digC c = true) ∧ (Lib.itoa v).length ≤ 2 ∧ Lib.itoa v ≠ [] := by
  simp only [okE, Bool.and_eq_true, decide_eq_true_eq] at h
  obtain ⟨⟨⟨hn, hv⟩, hs⟩, ho⟩ := h
  have hg := (okT_parts ho).1
  have hi : Lib.itoa v = Lib.decDigits v.toNat := by unfold Lib.itoa; rw [if_neg (by omega)]
  simp only [nameB, Bool.and_eq_true, decide_eq_true_eq] at hn
  refine ⟨fun c hc => List.all_eq_true.1 hn.2 c hc, hn.1.1.2, hv, hg, ?_, ?_, ?_, ?_⟩
  · have hs' : Nd.sort t = 5 := hs
    rcases goodT_cases hg with ⟨k, q0, q1, q2⟩ | ⟨y, q3, q1, q2⟩ | ⟨q1, q2⟩ | ⟨q1, q2⟩ | ⟨ks, q1, q3, q2⟩ | ⟨ns, ks, q1, q3, q4, q5, q2⟩ | ⟨q1, q2⟩ | ⟨y, q1, q3, q2⟩
    case inr.inr.inr.inr.inr.inl => exact ⟨_, q2⟩
    all_goals (rw [q1] at hs'; cases hs')
  · rw [hi]; exact decDigits_dig _
  · rw [hi]; exact dec_two _ (by omega)
  · rw [hi]; exact decDigits_ne _

theorem nm_64 : nmByte 64 = false := by decide
theorem dig_123 : digC 123 = false := by decide

/-- What the text of an event that is ok begins with. -/
theorem txtE_parts {m : Nat} {x : ByteArray} {v : Int} {t : T (m + 1)} {l : List UInt8} (h : okE (m + 1) x v t = true) (hl : txtE (m + 1) x v t = l) : l.takeWhile nmByte = x.data.toList ∧ l.drop x.data.toList.length = 64 :: (Lib.itoa v ++ txtL (m + 1) t) ∧ l.drop (x.data.toList.length + 1) = Lib.itoa v ++ txtL (m + 1) t ∧ l.drop (x.data.toList.length + 1 + (Lib.itoa v).length) = txtL (m + 1) t := by
  obtain ⟨h1, -⟩ := okE_text h
  have h2 : l.drop x.data.toList.length = 64 :: (Lib.itoa v ++ txtL (m + 1) t) := by rw [← hl]; unfold txtE; rw [List.drop_left']; rfl
  refine ⟨by rw [← hl]; exact takeWhile_app _ _ _ h1 nm_64, h2, ?_, ?_⟩
  · rw [← List.drop_drop, h2]; rfl
  · rw [← List.drop_drop, ← List.drop_drop, h2, List.drop_one, List.tail_cons, List.drop_left']; rfl

theorem eat_at (l : List UInt8) (r : List UInt8) : eatP [64] (64 :: r) = some r ∧ l = l := by
  refine ⟨?_, rfl⟩
  unfold eatP
  rw [if_pos (by simp [List.isPrefixOf])]
  rfl

theorem txtE_len {n : Nat} {x : ByteArray} {v : Int} {t : T n} (h : okE n x v t = true) : (txtE n x v t).length ≤ 10000 := by
  obtain ⟨hn, hv, ho⟩ := okE_get h
  have hx8 : x.size ≤ 8 := by simp only [nameB, Bool.and_eq_true, decide_eq_true_eq] at hn; exact hn.1.1.2
  have hp := okT_get ho
  have h1 := itoa_21 v hv.1 hv.2
  rw [bs_size] at h1
  have h2 := txtL_len n t 1 hp.1
  have h3 := hp.2
  have h4 : x.data.toList.length = x.size := by simp
  unfold txtE
  rw [List.length_append, List.length_cons, List.length_append]
  omega

/-- What EventRead answers: the event of the text, or none. -/
def ERdA (m : Nat) (l : List UInt8) (ok : Bool) (x : ByteArray) (v : Int) (t : T (m + 1)) : Prop :=
  (ok = true ∧ okE (m + 1) x v t = true ∧ txtE (m + 1) x v t = l) ∨ (ok = false ∧ x = ByteArray.empty ∧ v = 0 ∧ t = (⟨0, 0, ByteArray.empty, [], []⟩ : Nd (T m)) ∧ ∀ (x' : ByteArray) (v' : Int) (t' : T (m + 1)), okE (m + 1) x' v' t' = true → txtE (m + 1) x' v' t' ≠ l)

theorem ba_eq {x y : ByteArray} (h : x.data.toList = y.data.toList) : x = y := by
  cases x with | mk a => cases y with | mk b => simpa using h

/-- Two events that are ok have two texts. -/
theorem txtE_one {m : Nat} {x x' : ByteArray} {v v' : Int} {t t' : T (m + 1)} (h : okE (m + 1) x v t = true) (h' : okE (m + 1) x' v' t' = true) (e : txtE (m + 1) x' v' t' = txtE (m + 1) x v t) : x' = x ∧ v' = v ∧ t' = t := by
  obtain ⟨a1, a2, a3, a4⟩ := txtE_parts h rfl
  obtain ⟨b1, b2, b3, b4⟩ := txtE_parts h' e
  have hx : x' = x := ba_eq (b1.symm.trans a1)
  subst hx
  obtain ⟨-, -, hv, hg, ⟨r, hr⟩, hd, -, -⟩ := okE_text h
  obtain ⟨-, -, hv', hg', ⟨r', hr'⟩, hd', -, -⟩ := okE_text h'
  have hi : Lib.itoa v' = Lib.itoa v := by
    have c1 := takeWhile_app (p := digC) (Lib.itoa v) 123 r hd dig_123
    have c2 := takeWhile_app (p := digC) (Lib.itoa v') 123 r' hd' dig_123
    rw [← hr, ← a3] at c1
    rw [← hr', ← b3] at c2
    exact c2.symm.trans c1
  have hvv : v' = v := itoa_inj hi
  subst hvv
  have ht : txtL (m + 1) t' = txtL (m + 1) t := b4.symm.trans a4
  have p1 := parseU_complete (m + 1) t 1 [] hg rfl
  have p2 := parseU_complete (m + 1) t' 1 [] hg' rfl
  rw [ht, p1] at p2
  injection p2 with p2
  exact ⟨rfl, rfl, (congrArg Prod.fst p2).symm⟩

theorem erd_one {m : Nat} {l : List UInt8} {ok ok' : Bool} {x x' : ByteArray} {v v' : Int} {t t' : T (m + 1)} (h : ERdA m l ok x v t) (h' : ERdA m l ok' x' v' t') : ok' = ok ∧ x' = x ∧ v' = v ∧ t' = t := by
  rcases h with ⟨e1, e2, e3⟩ | ⟨e1, e2, e3, e4, e5⟩ <;> rcases h' with ⟨f1, f2, f3⟩ | ⟨f1, f2, f3, f4, f5⟩
  · exact ⟨f1.trans e1.symm, txtE_one e2 f2 (f3.trans e3.symm)⟩
  · exact absurd e3 (f5 x v t e2)
  · exact absurd f3 (e5 x' v' t' f2)
  · exact ⟨f1.trans e1.symm, f2.trans e2.symm, f3.trans e3.symm, f4.trans e4.symm⟩

end Go.Proofs.YtpnnbdejneoccaaGreatDoor
