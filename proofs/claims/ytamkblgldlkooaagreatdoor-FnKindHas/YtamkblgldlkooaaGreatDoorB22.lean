/-
  Several texts in one, in their order.
-/
import Derived.Test.YtamkblgldlkooaaGreatDoorB1
import Derived.Laws.IdiomStrings
import Derived.Deep.QuietTactic
import Derived.BigQuiet
import Derived.WalkSmall
import Derived.LoopTactic
import Derived.Test.YtamkblgldlkooaaGreatDoorB19
import Derived.Deep.RegionWith
import Derived.Test.YtamkblgldlkooaaGreatDoorB3
import Derived.Test.YtamkblgldlkooaaGreatDoorB20
import Derived.Test.YtamkblgldlkooaaGreatDoorB17

/-
  The specification's reader of trees: its block; look, eat.
-/
namespace Go.Proofs.YtamkblgldlkooaaGreatDoor
open Go.RowKit

theorem Near.drewN {R : Nat} {a w : World} (h : Near R a w) (n : Nat) : Near R a (w.drewN n) := ⟨h.os, h.tape, h.output, h.size, h.block⟩

end Go.Proofs.YtamkblgldlkooaaGreatDoor

/-
  The specification's reader of trees: name.
-/
namespace Go.Proofs.YtamkblgldlkooaaGreatDoor
open Go.RowKit

theorem takeWhile_take (l : List UInt8) (p : UInt8 → Bool) (k : Nat) (h : ∀ x, x ∈ l.take k → p x = true) (hd : p ((l.drop k).headD 0) = false) : l.takeWhile p = l.take k := by
  have hc : ∀ c r, l.drop k = c :: r → p c = false := by intro c r e; rw [e] at hd; exact hd
  conv => lhs; rw [← List.take_append_drop k l]
  exact takeWhile_all _ _ h hc

theorem take_more' (s : ByteArray) (i k : Nat) (p : UInt8 → Bool) (h : i + k < s.size) (ha : ∀ x, x ∈ (s.data.toList.drop i).take k → p x = true) (hc : p s[i + k] = true) : ∀ x, x ∈ (s.data.toList.drop i).take (k + 1) → p x = true := by
  intro x hx
  have hl : k < (s.data.toList.drop i).length := by simp; omega
  rw [List.take_succ_eq_append_getElem hl] at hx
  rcases List.mem_append.1 hx with hx | hx
  · exact ha x hx
  · rw [List.mem_singleton] at hx
    subst hx
    simpa [ByteArray.getElem_eq_getElem_data] using hc

end Go.Proofs.YtamkblgldlkooaaGreatDoor

/-
  The specification's reader of schemas: plain mathematics of what it goes over.
-/
namespace Go.Proofs.YtamkblgldlkooaaGreatDoor
open Go.RowKit

/-- The six makes of a schema that is ok by itself. -/
theorem goodK_cases {m : Nat} {t : K (m + 1)} {d : Int} (h : goodK (m + 1) t d = true) :
    (t = (⟨1, [], []⟩ : Kd (K m)) ∧ txtK (m + 1) t = [110, 117, 109]) ∨ (t = (⟨2, [], []⟩ : Kd (K m)) ∧ txtK (m + 1) t = [116, 101, 120, 116]) ∨ (t = (⟨3, [], []⟩ : Kd (K m)) ∧ txtK (m + 1) t = [102, 108, 97, 103]) ∨
    (∃ x, t = (⟨4, [], [x]⟩ : Kd (K m)) ∧ goodK m x (d + 1) = true ∧ txtK (m + 1) t = 91 :: (txtK m x ++ [93])) ∨ (∃ x, t = (⟨6, [], [x]⟩ : Kd (K m)) ∧ goodK m x (d + 1) = true ∧ txtK (m + 1) t = 63 :: txtK m x) ∨
    (∃ na ki, t = (⟨5, na, ki⟩ : Kd (K m)) ∧ na.length = ki.length ∧ (∀ x, x ∈ na → nameB x = true) ∧ (∀ k, k ∈ ki → goodK m k (d + 1) = true) ∧ txtK (m + 1) t = 123 :: (joinL (zipL na (ki.map (txtK m))) ++ [125])) := by
  simp only [goodK, Bool.and_eq_true] at h
  have ha : aloneKF (Kd.sort t) (Kd.names t) (Kd.kids t).length = true := h.1.2
  have hk := List.all_eq_true.1 h.2
  obtain ⟨so, na, ki⟩ : Kd (K m) := t
  simp only at ha hk
  unfold aloneKF at ha
  have one : (ki.length : Int) = 1 → ∃ x, ki = [x] ∧ goodK m x (d + 1) = true := by
    intro hl
    match ki, hl, hk with
    | [x], _, hk => exact ⟨x, rfl, hk x (List.mem_cons_self ..)⟩
  by_cases h1 : so = 1
  · rw [if_pos h1] at ha
    simp only [Bool.and_eq_true, beq_iff_eq] at ha
    have e2 : na = [] := List.eq_nil_of_length_eq_zero (by have := ha.1; omega)
    have e3 : ki = [] := List.eq_nil_of_length_eq_zero (by have := ha.2; omega)
    subst e2 e3 h1
    exact .inl ⟨rfl, by simp [txtK]⟩
  rw [if_neg h1] at ha
  by_cases h2 : so = 2
  · rw [if_pos h2] at ha
    simp only [Bool.and_eq_true, beq_iff_eq] at ha
    have e2 : na = [] := List.eq_nil_of_length_eq_zero (by have := ha.1; omega)
    have e3 : ki = [] := List.eq_nil_of_length_eq_zero (by have := ha.2; omega)
    subst e2 e3 h2
    exact .inr (.inl ⟨rfl, by simp [txtK]⟩)
  rw [if_neg h2] at ha
  by_cases h3 : so = 3
  · rw [if_pos h3] at ha
    simp only [Bool.and_eq_true, beq_iff_eq] at ha
    have e2 : na = [] := List.eq_nil_of_length_eq_zero (by have := ha.1; omega)
    have e3 : ki = [] := List.eq_nil_of_length_eq_zero (by have := ha.2; omega)
    subst e2 e3 h3
    exact .inr (.inr (.inl ⟨rfl, by simp [txtK]⟩))
  rw [if_neg h3] at ha
  by_cases h4 : so = 4
  · rw [if_pos h4] at ha
    simp only [Bool.and_eq_true, beq_iff_eq] at ha
    have e2 : na = [] := List.eq_nil_of_length_eq_zero (by have := ha.1; omega)
    obtain ⟨x, e3, hx⟩ := one ha.2
    subst e2 e3 h4
    exact .inr (.inr (.inr (.inl ⟨x, rfl, hx, by simp [txtK, headL]⟩)))
  rw [if_neg h4] at ha
  by_cases h5 : so = 5
  · rw [if_pos h5] at ha
    simp only [Bool.and_eq_true, beq_iff_eq] at ha
    have hl : na.length = ki.length := by have := ha.1; omega
    subst h5
    exact .inr (.inr (.inr (.inr (.inr ⟨na, ki, rfl, hl, riseB_name ha.2, fun k hk' => hk k hk', by simp [txtK]⟩))))
  rw [if_neg h5] at ha
  by_cases h6 : so = 6
  · rw [if_pos h6] at ha
    simp only [Bool.and_eq_true, beq_iff_eq] at ha
    have e2 : na = [] := List.eq_nil_of_length_eq_zero (by have := ha.1; omega)
    obtain ⟨x, e3, hx⟩ := one ha.2
    subst e2 e3 h6
    exact .inr (.inr (.inr (.inr (.inl ⟨x, rfl, hx, by simp [txtK, headL]⟩))))
  · rw [if_neg h6] at ha; cases ha

end Go.Proofs.YtamkblgldlkooaaGreatDoor

/-
  The law of KindRead, walked: what the two readers answer is given as hypotheses here.
-/
namespace Go.Proofs.YtamkblgldlkooaaGreatDoor
open Go.RowKit

theorem Box3.eqb {w w' : World} {N : Nat} {a b c : Value} (h : Box3 w N a b c) (hb : w'.heap[N]? = w.heap[N]?) : Box3 w' N a b c :=
  ⟨(World.cell?_of_block (w := w) (w' := w') (a := ⟨N, 0, none⟩) hb).trans h.c0, (World.cell?_of_block (w := w) (w' := w') (a := ⟨N, 1, none⟩) hb).trans h.c1, (World.cell?_of_block (w := w) (w' := w') (a := ⟨N, 2, none⟩) hb).trans h.c2⟩

/-- What the law holds from the first answer on: what is asked for, what was answered. -/
structure SitK (m : Nat) (k : K m) (P : Nat → Prop) (A G : Nat) (p0 p1 p2 g0 g1 g2 : Value) (w u : World) : Prop where
  below : Below w.heap.size w u
  ansBox : Box3 u A p0 p1 p2
  ans : KindIn P u m k p0 p1 p2
  ansB : ∀ b, P b → b < A
  gotBox : Box3 u G g0 g1 g2
  ag : A < G
  gu : G < u.heap.size

theorem SitK.step {m : Nat} {k : K m} {P : Nat → Prop} {A G : Nat} {p0 p1 p2 g0 g1 g2 : Value} {w u u' : World} (h : SitK m k P A G p0 p1 p2 g0 g1 g2 w u) {Z : Nat → Prop} (hb : Below w.heap.size w u') (hz : u.heap.size ≤ u'.heap.size)
    (hs : ∀ b : Nat, b < u.heap.size → ¬ Z b → u'.heap[b]? = u.heap[b]?) (hZ : ∀ b, Z b → A < b ∧ b ≠ G) : SitK m k P A G p0 p1 p2 g0 g1 g2 w u' := by
  have ag := h.ag
  have gu := h.gu
  have q : ∀ b, b ≤ A → u'.heap[b]? = u.heap[b]? := fun b hb => hs b (by omega) (fun hz => by have := hZ b hz; omega)
  exact ⟨hb, h.ansBox.eqb (q A (Nat.le_refl _)), h.ans.keep (fun b hb => q b (by have := h.ansB b hb; omega)) (fun _ h => h), h.ansB,
    h.gotBox.eqb (hs G gu (fun hz => (hZ G hz).2 rfl)), ag, by omega⟩

theorem SitK.keep {m : Nat} {k : K m} {P : Nat → Prop} {A G : Nat} {p0 p1 p2 g0 g1 g2 : Value} {w u u' : World} (h : SitK m k P A G p0 p1 p2 g0 g1 g2 w u) (hw : w.heap.size ≤ u.heap.size) (hb : Below u.heap.size u u') :
    SitK m k P A G p0 p1 p2 g0 g1 g2 w u' := h.step (Z := fun _ => False) (below_step h.below hw hb) hb.size (fun b hb' _ => hb.block b hb') (fun _ h => h.elim)

end Go.Proofs.YtamkblgldlkooaaGreatDoor

/-
  What is read of the text of a schema, and of no text; a code behind a call.
-/
namespace Go.Proofs.YtamkblgldlkooaaGreatDoor
open Go.RowKit

theorem readK_text {m : Nat} {k : K (m + 1)} (h : okK (m + 1) k = true) : ansR m (textKF (m + 1) k) = k ∧ okR m (textKF (m + 1) k) = true := by
  have ht : (textKF (m + 1) k).data.toList = txtK (m + 1) k := by unfold textKF; rw [if_pos h]; rfl
  exact ansR_some (readK_of (textKF_800 _ _) h ht.symm)

end Go.Proofs.YtamkblgldlkooaaGreatDoor
