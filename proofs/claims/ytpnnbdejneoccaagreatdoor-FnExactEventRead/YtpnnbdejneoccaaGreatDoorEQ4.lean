/-
  The specification's EventRead.
-/
import Derived.Test.YtpnnbdejneoccaaGreatDoorEQ0
import Derived.Test.YtpnnbdejneoccaaGreatDoorB19
import Derived.Test.YtpnnbdejneoccaaGreatDoorB17
import Derived.Test.YtpnnbdejneoccaaGreatDoorB14
import Derived.Test.YtpnnbdejneoccaaGreatDoorB8
import Derived.Test.YtpnnbdejneoccaaGreatDoorRd3
namespace Go.Proofs.YtpnnbdejneoccaaGreatDoor
open Go.RowKit

/-- What EventRead of the specification makes. -/
def ERPost (m : Nat) (l : List UInt8) (w : World) (e : Ending) (w' : World) : Prop :=
  Below w.heap.size w w' ∧ ∃ (ok : Bool) (x : ByteArray) (v : Int) (t : T (m + 1)) (c0 c1 c2 c3 c4 : Value), e = .returned (.tuple #[.agg #[.string x, .int .i64 v, c0, c1, c2, c3, c4], .bool ok]) ∧ TreeIn (fun b => w.heap.size ≤ b ∧ b < w'.heap.size) w' (m + 1) t c0 c1 c2 c3 c4 ∧ ERdA m l ok x v t

theorem er_none0 {m : Nat} {l : List UInt8} {w W : World} (hb : Below w.heap.size w W) (hno : ∀ (x' : ByteArray) (v' : Int) (t' : T (m + 1)), okE (m + 1) x' v' t' = true → txtE (m + 1) x' v' t' ≠ l) :
    ERPost m l w (.returned (.tuple #[.agg #[.string ⟨#[]⟩, .int .i64 0, .int .i64 0, .int .i64 0, .string ⟨#[]⟩, .slice none 0 0, .slice none 0 0], .bool false])) W :=
  ⟨hb, false, ByteArray.empty, 0, (⟨0, 0, ByteArray.empty, [], []⟩ : Nd (T m)), _, _, _, _, _, rfl, leafT_in _ _ m 0 0 ByteArray.empty (by rfl) (by rfl) (by simp), .inr ⟨rfl, rfl, rfl, rfl, hno⟩⟩

theorem er_none {m : Nat} {l : List UInt8} {w W : World} (hb : Below w.heap.size w W) (hno : ∀ (x' : ByteArray) (v' : Int) (t' : T (m + 1)), okE (m + 1) x' v' t' = true → txtE (m + 1) x' v' t' ≠ l) :
    ERPost m l w (.returned (.tuple #[.agg #[.string ⟨#[]⟩, .int .i64 0, .int .i64 0, .int .i64 0, .string ⟨#[]⟩, .slice none 0 0, .slice none 0 0], .bool false])) (put7 W w.heap.size (.string ⟨#[]⟩) (.int .i64 0) (.int .i64 0) (.int .i64 0) (.string ⟨#[]⟩) (.slice none 0 0) (.slice none 0 0)) := er_none0 (put7_below hb (Nat.le_refl _)) hno

/-- What stands while the event is read: its block at X, the answer's at N = w.heap.size, the reader's at N + 1. -/
structure EV (w W : World) (s : ByteArray) (i : Nat) (bad : Bool) (X : Nat) (a0 a1 a2 a3 a4 a5 a6 : Value) : Prop where
  below : Below w.heap.size w W
  zero : W.heap[w.heap.size]? = some (.cells #[.string ⟨#[]⟩, .int .i64 0, .int .i64 0, .int .i64 0, .string ⟨#[]⟩, .slice none 0 0, .slice none 0 0] 27 (0, 0))
  rd : RdS W (w.heap.size + 1) s (i : Int) bad
  lt : w.heap.size + 1 < X
  box : W.heap[X]? = some (.cells #[a0, a1, a2, a3, a4, a5, a6] 27 (0, 0))

theorem EV.ltX {w W : World} {s : ByteArray} {i : Nat} {bad : Bool} {X : Nat} {a0 a1 a2 a3 a4 a5 a6 : Value} (h : EV w W s i bad X a0 a1 a2 a3 a4 a5 a6) : X < W.heap.size := (Array.getElem?_eq_some_iff.1 h.box).1

theorem EV.near {w W W' : World} {s : ByteArray} {i j : Nat} {bad bad' : Bool} {X : Nat} {a0 a1 a2 a3 a4 a5 a6 : Value} (h : EV w W s i bad X a0 a1 a2 a3 a4 a5 a6) (hn : Near (w.heap.size + 1) W W') (hr : RdS W' (w.heap.size + 1) s (j : Int) bad') : EV w W' s j bad' X a0 a1 a2 a3 a4 a5 a6 := by
  have hX := h.ltX
  have hl := h.lt
  have hs := h.below.size
  exact ⟨⟨by rw [hn.os]; exact h.below.os, by rw [hn.tape]; exact h.below.tape, by rw [hn.output]; exact h.below.output, Nat.le_trans hs hn.size, fun b hb => (hn.block b (by omega) (by omega)).trans (h.below.block b hb)⟩, (hn.block _ (by omega) (by omega)).trans h.zero, hr, hl, (hn.block X hX (by omega)).trans h.box⟩

theorem EV.same {w W W' : World} {s : ByteArray} {i : Nat} {bad : Bool} {X : Nat} {a0 a1 a2 a3 a4 a5 a6 : Value} (h : EV w W s i bad X a0 a1 a2 a3 a4 a5 a6) (hb : Below W.heap.size W W') : EV w W' s i bad X a0 a1 a2 a3 a4 a5 a6 :=
  h.near (Near.of_below hb) (by have := h.rd; unfold RdS at this ⊢; rw [hb.block _ (by have := h.ltX; have := h.lt; omega)]; exact this)

theorem EV.change {w W W' : World} {s : ByteArray} {i : Nat} {bad : Bool} {X : Nat} {a0 a1 a2 a3 a4 a5 a6 : Value} (h : EV w W s i bad X a0 a1 a2 a3 a4 a5 a6) {b1 b2 b3 b4 b5 b6 : Value} (hb : Below w.heap.size W W') (qq : ∀ b, b ≠ X → W'.heap[b]? = W.heap[b]?) (hx : W'.heap[X]? = some (.cells #[a0, b1, b2, b3, b4, b5, b6] 27 (0, 0))) : EV w W' s i bad X a0 b1 b2 b3 b4 b5 b6 := by
  have hl := h.lt
  exact ⟨h.below.trans hb, (qq _ (by omega)).trans h.zero, by have := h.rd; unfold RdS at this ⊢; rw [qq _ (by omega)]; exact this, hl, hx⟩

theorem EV.set1 {w W : World} {s : ByteArray} {i : Nat} {bad : Bool} {X : Nat} {a0 a1 a2 a3 a4 a5 a6 : Value} (h : EV w W s i bad X a0 a1 a2 a3 a4 a5 a6) (u : Value) : EV w (W.setCell ⟨X, 1, none⟩ u) s i bad X a0 u a2 a3 a4 a5 a6 := by
  have hl := h.lt
  exact h.change ((Below.refl _ _).setCell (by show w.heap.size ≤ X; omega) u) (fun b hb => Below.heap_setCell _ _ _ _ hb) (by simp [World.setCell, Array.getElem?_modify, h.box])

theorem EV.put {w W : World} {s : ByteArray} {i : Nat} {bad : Bool} {X : Nat} {a0 a1 a2 a3 a4 a5 a6 : Value} (h : EV w W s i bad X a0 a1 a2 a3 a4 a5 a6) (g0 g1 g2 g3 g4 : Value) : EV w (put5 W X 2 g0 g1 g2 g3 g4) s i bad X a0 a1 g0 g1 g2 g3 g4 := by
  have hl := h.lt
  exact h.change (put5_below (Below.refl _ _) (by omega)) (fun b hb => put5_other hb) (by simp [put5, World.setCell, Array.getElem?_modify, h.box])

/-- What the reader's number is: the digits from a place on. -/
def NumA (s : ByteArray) (i : Nat) (bad : Bool) (v : Int) (i2 : Nat) (bad2 : Bool) : Prop :=
  (-99999999999 ≤ v ∧ v ≤ 99999999999) ∧ i ≤ i2 ∧ i2 ≤ s.size ∧ (lookB s i ≠ 45 → ∃ k, k ≤ 10 ∧ i2 = i + k ∧ (∀ c, c ∈ (s.data.toList.drop i).take k → digC c = true) ∧ (k = 10 ∨ digC (lookB s (i + k)) = false) ∧ v = (decVal ((s.data.toList.drop i).take k) : Int) ∧ bad2 = (bad || k == 0))

theorem numA_any (w : World) (R : Nat) (s : ByteArray) (i : Nat) (bad : Bool) (h : RdS w R s i bad) (hs : s.size ≤ 10000) (hi : i ≤ s.size) :
    Calls Tryz.prog 11 #[.pointer (some ⟨R, 0, none⟩)] w fun e w' => ∃ (v : Int) (i2 : Nat) (bad2 : Bool), e = .returned (.int .i64 v) ∧ Near R w w' ∧ RdS w' R s (i2 : Int) bad2 ∧ NumA s i bad v i2 bad2 ∧ (bad2 = false → bad = false) := by
  by_cases hn : lookB s i = 45
  · have hlt : i < s.size := Classical.byContradiction fun hge => by rw [lookB_out s i (by omega)] at hn; cases hn
    refine (num_neg w R s i bad h hs hlt hn).mono ?_
    rintro e w' ⟨hnr, k, hk, hF, hd, -, rfl, hr⟩
    have hb := decVal_lt10 _ hd (by rw [List.length_take]; omega)
    refine ⟨_, i + 1 + k, (bad || k == 0), rfl, hnr, hr, ⟨by simp; omega, by omega, hF, fun h => absurd hn h⟩, fun h => by simpa using (by simp at h; exact h.1 : bad = false)⟩
  · refine (num_pos w R s i bad h hs hi hn).mono ?_
    rintro e w' ⟨hnr, k, hk, hF, hd, ho, rfl, hr⟩
    have hb := decVal_lt10 _ hd (by rw [List.length_take]; omega)
    refine ⟨_, i + k, (bad || k == 0), rfl, hnr, hr, ⟨by simp; omega, by omega, hF, fun _ => ⟨k, hk, rfl, hd, ho, by simp, rfl⟩⟩, fun h => by simpa using (by simp at h; exact h.1 : bad = false)⟩

theorem headD_app {a : List UInt8} (b : List UInt8) (h : a ≠ []) : (a ++ b).headD 0 = a.headD 0 := by
  cases a with
  | nil => exact absurd rfl h
  | cons c r => rfl

/-- What was read is the event of the text, if there is one. -/
theorem evtext_read {m : Nat} {s : ByteArray} {i1 : Nat} {b1 : Bool} {v : Int} {i2 : Nat} {b2 : Bool} {t : T (m + 1)} {i3 : Nat} {b3 : Bool}
    (he : (eatP [64] (s.data.toList.drop (s.data.toList.takeWhile nmByte).length) = some (s.data.toList.drop ((s.data.toList.takeWhile nmByte).length + 1)) ∧ i1 = (s.data.toList.takeWhile nmByte).length + 1 ∧ b1 = false) ∨ (eatP [64] (s.data.toList.drop (s.data.toList.takeWhile nmByte).length) = none ∧ i1 = (s.data.toList.takeWhile nmByte).length ∧ b1 = true))
    (hn : NumA s i1 b1 v i2 b2) (ht : GotT (m + 1) 6 s i2 b2 t i3 b3) {x' : ByteArray} {v' : Int} {t' : T (m + 1)} (ho : okE (m + 1) x' v' t' = true) (hp : txtE (m + 1) x' v' t' = s.data.toList) :
    bs (s.data.toList.takeWhile nmByte) = x' ∧ v = v' ∧ t = t' ∧ b3 = false ∧ i3 = s.size := by
  obtain ⟨a1, a2, a3, a4⟩ := txtE_parts ho hp
  obtain ⟨-, -, hv, hg, ⟨r, hr⟩, hd, hl2, hne⟩ := okE_text ho
  have hx : bs (s.data.toList.takeWhile nmByte) = x' := ba_eq (by rw [a1]; unfold bs; simp)
  rw [a1] at he
  rcases he with ⟨-, hi1, hb1⟩ | ⟨h, -⟩
  case inr => rw [a2, (eat_at [] _).1] at h; cases h
  rw [← hi1] at a3 a4
  obtain ⟨c, q, hc, hcd⟩ : ∃ c q, Lib.itoa v' = c :: q ∧ digC c = true := by
    cases hi : Lib.itoa v' with
    | nil => exact absurd hi hne
    | cons c q => exact ⟨c, q, rfl, hd c (by rw [hi]; exact List.mem_cons_self ..)⟩
  have hlk : lookB s i1 ≠ 45 := by
    intro e
    unfold lookB at e
    rw [a3, hc] at e
    have e : c = 45 := e
    rw [e, digC_45] at hcd
    cases hcd
  obtain ⟨-, -, -, hN⟩ := hn
  obtain ⟨k, hk, hik, hkd, hke, hkv, hkb⟩ := hN hlk
  have hkl : k = (Lib.itoa v').length := by
    rcases Nat.lt_trichotomy k (Lib.itoa v').length with h | h | h
    · rcases hke with h10 | h10
      · omega
      · exfalso
        unfold lookB at h10
        rw [← List.drop_drop, a3, List.drop_append_of_le_length (by omega)] at h10
        rw [headD_app _ (by intro e; have := congrArg List.length e; simp at this; omega), List.drop_eq_getElem_cons h] at h10
        have := hd _ (List.getElem_mem h)
        have h10 : digC (Lib.itoa v')[k] = false := h10
        rw [this] at h10
        cases h10
    · exact h
    · exfalso
      have hm : (123 : UInt8) ∈ (s.data.toList.drop i1).take k := by
        rw [a3, hr, List.take_append, List.take_of_length_le (by omega)]
        refine List.mem_append_right _ ?_
        obtain ⟨j, hj⟩ : ∃ j, k - (Lib.itoa v').length = j + 1 := ⟨k - (Lib.itoa v').length - 1, by omega⟩
        rw [hj]
        exact List.mem_cons_self ..
      have := hkd _ hm
      rw [dig_123] at this
      cases this
  have htk : (s.data.toList.drop i1).take k = Lib.itoa v' := by rw [a3, hkl, List.take_left']; rfl
  have hvv : v = v' := by
    rw [hkv, htk]
    have e : Lib.itoa v' = Lib.decDigits v'.toNat := by unfold Lib.itoa; rw [if_neg (by omega)]
    rw [e, decVal_digits]
    omega
  have hb2 : b2 = false := by
    rw [hkb, hb1]
    have : k ≠ 0 := by rw [hkl, hc]; simp
    simp [this]
  rw [← hkl, ← hik] at a4
  obtain ⟨-, -, -, -, h5⟩ := ht
  obtain ⟨q1, q2, q3⟩ := h5 t' [] hb2 (by rw [a4, List.append_nil]) hg rfl
  refine ⟨hx, hvv, q1, q2, ?_⟩
  have hll : s.data.toList.length = s.size := by simp
  have := congrArg List.length a4
  rw [List.length_drop] at this
  have hti : 1 ≤ (txtL (m + 1) t').length := by rw [hr]; simp
  omega

end Go.Proofs.YtpnnbdejneoccaaGreatDoor
