/-
  Events: measured, copied, compared; asked whether they are ok.
-/
import Derived.Test.YtpnnbdejneoccaaTWalk
import Derived.Test.YtpnnbdejneoccaaSpec3
import Derived.Test.YtpnnbdejneoccaaEq
import Derived.Test.YtpnnbdejneoccaaB1
namespace Go.Proofs.Ytpnnbdejneoccaa
open Go.RowKit

/-- Seven cells of a block. -/
structure Box7 (w : World) (N : Nat) (a b c d e f g : Value) : Prop where
  c0 : w.cell? ⟨N, 0, none⟩ = some a
  c1 : w.cell? ⟨N, 1, none⟩ = some b
  c2 : w.cell? ⟨N, 2, none⟩ = some c
  c3 : w.cell? ⟨N, 3, none⟩ = some d
  c4 : w.cell? ⟨N, 4, none⟩ = some e
  c5 : w.cell? ⟨N, 5, none⟩ = some f
  c6 : w.cell? ⟨N, 6, none⟩ = some g

theorem Box7.keep {w w' : World} {N : Nat} {a b c d e f g : Value} (h : Box7 w N a b c d e f g) (hb : Below w.heap.size w w') : Box7 w' N a b c d e f g := by
  have hl : N < w.heap.size := by
    have h := h.c0
    exact Classical.byContradiction fun hge => by
      have : w.heap[N]? = none := Array.getElem?_eq_none (by omega)
      simp [World.cell?, this] at h
  exact ⟨(hb.cell (p := ⟨N, 0, none⟩) hl).trans h.c0, (hb.cell (p := ⟨N, 1, none⟩) hl).trans h.c1, (hb.cell (p := ⟨N, 2, none⟩) hl).trans h.c2, (hb.cell (p := ⟨N, 3, none⟩) hl).trans h.c3, (hb.cell (p := ⟨N, 4, none⟩) hl).trans h.c4,
    (hb.cell (p := ⟨N, 5, none⟩) hl).trans h.c5, (hb.cell (p := ⟨N, 6, none⟩) hl).trans h.c6⟩

theorem Box7.new (w : World) (a b c d e f g : Value) (t : TypeId) : Box7 (w.alloc (.cells #[a, b, c, d, e, f, g] t)) w.heap.size a b c d e f g :=
  ⟨by simp [go_sem], by simp [go_sem], by simp [go_sem], by simp [go_sem], by simp [go_sem], by simp [go_sem], by simp [go_sem]⟩

/-- Seven cells of a world, stored one behind the other. -/
def put7 (w : World) (b : Nat) (g0 g1 g2 g3 g4 g5 g6 : Value) : World :=
  put5 ((w.setCell ⟨b, 0, none⟩ g0).setCell ⟨b, 1, none⟩ g1) b 2 g2 g3 g4 g5 g6

theorem put7_other {w : World} {b : Nat} {g0 g1 g2 g3 g4 g5 g6 : Value} {k : Nat} (h : k ≠ b) : (put7 w b g0 g1 g2 g3 g4 g5 g6).heap[k]? = w.heap[k]? := by
  unfold put7
  rw [put5_other h, Below.heap_setCell _ _ _ _ (by exact h), Below.heap_setCell _ _ _ _ (by exact h)]

theorem put7_size {w : World} {b : Nat} {g0 g1 g2 g3 g4 g5 g6 : Value} : (put7 w b g0 g1 g2 g3 g4 g5 g6).heap.size = w.heap.size := by
  unfold put7; rw [put5_size]; simp

theorem put7_below {B : Nat} {a w : World} {b : Nat} {g0 g1 g2 g3 g4 g5 g6 : Value} (h : Below B a w) (hb : B ≤ b) : Below B a (put7 w b g0 g1 g2 g3 g4 g5 g6) :=
  put5_below ((h.setCell hb _).setCell hb _) hb

/-- The Sort of a tree of any levels. -/
def sortT : (n : Nat) → T n → Int
  | 0, _ => 0
  | _ + 1, t => Nd.sort t

theorem TreeIn.sortT {S : Nat → Prop} {w : World} {n : Nat} {t : T n} {x0 : Int} {c1 c2 c3 c4 : Value} (h : TreeIn S w n t (.int .i64 x0) c1 c2 c3 c4) : x0 = Go.Proofs.Ytpnnbdejneoccaa.sortT n t := by
  cases n with
  | zero => exact h.elim
  | succ n => have := h.1; injection this

/-- Whether an event is ok. -/
def okE (n : Nat) (x : ByteArray) (v : Int) (t : T n) : Bool := nameB x && decide (1 ≤ v ∧ v ≤ 12) && decide (sortT n t = 5) && okT n t

set_option maxHeartbeats 400000 in
theorem szEvent_any (n : Nat) (S : Nat → Prop) (x : ByteArray) (v : Int) (t : T n) (c0 c1 c2 c3 c4 : Value) (left : Int) (w : World) (hx : x.size ≤ maxLen) (ht : TreeIn S w n t c0 c1 c2 c3 c4) (hB : ∀ b, S b → b < w.heap.size) (h0 : -1 ≤ left) (h1 : left ≤ 1048576) :
    Calls Try.prog 5 #[.agg #[.string x, .int .i64 v, c0, c1, c2, c3, c4], .int .i64 left] w fun e w' => e = .returned (.int .i64 (leftB (x.size + szT n t) left)) ∧ Below w.heap.size w w' := by
  obtain ⟨x0, x1, x2, xa, xl, xc, ya, yl, yc, rfl, rfl, rfl, rfl, rfl⟩ := ht.shape
  unfold maxLen at hx
  by_cases hneg : left - x.size < 0
  · clear ht
    go_enter Try.func5, Try.ntmps5
    go_wp2_with fail
    go_ret
    exact ⟨ret_int (by rw [leftB, if_neg (by omega)]), (Below.refl _ _).alloc (Nat.le_refl _) _⟩
  have hb0 : Below w.heap.size w (w.alloc (.cells #[.string x, .int .i64 v, .int .i64 x0, .int .i64 x1, .string x2, .slice xa xl xc, .slice ya yl yc] 27)) := (Below.refl _ _).alloc (Nat.le_refl _) _
  obtain ⟨ht0, hB0⟩ := ht.step hB hb0
  have hbd := leftB_le (szT n t) (left - x.size) (by omega)
  have HA : Hid (leftB (szT n t) (left - x.size) = leftB (x.size + szT n t) left) := by
    show _ = _
    rw [← leftB_add]; congr 1; rw [leftB, if_pos (by omega)]
  have HC : Hid (Calls Try.prog 18 _ _ _) := szTree_any n S t _ _ _ _ _ (left - x.size) _ ht0 hB0 (by omega) (by omega)
  clear ht ht0
  go_enter Try.func5, Try.ntmps5
  go_wp2_with fail
  refine HC.out.mono ?_
  rintro e w1 ⟨rfl, hb1⟩
  have hb2 := below_step hb0 (by simp) hb1
  rw [HA.out]
  rw [HA.out] at hbd
  clear HC hb0 hb1
  generalize hq : leftB (x.size + szT n t) left = q at *
  have HQ : Hid (leftB (x.size + szT n t) left = q) := hq
  clear hq HA
  go_wp2_with fail
  · go_ret
    exact ⟨ret_int (by rw [HQ.out]; omega), hb2⟩
  · go_ret
    exact ⟨ret_int HQ.out.symm, hb2⟩

set_option maxHeartbeats 1000000 in
theorem eqEvent_same (n : Nat) (S S' : Nat → Prop) (x : ByteArray) (v : Int) (t : T n) (c0 c1 c2 c3 c4 d0 d1 d2 d3 d4 : Value) (w : World) (ht : TreeIn S w n t c0 c1 c2 c3 c4) (ht' : TreeIn S' w n t d0 d1 d2 d3 d4)
    (hB : ∀ b, S b → b < w.heap.size) (hB' : ∀ b, S' b → b < w.heap.size) :
    Calls Try.prog 10 #[.agg #[.string x, .int .i64 v, c0, c1, c2, c3, c4], .agg #[.string x, .int .i64 v, d0, d1, d2, d3, d4]] w fun e w' => e = .returned (.bool true) ∧ Below w.heap.size w w' := by
  obtain ⟨x0, x1, x2, xa, xl, xc, ya, yl, yc, rfl, rfl, rfl, rfl, rfl⟩ := ht.shape
  obtain ⟨z0, z1, z2, za, zl, zc, va, vl, vc, rfl, rfl, rfl, rfl, rfl⟩ := ht'.shape
  have hb2 : Below w.heap.size w ((w.alloc (.cells #[.string x, .int .i64 v, .int .i64 x0, .int .i64 x1, .string x2, .slice xa xl xc, .slice ya yl yc] 35)).alloc (.cells #[.string x, .int .i64 v, .int .i64 z0, .int .i64 z1, .string z2, .slice za zl zc, .slice va vl vc] 35)) :=
    ((Below.refl _ _).alloc (Nat.le_refl _) _).alloc (by simp) _
  obtain ⟨ht0, hB0⟩ := ht.step hB hb2
  obtain ⟨ht1, hB1⟩ := ht'.step hB' hb2
  have HC : Hid (Calls Try.prog 26 _ _ _) := eqTree_same n S S' t _ _ _ _ _ _ _ _ _ _ _ ht0 ht1 hB0 hB1
  have hn1 : (v != v) = false := by simp
  clear ht ht' ht0 ht1
  go_enter Try.func10, Try.ntmps10
  go_wp2_with fail
  refine HC.out.mono ?_
  rintro e w1 ⟨rfl, hb3⟩
  have hb4 := below_step hb2 (by simp; omega) hb3
  clear hb2 hb3 HC
  go_wp2_with fail
  go_ret
  exact ⟨rfl, hb4⟩

set_option maxHeartbeats 1000000 in
theorem specEOk_any (n : Nat) (S : Nat → Prop) (x : ByteArray) (v : Int) (t : T n) (c0 c1 c2 c3 c4 : Value) (w : World) (hx : x.size ≤ maxLen) (ht : TreeIn S w n t c0 c1 c2 c3 c4) (hB : ∀ b, S b → b < w.heap.size) :
    Calls Try.prog 19 #[.agg #[.string x, .int .i64 v, c0, c1, c2, c3, c4]] w fun e w' => e = .returned (.bool (okE n x v t)) ∧ Below w.heap.size w w' := by
  obtain ⟨x0, x1, x2, xa, xl, xc, ya, yl, yc, rfl, rfl, rfl, rfl, rfl⟩ := ht.shape
  have hb0 : Below w.heap.size w (w.alloc (.cells #[.string x, .int .i64 v, .int .i64 x0, .int .i64 x1, .string x2, .slice xa xl xc, .slice ya yl yc] 35)) := (Below.refl _ _).alloc (Nat.le_refl _) _
  obtain ⟨ht0, hB0⟩ := ht.step hB hb0
  have HC : Hid (Calls Try.prog 39 _ _ _) := specOk_any n S t _ _ _ _ _ _ ht0 hB0
  have HS : Hid (x0 = sortT n t) := ht.sortT
  clear ht ht0
  go_enter Try.func19, Try.ntmps19
  go_wp2_with fail
  refine (l6NameOk_any x _ hx).mono ?_
  rintro e w1 ⟨rfl, rfl⟩
  cases hn : nameB x
  case false =>
    go_wp2_with fail
    go_ret
    exact ⟨ret_bool (by simp [okE, hn]), hb0⟩
  case true =>
    go_wp2_with fail
    refine (l6In_any v 1 12 _).mono ?_
    rintro e w1 ⟨rfl, rfl⟩
    by_cases hv : 1 ≤ v ∧ v ≤ 12
    case neg =>
      rw [decide_eq_false hv]
      go_wp2_with fail
      go_ret
      exact ⟨ret_bool (by unfold okE; rw [decide_eq_false hv]; simp), hb0⟩
    case pos =>
      rw [decide_eq_true hv]
      have HV : Hid (1 ≤ v ∧ v ≤ 12) := hv
      clear hv
      by_cases hs : x0 = 5
      case neg =>
        have hs' : decide (x0 = 5) = false := decide_eq_false hs
        go_wp2_with fail
        go_ret
        exact ⟨ret_bool (by unfold okE; rw [← HS.out, hs']; simp), hb0⟩
      case pos =>
        subst hs
        go_wp2_with fail
        refine HC.out.mono ?_
        rintro e w1 ⟨rfl, hb1⟩
        have hb2 := below_step hb0 (by simp) hb1
        clear hb0 hb1 HC
        go_wp2_with fail
        go_ret
        exact ⟨ret_bool (by unfold okE; rw [hn, decide_eq_true HV.out, ← HS.out]; simp), hb2⟩

set_option maxHeartbeats 1000000 in
theorem implEOk_any (n : Nat) (S : Nat → Prop) (x : ByteArray) (v : Int) (t : T n) (c0 c1 c2 c3 c4 : Value) (w : World) (hx : x.size ≤ maxLen) (ht : TreeIn S w n t c0 c1 c2 c3 c4) (hB : ∀ b, S b → b < w.heap.size) :
    Calls Try.prog 23 #[.agg #[.string x, .int .i64 v, c0, c1, c2, c3, c4]] w fun e w' => e = .returned (.bool (okE n x v t)) ∧ Below w.heap.size w w' := by
  obtain ⟨x0, x1, x2, xa, xl, xc, ya, yl, yc, rfl, rfl, rfl, rfl, rfl⟩ := ht.shape
  have hb0 : Below w.heap.size w (w.alloc (.cells #[.string x, .int .i64 v, .int .i64 x0, .int .i64 x1, .string x2, .slice xa xl xc, .slice ya yl yc] 35)) := (Below.refl _ _).alloc (Nat.le_refl _) _
  obtain ⟨ht0, hB0⟩ := ht.step hB hb0
  have HC : Hid (Calls Try.prog 44 _ _ _) := implOk_any n S t _ _ _ _ _ _ ht0 hB0
  have HS : Hid (x0 = sortT n t) := ht.sortT
  clear ht ht0
  go_enter Try.func23, Try.ntmps23
  go_wp2_with fail
  refine (isName_any x _ hx).mono ?_
  rintro e w1 ⟨rfl, rfl⟩
  cases hn : nameB x
  case false =>
    go_wp2_with fail
    go_ret
    exact ⟨ret_bool (by simp [okE, hn]), hb0⟩
  case true =>
    by_cases h1 : 1 ≤ v
    case neg =>
      have HV : Hid (¬ (1 ≤ v ∧ v ≤ 12)) := fun h => h1 h.1
      go_wp2_with fail
      go_ret
      exact ⟨ret_bool (by unfold okE; rw [decide_eq_false HV.out]; simp), hb0⟩
    by_cases h2 : v ≤ 12
    case neg =>
      have HV : Hid (¬ (1 ≤ v ∧ v ≤ 12)) := fun h => h2 h.2
      go_wp2_with fail
      go_ret
      exact ⟨ret_bool (by unfold okE; rw [decide_eq_false HV.out]; simp), hb0⟩
    have HV : Hid (1 ≤ v ∧ v ≤ 12) := ⟨h1, h2⟩
    by_cases hs : x0 = 5
    case neg =>
      have hs' : decide (x0 = 5) = false := decide_eq_false hs
      go_wp2_with fail
      go_ret
      exact ⟨ret_bool (by unfold okE; rw [← HS.out, hs']; simp), hb0⟩
    case pos =>
      subst hs
      go_wp2_with fail
      refine HC.out.mono ?_
      rintro e w1 ⟨rfl, hb1⟩
      have hb2 := below_step hb0 (by simp) hb1
      clear hb0 hb1 HC
      go_wp2_with fail
      go_ret
      exact ⟨ret_bool (by unfold okE; rw [hn, decide_eq_true HV.out, ← HS.out]; simp), hb2⟩

end Go.Proofs.Ytpnnbdejneoccaa
