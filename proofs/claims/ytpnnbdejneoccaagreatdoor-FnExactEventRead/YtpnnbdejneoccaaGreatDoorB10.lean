/-
  Several texts in one, in their order.
-/
import Derived.Test.YtpnnbdejneoccaaGreatDoorB9
import Derived.Test.YtpnnbdejneoccaaGreatDoorB8
import Derived.Test.YtpnnbdejneoccaaGreatDoorB5
import Derived.Test.YtpnnbdejneoccaaGreatDoorB4
import Derived.Test.YtpnnbdejneoccaaGreatDoorB1

/-
  Marks in an event's copy.
-/
namespace Go.Proofs.YtpnnbdejneoccaaGreatDoor
open Go.RowKit

theorem Box7.eqe {w w' : World} {N : Nat} {a b c d e f g : Value} (h : Box7 w N a b c d e f g) (hb : w'.heap[N]? = w.heap[N]?) : Box7 w' N a b c d e f g :=
  ⟨(World.cell?_of_block (w := w) (w' := w') (a := ⟨N, 0, none⟩) hb).trans h.c0, (World.cell?_of_block (w := w) (w' := w') (a := ⟨N, 1, none⟩) hb).trans h.c1, (World.cell?_of_block (w := w) (w' := w') (a := ⟨N, 2, none⟩) hb).trans h.c2,
    (World.cell?_of_block (w := w) (w' := w') (a := ⟨N, 3, none⟩) hb).trans h.c3, (World.cell?_of_block (w := w) (w' := w') (a := ⟨N, 4, none⟩) hb).trans h.c4, (World.cell?_of_block (w := w) (w' := w') (a := ⟨N, 5, none⟩) hb).trans h.c5, (World.cell?_of_block (w := w) (w' := w') (a := ⟨N, 6, none⟩) hb).trans h.c6⟩

set_option maxHeartbeats 1000000 in
theorem markEvent_any (n : Nat) (x : ByteArray) (v x0 x1 : Int) (x2 : ByteArray) (ya za : Option Addr) (yl yc zl zc : Nat) (L3 L4 : List Spot) (k : Int) (w : World) (h3 : SpN w (.slice ya yl yc) L3) (h4 : SpR w n (.slice za zl zc) L4) (h0 : 1 ≤ k) (h1 : k + L3.length + L4.length ≤ 1000000000) :
    Calls Tryz.prog 7 #[.agg #[.string x, .int .i64 v, .int .i64 x0, .int .i64 x1, .string x2, .slice ya yl yc, .slice za zl zc], .int .i64 k] w fun e w' => e = .returned (.int .i64 (k + L3.length + L4.length)) ∧ ∃ W, Below w.heap.size w W ∧ Wrote (L3 ++ L4) k W w' := by
  obtain ⟨W1, hW1⟩ : ∃ W1, W1 = w.alloc (.cells #[.string x, .int .i64 v, .int .i64 x0, .int .i64 x1, .string x2, .slice ya yl yc, .slice za zl zc] 27) := ⟨_, rfl⟩
  have hb : Below w.heap.size w W1 := by rw [hW1]; exact (Below.refl _ _).alloc (Nat.le_refl _) _
  have HC := Lib.hid (markTree_any n x0 x1 x2 _ _ L3 L4 k W1 (h3.below hb) (h4.below hb) h0 h1)
  have HB := Lib.hid hb
  clear h3 h4 hb
  go_enter Tryz.func7, Tryz.ntmps7
  go_wp2_with fail
  rw [← hW1]
  clear hW1
  refine HC.out.mono ?_
  rintro e w1 ⟨rfl, hw⟩
  have HW := Lib.hid hw
  generalize hqq : k + (L3.length : Int) + (L4.length : Int) = q at *
  have HQ := Lib.hid hqq
  clear hw HC h1 hqq
  go_wp2_with fail
  go_ret
  exact ⟨ret_int HQ.out.symm, W1, HB.out, HW.out⟩

set_option maxHeartbeats 1000000 in
theorem heldEvent_any (n : Nat) (x : ByteArray) (v x0 x1 : Int) (x2 : ByteArray) (ya za : Option Addr) (yl yc zl zc : Nat) (L3 L4 : List Spot) (k : Int) (w : World) (h3 : SpN w (.slice ya yl yc) L3) (h4 : SpR w n (.slice za zl zc) L4) (hh : Holds w (L3 ++ L4) k) (hok : ∀ s, s ∈ L3 ++ L4 → s.ok w) (h0 : 1 ≤ k) (h1 : k + L3.length + L4.length ≤ 1000000000) :
    Calls Tryz.prog 8 #[.agg #[.string x, .int .i64 v, .int .i64 x0, .int .i64 x1, .string x2, .slice ya yl yc, .slice za zl zc], .int .i64 k] w fun e w' => e = .returned (.int .i64 (k + L3.length + L4.length)) ∧ Below w.heap.size w w' := by
  obtain ⟨W1, hW1⟩ : ∃ W1, W1 = w.alloc (.cells #[.string x, .int .i64 v, .int .i64 x0, .int .i64 x1, .string x2, .slice ya yl yc, .slice za zl zc] 27) := ⟨_, rfl⟩
  have hb : Below w.heap.size w W1 := by rw [hW1]; exact (Below.refl _ _).alloc (Nat.le_refl _) _
  have HC := Lib.hid (heldTree_any n x0 x1 x2 _ _ L3 L4 k W1 (h3.below hb) (h4.below hb) (hh.below hok hb) h0 h1)
  have HB := Lib.hid hb
  have hpos : 0 ≤ k + (L3.length : Int) + (L4.length : Int) := by omega
  clear h3 h4 hb hh hok
  go_enter Tryz.func8, Tryz.ntmps8
  go_wp2_with fail
  rw [← hW1]
  clear hW1
  refine HC.out.mono ?_
  rintro e w1 ⟨rfl, hw⟩
  have HW := Lib.hid (below_step HB.out HB.out.size hw)
  generalize hqq : k + (L3.length : Int) + (L4.length : Int) = q at *
  have HQ := Lib.hid hqq
  have hq : ¬ q < 0 := by omega
  clear hw HC h1 hqq
  go_wp2_with fail
  go_ret
  exact ⟨ret_int HQ.out.symm, HW.out⟩

/-- The law's argument, in its box. -/
structure ArgE (S : Nat → Prop) {n : Nat} (x : ByteArray) (v : Int) (t : T n) (c0 c1 c2 c3 c4 : Value) (w u : World) : Prop where
  below : Below w.heap.size w u
  box : Box7 u w.heap.size (.string x) (.int .i64 v) c0 c1 c2 c3 c4
  arg : TreeIn S u n t c0 c1 c2 c3 c4
  lt : ∀ b, S b → b < w.heap.size
  size : w.heap.size + 1 ≤ u.heap.size

theorem ArgE.step {S : Nat → Prop} {n : Nat} {x : ByteArray} {v : Int} {t : T n} {c0 c1 c2 c3 c4 : Value} {w u u' : World} (h : ArgE S x v t c0 c1 c2 c3 c4 w u) (hb : Below w.heap.size w u') (hz : u.heap.size ≤ u'.heap.size) (hs : ∀ b : Nat, b < w.heap.size + 1 → u'.heap[b]? = u.heap[b]?) : ArgE S x v t c0 c1 c2 c3 c4 w u' :=
  ⟨hb, h.box.eqe (hs _ (by omega)), h.arg.keep (fun b hb => hs b (by have := h.lt b hb; omega)) (fun _ h => h), h.lt, by have := h.size; omega⟩

theorem ArgE.keep {S : Nat → Prop} {n : Nat} {x : ByteArray} {v : Int} {t : T n} {c0 c1 c2 c3 c4 : Value} {w u u' : World} (h : ArgE S x v t c0 c1 c2 c3 c4 w u) (hb : Below u.heap.size u u') : ArgE S x v t c0 c1 c2 c3 c4 w u' :=
  h.step (below_step h.below h.below.size hb) hb.size (fun b hb' => hb.block b (by have := h.size; omega))

end Go.Proofs.YtpnnbdejneoccaaGreatDoor

/-
  What the laws of events hold from the first answer on.
-/
namespace Go.Proofs.YtpnnbdejneoccaaGreatDoor
open Go.RowKit

/-- What the law holds from the first answer on: what is asked for, what was answered. -/
structure SitE (n : Nat) (x : ByteArray) (v : Int) (t : T n) (P : Nat → Prop) (A G : Nat) (p0 p1 p2 p3 p4 g0 g1 g2 g3 g4 : Value) (w u : World) : Prop where
  below : Below w.heap.size w u
  ansBox : Box7 u A (.string x) (.int .i64 v) p0 p1 p2 p3 p4
  ans : TreeIn P u n t p0 p1 p2 p3 p4
  ansB : ∀ b, P b → b < A
  gotBox : Box7 u G (.string x) (.int .i64 v) g0 g1 g2 g3 g4
  ag : A < G
  gu : G < u.heap.size

theorem SitE.step {n : Nat} {x : ByteArray} {v : Int} {t : T n} {P : Nat → Prop} {A G : Nat} {p0 p1 p2 p3 p4 g0 g1 g2 g3 g4 : Value} {w u u' : World} (h : SitE n x v t P A G p0 p1 p2 p3 p4 g0 g1 g2 g3 g4 w u) {Z : Nat → Prop} (hb : Below w.heap.size w u') (hz : u.heap.size ≤ u'.heap.size)
    (hs : ∀ b : Nat, b < u.heap.size → ¬ Z b → u'.heap[b]? = u.heap[b]?) (hZ : ∀ b, Z b → A < b ∧ b ≠ G) : SitE n x v t P A G p0 p1 p2 p3 p4 g0 g1 g2 g3 g4 w u' := by
  have ag := h.ag
  have gu := h.gu
  have q : ∀ b, b ≤ A → u'.heap[b]? = u.heap[b]? := fun b hb => hs b (by omega) (fun hz => by have := hZ b hz; omega)
  exact ⟨hb, h.ansBox.eqe (q A (Nat.le_refl _)), h.ans.keep (fun b hb => q b (by have := h.ansB b hb; omega)) (fun _ h => h), h.ansB,
    h.gotBox.eqe (hs G gu (fun hz => (hZ G hz).2 rfl)), ag, by omega⟩

theorem SitE.keep {n : Nat} {x : ByteArray} {v : Int} {t : T n} {P : Nat → Prop} {A G : Nat} {p0 p1 p2 p3 p4 g0 g1 g2 g3 g4 : Value} {w u u' : World} (h : SitE n x v t P A G p0 p1 p2 p3 p4 g0 g1 g2 g3 g4 w u) (hb : Below u.heap.size u u') :
    SitE n x v t P A G p0 p1 p2 p3 p4 g0 g1 g2 g3 g4 w u' := h.step (Z := fun _ => False) (below_step h.below h.below.size hb) hb.size (fun b hb' _ => hb.block b hb') (fun _ h => h.elim)

end Go.Proofs.YtpnnbdejneoccaaGreatDoor
