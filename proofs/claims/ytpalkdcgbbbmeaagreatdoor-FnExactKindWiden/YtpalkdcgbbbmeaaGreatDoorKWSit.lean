/-
  What the law of KindWiden holds: its arguments, their copies, what was asked for, what was answered.
-/
import Derived.Test.YtpalkdcgbbbmeaaGreatDoorB12
import Derived.Test.YtpalkdcgbbbmeaaGreatDoorB8
import Derived.Test.YtpalkdcgbbbmeaaGreatDoorB1
import Derived.Test.YtpalkdcgbbbmeaaGreatDoorB4
import Derived.Test.YtpalkdcgbbbmeaaGreatDoorB15
import Derived.Test.YtpalkdcgbbbmeaaGreatDoorTOut0
namespace Go.Proofs.YtpalkdcgbbbmeaaGreatDoor
open Go.RowKit

theorem Box3.eqw {w w' : World} {N : Nat} {a b c : Value} (h : Box3 w N a b c) (hb : w'.heap[N]? = w.heap[N]?) : Box3 w' N a b c :=
  ⟨(World.cell?_of_block (w := w) (w' := w') (a := ⟨N, 0, none⟩) hb).trans h.c0, (World.cell?_of_block (w := w) (w' := w') (a := ⟨N, 1, none⟩) hb).trans h.c1, (World.cell?_of_block (w := w) (w' := w') (a := ⟨N, 2, none⟩) hb).trans h.c2⟩

theorem Box5.eqw {w w' : World} {N : Nat} {a b c d e : Value} (h : Box5 w N a b c d e) (hb : w'.heap[N]? = w.heap[N]?) : Box5 w' N a b c d e :=
  ⟨(World.cell?_of_block (w := w) (w' := w') (a := ⟨N, 0, none⟩) hb).trans h.c0, (World.cell?_of_block (w := w) (w' := w') (a := ⟨N, 1, none⟩) hb).trans h.c1, (World.cell?_of_block (w := w) (w' := w') (a := ⟨N, 2, none⟩) hb).trans h.c2,
    (World.cell?_of_block (w := w) (w' := w') (a := ⟨N, 3, none⟩) hb).trans h.c3, (World.cell?_of_block (w := w) (w' := w') (a := ⟨N, 4, none⟩) hb).trans h.c4⟩

theorem frozen_block {u u' : World} {b : Nat} (h : u'.heap[b]? = u.heap[b]?) (o : Nat) : u'.frozen? ⟨b, o, none⟩ = u.frozen? ⟨b, o, none⟩ := by simp only [World.frozen?, h]

/-- The law's three arguments, in their boxes. -/
structure ArgW (S : Nat → Prop) {n m p : Nat} (a : K n) (b : K m) (t : T p) (a0 a1 a2 b0 b1 b2 e0 e1 e2 e3 e4 : Value) (w u : World) : Prop where
  below : Below w.heap.size w u
  boxA : Box3 u w.heap.size a0 a1 a2
  boxB : Box3 u (w.heap.size + 1) b0 b1 b2
  boxT : Box5 u (w.heap.size + 1 + 1) e0 e1 e2 e3 e4
  argA : KindIn S u n a a0 a1 a2
  argB : KindIn S u m b b0 b1 b2
  argT : TreeIn S u p t e0 e1 e2 e3 e4
  lt : ∀ b, S b → b < w.heap.size
  size : w.heap.size + 3 ≤ u.heap.size

theorem ArgW.step {S : Nat → Prop} {n m p : Nat} {a : K n} {b : K m} {t : T p} {a0 a1 a2 b0 b1 b2 e0 e1 e2 e3 e4 : Value} {w u u' : World} (h : ArgW S a b t a0 a1 a2 b0 b1 b2 e0 e1 e2 e3 e4 w u) (hb : Below w.heap.size w u') (hz : u.heap.size ≤ u'.heap.size)
    (hs : ∀ b : Nat, b < w.heap.size + 3 → u'.heap[b]? = u.heap[b]?) : ArgW S a b t a0 a1 a2 b0 b1 b2 e0 e1 e2 e3 e4 w u' :=
  ⟨hb, h.boxA.eqw (hs _ (by omega)), h.boxB.eqw (hs _ (by omega)), h.boxT.eqw (hs _ (by omega)), h.argA.keep (fun b hb => hs b (by have := h.lt b hb; omega)) (fun _ h => h), h.argB.keep (fun b hb => hs b (by have := h.lt b hb; omega)) (fun _ h => h), h.argT.keep (fun b hb => hs b (by have := h.lt b hb; omega)) (fun _ h => h), h.lt, by have := h.size; omega⟩

theorem ArgW.keep {S : Nat → Prop} {n m p : Nat} {a : K n} {b : K m} {t : T p} {a0 a1 a2 b0 b1 b2 e0 e1 e2 e3 e4 : Value} {w u u' : World} (h : ArgW S a b t a0 a1 a2 b0 b1 b2 e0 e1 e2 e3 e4 w u) (hb : Below u.heap.size u u') : ArgW S a b t a0 a1 a2 b0 b1 b2 e0 e1 e2 e3 e4 w u' :=
  h.step (below_step h.below h.below.size hb) hb.size (fun b hb' => hb.block b (by have := h.size; omega))

theorem ArgW.ltu {S : Nat → Prop} {n m p : Nat} {a : K n} {b : K m} {t : T p} {a0 a1 a2 b0 b1 b2 e0 e1 e2 e3 e4 : Value} {w u : World} (h : ArgW S a b t a0 a1 a2 b0 b1 b2 e0 e1 e2 e3 e4 w u) : ∀ b, S b → b < u.heap.size := fun b hb => by have := h.lt b hb; have := h.size; omega

/-- The cells of the three boxes. -/
def CellsW (N0 N1 N2 : Nat) (a0 a1 a2 b0 b1 b2 e0 e1 e2 e3 e4 : Value) (u : World) : Prop := (u.cell? ⟨N0, 0, none⟩ = some a0 ∧ u.cell? ⟨N0, 1, none⟩ = some a1 ∧ u.cell? ⟨N0, 2, none⟩ = some a2) ∧ (u.cell? ⟨N1, 0, none⟩ = some b0 ∧ u.cell? ⟨N1, 1, none⟩ = some b1 ∧ u.cell? ⟨N1, 2, none⟩ = some b2) ∧
  u.cell? ⟨N2, 0, none⟩ = some e0 ∧ u.cell? ⟨N2, 1, none⟩ = some e1 ∧ u.cell? ⟨N2, 2, none⟩ = some e2 ∧ u.cell? ⟨N2, 3, none⟩ = some e3 ∧ u.cell? ⟨N2, 4, none⟩ = some e4

theorem ArgW.cells {S : Nat → Prop} {n m p : Nat} {a : K n} {b : K m} {t : T p} {a0 a1 a2 b0 b1 b2 e0 e1 e2 e3 e4 : Value} {w u : World} (h : ArgW S a b t a0 a1 a2 b0 b1 b2 e0 e1 e2 e3 e4 w u) : CellsW w.heap.size (w.heap.size + 1) (w.heap.size + 1 + 1) a0 a1 a2 b0 b1 b2 e0 e1 e2 e3 e4 u :=
  ⟨⟨h.boxA.c0, h.boxA.c1, h.boxA.c2⟩, ⟨h.boxB.c0, h.boxB.c1, h.boxB.c2⟩, h.boxT.c0, h.boxT.c1, h.boxT.c2, h.boxT.c3, h.boxT.c4⟩

/-- The copies that the program gets, in their boxes. -/
structure CopW {n m p : Nat} (a : K n) (b : K m) (t : T p) (C X0 X1 X2 : Nat) (a0 a1 a2 b0 b1 b2 e0 e1 e2 e3 e4 : Value) (u : World) : Prop where
  boxA : Box3 u X0 a0 a1 a2
  boxB : Box3 u X1 b0 b1 b2
  boxT : Box5 u X2 e0 e1 e2 e3 e4
  inA : KindIn (fun b => C ≤ b ∧ b < X0) u n a a0 a1 a2
  inB : KindIn (fun b => X0 < b ∧ b < X1) u m b b0 b1 b2
  inT : TreeIn (fun b => X1 < b ∧ b < X2) u p t e0 e1 e2 e3 e4
  thaw : ∀ b o, C ≤ b → b ≤ X2 → u.frozen? ⟨b, o, none⟩ = false
  c0 : C ≤ X0
  x01 : X0 < X1
  x12 : X1 < X2
  xu : X2 < u.heap.size

theorem CopW.keep {n m p : Nat} {a : K n} {b : K m} {t : T p} {C X0 X1 X2 : Nat} {a0 a1 a2 b0 b1 b2 e0 e1 e2 e3 e4 : Value} {u u' : World} (h : CopW a b t C X0 X1 X2 a0 a1 a2 b0 b1 b2 e0 e1 e2 e3 e4 u) (hb : Below u.heap.size u u') : CopW a b t C X0 X1 X2 a0 a1 a2 b0 b1 b2 e0 e1 e2 e3 e4 u' := by
  have h0 := h.c0
  have h1 := h.x01
  have h2 := h.x12
  have h3 := h.xu
  exact ⟨h.boxA.keep hb, h.boxB.keep hb, h.boxT.keep hb, h.inA.keep (fun b hb' => hb.block b (by omega)) (fun _ h => h), h.inB.keep (fun b hb' => hb.block b (by omega)) (fun _ h => h), h.inT.keep (fun b hb' => hb.block b (by omega)) (fun _ h => h),
    fun b o h1 h2 => (hb.frozen (p := ⟨b, o, none⟩) (by show b < _; omega)).trans (h.thaw b o h1 h2), h0, h1, h2, Nat.lt_of_lt_of_le h3 hb.size⟩

theorem CopW.cells {n m p : Nat} {a : K n} {b : K m} {t : T p} {C X0 X1 X2 : Nat} {a0 a1 a2 b0 b1 b2 e0 e1 e2 e3 e4 : Value} {u : World} (h : CopW a b t C X0 X1 X2 a0 a1 a2 b0 b1 b2 e0 e1 e2 e3 e4 u) : CellsW X0 X1 X2 a0 a1 a2 b0 b1 b2 e0 e1 e2 e3 e4 u :=
  ⟨⟨h.boxA.c0, h.boxA.c1, h.boxA.c2⟩, ⟨h.boxB.c0, h.boxB.c1, h.boxB.c2⟩, h.boxT.c0, h.boxT.c1, h.boxT.c2, h.boxT.c3, h.boxT.c4⟩

/-- A tree in a box, all from block C on and ahead of block D. -/
structure AnsW {m : Nat} (r : T m) (C D A : Nat) (p0 p1 p2 p3 p4 : Value) (u : World) : Prop where
  box : Box5 u A p0 p1 p2 p3 p4
  tree : TreeIn (fun b => C ≤ b ∧ b < D) u m r p0 p1 p2 p3 p4
  ca : C ≤ A
  ad : A < D
  lt : D ≤ u.heap.size

theorem AnsW.same {m : Nat} {r : T m} {C D A : Nat} {p0 p1 p2 p3 p4 : Value} {u u' : World} (h : AnsW r C D A p0 p1 p2 p3 p4 u) (hz : u.heap.size ≤ u'.heap.size) (hs : ∀ b : Nat, C ≤ b → b < D → u'.heap[b]? = u.heap[b]?) : AnsW r C D A p0 p1 p2 p3 p4 u' :=
  ⟨h.box.eqw (hs A h.ca h.ad), h.tree.keep (fun b hb => hs b hb.1 hb.2) (fun _ h => h), h.ca, h.ad, Nat.le_trans h.lt hz⟩

theorem AnsW.keep {m : Nat} {r : T m} {C D A : Nat} {p0 p1 p2 p3 p4 : Value} {u u' : World} (h : AnsW r C D A p0 p1 p2 p3 p4 u) (hb : Below u.heap.size u u') : AnsW r C D A p0 p1 p2 p3 p4 u' :=
  h.same hb.size (fun b _ h2 => hb.block b (by have := h.lt; omega))

/-- A new box for a tree. -/
def NewT (W : World) (g : Nat) : Prop := W.heap[g]? = some (.cells #[.int .i64 0, .int .i64 0, .string ⟨#[]⟩, .slice none 0 0, .slice none 0 0] 29 (0, 0))

theorem NewT.lt {W : World} {g : Nat} (h : NewT W g) : g < W.heap.size := (Array.getElem?_eq_some_iff.1 h).1
theorem NewT.keep {W w' : World} {g : Nat} (h : NewT W g) (hb : Below W.heap.size W w') : NewT w' g := (hb.block g h.lt).trans h
theorem newT_at (V : World) : NewT (V.alloc (.cells #[.int .i64 0, .int .i64 0, .string ⟨#[]⟩, .slice none 0 0, .slice none 0 0] 29)) V.heap.size := heap_alloc_new _ _
theorem newT_atD (V : World) : NewT (V.alloc (.cells #[.int .i64 0, .int .i64 0, .string ⟨#[]⟩, .slice none 0 0, .slice none 0 0] 29)).drew V.heap.size := heap_alloc_new V _

theorem ltK_alloc {W : World} {n : Nat} {k : K n} {c0 c1 c2 : Value} {o : Obj} (h : KindIn (fun b => b < W.heap.size) W n k c0 c1 c2) : KindIn (fun b => b < (W.alloc o).heap.size) (W.alloc o) n k c0 c1 c2 :=
  h.keep (fun b hb => ((Below.refl W.heap.size W).alloc (Nat.le_refl _) o).block b hb) (fun b hb => by have : b < W.heap.size := hb; simp; omega)
theorem ltT_alloc {W : World} {n : Nat} {k : T n} {c0 c1 c2 c3 c4 : Value} {o : Obj} (h : TreeIn (fun b => b < W.heap.size) W n k c0 c1 c2 c3 c4) : TreeIn (fun b => b < (W.alloc o).heap.size) (W.alloc o) n k c0 c1 c2 c3 c4 :=
  h.keep (fun b hb => ((Below.refl W.heap.size W).alloc (Nat.le_refl _) o).block b hb) (fun b hb => by have : b < W.heap.size := hb; simp; omega)

theorem ans_new {m : Nat} {r : T m} {C K : Nat} {d0 d1 d2 d3 d4 : Value} {W : World} {ty : TypeId} (hd : TreeIn (fun b => K ≤ b ∧ b < W.heap.size) W m r d0 d1 d2 d3 d4) (h1 : C ≤ K) (h2 : C ≤ W.heap.size) : AnsW r C (W.alloc (.cells #[d0, d1, d2, d3, d4] ty)).heap.size W.heap.size d0 d1 d2 d3 d4 (W.alloc (.cells #[d0, d1, d2, d3, d4] ty)) :=
  ⟨Box5.new W _ _ _ _ _ _, hd.keep (fun b hb => ((Below.refl W.heap.size W).alloc (Nat.le_refl _) _).block b hb.2) (fun b hb => ⟨by omega, by have := hb.2; simp; omega⟩), h2, by simp, Nat.le_refl _⟩

theorem set5_box {W : World} {N : Nat} {g0 g1 g2 g3 g4 : Value} (q : NewT W N) : Box5 (((((W.setCell ⟨N, 0, none⟩ g0).setCell ⟨N, 1, none⟩ g1).setCell ⟨N, 2, none⟩ g2).setCell ⟨N, 3, none⟩ g3).setCell ⟨N, 4, none⟩ g4) N g0 g1 g2 g3 g4 := by
  obtain ⟨⟨h0, h1, h2, h3, h4⟩, -⟩ := zeroT_cells q
  refine ⟨?_, ?_, ?_, ?_, ?_⟩
  · rw [World.cell?_setCell_other _ _ _ _ (by simp), World.cell?_setCell_other _ _ _ _ (by simp), World.cell?_setCell_other _ _ _ _ (by simp), World.cell?_setCell_other _ _ _ _ (by simp), World.cell?_setCell_same _ _ _ h0]
  · rw [World.cell?_setCell_other _ _ _ _ (by simp), World.cell?_setCell_other _ _ _ _ (by simp), World.cell?_setCell_other _ _ _ _ (by simp), World.cell?_setCell_same _ _ _ ((World.cell?_setCell_other _ _ _ _ (by simp)).trans h1)]
  · rw [World.cell?_setCell_other _ _ _ _ (by simp), World.cell?_setCell_other _ _ _ _ (by simp), World.cell?_setCell_same _ _ _ ((World.cell?_setCell_other _ _ _ _ (by simp)).trans ((World.cell?_setCell_other _ _ _ _ (by simp)).trans h2))]
  · rw [World.cell?_setCell_other _ _ _ _ (by simp), World.cell?_setCell_same _ _ _ ((World.cell?_setCell_other _ _ _ _ (by simp)).trans ((World.cell?_setCell_other _ _ _ _ (by simp)).trans ((World.cell?_setCell_other _ _ _ _ (by simp)).trans h3)))]
  · rw [World.cell?_setCell_same _ _ _ ((World.cell?_setCell_other _ _ _ _ (by simp)).trans ((World.cell?_setCell_other _ _ _ _ (by simp)).trans ((World.cell?_setCell_other _ _ _ _ (by simp)).trans ((World.cell?_setCell_other _ _ _ _ (by simp)).trans h4))))]

theorem ans_set {m : Nat} {r : T m} {C K N : Nat} {d0 d1 d2 d3 d4 : Value} {W : World} (q : NewT W N) (hd : TreeIn (fun b => K ≤ b ∧ b < W.heap.size) W m r d0 d1 d2 d3 d4) (h2 : C ≤ N) (h3 : N < K) :
    AnsW r C (((((W.setCell ⟨N, 0, none⟩ d0).setCell ⟨N, 1, none⟩ d1).setCell ⟨N, 2, none⟩ d2).setCell ⟨N, 3, none⟩ d3).setCell ⟨N, 4, none⟩ d4).heap.size N d0 d1 d2 d3 d4 (((((W.setCell ⟨N, 0, none⟩ d0).setCell ⟨N, 1, none⟩ d1).setCell ⟨N, 2, none⟩ d2).setCell ⟨N, 3, none⟩ d3).setCell ⟨N, 4, none⟩ d4) := by
  have hq := q.lt
  refine ⟨set5_box q, hd.keep (fun b hb => ?_) (fun b hb => ⟨by omega, by have := hb.2; simpa using this⟩), h2, by simpa using hq, Nat.le_refl _⟩
  have hN : b ≠ N := by omega
  exact (Below.heap_setCell _ _ _ _ hN).trans ((Below.heap_setCell _ _ _ _ hN).trans ((Below.heap_setCell _ _ _ _ hN).trans ((Below.heap_setCell _ _ _ _ hN).trans (Below.heap_setCell _ _ _ _ hN))))

theorem set5_below {B : Nat} {V W : World} {N : Nat} {g0 g1 g2 g3 g4 : Value} (h : Below B V W) (hN : B ≤ N) : Below B V (((((W.setCell ⟨N, 0, none⟩ g0).setCell ⟨N, 1, none⟩ g1).setCell ⟨N, 2, none⟩ g2).setCell ⟨N, 3, none⟩ g3).setCell ⟨N, 4, none⟩ g4) := ((((h.setCell hN _).setCell hN _).setCell hN _).setCell hN _).setCell hN _

/-- What the answer owns. -/
structure GotW (m : Nat) (C A : Nat) (L3 L4 : List Spot) (p3 p4 : Value) (u : World) : Prop where
  spn : SpN u p3 L3
  spr : SpR u (m - 1) p4 L4
  own : Own (fun b => C ≤ b ∧ b < A) (L3 ++ L4)
  len : L3.length + L4.length ≤ 1000

theorem GotW.same {m C A : Nat} {L3 L4 : List Spot} {p3 p4 : Value} {u u' : World} (h : GotW m C A L3 L4 p3 p4 u) (hs : ∀ b : Nat, C ≤ b → b < A → u'.heap[b]? = u.heap[b]?) : GotW m C A L3 L4 p3 p4 u' :=
  ⟨h.spn.same (w' := u') (fun s hs' => by have := h.own.1 s (List.mem_append_left _ hs'); exact hs _ this.1 this.2), h.spr.same (w' := u') (fun s hs' => by have := h.own.1 s (List.mem_append_right _ hs'); exact hs _ this.1 this.2), h.own, h.len⟩

theorem GotW.ok {m C A : Nat} {L3 L4 : List Spot} {p3 p4 : Value} {u : World} (h : GotW m C A L3 L4 p3 p4 u) : ∀ s, s ∈ L3 ++ L4 → s.ok u := fun s hs => (List.mem_append.1 hs).elim (h.spn.ok s) (h.spr.ok s)

end Go.Proofs.YtpalkdcgbbbmeaaGreatDoor
