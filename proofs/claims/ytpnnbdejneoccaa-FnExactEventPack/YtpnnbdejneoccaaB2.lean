/-
  Several texts in one, in their order.
-/
import Derived.Test.YtpnnbdejneoccaaOpen
import Derived.ProofKit

/-
  Closed facts on the types of trees, for the rows' proofs.
-/
namespace Go.Proofs.Ytpnnbdejneoccaa
open Go.ChangeShapes Go.WideShapes Go.ChangeAt Go.RowKit

theorem Try.own : ownKnob Try.prog.godebug = none := by kernel_rfl
theorem Try.laidOut : laidOutB Try.prog = true := by kernel_rfl
theorem Try.cells_tree : Try.prog.cellsOf 25 = 5 := by kernel_rfl
theorem Try.cells_kids : Try.prog.cellsOf 23 = 1 := by kernel_rfl
theorem Try.cells_names : Try.prog.cellsOf 22 = 1 := by kernel_rfl
theorem Try.cells_int : Try.prog.cellsOf 3 = 1 := by kernel_rfl
theorem Try.cells_str : Try.prog.cellsOf 9 = 1 := by kernel_rfl

theorem Try.treeType : ∃ fs, TreeType Try.prog 25 23 fs 3 9 22 :=
  ⟨_, Try.underlying25, Try.cells_tree, Try.underlying23, Try.underlying3, Try.underlying9, Try.underlying22, Try.cells_int, Try.cells_str, Try.cells_names, Try.cells_kids,
    ⟨_, rfl, rfl, rfl⟩, ⟨_, rfl, rfl, rfl⟩, ⟨_, rfl, rfl, rfl⟩, ⟨_, rfl, rfl, rfl⟩, ⟨_, rfl, rfl, rfl⟩, rfl⟩

end Go.Proofs.Ytpnnbdejneoccaa

/-
  An event that came in, read as data.
-/
namespace Go.Proofs.Ytpnnbdejneoccaa
open Go.ChangeShapes Go.WideShapes Go.ChangeAt Go.RowKit

/-- What the type of events is. -/
structure EventType (P : Program) (te tt : TypeId) (fs : Array Field) (ti ts : TypeId) : Prop where
  event : P.underlying te = some (.struct fs)
  cells : P.cellsOf te = 7
  f0 : ∃ f, fs[0]? = some f ∧ f.type = ts ∧ f.offset = 0
  f1 : ∃ f, fs[1]? = some f ∧ f.type = ti ∧ f.offset = 1
  f2 : ∃ f, fs[2]? = some f ∧ f.type = tt ∧ f.offset = 2
  nf : fs.size = 3

theorem open_event {H : Type} {enc : TypeId × Value → H} {P : Program} {w : World} {spare : Nat → Bool} {held : Bool} {te tt ks ti ts tn : TypeId} {fs gs : Array Field} (E : EventType P te tt fs ti ts) (F : TreeType P tt ks gs ti ts tn)
    {fuel : Nat} {cs : List Value} {x : DataW H × List MemPlace} (h : DataW.trod enc P w 0 spare held fuel te cs = some x) :
      ∃ (s : ByteArray) (v : Int) (t : T fuel) (c0 c1 c2 c3 c4 : Value), cs = [.string s, .int .i64 v, c0, c1, c2, c3, c4] ∧ s.size ≤ maxLen ∧ (Lit.int .i64 v).wf = true ∧ TreeIn (fun b => b < w.heap.size) w fuel t c0 c1 c2 c3 c4 := by
  obtain ⟨xs, n, rfl, -, hlen, hxl, hf⟩ := DataW.trod_struct E.event h
  rw [E.cells] at hlen
  match cs, hlen with
  | [a0, a1, c0, c1, c2, c3, c4], _ =>
    obtain ⟨f0, e0, t0, o0⟩ := E.f0
    obtain ⟨f1, e1, t1, o1⟩ := E.f1
    obtain ⟨f2, e2, t2, o2⟩ := E.f2
    have get : ∀ i, i < 3 → ∃ y, xs[i]? = some y := fun i hi => ⟨xs[i]'(by rw [hxl, E.nf]; exact hi), List.getElem?_eq_getElem _⟩
    have r0 := hf 0 f0 e0
    have r1 := hf 1 f1 e1
    have r2 := hf 2 f2 e2
    obtain ⟨y0, g0⟩ := get 0 (by omega)
    obtain ⟨y1, g1⟩ := get 1 (by omega)
    obtain ⟨y2, g2⟩ := get 2 (by omega)
    rw [t0, o0, F.cs, g0] at r0
    rw [t1, o1, F.ci, g1] at r1
    rw [t2, o2, F.cells, g2] at r2
    simp only [List.drop_zero, List.drop_succ_cons, List.take_succ_cons, List.take_zero] at r0 r1 r2
    obtain ⟨s, hs, -, ws⟩ := DataW.trod_string F.str r0
    obtain ⟨m, hm, -, wm⟩ := DataW.trod_int F.int r1
    simp at hs hm
    subst hs hm
    obtain ⟨t, d0, d1, d2, d3, d4, hd, ht⟩ := open_tree F n (n + 1) (by omega) _ _ r2
    simp at hd
    obtain ⟨rfl, rfl, rfl, rfl, rfl⟩ := hd
    exact ⟨_, _, t, _, _, _, _, _, rfl, ws, wm, ht⟩

theorem Try.eventType : ∃ fs, EventType Try.prog 27 25 fs 3 9 :=
  ⟨_, Try.underlying27, by kernel_rfl, ⟨_, rfl, rfl, rfl⟩, ⟨_, rfl, rfl, rfl⟩, ⟨_, rfl, rfl, rfl⟩, rfl⟩

end Go.Proofs.Ytpnnbdejneoccaa
