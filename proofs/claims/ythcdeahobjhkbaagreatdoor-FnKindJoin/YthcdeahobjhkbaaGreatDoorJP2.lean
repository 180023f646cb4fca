/-
  The program's joining: of two lists; of a maybe.
-/
import Derived.Test.YthcdeahobjhkbaaGreatDoorJP1
import Derived.Test.YthcdeahobjhkbaaGreatDoorJC3
import Derived.Deep.RegionHeld
namespace Go.Proofs.YthcdeahobjhkbaaGreatDoor
open Go.RowKit

theorem EndQ.move {L : Nat} {o : Option (K (L + 1))} {w w0 W U : World} {v0 : Int} {va xa : Option Addr} {vl vc xl xc : Nat} {u : Value} (h : EndQ L o w v0 va vl vc xa xl xc u W) (hs : ∀ b, w.heap.size ≤ b → b < W.heap.size → U.heap[b]? = W.heap[b]?) (hz : W.heap.size ≤ U.heap.size) (hw : w0.heap.size ≤ w.heap.size) : EndQ L o w0 v0 va vl vc xa xl xc u U := by
  rcases h with ⟨r, ho, hu, hr⟩ | h
  · exact .inl ⟨r, ho, hu, hr.move hs hz hw⟩
  · exact .inr h

/-- A schema that was joined, in a box. -/
def GotQ (L : Nat) (o : Option (K (L + 1))) (W2 : World) (A : Nat) (v0 : Int) (va : Option Addr) (vl vc : Nat) (xa : Option Addr) (xl xc : Nat) (u : Value) (wx : World) : Prop :=
  wx.heap[A]? = some (.cells #[.int .i64 v0, .slice va vl vc, .slice xa xl xc] 26 (0, 0)) ∧ EndQ L o W2 v0 va vl vc xa xl xc u wx

theorem gotq_set {L : Nat} {o : Option (K (L + 1))} {W2 Wc W : World} {N : Nat} {v0 : Int} {va xa : Option Addr} {vl vc xl xc : Nat} {u : Value} (q : NewJ W N) (h : EndQ L o Wc v0 va vl vc xa xl xc u W) (h1 : N < Wc.heap.size) (h2 : W2.heap.size ≤ Wc.heap.size) :
    GotQ L o W2 N v0 va vl vc xa xl xc u (((W.setCell ⟨N, 0, none⟩ (.int .i64 v0)).setCell ⟨N, 1, none⟩ (.slice va vl vc)).setCell ⟨N, 2, none⟩ (.slice xa xl xc)) := by
  refine ⟨?_, h.move (fun b h1 _ => j3_other (by omega)) (by rw [j3_size]; exact Nat.le_refl _) h2⟩
  have q : W.heap[N]? = _ := q
  simp [World.setCell, Array.getElem?_modify, q]

theorem gotq_new {L : Nat} {o : Option (K (L + 1))} {W2 Wc W : World} {v0 : Int} {va xa : Option Addr} {vl vc xl xc : Nat} {u : Value} (h : EndQ L o Wc v0 va vl vc xa xl xc u W) (h2 : W2.heap.size ≤ Wc.heap.size) :
    GotQ L o W2 W.heap.size v0 va vl vc xa xl xc u (W.alloc (.cells #[.int .i64 v0, .slice va vl vc, .slice xa xl xc] 26)) :=
  ⟨heap_alloc_new _ _, h.move (fun b _ h2 => Below.heap_alloc _ _ _ h2) (by simp) h2⟩

/-- The boxes of the pair and of the answer. -/
structure TwoP (w W2 : World) (pa pb : Nat) (x : ByteArray) : Prop where
  below : Below w.heap.size w W2
  size : W2.heap.size = w.heap.size + 2
  bp : W2.heap[w.heap.size]? = some (.cells #[.pointer (some ⟨pa, 0, none⟩), .pointer (some ⟨pb, 0, none⟩), .string x] 43 (0, 0))
  bz : W2.heap[w.heap.size + 1]? = some (.cells #[.int .i64 0, .slice none 0 0, .slice none 0 0] 26 (0, 0))

theorem two_at (w : World) (pa pb : Nat) (x : ByteArray) : TwoP w ((w.alloc (.cells #[.pointer (some ⟨pa, 0, none⟩), .pointer (some ⟨pb, 0, none⟩), .string x] 43)).alloc (.cells #[.int .i64 0, .slice none 0 0, .slice none 0 0] 26)) pa pb x := by
  refine ⟨((Below.refl _ _).alloc (Nat.le_refl _) _).alloc (by simp) _, by simp, ?_, ?_⟩
  · rw [Below.heap_alloc _ _ _ (by simp)]; exact heap_alloc_new _ _
  · have := heap_alloc_new (w.alloc (.cells #[.pointer (some ⟨pa, 0, none⟩), .pointer (some ⟨pb, 0, none⟩), .string x] 43)) (.cells #[.int .i64 0, .slice none 0 0, .slice none 0 0] 26)
    simpa using this

theorem TwoP.cells {w W2 W : World} {pa pb : Nat} {x : ByteArray} (h : TwoP w W2 pa pb x) (hb : Below W2.heap.size W2 W) :
    W.cell? ⟨w.heap.size, 0, none⟩ = some (.pointer (some ⟨pa, 0, none⟩)) ∧ W.cell? ⟨w.heap.size, 1, none⟩ = some (.pointer (some ⟨pb, 0, none⟩)) ∧ W.cell? ⟨w.heap.size, 2, none⟩ = some (.string x) := by
  have hz := h.size
  exact (j3_cells ((hb.block _ (by omega)).trans h.bp)).1

/-- One schema within another, as the answer. -/
theorem end_one {L : Nat} {r : K (L + 1)} {s : Int} {w W2 wc : World} {pa pb : Nat} {x : ByteArray} {v0 : Int} {va xa : Option Addr} {vl vc xl xc : Nat} (hwf : (Lit.int .i64 s).wf = true) (h2 : TwoP w W2 pa pb x) (hb : Below W2.heap.size W2 wc) (hr : OutAt (L + 1) r W2 wc (.int .i64 v0) (.slice va vl vc) (.slice xa xl xc)) :
    Below w.heap.size w ((((wc.alloc (.cells #[.int .i64 v0, .slice va vl vc, .slice xa xl xc] 26)).setCell ⟨w.heap.size + 1, 0, none⟩ (.int .i64 s)).setCell ⟨w.heap.size + 1, 1, none⟩ (.slice none 0 0)).setCell ⟨w.heap.size + 1, 2, none⟩ (.slice (some ⟨wc.heap.size, 0, none⟩) 1 1)) ∧
      EndJ (L + 1) (some (oneK6 s r)) w (.returned (.tuple #[.agg #[.int .i64 s, .slice none 0 0, .slice (some ⟨wc.heap.size, 0, none⟩) 1 1], .nilIface])) ((((wc.alloc (.cells #[.int .i64 v0, .slice va vl vc, .slice xa xl xc] 26)).setCell ⟨w.heap.size + 1, 0, none⟩ (.int .i64 s)).setCell ⟨w.heap.size + 1, 1, none⟩ (.slice none 0 0)).setCell ⟨w.heap.size + 1, 2, none⟩ (.slice (some ⟨wc.heap.size, 0, none⟩) 1 1)) := by
  have hz := h2.size
  have hzc := hb.size
  refine ⟨j3_below (below_alloc (below_step h2.below h2.below.size hb) _) (by omega), .inl ⟨_, _, _, _, _, _, _, _, rfl, rfl, out_one (w0 := W2) (W := wc) hwf hr h2.below.size hzc (fun b h1 h3 => j3_other (by omega)) (by rw [j3_size]; simp)⟩⟩

theorem end_none {L : Nat} {w W2 wc : World} {pa pb : Nat} {x y : ByteArray} (h2 : TwoP w W2 pa pb x) (hb : Below W2.heap.size W2 wc) :
    Below w.heap.size w (((wc.setCell ⟨w.heap.size + 1, 0, none⟩ (.int .i64 0)).setCell ⟨w.heap.size + 1, 1, none⟩ (.slice none 0 0)).setCell ⟨w.heap.size + 1, 2, none⟩ (.slice none 0 0)) ∧
      EndJ L none w (.returned (.tuple #[.agg #[.int .i64 0, .slice none 0 0, .slice none 0 0], .iface 87 (.agg #[.string y])])) (((wc.setCell ⟨w.heap.size + 1, 0, none⟩ (.int .i64 0)).setCell ⟨w.heap.size + 1, 1, none⟩ (.slice none 0 0)).setCell ⟨w.heap.size + 1, 2, none⟩ (.slice none 0 0)) :=
  ⟨j3_below (below_step h2.below h2.below.size hb) (by omega), .inr ⟨rfl, y, rfl⟩⟩

set_option maxRecDepth 20000 in
set_option maxHeartbeats 4000000 in
theorem ofLists_j (L : Nat) (o : Option (K (L + 1))) (R pa pb qa qb : Nat) (x : ByteArray) (w : World) (hx : x.size ≤ 100000)
    (HWa : ∀ W, Below w.heap.size w W → Calls Tryz.prog 55 #[.pointer (some ⟨pa, 0, none⟩)] W fun e w' => e = .returned (.pointer (some ⟨qa, 0, none⟩)) ∧ w' = W)
    (HWb : ∀ W, Below w.heap.size w W → Calls Tryz.prog 55 #[.pointer (some ⟨pb, 0, none⟩)] W fun e w' => e = .returned (.pointer (some ⟨qb, 0, none⟩)) ∧ w' = W)
    (HOf : ∀ W, Below w.heap.size w W → Calls Tryz.prog 20 #[.pointer (some ⟨R, 0, none⟩), .agg #[.pointer (some ⟨qa, 0, none⟩), .pointer (some ⟨qb, 0, none⟩), .string (pathTo x ⟨#[91, 93]⟩)]] W fun e w' => Below W.heap.size W w' ∧ EndJ L o W e w') :
    Calls Tryz.prog 36 #[.pointer (some ⟨R, 0, none⟩), .agg #[.pointer (some ⟨pa, 0, none⟩), .pointer (some ⟨pb, 0, none⟩), .string x]] w fun e w' => Below w.heap.size w w' ∧ EndJ (L + 1) (o.map (oneK6 4)) w e w' := by
  have hs2 : (⟨#[91, 93]⟩ : ByteArray).size ≤ 2 := by decide
  obtain ⟨W2, hW2⟩ : ∃ W2, W2 = (w.alloc (.cells #[.pointer (some ⟨pa, 0, none⟩), .pointer (some ⟨pb, 0, none⟩), .string x] 43)).alloc (.cells #[.int .i64 0, .slice none 0 0, .slice none 0 0] 26) := ⟨_, rfl⟩
  have h2 : TwoP w W2 pa pb x := by rw [hW2]; exact two_at _ _ _ _
  have H2 := Lib.hid h2
  have hz2 := h2.size
  have HS : Hid (∀ W, Below W2.heap.size W2 W → W.cell? ⟨w.heap.size, 0, none⟩ = some (.pointer (some ⟨pa, 0, none⟩)) ∧ W.cell? ⟨w.heap.size, 1, none⟩ = some (.pointer (some ⟨pb, 0, none⟩)) ∧ W.cell? ⟨w.heap.size, 2, none⟩ = some (.string x)) := fun W hW => h2.cells hW
  have HCa : Hid (∀ W, Below W2.heap.size W2 W → Calls Tryz.prog 55 #[.pointer (some ⟨pa, 0, none⟩)] W fun e w' => e = .returned (.pointer (some ⟨qa, 0, none⟩)) ∧ w' = W) := fun W hW => HWa W (below_step h2.below h2.below.size hW)
  have HCb : Hid (∀ W, Below W2.heap.size W2 W → Calls Tryz.prog 55 #[.pointer (some ⟨pb, 0, none⟩)] W fun e w' => e = .returned (.pointer (some ⟨qb, 0, none⟩)) ∧ w' = W) := fun W hW => HWb W (below_step h2.below h2.below.size hW)
  have HBe : Hid (∀ W, Below W2.heap.size W2 W → Calls Tryz.prog 54 #[.agg #[.pointer (some ⟨pa, 0, none⟩), .pointer (some ⟨pb, 0, none⟩), .string x], .string ⟨#[91, 93]⟩, .pointer (some ⟨qa, 0, none⟩), .pointer (some ⟨qb, 0, none⟩)] W fun e w' => e = .returned (.agg #[.pointer (some ⟨qa, 0, none⟩), .pointer (some ⟨qb, 0, none⟩), .string (pathTo x ⟨#[91, 93]⟩)]) ∧ Below W2.heap.size W2 w' ∧ ∀ N, NewJ W N → NewJ w' N) := fun W hW =>
    (below_any x _ _ _ _ _ W (by omega)).mono fun e w' h => ⟨h.1, below_step hW hW.size h.2, fun N q => q.keep h.2⟩
  have HCj : Hid (∀ W, Below W2.heap.size W2 W → Calls Tryz.prog 20 #[.pointer (some ⟨R, 0, none⟩), .agg #[.pointer (some ⟨qa, 0, none⟩), .pointer (some ⟨qb, 0, none⟩), .string (pathTo x ⟨#[91, 93]⟩)]] W fun e w' => ∃ v0 va vl vc xa xl xc u, e = .returned (.tuple #[.agg #[.int .i64 v0, .slice va vl vc, .slice xa xl xc], u]) ∧ EndQ L o W v0 va vl vc xa xl xc u w' ∧ (W2.heap.size ≤ W.heap.size ∧ Below W2.heap.size W2 w') ∧ ∀ N, NewJ W N → NewJ w' N ∧ N < W.heap.size) := fun W hW => (HOf W (below_step h2.below h2.below.size hW)).mono (by
    rintro e w' ⟨hb, hE⟩
    obtain ⟨v0, va, vl, vc, xa, xl, xc, u, rfl, hQ⟩ := endQ_to hE
    exact ⟨v0, va, vl, vc, xa, xl, xc, u, rfl, hQ, ⟨hW.size, below_step hW hW.size hb⟩, fun N q => ⟨q.keep hb, q.lt⟩⟩)
  generalize pathTo x ⟨#[91, 93]⟩ = y at *
  have hd0 : Below W2.heap.size W2 W2.drew := (Below.refl _ _).drew
  have hza : w.heap.size + 2 ≤ W2.heap.size := Nat.le_of_eq hz2.symm
  have n0 : ¬ W2.heap.size = w.heap.size := by omega
  obtain ⟨i0, i1, i2⟩ := HS.out W2 (Below.refl _ _)
  clear h2 hz2 HWa HWb HOf hs2
  go_enter Tryz.func36, Tryz.ntmps36
  go_upto_region 1 with fail
  rw [← hW2]
  clear hW2
  go_cut [6, 7] from 8 to 29 (fun pv uv wx => ∃ A v0 va vl vc xa xl xc u, pv = .pointer (some ⟨A, 0, none⟩) ∧ uv = u ∧ GotQ L o W2 A v0 va vl vc xa xl xc u wx ∧ Below W2.heap.size W2 wx)
  case first =>
    go_region_held (fun w' => w'.cell? ⟨w.heap.size, 0, none⟩ = some (.pointer (some ⟨pa, 0, none⟩)) ∧ w'.cell? ⟨w.heap.size, 1, none⟩ = some (.pointer (some ⟨pb, 0, none⟩)) ∧ w'.cell? ⟨w.heap.size, 2, none⟩ = some (.string x)) (first | with_reducible assumption | go_keep) (first
      | (go_at_call_of 55 (Value.pointer (some ⟨pa, 0, none⟩)); refine (HCa.out _ (by (first | with_reducible assumption | (with_reducible refine below_alloc ?_ _; with_reducible assumption) | (with_reducible refine below_allocD ?_ _; with_reducible assumption)))).mono ?_; rintro e y1 ⟨rfl, rfl⟩)
      | (go_at_call_of 55 (Value.pointer (some ⟨pb, 0, none⟩)); refine (HCb.out _ (by (first | with_reducible assumption | (with_reducible refine below_alloc ?_ _; with_reducible assumption) | (with_reducible refine below_allocD ?_ _; with_reducible assumption)))).mono ?_; rintro e y2 ⟨rfl, rfl⟩)
      | (go_at_call 54; refine (HBe.out _ (by (first | with_reducible assumption | (with_reducible refine below_alloc ?_ _; with_reducible assumption) | (with_reducible refine below_allocD ?_ _; with_reducible assumption)))).mono ?_; rintro e y3 ⟨rfl, hy3, hq3⟩; obtain ⟨ic0, ic1, ic2⟩ := HS.out y3 hy3; have hzc := hy3.size; have mc : ¬ y3.heap.size = w.heap.size := (by omega); (first | with_reducible (have q := hq3 _ (newJ_at _)) | with_reducible (have q := hq3 _ (newJ_atD _)) | with_reducible (have q := hq3 _ q) | skip))
      | (go_at_call 20; refine (HCj.out _ (by (first | with_reducible assumption | (with_reducible refine below_alloc ?_ _; with_reducible assumption) | (with_reducible refine below_allocD ?_ _; with_reducible assumption)))).mono ?_; rintro e y4 ⟨v0, va, vl, vc, xa, xl, xc, u, rfl, hQ4, ⟨hW4, hy4⟩, hq4⟩; obtain ⟨id0, id1, id2⟩ := HS.out y4 hy4; have hzd := hy4.size; have md : ¬ y4.heap.size = w.heap.size := (by omega); (first | with_reducible (have q := hq4 _ (newJ_at _)) | with_reducible (have q := hq4 _ (newJ_atD _)) | with_reducible (have q := hq4 _ q) | skip); (first | (obtain ⟨q, hN⟩ := q; obtain ⟨⟨r0, r1, r2⟩, f0, f1, f2⟩ := j3_cells q) | skip)))
    all_goals
      go_wp2_with fail
      go_meet
      first
        | with_reducible exact ⟨_, _, _, _, _, _, _, _, _, rfl, rfl, gotq_set q hQ4 (by omega) hW4, j3_below hy4 (by omega)⟩
        | with_reducible exact ⟨_, _, _, _, _, _, _, _, _, rfl, rfl, gotq_new hQ4 hW4, below_alloc hy4 _⟩
  case rest =>
    obtain ⟨A, v0, va, vl, vc, xa, xl, xc, u, rfl, rfl, hG, hbc⟩ := hcut
    obtain ⟨hbox, hQ⟩ := hG
    obtain ⟨⟨x0, x1, x2⟩, -⟩ := j3_cells hbox
    have hz := H2.out.size
    clear HCa HCb HBe HCj HS i0 i1 i2 hd0 n0 hbox
    rcases hQ with ⟨r, rfl, rfl, hr⟩ | ⟨rfl, -, y', rfl⟩
    · obtain ⟨⟨r0, r1, r2⟩, f0, f1, f2⟩ := j3_cells (((below_alloc hbc (.cells #[.int .i64 v0, .slice va vl vc, .slice xa xl xc] 26)).block _ (by omega)).trans H2.out.bz)
      have HF := Lib.hid (end_one (s := 4) rfl H2.out hbc hr)
      clear hr hbc hz
      go_wp2_with fail
      refine bodyPost_ret (v := .tuple #[.agg #[.int .i64 4, .slice none 0 0, .slice (some ⟨wc.heap.size, 0, none⟩) 1 1], .nilIface]) (by simp [results, Tryz.results36, go_sem, r0, r1, r2]) rfl ?_
      exact HF.out
    · obtain ⟨⟨r0, r1, r2⟩, f0, f1, f2⟩ := j3_cells ((hbc.block _ (by omega)).trans H2.out.bz)
      have HF := Lib.hid (end_none (L := L + 1) (y := y') H2.out hbc)
      clear hbc hz
      go_wp2_with fail
      refine bodyPost_ret (v := .tuple #[.agg #[.int .i64 0, .slice none 0 0, .slice none 0 0], .iface 87 (.agg #[.string y'])]) (by simp [results, Tryz.results36, go_sem, r0, r1, r2]) rfl ?_
      exact HF.out

end Go.Proofs.YthcdeahobjhkbaaGreatDoor
