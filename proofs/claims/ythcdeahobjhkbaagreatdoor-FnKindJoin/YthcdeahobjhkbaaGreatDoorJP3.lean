/-
  The program's joining: of a maybe.
-/
import Derived.Test.YthcdeahobjhkbaaGreatDoorJP2
namespace Go.Proofs.YthcdeahobjhkbaaGreatDoor
open Go.RowKit

set_option maxRecDepth 20000 in
set_option maxHeartbeats 4000000 in
theorem ofMaybe_j (L : Nat) (o : Option (K (L + 1))) (R pa pb qa qb : Nat) (x : ByteArray) (w : World) (hx : x.size ≤ 100000)
    (HWa : ∀ W, Below w.heap.size w W → Calls Tryz.prog 58 #[.pointer (some ⟨pa, 0, none⟩)] W fun e w' => e = .returned (.pointer (some ⟨qa, 0, none⟩)) ∧ w' = W)
    (HWb : ∀ W, Below w.heap.size w W → Calls Tryz.prog 58 #[.pointer (some ⟨pb, 0, none⟩)] W fun e w' => e = .returned (.pointer (some ⟨qb, 0, none⟩)) ∧ w' = W)
    (HOf : ∀ W, Below w.heap.size w W → Calls Tryz.prog 20 #[.pointer (some ⟨R, 0, none⟩), .agg #[.pointer (some ⟨qa, 0, none⟩), .pointer (some ⟨qb, 0, none⟩), .string (pathTo x ⟨#[63]⟩)]] W fun e w' => Below W.heap.size W w' ∧ EndJ L o W e w') :
    Calls Tryz.prog 38 #[.pointer (some ⟨R, 0, none⟩), .agg #[.pointer (some ⟨pa, 0, none⟩), .pointer (some ⟨pb, 0, none⟩), .string x]] w fun e w' => Below w.heap.size w w' ∧ EndJ (L + 1) (o.map (oneK6 6)) w e w' := by
  have hs2 : (⟨#[63]⟩ : ByteArray).size ≤ 2 := by decide
  obtain ⟨W2, hW2⟩ : ∃ W2, W2 = (w.alloc (.cells #[.pointer (some ⟨pa, 0, none⟩), .pointer (some ⟨pb, 0, none⟩), .string x] 43)).alloc (.cells #[.int .i64 0, .slice none 0 0, .slice none 0 0] 26) := ⟨_, rfl⟩
  have h2 : TwoP w W2 pa pb x := by rw [hW2]; exact two_at _ _ _ _
  have H2 := Lib.hid h2
  have hz2 := h2.size
  have HS : Hid (∀ W, Below W2.heap.size W2 W → W.cell? ⟨w.heap.size, 0, none⟩ = some (.pointer (some ⟨pa, 0, none⟩)) ∧ W.cell? ⟨w.heap.size, 1, none⟩ = some (.pointer (some ⟨pb, 0, none⟩)) ∧ W.cell? ⟨w.heap.size, 2, none⟩ = some (.string x)) := fun W hW => h2.cells hW
  have HCa : Hid (∀ W, Below W2.heap.size W2 W → Calls Tryz.prog 58 #[.pointer (some ⟨pa, 0, none⟩)] W fun e w' => e = .returned (.pointer (some ⟨qa, 0, none⟩)) ∧ w' = W) := fun W hW => HWa W (below_step h2.below h2.below.size hW)
  have HCb : Hid (∀ W, Below W2.heap.size W2 W → Calls Tryz.prog 58 #[.pointer (some ⟨pb, 0, none⟩)] W fun e w' => e = .returned (.pointer (some ⟨qb, 0, none⟩)) ∧ w' = W) := fun W hW => HWb W (below_step h2.below h2.below.size hW)
  have HBe : Hid (∀ W, Below W2.heap.size W2 W → Calls Tryz.prog 54 #[.agg #[.pointer (some ⟨pa, 0, none⟩), .pointer (some ⟨pb, 0, none⟩), .string x], .string ⟨#[63]⟩, .pointer (some ⟨qa, 0, none⟩), .pointer (some ⟨qb, 0, none⟩)] W fun e w' => e = .returned (.agg #[.pointer (some ⟨qa, 0, none⟩), .pointer (some ⟨qb, 0, none⟩), .string (pathTo x ⟨#[63]⟩)]) ∧ Below W2.heap.size W2 w' ∧ ∀ N, NewJ W N → NewJ w' N) := fun W hW =>
    (below_any x _ _ _ _ _ W (by omega)).mono fun e w' h => ⟨h.1, below_step hW hW.size h.2, fun N q => q.keep h.2⟩
  have HCj : Hid (∀ W, Below W2.heap.size W2 W → Calls Tryz.prog 20 #[.pointer (some ⟨R, 0, none⟩), .agg #[.pointer (some ⟨qa, 0, none⟩), .pointer (some ⟨qb, 0, none⟩), .string (pathTo x ⟨#[63]⟩)]] W fun e w' => ∃ v0 va vl vc xa xl xc u, e = .returned (.tuple #[.agg #[.int .i64 v0, .slice va vl vc, .slice xa xl xc], u]) ∧ EndQ L o W v0 va vl vc xa xl xc u w' ∧ (W2.heap.size ≤ W.heap.size ∧ Below W2.heap.size W2 w') ∧ ∀ N, NewJ W N → NewJ w' N ∧ N < W.heap.size) := fun W hW => (HOf W (below_step h2.below h2.below.size hW)).mono (by
    rintro e w' ⟨hb, hE⟩
    obtain ⟨v0, va, vl, vc, xa, xl, xc, u, rfl, hQ⟩ := endQ_to hE
    exact ⟨v0, va, vl, vc, xa, xl, xc, u, rfl, hQ, ⟨hW.size, below_step hW hW.size hb⟩, fun N q => ⟨q.keep hb, q.lt⟩⟩)
  generalize pathTo x ⟨#[63]⟩ = y at *
  have hd0 : Below W2.heap.size W2 W2.drew := (Below.refl _ _).drew
  have hza : w.heap.size + 2 ≤ W2.heap.size := Nat.le_of_eq hz2.symm
  have n0 : ¬ W2.heap.size = w.heap.size := by omega
  obtain ⟨i0, i1, i2⟩ := HS.out W2 (Below.refl _ _)
  clear h2 hz2 HWa HWb HOf hs2
  go_enter Tryz.func38, Tryz.ntmps38
  go_upto_region 1 with fail
  rw [← hW2]
  clear hW2
  go_cut [6, 7] from 8 to 29 (fun pv uv wx => ∃ A v0 va vl vc xa xl xc u, pv = .pointer (some ⟨A, 0, none⟩) ∧ uv = u ∧ GotQ L o W2 A v0 va vl vc xa xl xc u wx ∧ Below W2.heap.size W2 wx)
  case first =>
    go_region_held (fun w' => w'.cell? ⟨w.heap.size, 0, none⟩ = some (.pointer (some ⟨pa, 0, none⟩)) ∧ w'.cell? ⟨w.heap.size, 1, none⟩ = some (.pointer (some ⟨pb, 0, none⟩)) ∧ w'.cell? ⟨w.heap.size, 2, none⟩ = some (.string x)) (first | with_reducible assumption | go_keep) (first
      | (go_at_call_of 58 (Value.pointer (some ⟨pa, 0, none⟩)); refine (HCa.out _ (by (first | with_reducible assumption | (with_reducible refine below_alloc ?_ _; with_reducible assumption) | (with_reducible refine below_allocD ?_ _; with_reducible assumption)))).mono ?_; rintro e y1 ⟨rfl, rfl⟩)
      | (go_at_call_of 58 (Value.pointer (some ⟨pb, 0, none⟩)); refine (HCb.out _ (by (first | with_reducible assumption | (with_reducible refine below_alloc ?_ _; with_reducible assumption) | (with_reducible refine below_allocD ?_ _; with_reducible assumption)))).mono ?_; rintro e y2 ⟨rfl, rfl⟩)
      | (go_at_call 54; refine (HBe.out _ (by (first | with_reducible assumption | (with_reducible refine below_alloc ?_ _; with_reducible assumption) | (with_reducible refine below_allocD ?_ _; with_reducible assumption)))).mono ?_; rintro e y3 ⟨rfl, hy3, hq3⟩; obtain ⟨ic0, ic1, ic2⟩ := HS.out y3 hy3; have hzc := hy3.size; have mc : ¬ y3.heap.size = w.heap.size := (by omega); (first | with_reducible (have q := hq3 _ (newJ_at _)) | with_reducible (have q := hq3 _ (newJ_atD _)) | with_reducible (have q := hq3 _ q) | skip))
      | (go_at_call 20; refine (HCj.out _ (by (first | with_reducible assumption | (with_reducible refine below_alloc ?_ _; with_reducible assumption) | (with_reducible refine below_allocD ?_ _; with_reducible assumption)))).mono ?_; rintro e y4 ⟨v0, va, vl, vc, xa, xl, xc, u, rfl, hQ4, ⟨hW4, hy4⟩, hq4⟩; obtain ⟨id0, id1, id2⟩ := HS.out y4 hy4; have hzd := hy4.size; have md : ¬ y4.heap.size = w.heap.size := (by omega); (first | with_reducible (have q := hq4 _ (newJ_at _)) | with_reducible (have q := hq4 _ (newJ_atD _)) | with_reducible (have q := hq4 _ q) | skip); (first | (obtain ⟨q, hN⟩ := q; obtain ⟨⟨r0, r1, r2⟩, f0, f1, f2⟩ := j3_cells q) | skip)))
    all_goals
      go_wp2_with fail
      go_meet
      first
        | with_reducible exact ⟨_, _, _, _, _, _, _, _, _, rfl, rfl, gotq_set q hQ4 (by omega) hW4, j3_below hy4 (by omega)⟩
        | with_reducible exact ⟨_, _, _, _, _, _, _, _, _, rfl, rfl, gotq_new hQ4 hW4, below_alloc hy4 _⟩
  case rest =>
    obtain ⟨A, v0, va, vl, vc, xa, xl, xc, u, rfl, rfl, hG, hbc⟩ := hcut
    obtain ⟨hbox, hQ⟩ := hG
    obtain ⟨⟨x0, x1, x2⟩, -⟩ := j3_cells hbox
    have hz := H2.out.size
    clear HCa HCb HBe HCj HS i0 i1 i2 hd0 n0 hbox
    rcases hQ with ⟨r, rfl, rfl, hr⟩ | ⟨rfl, -, y', rfl⟩
    · obtain ⟨⟨r0, r1, r2⟩, f0, f1, f2⟩ := j3_cells (((below_alloc hbc (.cells #[.int .i64 v0, .slice va vl vc, .slice xa xl xc] 26)).block _ (by omega)).trans H2.out.bz)
      have HF := Lib.hid (end_one (s := 6) rfl H2.out hbc hr)
      clear hr hbc hz
      go_wp2_with fail
      refine bodyPost_ret (v := .tuple #[.agg #[.int .i64 6, .slice none 0 0, .slice (some ⟨wc.heap.size, 0, none⟩) 1 1], .nilIface]) (by simp [results, Tryz.results38, go_sem, r0, r1, r2]) rfl ?_
      exact HF.out
    · obtain ⟨⟨r0, r1, r2⟩, f0, f1, f2⟩ := j3_cells ((hbc.block _ (by omega)).trans H2.out.bz)
      have HF := Lib.hid (end_none (L := L + 1) (y := y') H2.out hbc)
      clear hbc hz
      go_wp2_with fail
      refine bodyPost_ret (v := .tuple #[.agg #[.int .i64 0, .slice none 0 0, .slice none 0 0], .iface 87 (.agg #[.string y'])]) (by simp [results, Tryz.results38, go_sem, r0, r1, r2]) rfl ?_
      exact HF.out

end Go.Proofs.YthcdeahobjhkbaaGreatDoor
