/-
  The specification's l3Join: what it ends in; of a maybe; of two lists.
-/
import Derived.Test.YthcdeahobjhkbaaGreatDoorB18
import Derived.Test.YthcdeahobjhkbaaGreatDoorB6
import Derived.Deep.RegionHeld
namespace Go.Proofs.YthcdeahobjhkbaaGreatDoor
open Go.RowKit

/-- A new box for a schema. -/
def NewJ (W : World) (g : Nat) : Prop := W.heap[g]? = some (.cells #[.int .i64 0, .slice none 0 0, .slice none 0 0] 26 (0, 0))

theorem NewJ.lt {W : World} {g : Nat} (h : NewJ W g) : g < W.heap.size := (Array.getElem?_eq_some_iff.1 h).1
theorem NewJ.keep {W w' : World} {g : Nat} (h : NewJ W g) (hb : Below W.heap.size W w') : NewJ w' g := (hb.block g h.lt).trans h
theorem newJ_at (V : World) : NewJ (V.alloc (.cells #[.int .i64 0, .slice none 0 0, .slice none 0 0] 26)) V.heap.size := heap_alloc_new _ _
theorem newJ_atD (V : World) : NewJ (V.alloc (.cells #[.int .i64 0, .slice none 0 0, .slice none 0 0] 26)).drew V.heap.size := heap_alloc_new V _

/-- How the joining ends. -/
def JoinPost (L : Nat) (o : Option (K (L + 1))) (w : World) (e : Ending) (w' : World) : Prop :=
  Below w.heap.size w w' ∧ ∃ (d0 : Int) (da : Option Addr) (dl dc : Nat) (ea : Option Addr) (el ec : Nat), e = .returned (.tuple #[.agg #[.int .i64 d0, .slice da dl dc, .slice ea el ec], .bool o.isSome]) ∧ ∀ r, o = some r → KindIn (fun b => w.heap.size ≤ b ∧ b < w'.heap.size) w' (L + 1) r (.int .i64 d0) (.slice da dl dc) (.slice ea el ec)

/-- The joining in schemas of L + 1 levels. -/
def JoinSaid (L : Nat) : Prop := ∀ (n m : Nat) (S : Nat → Prop) (a : K n) (b : K m) (g g' : Nat) (a0 a1 a2 b0 b1 b2 : Value) (w : World), n + m ≤ L → goodK n a (g : Int) = true → goodK m b (g' : Int) = true → cntK n a ≤ 40 → cntK m b ≤ 40 → KindIn S w n a a0 a1 a2 → KindIn S w m b b0 b1 b2 → (∀ b, S b → b < w.heap.size) →
  Calls Tryz.prog 17 #[.agg #[a0, a1, a2], .agg #[b0, b1, b2]] w (JoinPost L (jnL L n a m b) w)

/-- A schema that was joined, in a box. -/
structure GotJ (L : Nat) (o : Option (K (L + 1))) (C A : Nat) (d0 d1 d2 : Value) (wx : World) : Prop where
  box : wx.heap[A]? = some (.cells #[d0, d1, d2] 26 (0, 0))
  ge : C ≤ A
  kind : ∀ r, o = some r → KindIn (fun b => C ≤ b ∧ b < wx.heap.size ∧ b ≠ A) wx (L + 1) r d0 d1 d2

theorem got_set {L : Nat} {o : Option (K (L + 1))} {C K0 N : Nat} {d0 d1 d2 : Value} {W : World} (q : NewJ W N) (hd : ∀ r, o = some r → KindIn (fun b => K0 ≤ b ∧ b < W.heap.size) W (L + 1) r d0 d1 d2) (h1 : C ≤ N) (h2 : N < K0) (_h3 : C ≤ K0) :
    GotJ L o C N d0 d1 d2 (((W.setCell ⟨N, 0, none⟩ d0).setCell ⟨N, 1, none⟩ d1).setCell ⟨N, 2, none⟩ d2) := by
  refine ⟨?_, h1, fun r hr => (hd r hr).keep (fun b hb => j3_other (by omega)) (fun b hb => ⟨by omega, by rw [j3_size]; exact hb.2, by omega⟩)⟩
  have q : W.heap[N]? = _ := q
  simp [World.setCell, Array.getElem?_modify, q]

theorem got_new {L : Nat} {o : Option (K (L + 1))} {C K0 : Nat} {d0 d1 d2 : Value} {W : World} (hd : ∀ r, o = some r → KindIn (fun b => K0 ≤ b ∧ b < W.heap.size) W (L + 1) r d0 d1 d2) (h1 : C ≤ W.heap.size) (h3 : C ≤ K0) :
    GotJ L o C W.heap.size d0 d1 d2 (W.alloc (.cells #[d0, d1, d2] 26)) :=
  ⟨heap_alloc_new _ _, h1, fun r hr => (hd r hr).keep (fun b hb => Below.heap_alloc _ _ _ hb.2) (fun b hb => ⟨by omega, by simp; omega, by omega⟩)⟩

/-- One schema within another, as the answer. -/
theorem fin_one {L : Nat} {o : Option (K (L + 1))} {C A X N : Nat} {s : Int} {d0 d1 d2 : Value} {w wx U : World} (hwf : (Lit.int .i64 s).wf = true) (hb : Below w.heap.size w wx) (hG : GotJ L o C A d0 d1 d2 wx) (_hC : w.heap.size ≤ C) (hU : U = wx.alloc (.cells #[d0, d1, d2] 26) ∨ U = (wx.alloc (.cells #[d0, d1, d2] 26)).setCell ⟨X, 2, none⟩ (.slice (some ⟨wx.heap.size, 0, none⟩) 1 1)) (hX : w.heap.size ≤ X) (hXC : X < C) (hN : w.heap.size ≤ N) (hNC : N < C) :
    JoinPost (L + 1) (o.map (oneK6 s)) w (.returned (.tuple #[.agg #[.int .i64 s, .slice none 0 0, .slice (some ⟨wx.heap.size, 0, none⟩) 1 1], .bool o.isSome])) (((U.setCell ⟨N, 0, none⟩ (.int .i64 s)).setCell ⟨N, 1, none⟩ (.slice none 0 0)).setCell ⟨N, 2, none⟩ (.slice (some ⟨wx.heap.size, 0, none⟩) 1 1)) := by
  have hA : A < wx.heap.size := (Array.getElem?_eq_some_iff.1 hG.box).1
  have hge := hG.ge
  have hbU : Below w.heap.size w U := by
    rcases hU with rfl | rfl
    · exact below_alloc hb _
    · exact (below_alloc hb _).setCell hX _
  have hsz : U.heap.size = wx.heap.size + 1 := by rcases hU with rfl | rfl <;> simp
  have hUo : ∀ b, b ≠ X → U.heap[b]? = (wx.alloc (.cells #[d0, d1, d2] 26)).heap[b]? := fun b hb => by
    rcases hU with rfl | rfl
    · rfl
    · exact Below.heap_setCell _ _ _ _ hb
  refine ⟨j3_below hbU hN, s, none, 0, 0, some ⟨wx.heap.size, 0, none⟩, 1, 1, by cases o <;> rfl, fun r hr => ?_⟩
  cases o with
  | none => cases hr
  | some r0 =>
    have hr : oneK6 s r0 = r := by simpa using hr
    subst hr
    have hk := hG.kind r0 rfl
    have hnew : ∀ j v, (#[d0, d1, d2] : Array Value)[j]? = some v → (((U.setCell ⟨N, 0, none⟩ (.int .i64 s)).setCell ⟨N, 1, none⟩ (.slice none 0 0)).setCell ⟨N, 2, none⟩ (.slice (some ⟨wx.heap.size, 0, none⟩) 1 1)).cell? ⟨wx.heap.size, j, none⟩ = some v := fun j v hv =>
      j3_at ((j3_other (by omega)).trans ((hUo _ (by omega)).trans (heap_alloc_new _ _))) j v hv
    refine oneD_in hwf ⟨by omega, by rw [j3_size, hsz]; omega⟩ (hnew 0 _ rfl) (hnew 1 _ rfl) (hnew 2 _ rfl) (hk.keep (fun b hb => ?_) (fun b hb => ⟨by omega, by rw [j3_size, hsz]; omega⟩))
    exact (j3_other (by omega)).trans ((hUo b (by omega)).trans (Below.heap_alloc _ _ _ hb.2.1))

/-- The boxes of the two arguments and of the answer. -/
structure ThreeJ (w W3 : World) (a0 a1 a2 b0 b1 b2 : Value) : Prop where
  below : Below w.heap.size w W3
  size : W3.heap.size = w.heap.size + 3
  ba : W3.heap[w.heap.size]? = some (.cells #[a0, a1, a2] 26 (0, 0))
  bb : W3.heap[w.heap.size + 1]? = some (.cells #[b0, b1, b2] 26 (0, 0))
  bz : W3.heap[w.heap.size + 1 + 1]? = some (.cells #[.int .i64 0, .slice none 0 0, .slice none 0 0] 26 (0, 0))

theorem three_at (w : World) (a0 a1 a2 b0 b1 b2 : Value) : ThreeJ w (((w.alloc (.cells #[a0, a1, a2] 26)).alloc (.cells #[b0, b1, b2] 26)).alloc (.cells #[.int .i64 0, .slice none 0 0, .slice none 0 0] 26)) a0 a1 a2 b0 b1 b2 := by
  refine ⟨(((Below.refl _ _).alloc (Nat.le_refl _) _).alloc (by simp) _).alloc (by simp; omega) _, by simp, ?_, ?_, ?_⟩
  · rw [Below.heap_alloc _ _ _ (by simp; omega), Below.heap_alloc _ _ _ (by simp)]; exact heap_alloc_new _ _
  · rw [Below.heap_alloc _ _ _ (by simp)]
    have := heap_alloc_new (w.alloc (.cells #[a0, a1, a2] 26)) (.cells #[b0, b1, b2] 26)
    simpa using this
  · have := heap_alloc_new ((w.alloc (.cells #[a0, a1, a2] 26)).alloc (.cells #[b0, b1, b2] 26)) (.cells #[.int .i64 0, .slice none 0 0, .slice none 0 0] 26)
    simpa using this

theorem ThreeJ.cells {w W3 W : World} {a0 a1 a2 b0 b1 b2 : Value} (h : ThreeJ w W3 a0 a1 a2 b0 b1 b2) (hb : Below W3.heap.size W3 W) :
    (W.cell? ⟨w.heap.size, 0, none⟩ = some a0 ∧ W.cell? ⟨w.heap.size, 1, none⟩ = some a1 ∧ W.cell? ⟨w.heap.size, 2, none⟩ = some a2) ∧ W.cell? ⟨w.heap.size + 1, 0, none⟩ = some b0 ∧ W.cell? ⟨w.heap.size + 1, 1, none⟩ = some b1 ∧ W.cell? ⟨w.heap.size + 1, 2, none⟩ = some b2 := by
  have hz := h.size
  exact ⟨(j3_cells ((hb.block _ (by omega)).trans h.ba)).1, (j3_cells ((hb.block _ (by omega)).trans h.bb)).1⟩

set_option maxRecDepth 20000 in
set_option maxHeartbeats 4000000 in
theorem l3Join_maybe (L : Nat) (o : Option (K (L + 1))) (u0 z0 : Int) (ua ta va sa : Option Addr) (ul uc tl tc vl vc sl sc : Nat) (p0 q0 : Int) (pa ra qa ya : Option Addr) (pl pc rl rc ql qc yl yc : Nat) (w : World)
    (HBa : ∀ W, Below w.heap.size w W → Calls Tryz.prog 31 #[.agg #[.int .i64 u0, .slice ua ul uc, .slice ta tl tc]] W fun e w' => e = .returned (.agg #[.int .i64 p0, .slice pa pl pc, .slice ra rl rc]) ∧ Below W.heap.size W w')
    (HBb : ∀ W, Below w.heap.size w W → Calls Tryz.prog 31 #[.agg #[.int .i64 z0, .slice va vl vc, .slice sa sl sc]] W fun e w' => e = .returned (.agg #[.int .i64 q0, .slice qa ql qc, .slice ya yl yc]) ∧ Below W.heap.size W w')
    (HJ : ∀ W, Below w.heap.size w W → Calls Tryz.prog 17 #[.agg #[.int .i64 p0, .slice pa pl pc, .slice ra rl rc], .agg #[.int .i64 q0, .slice qa ql qc, .slice ya yl yc]] W (JoinPost L o W)) (h6 : u0 = 6 ∨ z0 = 6) :
    Calls Tryz.prog 17 #[.agg #[.int .i64 u0, .slice ua ul uc, .slice ta tl tc], .agg #[.int .i64 z0, .slice va vl vc, .slice sa sl sc]] w (JoinPost (L + 1) (o.map (oneK6 6)) w) := by
  obtain ⟨W3, hW3⟩ : ∃ W3, W3 = ((w.alloc (.cells #[.int .i64 u0, .slice ua ul uc, .slice ta tl tc] 26)).alloc (.cells #[.int .i64 z0, .slice va vl vc, .slice sa sl sc] 26)).alloc (.cells #[.int .i64 0, .slice none 0 0, .slice none 0 0] 26) := ⟨_, rfl⟩
  have h3 : ThreeJ w W3 (.int .i64 u0) (.slice ua ul uc) (.slice ta tl tc) (.int .i64 z0) (.slice va vl vc) (.slice sa sl sc) := by rw [hW3]; exact three_at _ _ _ _ _ _ _
  have H3 := Lib.hid h3
  have hz3 := h3.size
  have HS : Hid (∀ W, Below W3.heap.size W3 W → (W.cell? ⟨w.heap.size, 0, none⟩ = some (.int .i64 u0) ∧ W.cell? ⟨w.heap.size, 1, none⟩ = some (.slice ua ul uc) ∧ W.cell? ⟨w.heap.size, 2, none⟩ = some (.slice ta tl tc)) ∧ W.cell? ⟨w.heap.size + 1, 0, none⟩ = some (.int .i64 z0) ∧ W.cell? ⟨w.heap.size + 1, 1, none⟩ = some (.slice va vl vc) ∧ W.cell? ⟨w.heap.size + 1, 2, none⟩ = some (.slice sa sl sc)) := fun W hW => h3.cells hW
  have HCa : Hid (∀ W, Below W3.heap.size W3 W → Calls Tryz.prog 31 #[.agg #[.int .i64 u0, .slice ua ul uc, .slice ta tl tc]] W fun e w' => e = .returned (.agg #[.int .i64 p0, .slice pa pl pc, .slice ra rl rc]) ∧ Below W3.heap.size W3 w' ∧ ∀ N, NewJ W N → NewJ w' N) := fun W hW => (HBa W (below_step h3.below h3.below.size hW)).mono fun e w' h => ⟨h.1, below_step hW hW.size h.2, fun N q => q.keep h.2⟩
  have HCb : Hid (∀ W, Below W3.heap.size W3 W → Calls Tryz.prog 31 #[.agg #[.int .i64 z0, .slice va vl vc, .slice sa sl sc]] W fun e w' => e = .returned (.agg #[.int .i64 q0, .slice qa ql qc, .slice ya yl yc]) ∧ Below W3.heap.size W3 w' ∧ ∀ N, NewJ W N → NewJ w' N) := fun W hW => (HBb W (below_step h3.below h3.below.size hW)).mono fun e w' h => ⟨h.1, below_step hW hW.size h.2, fun N q => q.keep h.2⟩
  have HCj : Hid (∀ W, Below W3.heap.size W3 W → Calls Tryz.prog 17 #[.agg #[.int .i64 p0, .slice pa pl pc, .slice ra rl rc], .agg #[.int .i64 q0, .slice qa ql qc, .slice ya yl yc]] W fun e w' => ∃ (d0 : Int) (da : Option Addr) (dl dc : Nat) (ea : Option Addr) (el ec : Nat), e = .returned (.tuple #[.agg #[.int .i64 d0, .slice da dl dc, .slice ea el ec], .bool o.isSome]) ∧ (∀ r, o = some r → KindIn (fun b => W.heap.size ≤ b ∧ b < w'.heap.size) w' (L + 1) r (.int .i64 d0) (.slice da dl dc) (.slice ea el ec)) ∧ (W3.heap.size ≤ W.heap.size ∧ Below W3.heap.size W3 w') ∧ ∀ N, NewJ W N → NewJ w' N ∧ N < W.heap.size) := fun W hW => (HJ W (below_step h3.below h3.below.size hW)).mono (by
    rintro e w' ⟨hb, d0, da, dl, dc, ea, el, ec, rfl, hk⟩
    exact ⟨d0, da, dl, dc, ea, el, ec, rfl, hk, ⟨hW.size, below_step hW hW.size hb⟩, fun N q => ⟨q.keep hb, q.lt⟩⟩)
  have hd0 : Below W3.heap.size W3 W3.drew := (Below.refl _ _).drew
  have hza : w.heap.size + 3 ≤ W3.heap.size := Nat.le_of_eq hz3.symm
  have n0 : ¬ W3.heap.size = w.heap.size := by omega
  have n1 : ¬ W3.heap.size = w.heap.size + 1 := by omega
  obtain ⟨⟨i0, i1, i2⟩, j0, j1, j2⟩ := HS.out W3 (Below.refl _ _)
  generalize hok : o.isSome = ok at *
  have HOK := Lib.hid hok
  clear hok h3 hz3 HBa HBb HJ
  have hfin : ∀ (A : Nat) (d0 : Int) (da : Option Addr) (dl dc : Nat) (ea : Option Addr) (el ec : Nat) (wx : World), GotJ L o W3.heap.size A (.int .i64 d0) (.slice da dl dc) (.slice ea el ec) wx → Below W3.heap.size W3 wx → JoinPost (L + 1) (o.map (oneK6 6)) w (.returned (.tuple #[.agg #[.int .i64 6, .slice none 0 0, .slice (some ⟨wx.heap.size, 0, none⟩) 1 1], .bool ok])) ((((wx.alloc (.cells #[.int .i64 d0, .slice da dl dc, .slice ea el ec] 26)).setCell ⟨w.heap.size + 1 + 1, 0, none⟩ (.int .i64 6)).setCell ⟨w.heap.size + 1 + 1, 1, none⟩ (.slice none 0 0)).setCell ⟨w.heap.size + 1 + 1, 2, none⟩ (.slice (some ⟨wx.heap.size, 0, none⟩) 1 1)) := fun A d0 da dl dc ea el ec wx hG hb => by
    have hz := H3.out.size
    rw [← HOK.out]
    exact fin_one (X := w.heap.size) rfl (below_step H3.out.below H3.out.below.size hb) hG (by omega) (.inl rfl) (Nat.le_refl _) (by omega) (by omega) (by omega)
  have HFin := Lib.hid hfin
  clear hfin
  by_cases hu6 : u0 = 6
  · subst hu6
    go_enter Tryz.func17, Tryz.ntmps17
    go_upto_region 2 with fail
    rw [← hW3]
    clear hW3
    go_cut [6, 7] from 23 to 204 (fun pv ov wx => ov = .bool ok ∧ ∃ A d0 da dl dc ea el ec, pv = .pointer (some ⟨A, 0, none⟩) ∧ GotJ L o W3.heap.size A (.int .i64 d0) (.slice da dl dc) (.slice ea el ec) wx ∧ Below W3.heap.size W3 wx)
    case first =>
      go_region_held (fun w' => (w'.cell? ⟨w.heap.size, 0, none⟩ = some (.int .i64 6) ∧ w'.cell? ⟨w.heap.size, 1, none⟩ = some (.slice ua ul uc) ∧ w'.cell? ⟨w.heap.size, 2, none⟩ = some (.slice ta tl tc)) ∧ w'.cell? ⟨w.heap.size + 1, 0, none⟩ = some (.int .i64 z0) ∧ w'.cell? ⟨w.heap.size + 1, 1, none⟩ = some (.slice va vl vc) ∧ w'.cell? ⟨w.heap.size + 1, 2, none⟩ = some (.slice sa sl sc)) (first | with_reducible assumption | go_keep) (first
        | (go_at_call_of 31 (Value.agg #[.int .i64 6, .slice ua ul uc, .slice ta tl tc]); refine (HCa.out _ (by (first | with_reducible assumption | (with_reducible refine below_alloc ?_ _; with_reducible assumption) | (with_reducible refine below_allocD ?_ _; with_reducible assumption)))).mono ?_; rintro e y1 ⟨rfl, hy1, hq1⟩; obtain ⟨⟨ia0, ia1, ia2⟩, ja0, ja1, ja2⟩ := HS.out y1 hy1; have hza := hy1.size; have maa : ¬ y1.heap.size = w.heap.size := (by omega); have mab : ¬ y1.heap.size = w.heap.size + 1 := (by omega); (first | with_reducible (have q := hq1 _ (newJ_at _)) | with_reducible (have q := hq1 _ (newJ_atD _)) | with_reducible (have q := hq1 _ q) | skip))
        | (go_at_call_of 31 (Value.agg #[.int .i64 z0, .slice va vl vc, .slice sa sl sc]); refine (HCb.out _ (by (first | with_reducible assumption | (with_reducible refine below_alloc ?_ _; with_reducible assumption) | (with_reducible refine below_allocD ?_ _; with_reducible assumption)))).mono ?_; rintro e y2 ⟨rfl, hy2, hq2⟩; obtain ⟨⟨ib0, ib1, ib2⟩, jb0, jb1, jb2⟩ := HS.out y2 hy2; have hzb := hy2.size; have mba : ¬ y2.heap.size = w.heap.size := (by omega); have mbb : ¬ y2.heap.size = w.heap.size + 1 := (by omega); (first | with_reducible (have q := hq2 _ (newJ_at _)) | with_reducible (have q := hq2 _ (newJ_atD _)) | with_reducible (have q := hq2 _ q) | skip))
        | (go_at_call 17; refine (HCj.out _ (by (first | with_reducible assumption | (with_reducible refine below_alloc ?_ _; with_reducible assumption) | (with_reducible refine below_allocD ?_ _; with_reducible assumption)))).mono ?_; rintro e y3 ⟨d0, da, dl, dc, ea, el, ec, rfl, hd3, ⟨hW3, hy3⟩, hq3⟩; obtain ⟨⟨ic0, ic1, ic2⟩, jc0, jc1, jc2⟩ := HS.out y3 hy3; have hzc := hy3.size; have mca : ¬ y3.heap.size = w.heap.size := (by omega); have mcb : ¬ y3.heap.size = w.heap.size + 1 := (by omega); (first | with_reducible (have q := hq3 _ (newJ_at _)) | with_reducible (have q := hq3 _ (newJ_atD _)) | with_reducible (have q := hq3 _ q) | skip); (first | (obtain ⟨q, hN⟩ := q; obtain ⟨⟨r0, r1, r2⟩, f0, f1, f2⟩ := j3_cells q) | skip)))
      all_goals
        go_wp2_with fail
        go_meet
        first
          | with_reducible exact ⟨rfl, _, _, _, _, _, _, _, _, rfl, got_set q hd3 (by omega) (by omega) (by omega), j3_below hy3 (by omega)⟩
          | with_reducible exact ⟨rfl, _, _, _, _, _, _, _, _, rfl, got_new hd3 (by omega) (by omega), below_alloc hy3 _⟩
    case rest =>
      obtain ⟨rfl, A, d0, da, dl, dc, ea, el, ec, rfl, hG, hbc⟩ := hcut
      obtain ⟨⟨x0, x1, x2⟩, -⟩ := j3_cells hG.box
      have hz := H3.out.size
      obtain ⟨⟨r0, r1, r2⟩, f0, f1, f2⟩ := j3_cells (((below_alloc hbc (.cells #[.int .i64 d0, .slice da dl dc, .slice ea el ec] 26)).block _ (by omega)).trans H3.out.bz)
      have HF := Lib.hid (HFin.out _ _ _ _ _ _ _ _ _ hG hbc)
      clear hG hbc HCa HCb HCj HS i0 i1 i2 j0 j1 j2 hd0 n0 n1 hz
      go_wp2_with fail
      refine bodyPost_ret (v := .tuple #[.agg #[.int .i64 6, .slice none 0 0, .slice (some ⟨wc.heap.size, 0, none⟩) 1 1], .bool ok]) (by simp [results, Tryz.results17, go_sem, r0, r1, r2]) rfl ?_
      exact HF.out
  · have hz6 : z0 = 6 := h6.resolve_left hu6
    subst hz6
    go_enter Tryz.func17, Tryz.ntmps17
    go_upto_region 2 with fail
    rw [← hW3]
    clear hW3
    go_cut [6, 7] from 23 to 204 (fun pv ov wx => ov = .bool ok ∧ ∃ A d0 da dl dc ea el ec, pv = .pointer (some ⟨A, 0, none⟩) ∧ GotJ L o W3.heap.size A (.int .i64 d0) (.slice da dl dc) (.slice ea el ec) wx ∧ Below W3.heap.size W3 wx)
    case first =>
      go_region_held (fun w' => (w'.cell? ⟨w.heap.size, 0, none⟩ = some (.int .i64 u0) ∧ w'.cell? ⟨w.heap.size, 1, none⟩ = some (.slice ua ul uc) ∧ w'.cell? ⟨w.heap.size, 2, none⟩ = some (.slice ta tl tc)) ∧ w'.cell? ⟨w.heap.size + 1, 0, none⟩ = some (.int .i64 6) ∧ w'.cell? ⟨w.heap.size + 1, 1, none⟩ = some (.slice va vl vc) ∧ w'.cell? ⟨w.heap.size + 1, 2, none⟩ = some (.slice sa sl sc)) (first | with_reducible assumption | go_keep) (first
        | (go_at_call_of 31 (Value.agg #[.int .i64 u0, .slice ua ul uc, .slice ta tl tc]); refine (HCa.out _ (by (first | with_reducible assumption | (with_reducible refine below_alloc ?_ _; with_reducible assumption) | (with_reducible refine below_allocD ?_ _; with_reducible assumption)))).mono ?_; rintro e y1 ⟨rfl, hy1, hq1⟩; obtain ⟨⟨ia0, ia1, ia2⟩, ja0, ja1, ja2⟩ := HS.out y1 hy1; have hza := hy1.size; have maa : ¬ y1.heap.size = w.heap.size := (by omega); have mab : ¬ y1.heap.size = w.heap.size + 1 := (by omega); (first | with_reducible (have q := hq1 _ (newJ_at _)) | with_reducible (have q := hq1 _ (newJ_atD _)) | with_reducible (have q := hq1 _ q) | skip))
        | (go_at_call_of 31 (Value.agg #[.int .i64 6, .slice va vl vc, .slice sa sl sc]); refine (HCb.out _ (by (first | with_reducible assumption | (with_reducible refine below_alloc ?_ _; with_reducible assumption) | (with_reducible refine below_allocD ?_ _; with_reducible assumption)))).mono ?_; rintro e y2 ⟨rfl, hy2, hq2⟩; obtain ⟨⟨ib0, ib1, ib2⟩, jb0, jb1, jb2⟩ := HS.out y2 hy2; have hzb := hy2.size; have mba : ¬ y2.heap.size = w.heap.size := (by omega); have mbb : ¬ y2.heap.size = w.heap.size + 1 := (by omega); (first | with_reducible (have q := hq2 _ (newJ_at _)) | with_reducible (have q := hq2 _ (newJ_atD _)) | with_reducible (have q := hq2 _ q) | skip))
        | (go_at_call 17; refine (HCj.out _ (by (first | with_reducible assumption | (with_reducible refine below_alloc ?_ _; with_reducible assumption) | (with_reducible refine below_allocD ?_ _; with_reducible assumption)))).mono ?_; rintro e y3 ⟨d0, da, dl, dc, ea, el, ec, rfl, hd3, ⟨hW3, hy3⟩, hq3⟩; obtain ⟨⟨ic0, ic1, ic2⟩, jc0, jc1, jc2⟩ := HS.out y3 hy3; have hzc := hy3.size; have mca : ¬ y3.heap.size = w.heap.size := (by omega); have mcb : ¬ y3.heap.size = w.heap.size + 1 := (by omega); (first | with_reducible (have q := hq3 _ (newJ_at _)) | with_reducible (have q := hq3 _ (newJ_atD _)) | with_reducible (have q := hq3 _ q) | skip); (first | (obtain ⟨q, hN⟩ := q; obtain ⟨⟨r0, r1, r2⟩, f0, f1, f2⟩ := j3_cells q) | skip)))
      all_goals
        go_wp2_with fail
        go_meet
        first
          | with_reducible exact ⟨rfl, _, _, _, _, _, _, _, _, rfl, got_set q hd3 (by omega) (by omega) (by omega), j3_below hy3 (by omega)⟩
          | with_reducible exact ⟨rfl, _, _, _, _, _, _, _, _, rfl, got_new hd3 (by omega) (by omega), below_alloc hy3 _⟩
    case rest =>
      obtain ⟨rfl, A, d0, da, dl, dc, ea, el, ec, rfl, hG, hbc⟩ := hcut
      obtain ⟨⟨x0, x1, x2⟩, -⟩ := j3_cells hG.box
      have hz := H3.out.size
      obtain ⟨⟨r0, r1, r2⟩, f0, f1, f2⟩ := j3_cells (((below_alloc hbc (.cells #[.int .i64 d0, .slice da dl dc, .slice ea el ec] 26)).block _ (by omega)).trans H3.out.bz)
      have HF := Lib.hid (HFin.out _ _ _ _ _ _ _ _ _ hG hbc)
      clear hG hbc HCa HCb HCj HS i0 i1 i2 j0 j1 j2 hd0 n0 n1 hz
      go_wp2_with fail
      refine bodyPost_ret (v := .tuple #[.agg #[.int .i64 6, .slice none 0 0, .slice (some ⟨wc.heap.size, 0, none⟩) 1 1], .bool ok]) (by simp [results, Tryz.results17, go_sem, r0, r1, r2]) rfl ?_
      exact HF.out

end Go.Proofs.YthcdeahobjhkbaaGreatDoor
