/-
  Several texts in one, in their order.
-/
import Derived.Test.YthcdeahobjhkbaaGreatDoorJC3
import Derived.Test.YthcdeahobjhkbaaGreatDoorJC4
import Derived.Test.YthcdeahobjhkbaaGreatDoorB6
import Derived.Test.YthcdeahobjhkbaaGreatDoorB2

/-
  The specification's l3Join: of two lists.
-/
namespace Go.Proofs.YthcdeahobjhkbaaGreatDoor
open Go.RowKit

set_option maxRecDepth 20000 in
set_option maxHeartbeats 4000000 in
theorem l3Join_list (L : Nat) (o : Option (K (L + 1))) (ua va : Option Addr) (ul uc tc vl vc sc : Nat) (ga oa gb ob : Nat) (p0 q0 : Int) (pa ra qa ya : Option Addr) (pl pc rl rc ql qc yl yc : Nat) (w : World)
    (hga : ga < w.heap.size) (hgb : gb < w.heap.size) (ka : w.cell? ⟨ga, oa, none⟩ = some (.int .i64 p0) ∧ w.cell? ⟨ga, oa + 1, none⟩ = some (.slice pa pl pc) ∧ w.cell? ⟨ga, oa + 2, none⟩ = some (.slice ra rl rc)) (kb : w.cell? ⟨gb, ob, none⟩ = some (.int .i64 q0) ∧ w.cell? ⟨gb, ob + 1, none⟩ = some (.slice qa ql qc) ∧ w.cell? ⟨gb, ob + 2, none⟩ = some (.slice ya yl yc))
    (HJ : ∀ W, Below w.heap.size w W → Calls Tryz.prog 17 #[.agg #[.int .i64 p0, .slice pa pl pc, .slice ra rl rc], .agg #[.int .i64 q0, .slice qa ql qc, .slice ya yl yc]] W (JoinPost L o W)) :
    Calls Tryz.prog 17 #[.agg #[.int .i64 4, .slice ua ul uc, .slice (some ⟨ga, oa, none⟩) 1 tc], .agg #[.int .i64 4, .slice va vl vc, .slice (some ⟨gb, ob, none⟩) 1 sc]] w (JoinPost (L + 1) (o.map (oneK6 4)) w) := by
  obtain ⟨W3, hW3⟩ : ∃ W3, W3 = ((w.alloc (.cells #[.int .i64 4, .slice ua ul uc, .slice (some ⟨ga, oa, none⟩) 1 tc] 26)).alloc (.cells #[.int .i64 4, .slice va vl vc, .slice (some ⟨gb, ob, none⟩) 1 sc] 26)).alloc (.cells #[.int .i64 0, .slice none 0 0, .slice none 0 0] 26) := ⟨_, rfl⟩
  have h3 : ThreeJ w W3 (.int .i64 4) (.slice ua ul uc) (.slice (some ⟨ga, oa, none⟩) 1 tc) (.int .i64 4) (.slice va vl vc) (.slice (some ⟨gb, ob, none⟩) 1 sc) := by rw [hW3]; exact three_at _ _ _ _ _ _ _
  have H3 := Lib.hid h3
  have hz3 := h3.size
  obtain ⟨W4, hW4⟩ : ∃ W4, W4 = W3.alloc (.cells #[.int .i64 4, .slice none 0 0, .slice none 0 0] 26) := ⟨_, rfl⟩
  have hb34 : Below W3.heap.size W3 W4 := by rw [hW4]; exact (Below.refl _ _).alloc (Nat.le_refl _) _
  have hz4 : W4.heap.size = w.heap.size + 4 := by rw [hW4]; simp [hz3]
  have hX4 : W4.heap[w.heap.size + 1 + 1 + 1]? = some (.cells #[.int .i64 4, .slice none 0 0, .slice none 0 0] 26 (0, 0)) := by
    have := heap_alloc_new W3 (.cells #[.int .i64 4, .slice none 0 0, .slice none 0 0] 26)
    rw [hz3] at this; rw [hW4]; exact this
  have hbw4 : Below w.heap.size w W4 := below_step h3.below h3.below.size hb34
  have HS : Hid (∀ W, Below W4.heap.size W4 W → (W.cell? ⟨w.heap.size, 2, none⟩ = some (.slice (some ⟨ga, oa, none⟩) 1 tc) ∧ W.cell? ⟨ga, oa, none⟩ = some (.int .i64 p0) ∧ W.cell? ⟨ga, oa + 1, none⟩ = some (.slice pa pl pc) ∧ W.cell? ⟨ga, oa + 2, none⟩ = some (.slice ra rl rc)) ∧ W.cell? ⟨w.heap.size + 1, 2, none⟩ = some (.slice (some ⟨gb, ob, none⟩) 1 sc) ∧ W.cell? ⟨gb, ob, none⟩ = some (.int .i64 q0) ∧ W.cell? ⟨gb, ob + 1, none⟩ = some (.slice qa ql qc) ∧ W.cell? ⟨gb, ob + 2, none⟩ = some (.slice ya yl yc)) := fun W hW => by
    have c := h3.cells (below_step hb34 hb34.size hW)
    have hb := below_step hbw4 hbw4.size hW
    exact ⟨⟨c.1.2.2, (hb.cell (p := ⟨ga, oa, none⟩) hga).trans ka.1, (hb.cell (p := ⟨ga, oa + 1, none⟩) hga).trans ka.2.1, (hb.cell (p := ⟨ga, oa + 2, none⟩) hga).trans ka.2.2⟩, c.2.2.2, (hb.cell (p := ⟨gb, ob, none⟩) hgb).trans kb.1, (hb.cell (p := ⟨gb, ob + 1, none⟩) hgb).trans kb.2.1, (hb.cell (p := ⟨gb, ob + 2, none⟩) hgb).trans kb.2.2⟩
  have HCj : Hid (∀ W, Below W4.heap.size W4 W → Calls Tryz.prog 17 #[.agg #[.int .i64 p0, .slice pa pl pc, .slice ra rl rc], .agg #[.int .i64 q0, .slice qa ql qc, .slice ya yl yc]] W fun e w' => ∃ (d0 : Int) (da : Option Addr) (dl dc : Nat) (ea : Option Addr) (el ec : Nat), e = .returned (.tuple #[.agg #[.int .i64 d0, .slice da dl dc, .slice ea el ec], .bool o.isSome]) ∧ (∀ r, o = some r → KindIn (fun b => W.heap.size ≤ b ∧ b < w'.heap.size) w' (L + 1) r (.int .i64 d0) (.slice da dl dc) (.slice ea el ec)) ∧ (W4.heap.size ≤ W.heap.size ∧ Below W4.heap.size W4 w') ∧ ∀ N, NewJ W N → NewJ w' N ∧ N < W.heap.size) := fun W hW => (HJ W (below_step hbw4 hbw4.size hW)).mono (by
    rintro e w' ⟨hb, d0, da, dl, dc, ea, el, ec, rfl, hk⟩
    exact ⟨d0, da, dl, dc, ea, el, ec, rfl, hk, ⟨hW.size, below_step hW hW.size hb⟩, fun N q => ⟨q.keep hb, q.lt⟩⟩)
  have H4 : Hid (Below w.heap.size w W4 ∧ W4.heap.size = w.heap.size + 4 ∧ W4.heap[w.heap.size + 1 + 1 + 1]? = some (.cells #[.int .i64 4, .slice none 0 0, .slice none 0 0] 26 (0, 0)) ∧ W4.heap[w.heap.size + 1 + 1]? = some (.cells #[.int .i64 0, .slice none 0 0, .slice none 0 0] 26 (0, 0))) := ⟨hbw4, hz4, hX4, (hb34.block _ (by omega)).trans h3.bz⟩
  have hd0 : Below W4.heap.size W4 W4.drew := (Below.refl _ _).drew
  have hza : w.heap.size + 4 ≤ W4.heap.size := Nat.le_of_eq hz4.symm
  have n0 : ¬ W4.heap.size = w.heap.size := by omega
  have n1 : ¬ W4.heap.size = w.heap.size + 1 := by omega
  have n2 : ¬ W4.heap.size = ga := by omega
  have n3 : ¬ W4.heap.size = gb := by omega
  obtain ⟨⟨i0, i1, i2, i3⟩, j0, j1, j2, j3⟩ := HS.out W4 (Below.refl _ _)
  have w34 : W4 = (((w.alloc (.cells #[.int .i64 4, .slice ua ul uc, .slice (some ⟨ga, oa, none⟩) 1 tc] 26)).alloc (.cells #[.int .i64 4, .slice va vl vc, .slice (some ⟨gb, ob, none⟩) 1 sc] 26)).alloc (.cells #[.int .i64 0, .slice none 0 0, .slice none 0 0] 26)).alloc (.cells #[.int .i64 4, .slice none 0 0, .slice none 0 0] 26) := by rw [hW4, hW3]
  generalize hok : o.isSome = ok at *
  have HOK := Lib.hid hok
  clear hok h3 hz3 HJ hb34 hbw4 hX4 hz4 hW4 hW3 ka kb
  have hfin : ∀ (A : Nat) (d0 : Int) (da : Option Addr) (dl dc : Nat) (ea : Option Addr) (el ec : Nat) (wx : World), GotJ L o W4.heap.size A (.int .i64 d0) (.slice da dl dc) (.slice ea el ec) wx → Below W4.heap.size W4 wx → JoinPost (L + 1) (o.map (oneK6 4)) w (.returned (.tuple #[.agg #[.int .i64 4, .slice none 0 0, .slice (some ⟨wx.heap.size, 0, none⟩) 1 1], .bool ok])) (((((wx.alloc (.cells #[.int .i64 d0, .slice da dl dc, .slice ea el ec] 26)).setCell ⟨w.heap.size + 1 + 1 + 1, 2, none⟩ (.slice (some ⟨wx.heap.size, 0, none⟩) 1 1)).setCell ⟨w.heap.size + 1 + 1, 0, none⟩ (.int .i64 4)).setCell ⟨w.heap.size + 1 + 1, 1, none⟩ (.slice none 0 0)).setCell ⟨w.heap.size + 1 + 1, 2, none⟩ (.slice (some ⟨wx.heap.size, 0, none⟩) 1 1)) := fun A d0 da dl dc ea el ec wx hG hb => by
    have hz := H4.out.2.1
    rw [← HOK.out]
    exact fin_one (X := w.heap.size + 1 + 1 + 1) rfl (below_step H4.out.1 H4.out.1.size hb) hG (by omega) (.inr rfl) (by omega) (by omega) (by omega) (by omega)
  have HFin := Lib.hid hfin
  clear hfin
  go_enter Tryz.func17, Tryz.ntmps17
  go_upto_region 8 with fail
  rw [← w34]
  clear w34
  go_cut [9, 10] from 47 to 204 (fun pv ov wx => ov = .bool ok ∧ ∃ A d0 da dl dc ea el ec, pv = .pointer (some ⟨A, 0, none⟩) ∧ GotJ L o W4.heap.size A (.int .i64 d0) (.slice da dl dc) (.slice ea el ec) wx ∧ Below W4.heap.size W4 wx)
  case first =>
    go_region_held (fun W => (W.cell? ⟨w.heap.size, 2, none⟩ = some (.slice (some ⟨ga, oa, none⟩) 1 tc) ∧ W.cell? ⟨ga, oa, none⟩ = some (.int .i64 p0) ∧ W.cell? ⟨ga, oa + 1, none⟩ = some (.slice pa pl pc) ∧ W.cell? ⟨ga, oa + 2, none⟩ = some (.slice ra rl rc)) ∧ W.cell? ⟨w.heap.size + 1, 2, none⟩ = some (.slice (some ⟨gb, ob, none⟩) 1 sc) ∧ W.cell? ⟨gb, ob, none⟩ = some (.int .i64 q0) ∧ W.cell? ⟨gb, ob + 1, none⟩ = some (.slice qa ql qc) ∧ W.cell? ⟨gb, ob + 2, none⟩ = some (.slice ya yl yc)) (first | with_reducible assumption | go_keep) (first
      | (go_at_call 17; refine (HCj.out _ (by (first | with_reducible assumption | (with_reducible refine below_alloc ?_ _; with_reducible assumption) | (with_reducible refine below_allocD ?_ _; with_reducible assumption)))).mono ?_; rintro e y3 ⟨d0, da, dl, dc, ea, el, ec, rfl, hd3, ⟨hW3, hy3⟩, hq3⟩; obtain ⟨⟨ic0, ic1, ic2, ic3⟩, jc0, jc1, jc2, jc3⟩ := HS.out y3 hy3; have hzc := hy3.size; have mca : ¬ y3.heap.size = w.heap.size := (by omega); have mcb : ¬ y3.heap.size = w.heap.size + 1 := (by omega); have mcc : ¬ y3.heap.size = ga := (by omega); have mcd : ¬ y3.heap.size = gb := (by omega); (first | with_reducible (have q := hq3 _ (newJ_at _)) | with_reducible (have q := hq3 _ (newJ_atD _)) | with_reducible (have q := hq3 _ q) | skip); (first | (obtain ⟨q, hN⟩ := q; obtain ⟨⟨r0, r1, r2⟩, f0, f1, f2⟩ := j3_cells q) | skip)))
    all_goals
      go_wp2_with fail
      go_meet
      first
        | with_reducible exact ⟨rfl, _, _, _, _, _, _, _, _, rfl, got_set q hd3 (by omega) (by omega) (by omega), j3_below hy3 (by omega)⟩
        | with_reducible exact ⟨rfl, _, _, _, _, _, _, _, _, rfl, got_new hd3 (by omega) (by omega), below_alloc hy3 _⟩
  case rest =>
    obtain ⟨rfl, A, d0, da, dl, dc, ea, el, ec, rfl, hG, hbc⟩ := hcut
    obtain ⟨⟨x0, x1, x2⟩, -⟩ := j3_cells hG.box
    have hz := H4.out.2.1
    obtain ⟨⟨r0, r1, r2⟩, f0, f1, f2⟩ := j3_cells (((below_alloc hbc (.cells #[.int .i64 d0, .slice da dl dc, .slice ea el ec] 26)).block _ (by omega)).trans H4.out.2.2.2)
    obtain ⟨⟨s0, s1, s2⟩, g0, g1, g2⟩ := j3_cells (((below_alloc hbc (.cells #[.int .i64 d0, .slice da dl dc, .slice ea el ec] 26)).block _ (by omega)).trans H4.out.2.2.1)
    have HF := Lib.hid (HFin.out _ _ _ _ _ _ _ _ _ hG hbc)
    clear hG hbc HCj HS i0 i1 i2 i3 j0 j1 j2 j3 hd0 n0 n1 n2 n3 hz
    go_wp2_with fail
    refine bodyPost_ret (v := .tuple #[.agg #[.int .i64 4, .slice none 0 0, .slice (some ⟨wc.heap.size, 0, none⟩) 1 1], .bool ok]) (by simp [results, Tryz.results17, go_sem, r0, r1, r2]) rfl ?_
    exact HF.out

end Go.Proofs.YthcdeahobjhkbaaGreatDoor

/-
  The specification's l3Join, of any two good schemas.
-/
namespace Go.Proofs.YthcdeahobjhkbaaGreatDoor
open Go.RowKit

set_option maxRecDepth 20000 in
set_option maxHeartbeats 1000000 in
theorem l3Bare_cells (na : Option Addr) (nl nc b off kc : Nat) (u0 : Int) (ua ta : Option Addr) (ul uc tl tc : Nat) (w : World) (hbl : b < w.heap.size) (q0 : w.cell? ⟨b, off, none⟩ = some (.int .i64 u0)) (q1 : w.cell? ⟨b, off + 1, none⟩ = some (.slice ua ul uc)) (q2 : w.cell? ⟨b, off + 2, none⟩ = some (.slice ta tl tc)) :
    Calls Tryz.prog 31 #[.agg #[.int .i64 6, .slice na nl nc, .slice (some ⟨b, off, none⟩) 1 kc]] w fun e w' => e = .returned (.agg #[.int .i64 u0, .slice ua ul uc, .slice ta tl tc]) ∧ Below w.heap.size w w' := by
  have hbx : ∀ o1 o2 : Obj, Below w.heap.size w ((w.alloc o1).alloc o2) := fun o1 o2 => ((Below.refl _ _).alloc (Nat.le_refl _) _).alloc (by simp) _
  have e0 := fun o1 o2 => ((hbx o1 o2).cell (p := ⟨b, off, none⟩) hbl).trans q0
  have e1 := fun o1 o2 => ((hbx o1 o2).cell (p := ⟨b, off + 1, none⟩) hbl).trans q1
  have e2 := fun o1 o2 => ((hbx o1 o2).cell (p := ⟨b, off + 2, none⟩) hbl).trans q2
  have HB := Lib.hid hbx
  clear q0 q1 q2 hbx
  go_enter Tryz.func31, Tryz.ntmps31
  go_wp2_with fail
  refine bodyPost_ret (v := .agg #[.int .i64 u0, .slice ua ul uc, .slice ta tl tc]) (by simp [results, Tryz.results31, go_sem]) rfl ?_
  exact ⟨rfl, HB.out _ _⟩

/-- The one kid of a list or a maybe. -/
theorem one_kidJ {S : Nat → Prop} {w : World} {n : Nat} {k : K (n + 1)} {x : K n} {so : Int} {ua ta : Option Addr} {ul uc tl tc : Nat} (h : KindIn S w (n + 1) k (.int .i64 so) (.slice ua ul uc) (.slice ta tl tc)) (hx : Kd.kids k = [x]) :
    ∃ b off p0 pa pl pc ra rl rc, ta = some ⟨b, off, none⟩ ∧ tl = 1 ∧ S b ∧ (w.cell? ⟨b, off, none⟩ = some (.int .i64 p0) ∧ w.cell? ⟨b, off + 1, none⟩ = some (.slice pa pl pc) ∧ w.cell? ⟨b, off + 2, none⟩ = some (.slice ra rl rc)) ∧ KindIn S w n x (.int .i64 p0) (.slice pa pl pc) (.slice ra rl rc) := by
  obtain ⟨-, -, -, ao, cap, he, -, hc⟩ := h
  obtain ⟨b, off, hao, hS, hcell⟩ := hc (by rw [hx]; simp)
  obtain ⟨c0, c1, c2, q0, q1, q2, hk⟩ := hcell 0 (by rw [hx]; simp)
  simp only [Nat.zero_mul, Nat.add_zero] at q0 q1 q2
  have e : (Kd.kids k)[0]'(by rw [hx]; simp) = x := by simp [hx]
  rw [e] at hk
  obtain ⟨p0, pa, pl, pc, ra, rl, rc, rfl, rfl, rfl⟩ := hk.shape
  have h1 : ta = ao := by simpa using congrArg (fun v => match v with | Value.slice a _ _ => a | _ => none) he
  have h2 : tl = (Kd.kids k).length := by simpa using congrArg (fun v => match v with | Value.slice _ a _ => a | _ => 0) he
  exact ⟨b, off, p0, pa, pl, pc, ra, rl, rc, h1.trans hao, by rw [h2, hx]; rfl, hS, ⟨q0, q1, q2⟩, hk⟩

theorem sort_is {S : Nat → Prop} {w : World} {n : Nat} {k : K (n + 1)} {so : Int} {c1 c2 : Value} (h : KindIn S w (n + 1) k (.int .i64 so) c1 c2) : so = Kd.sort k := by have := h.1; injection this

theorem kid_of {n : Nat} {k : K (n + 1)} {d : Int} (h : goodK (n + 1) k d = true) (hs : Kd.sort k = 6 ∨ Kd.sort k = 4) : ∃ x, Kd.kids k = [x] := by
  rcases goodK_kids h with ⟨h', -⟩ | ⟨-, -, h'⟩ | ⟨h', -⟩
  · omega
  · exact h'
  · omega

set_option maxRecDepth 20000 in
set_option maxHeartbeats 1000000 in
theorem l3Join_diff (L : Nat) (u0 z0 : Int) (ua ta va sa : Option Addr) (ul uc tl tc vl vc sl sc : Nat) (w : World) (h1 : ¬ u0 = 6) (h2 : ¬ z0 = 6) (h3 : ¬ u0 = z0) :
    Calls Tryz.prog 17 #[.agg #[.int .i64 u0, .slice ua ul uc, .slice ta tl tc], .agg #[.int .i64 z0, .slice va vl vc, .slice sa sl sc]] w (JoinPost L none w) := by
  have hb1 : (u0 == 6) = false := by simpa using h1
  have hb2 : (z0 == 6) = false := by simpa using h2
  have hb3 : (u0 != z0) = true := by simpa using h3
  have HB : Hid (∀ o1 o2 o3 : Obj, Below w.heap.size w (((w.alloc o1).alloc o2).alloc o3)) := fun _ _ _ => (((Below.refl _ _).alloc (Nat.le_refl _) _).alloc (by simp) _).alloc (by simp; omega) _
  go_enter Tryz.func17, Tryz.ntmps17
  go_wp2_with fail
  refine bodyPost_ret (v := .tuple #[.agg #[.int .i64 0, .slice none 0 0, .slice none 0 0], .bool false]) (by simp [results, Tryz.results17, go_sem]) rfl ?_
  exact ⟨HB.out _ _ _, 0, none, 0, 0, none, 0, 0, rfl, fun r hr => by cases hr⟩

theorem maybe_said (L n : Nat) (hn : n + 1 ≤ L) (S : Nat → Prop) (k : K n) (g : Nat) (c0 c1 c2 : Value) (w : World) (hg : goodK n k (g : Int) = true) (hc40 : cntK n k ≤ 40) (hk : KindIn S w n k c0 c1 c2) (hB : ∀ b, S b → b < w.heap.size) :
    Calls Tryz.prog 32 #[.agg #[c0, c1, c2]] w (CopyPost L (maybeL L n k) w) := by
  cases n with
  | zero => exact Empty.elim (show Empty from k)
  | succ n =>
    obtain ⟨L, rfl⟩ : ∃ L', L = L' + 1 := ⟨L - 1, by omega⟩
    exact l3Maybe_any L n S k g c0 c1 c2 w (by omega) hg hc40 hk hB

theorem jn_rows {L n m : Nat} {a : K (n + 1)} {b : K (m + 1)} (h1 : ¬ Kd.sort a = 6) (h2 : ¬ Kd.sort b = 6) (h3 : Kd.sort a = Kd.sort b) (h4 : ¬ Kd.sort a = 4) :
    jnL (L + 1) (n + 1) a (m + 1) b = (mergeF (fun x y => jnL L n x m y) (maybeL L n) (maybeL L m) ((Kd.names a).length + (Kd.names b).length) ((Kd.names a).zip (Kd.kids a)) ((Kd.names b).zip (Kd.kids b))).map fun l => (⟨Kd.sort a, l.map Prod.fst, l.map Prod.snd⟩ : Kd (K (L + 1))) := by
  have h3' : ¬ Kd.sort a ≠ Kd.sort b := fun h => h h3
  simp only [jnL, if_neg h1, if_neg h2, if_neg h3', if_neg h4]
  rfl

theorem names_kids {n : Nat} {k : K (n + 1)} {d : Int} (h : goodK (n + 1) k d = true) (h6 : ¬ Kd.sort k = 6) (h4 : ¬ Kd.sort k = 4) : (Kd.names k).length = (Kd.kids k).length := by
  rcases goodK_kids h with ⟨-, hn, hk⟩ | ⟨h', -⟩ | ⟨-, h', -⟩
  · rw [hn, hk]; rfl
  · omega
  · exact h'

theorem join_step (L : Nat) (hJ : JoinSaid L) : JoinSaid (L + 1) := by
  intro n m S a b g g' a0 a1 a2 b0 b1 b2 w hL hga hgb hca hcb ha hb hB
  cases n with
  | zero => exact Empty.elim (show Empty from a)
  | succ n =>
  cases m with
  | zero => exact Empty.elim (show Empty from b)
  | succ m =>
  obtain ⟨u0, ua, ul, uc, ta, tl, tc, rfl, rfl, rfl⟩ := ha.shape
  obtain ⟨z0, va, vl, vc, sa, sl, sc, rfl, rfl, rfl⟩ := hb.shape
  have hu := sort_is ha
  have hz := sort_is hb
  obtain ⟨hna, hsa, hka, hfa⟩ := few_of_good hga hca
  obtain ⟨hnb, hsb, hkb, hfb⟩ := few_of_good hgb hcb
  have hfa' : ∀ x, x ∈ Kd.kids a → goodK n x ((g + 1 : Nat) : Int) = true ∧ cntK n x ≤ 40 := fun x hx => by
    have := hfa x hx
    rwa [show ((g : Int) + 1) = ((g + 1 : Nat) : Int) by omega] at this
  have hfb' : ∀ x, x ∈ Kd.kids b → goodK m x ((g' + 1 : Nat) : Int) = true ∧ cntK m x ≤ 40 := fun x hx => by
    have := hfb x hx
    rwa [show ((g' : Int) + 1) = ((g' + 1 : Nat) : Int) by omega] at this
  have keep : ∀ {W : World}, Below w.heap.size w W → Same S w W ∧ ∀ b, S b → b < W.heap.size := fun hW => ⟨same_below hW hB, fun b hb => Nat.lt_of_lt_of_le (hB b hb) hW.size⟩
  by_cases h6a : Kd.sort a = 6
  · obtain ⟨x, hx⟩ := kid_of hga (.inl h6a)
    obtain ⟨bb, off, p0, pa, pl, pc, ra, rl, rc, rfl, rfl, hSb, ⟨q0, q1, q2⟩, hkx⟩ := one_kidJ ha hx
    have hlb := hB bb hSb
    have hgx := hfa' x (by rw [hx]; exact List.mem_cons_self ..)
    have hBa : ∀ W, Below w.heap.size w W → Calls Tryz.prog 31 #[.agg #[.int .i64 u0, .slice ua ul uc, .slice (some ⟨bb, off, none⟩) 1 tc]] W fun e w' => e = .returned (.agg #[.int .i64 p0, .slice pa pl pc, .slice ra rl rc]) ∧ Below W.heap.size W w' := fun W hW => by
      rw [hu, h6a]
      exact l3Bare_cells ua ul uc bb off tc p0 pa ra pl pc rl rc W (Nat.lt_of_lt_of_le hlb hW.size) ((hW.cell (p := ⟨bb, off, none⟩) hlb).trans q0) ((hW.cell (p := ⟨bb, off + 1, none⟩) hlb).trans q1) ((hW.cell (p := ⟨bb, off + 2, none⟩) hlb).trans q2)
    by_cases h6b : Kd.sort b = 6
    · obtain ⟨y, hy⟩ := kid_of hgb (.inl h6b)
      obtain ⟨bc, ofc, r0, r1, r2, r3, r4, r5, r6, rfl, rfl, hSc, ⟨s0, s1, s2⟩, hky⟩ := one_kidJ hb hy
      have hlc := hB bc hSc
      have hgy := hfb' y (by rw [hy]; exact List.mem_cons_self ..)
      have e : jnL (L + 1) (n + 1) a (m + 1) b = (jnL L n x m y).map (oneK6 6) := by simp only [jnL, if_pos h6a, if_pos h6b, hx, hy]
      rw [e]
      refine l3Join_maybe L _ u0 z0 _ _ _ _ _ _ _ _ _ _ _ _ p0 r0 pa ra r1 r4 pl pc rl rc r2 r3 r5 r6 w hBa (fun W hW => ?_) (fun W hW => ?_) (.inl (hu.trans h6a))
      · rw [hz, h6b]
        exact l3Bare_cells va vl vc bc ofc sc r0 r1 r4 r2 r3 r5 r6 W (Nat.lt_of_lt_of_le hlc hW.size) ((hW.cell (p := ⟨bc, ofc, none⟩) hlc).trans s0) ((hW.cell (p := ⟨bc, ofc + 1, none⟩) hlc).trans s1) ((hW.cell (p := ⟨bc, ofc + 2, none⟩) hlc).trans s2)
      · exact hJ n m S x y (g + 1) (g' + 1) _ _ _ _ _ _ W (by omega) hgx.1 hgy.1 hgx.2 hgy.2 (hkx.keep (keep hW).1 (fun _ h => h)) (hky.keep (keep hW).1 (fun _ h => h)) (keep hW).2
    · have e : jnL (L + 1) (n + 1) a (m + 1) b = (jnL L n x (m + 1) b).map (oneK6 6) := by simp only [jnL, if_pos h6a, if_neg h6b, hx]
      rw [e]
      refine l3Join_maybe L _ u0 z0 _ _ _ _ _ _ _ _ _ _ _ _ p0 z0 pa ra va sa pl pc rl rc vl vc sl sc w hBa (fun W hW => ?_) (fun W hW => ?_) (.inl (hu.trans h6a))
      · exact (l3Bare_no S m b _ _ _ W (hb.keep (keep hW).1 (fun _ h => h)) h6b).mono fun e w' h => ⟨h.2, h.1⟩
      · exact hJ n (m + 1) S x b (g + 1) g' _ _ _ _ _ _ W (by omega) hgx.1 hgb hgx.2 hcb (hkx.keep (keep hW).1 (fun _ h => h)) (hb.keep (keep hW).1 (fun _ h => h)) (keep hW).2
  · by_cases h6b : Kd.sort b = 6
    · obtain ⟨y, hy⟩ := kid_of hgb (.inl h6b)
      obtain ⟨bc, ofc, r0, r1, r2, r3, r4, r5, r6, rfl, rfl, hSc, ⟨s0, s1, s2⟩, hky⟩ := one_kidJ hb hy
      have hlc := hB bc hSc
      have hgy := hfb' y (by rw [hy]; exact List.mem_cons_self ..)
      have e : jnL (L + 1) (n + 1) a (m + 1) b = (jnL L (n + 1) a m y).map (oneK6 6) := by simp only [jnL, if_neg h6a, if_pos h6b, hy]
      rw [e]
      refine l3Join_maybe L _ u0 z0 _ _ _ _ _ _ _ _ _ _ _ _ u0 r0 ua ta r1 r4 ul uc tl tc r2 r3 r5 r6 w (fun W hW => ?_) (fun W hW => ?_) (fun W hW => ?_) (.inr (hz.trans h6b))
      · exact (l3Bare_no S n a _ _ _ W (ha.keep (keep hW).1 (fun _ h => h)) h6a).mono fun e w' h => ⟨h.2, h.1⟩
      · rw [hz, h6b]
        exact l3Bare_cells va vl vc bc ofc sc r0 r1 r4 r2 r3 r5 r6 W (Nat.lt_of_lt_of_le hlc hW.size) ((hW.cell (p := ⟨bc, ofc, none⟩) hlc).trans s0) ((hW.cell (p := ⟨bc, ofc + 1, none⟩) hlc).trans s1) ((hW.cell (p := ⟨bc, ofc + 2, none⟩) hlc).trans s2)
      · exact hJ (n + 1) m S a y g (g' + 1) _ _ _ _ _ _ W (by omega) hga hgy.1 hca hgy.2 (ha.keep (keep hW).1 (fun _ h => h)) (hky.keep (keep hW).1 (fun _ h => h)) (keep hW).2
    · by_cases hs : Kd.sort a = Kd.sort b
      · by_cases h4 : Kd.sort a = 4
        · obtain ⟨x, hx⟩ := kid_of hga (.inr h4)
          obtain ⟨y, hy⟩ := kid_of hgb (.inr (hs ▸ h4))
          obtain ⟨bb, off, p0, pa, pl, pc, ra, rl, rc, rfl, rfl, hSb, q, hkx⟩ := one_kidJ ha hx
          obtain ⟨bc, ofc, r0, r1, r2, r3, r4, r5, r6, rfl, rfl, hSc, s, hky⟩ := one_kidJ hb hy
          have hgx := hfa' x (by rw [hx]; exact List.mem_cons_self ..)
          have hgy := hfb' y (by rw [hy]; exact List.mem_cons_self ..)
          have h3' : ¬ Kd.sort a ≠ Kd.sort b := fun h => h hs
          have e : jnL (L + 1) (n + 1) a (m + 1) b = (jnL L n x m y).map (oneK6 4) := by simp only [jnL, if_neg h6a, if_neg h6b, if_neg h3', if_pos h4, hx, hy]
          rw [e, hu, hz, ← hs, h4]
          exact l3Join_list L _ ua va ul uc tc vl vc sc bb off bc ofc p0 r0 pa ra r1 r4 pl pc rl rc r2 r3 r5 r6 w (hB bb hSb) (hB bc hSc) q s (fun W hW => hJ n m S x y (g + 1) (g' + 1) _ _ _ _ _ _ W (by omega) hgx.1 hgy.1 hgx.2 hgy.2 (hkx.keep (keep hW).1 (fun _ h => h)) (hky.keep (keep hW).1 (fun _ h => h)) (keep hW).2)
        · have h4b : ¬ Kd.sort b = 4 := fun h => h4 (hs.trans h)
          have hlA := names_kids hga h6a h4
          have hlB := names_kids hgb h6b h4b
          have hwf := ha.2.1
          obtain ⟨-, -, h1, h2⟩ := ha
          obtain ⟨-, -, h3, h4'⟩ := hb
          obtain ⟨na', nc', e1, -⟩ := id h1
          obtain ⟨ka', kc', e2, -⟩ := id h2
          obtain ⟨nb', nbc', e3, -⟩ := id h3
          obtain ⟨kb', kbc', e4, -⟩ := id h4'
          cases e1
          cases e2
          cases e3
          cases e4
          rw [hu, hz, ← hs]
          refine l3Join_rows L n m (fun x y => jnL L n x m y) (maybeL L n) (maybeL L m) S (Kd.names a) (Kd.names b) (Kd.kids a) (Kd.kids b) (Kd.sort a) _ _ _ _ _ _ _ _ w h1 h2 h3 h4' hlA hlB hna hnb hsa hsb hB hwf h6a h4 (fun x hx c0 c1 c2 W hk hlt => maybe_said L n (by omega) S x (g + 1) c0 c1 c2 W (hfa' x hx).1 (hfa' x hx).2 hk hlt) (fun y hy c0 c1 c2 W hk hlt => maybe_said L m (by omega) S y (g' + 1) c0 c1 c2 W (hfb' y hy).1 (hfb' y hy).2 hk hlt) (fun x hx y hy c0 c1 c2 e0 e1 e2 W hk hk' hlt => hJ n m S x y (g + 1) (g' + 1) _ _ _ _ _ _ W (by omega) (hfa' x hx).1 (hfb' y hy).1 (hfa' x hx).2 (hfb' y hy).2 hk hk' hlt) _ ?_
          rw [jn_rows h6a h6b hs h4, List.length_zip, List.length_zip, ← hlA, ← hlB, Nat.min_self, Nat.min_self]
      · have e : jnL (L + 1) (n + 1) a (m + 1) b = none := by simp only [jnL, if_neg h6a, if_neg h6b, if_pos hs]
        rw [e]
        exact l3Join_diff (L + 1) u0 z0 _ _ _ _ _ _ _ _ _ _ _ _ w (by rw [hu]; exact h6a) (by rw [hz]; exact h6b) (by rw [hu, hz]; exact hs)

theorem l3Join_any : ∀ L, JoinSaid L := by
  intro L
  induction L with
  | zero =>
    intro n m S a b g g' a0 a1 a2 b0 b1 b2 w hL
    have hn : n = 0 := by omega
    subst hn
    exact Empty.elim (show Empty from a)
  | succ L ih => exact join_step L ih

end Go.Proofs.YthcdeahobjhkbaaGreatDoor

/-
  What the specification's KindJoin answers.
-/
namespace Go.Proofs.YthcdeahobjhkbaaGreatDoor
open Go.RowKit

/-- How the specification's KindJoin ends. -/
def JSEnd (n : Nat) (a : K n) (m : Nat) (b : K m) (w : World) (e : Ending) (w' : World) : Prop :=
  Below w.heap.size w w' ∧ ((∃ r d0 da dl dc ea el ec, joinF n a m b = some r ∧ e = .returned (.tuple #[.agg #[.int .i64 d0, .slice da dl dc, .slice ea el ec], .bool true]) ∧ KindIn (fun b => w.heap.size ≤ b ∧ b < w'.heap.size) w' (n + m + 1) r (.int .i64 d0) (.slice da dl dc) (.slice ea el ec)) ∨ (joinF n a m b = none ∧ e = .returned (.tuple #[.agg #[.int .i64 0, .slice none 0 0, .slice none 0 0], .bool false])))

set_option maxRecDepth 20000 in
set_option maxHeartbeats 4000000 in
theorem specKJoin_any (n m : Nat) (S : Nat → Prop) (a : K n) (b : K m) (a0 a1 a2 b0 b1 b2 : Value) (w : World) (ha : KindIn S w n a a0 a1 a2) (hb : KindIn S w m b b0 b1 b2) (hB : ∀ b, S b → b < w.heap.size) :
    Calls Tryz.prog 5 #[.agg #[a0, a1, a2], .agg #[b0, b1, b2]] w (JSEnd n a m b w) := by
  obtain ⟨x0, xa, xl, xc, ya, yl, yc, rfl, rfl, rfl⟩ := ha.shape
  obtain ⟨z0, za, zl, zc, ua, ul, uc, rfl, rfl, rfl⟩ := hb.shape
  obtain ⟨W3, hW3⟩ : ∃ W3, W3 = ((w.alloc (.cells #[.int .i64 x0, .slice xa xl xc, .slice ya yl yc] 26)).alloc (.cells #[.int .i64 z0, .slice za zl zc, .slice ua ul uc] 26)).alloc (.cells #[.int .i64 0, .slice none 0 0, .slice none 0 0] 26) := ⟨_, rfl⟩
  have h3 : ThreeJ w W3 (.int .i64 x0) (.slice xa xl xc) (.slice ya yl yc) (.int .i64 z0) (.slice za zl zc) (.slice ua ul uc) := by rw [hW3]; exact three_at _ _ _ _ _ _ _
  have H3 := Lib.hid h3
  have hza : w.heap.size + 3 ≤ W3.heap.size := Nat.le_of_eq h3.size.symm
  have HKs : Hid (∀ W, Below W3.heap.size W3 W → KindIn S W n a (.int .i64 x0) (.slice xa xl xc) (.slice ya yl yc) ∧ KindIn S W m b (.int .i64 z0) (.slice za zl zc) (.slice ua ul uc) ∧ ∀ b, S b → b < W.heap.size) := fun W hW => by
    have hb2 := below_step h3.below h3.below.size hW
    exact ⟨ha.keep (same_below hb2 hB) (fun _ h => h), hb.keep (same_below hb2 hB) (fun _ h => h), fun b hb => Nat.lt_of_lt_of_le (hB b hb) hb2.size⟩
  have HNone : Hid (∀ W, joinF n a m b = none → Below W3.heap.size W3 W → JSEnd n a m b w (.returned (.tuple #[.agg #[.int .i64 0, .slice none 0 0, .slice none 0 0], .bool false])) (((W.setCell ⟨w.heap.size + 1 + 1, 0, none⟩ (.int .i64 0)).setCell ⟨w.heap.size + 1 + 1, 1, none⟩ (.slice none 0 0)).setCell ⟨w.heap.size + 1 + 1, 2, none⟩ (.slice none 0 0))) := fun W hj hW => ⟨j3_below (below_step h3.below h3.below.size hW) (by omega), .inr ⟨hj, rfl⟩⟩
  have HC1 : Hid (Calls Tryz.prog 16 #[.agg #[.int .i64 x0, .slice xa xl xc, .slice ya yl yc]] W3 _) := specKOk_any n S a _ _ _ W3 (HKs.out W3 (Below.refl _ _)).1 (HKs.out W3 (Below.refl _ _)).2.2
  obtain ⟨⟨i0, i1, i2⟩, j0, j1, j2⟩ := h3.cells (Below.refl _ _)
  rw [hW3] at i0 i1 i2 j0 j1 j2
  clear ha hb hB h3
  go_enter Tryz.func5, Tryz.ntmps5
  go_wp2_with fail
  rw [← hW3]
  clear hW3 i0 i1 i2 j0 j1 j2
  refine HC1.out.mono ?_
  rintro e w1 ⟨rfl, hb1⟩
  have HB1 := Lib.hid hb1
  have hz1 := hb1.size
  obtain ⟨⟨i0, i1, i2⟩, j0, j1, j2⟩ := H3.out.cells hb1
  obtain ⟨⟨r0, r1, r2⟩, f0, f1, f2⟩ := j3_cells ((hb1.block _ (by omega)).trans H3.out.bz)
  clear hb1 HC1
  cases hoa : okK n a
  · have HF := Lib.hid (HNone.out w1 (by unfold joinF; rw [hoa]; rfl) HB1.out)
    clear hoa
    go_wp2_with fail
    refine bodyPost_ret (v := .tuple #[.agg #[.int .i64 0, .slice none 0 0, .slice none 0 0], .bool false]) (by simp [results, Tryz.results5, go_sem, r0, r1, r2]) rfl ?_
    exact HF.out
  · have HC2 : Hid (Calls Tryz.prog 16 #[.agg #[.int .i64 z0, .slice za zl zc, .slice ua ul uc]] w1 _) := specKOk_any m S b _ _ _ w1 (HKs.out w1 HB1.out).2.1 (HKs.out w1 HB1.out).2.2
    have HOA := Lib.hid hoa
    clear hoa
    go_wp2_with fail
    refine HC2.out.mono ?_
    rintro e w2 ⟨rfl, hb2⟩
    have hb32 := below_step HB1.out HB1.out.size hb2
    have HB2 := Lib.hid hb32
    have hz2 := hb32.size
    clear i0 i1 i2 j0 j1 j2 r0 r1 r2 f0 f1 f2
    obtain ⟨⟨i0, i1, i2⟩, j0, j1, j2⟩ := H3.out.cells hb32
    obtain ⟨⟨r0, r1, r2⟩, f0, f1, f2⟩ := j3_cells ((hb32.block _ (by omega)).trans H3.out.bz)
    clear hb2 hb32 HC2
    cases hob : okK m b
    · have HF := Lib.hid (HNone.out w2 (by unfold joinF; rw [HOA.out, hob]; rfl) HB2.out)
      clear hob
      go_wp2_with fail
      refine bodyPost_ret (v := .tuple #[.agg #[.int .i64 0, .slice none 0 0, .slice none 0 0], .bool false]) (by simp [results, Tryz.results5, go_sem, r0, r1, r2]) rfl ?_
      exact HF.out
    · have HOB := Lib.hid hob
      obtain ⟨o, ho⟩ : ∃ o, o = jnL (n + m) n a m b := ⟨_, rfl⟩
      have HC3 : Hid (Calls Tryz.prog 17 #[.agg #[.int .i64 x0, .slice xa xl xc, .slice ya yl yc], .agg #[.int .i64 z0, .slice za zl zc, .slice ua ul uc]] w2 (JoinPost (n + m) o w2)) := by
        rw [ho]
        exact l3Join_any (n + m) n m S a b 1 1 _ _ _ _ _ _ w2 (Nat.le_refl _) (okK_get HOA.out).1 (okK_get HOB.out).1 (okK_get HOA.out).2 (okK_get HOB.out).2 (HKs.out w2 HB2.out).1 (HKs.out w2 HB2.out).2.1 (HKs.out w2 HB2.out).2.2
      have HO := Lib.hid ho
      clear hob ho
      go_wp2_with fail
      refine HC3.out.mono ?_
      rintro e w3 ⟨hb3, d0, da, dl, dc, ea, el, ec, rfl, hk3⟩
      have hz3 := hb3.size
      obtain ⟨V, hV⟩ : ∃ V, V = w3.alloc (.cells #[.int .i64 d0, .slice da dl dc, .slice ea el ec] 26) := ⟨_, rfl⟩
      have hb3V : Below W3.heap.size W3 V := by rw [hV]; exact below_alloc (below_step HB2.out HB2.out.size hb3) _
      have hzV : V.heap.size = w3.heap.size + 1 := by rw [hV]; simp
      have HBV := Lib.hid hb3V
      have hVb : V.heap[w3.heap.size]? = some (.cells #[.int .i64 d0, .slice da dl dc, .slice ea el ec] 26 (0, 0)) := by rw [hV]; exact heap_alloc_new _ _
      have hkV : ∀ r, o = some r → KindIn (fun b => w2.heap.size ≤ b ∧ b < V.heap.size ∧ b ≠ w3.heap.size) V (n + m + 1) r (.int .i64 d0) (.slice da dl dc) (.slice ea el ec) := fun r hr => (hk3 r hr).keep (fun b hb => by rw [hV]; exact Below.heap_alloc _ _ _ hb.2) (fun b hb => ⟨hb.1, by omega, by omega⟩)
      clear i0 i1 i2 j0 j1 j2 r0 r1 r2 f0 f1 f2
      obtain ⟨⟨r0, r1, r2⟩, f0, f1, f2⟩ := j3_cells ((hb3V.block _ (by omega)).trans H3.out.bz)
      obtain ⟨⟨s0, s1, s2⟩, -⟩ := j3_cells hVb
      have HVb := Lib.hid hVb
      have hVl : w3.heap.size < V.heap.size := by omega
      have hw2V : w2.heap.size ≤ V.heap.size := by omega
      clear hb3 hk3 hb3V hVb HC3 hzV
      cases o with
      | none =>
        have HF := Lib.hid (HNone.out V (by unfold joinF; rw [HOA.out, HOB.out, ← HO.out]; rfl) HBV.out)
        have e0 : (none : Option (K (n + m + 1))).isSome = false := rfl
        rw [e0]
        rw [hV] at r0 r1 r2 f0 f1 f2 HF
        clear hV s0 s1 s2 hkV
        go_wp2_with fail
        refine bodyPost_ret (v := .tuple #[.agg #[.int .i64 0, .slice none 0 0, .slice none 0 0], .bool false]) (by simp [results, Tryz.results5, go_sem, r0, r1, r2]) rfl ?_
        exact HF.out
      | some r =>
        have HKV := Lib.hid (hkV r rfl)
        have HC4 : Hid (Calls Tryz.prog 16 #[.agg #[.int .i64 d0, .slice da dl dc, .slice ea el ec]] V _) := specKOk_any (n + m + 1) _ r _ _ _ V HKV.out (fun b hb => hb.2.1)
        have e0 : (some r).isSome = true := rfl
        rw [e0]
        have s0' := s0
        have s1' := s1
        have s2' := s2
        rw [hV] at s0' s1' s2'
        clear hkV s0 s1 s2 r0 r1 r2 f0 f1 f2
        go_wp2_with fail
        rw [← hV]
        clear hV s0' s1' s2'
        refine HC4.out.mono ?_
        rintro e w8 ⟨rfl, hb8⟩
        have hz8 := hb8.size
        have hb38 := below_step HBV.out HBV.out.size hb8
        obtain ⟨⟨r0, r1, r2⟩, f0, f1, f2⟩ := j3_cells ((hb38.block _ (by omega)).trans H3.out.bz)
        obtain ⟨⟨s0, s1, s2⟩, -⟩ := j3_cells ((hb8.block _ hVl).trans HVb.out)
        have HK8 : Hid (KindIn (fun b => w.heap.size ≤ b ∧ b < (((w8.setCell ⟨w.heap.size + 1 + 1, 0, none⟩ (.int .i64 d0)).setCell ⟨w.heap.size + 1 + 1, 1, none⟩ (.slice da dl dc)).setCell ⟨w.heap.size + 1 + 1, 2, none⟩ (.slice ea el ec)).heap.size) (((w8.setCell ⟨w.heap.size + 1 + 1, 0, none⟩ (.int .i64 d0)).setCell ⟨w.heap.size + 1 + 1, 1, none⟩ (.slice da dl dc)).setCell ⟨w.heap.size + 1 + 1, 2, none⟩ (.slice ea el ec)) (n + m + 1) r (.int .i64 d0) (.slice da dl dc) (.slice ea el ec)) := HKV.out.keep (fun b hb => (j3_other (by omega)).trans (hb8.block b hb.2.1)) (fun b hb => ⟨by omega, by rw [j3_size]; omega⟩)
        have HB8 := Lib.hid hb38
        clear hb8 hb38 HC4
        cases hk : okK (n + m + 1) r
        · have HF := Lib.hid (HNone.out w8 (by unfold joinF; rw [HOA.out, HOB.out, ← HO.out]; simp [hk]) HB8.out)
          clear hk
          go_wp2_with fail
          refine bodyPost_ret (v := .tuple #[.agg #[.int .i64 0, .slice none 0 0, .slice none 0 0], .bool false]) (by simp [results, Tryz.results5, go_sem, r0, r1, r2]) rfl ?_
          exact HF.out
        · have HJ : Hid (joinF n a m b = some r) := by show _ = _; unfold joinF; rw [HOA.out, HOB.out, ← HO.out]; simp [hk]
          have HE := Lib.hid (j3_below (N := w.heap.size + 1 + 1) (g0 := .int .i64 d0) (g1 := .slice da dl dc) (g2 := .slice ea el ec) (below_step H3.out.below H3.out.below.size HB8.out) (by omega))
          clear hk
          go_wp2_with fail
          refine bodyPost_ret (v := .tuple #[.agg #[.int .i64 d0, .slice da dl dc, .slice ea el ec], .bool true]) (by simp [results, Tryz.results5, go_sem, r0, r1, r2]) rfl ?_
          exact ⟨HE.out, .inl ⟨r, _, _, _, _, _, _, _, HJ.out, rfl, HK8.out⟩⟩

end Go.Proofs.YthcdeahobjhkbaaGreatDoor
