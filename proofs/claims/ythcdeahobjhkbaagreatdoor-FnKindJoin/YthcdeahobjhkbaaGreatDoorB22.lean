/-
  Several texts in one, in their order.
-/
import Derived.Test.YthcdeahobjhkbaaGreatDoorB21
import Derived.Test.YthcdeahobjhkbaaGreatDoorKWb
import Derived.Test.YthcdeahobjhkbaaGreatDoorB6
import Derived.Test.YthcdeahobjhkbaaGreatDoorB8
import Derived.Test.YthcdeahobjhkbaaGreatDoorB7
import Derived.Test.YthcdeahobjhkbaaGreatDoorB1
import Derived.Test.YthcdeahobjhkbaaGreatDoorCopyN
import Derived.Test.YthcdeahobjhkbaaGreatDoorB9
import Derived.Test.YthcdeahobjhkbaaGreatDoorJC3
import Derived.Test.YthcdeahobjhkbaaGreatDoorJP1
import Derived.Test.YthcdeahobjhkbaaGreatDoorB20
import Derived.Deep.RegionWith
import Derived.Test.YthcdeahobjhkbaaGreatDoorB10

/-
  What the program's KindJoin answers.
-/
namespace Go.Proofs.YthcdeahobjhkbaaGreatDoor
open Go.RowKit

/-- How KindJoin ends. -/
def JEnd (n : Nat) (a : K n) (m : Nat) (b : K m) (w : World) (e : Ending) (w' : World) : Prop :=
  Below w.heap.size w w' ∧ ((∃ r d0 da dl dc ea el ec, joinF n a m b = some r ∧ e = .returned (.tuple #[.agg #[.int .i64 d0, .slice da dl dc, .slice ea el ec], .bool true]) ∧ OutAt (n + m + 1) r w w' (.int .i64 d0) (.slice da dl dc) (.slice ea el ec)) ∨ (joinF n a m b = none ∧ e = .returned (.tuple #[.agg #[.int .i64 0, .slice none 0 0, .slice none 0 0], .bool false])))

set_option maxRecDepth 20000 in
set_option maxHeartbeats 2000000 in
theorem implKJoin_bad (n m : Nat) (S : Nat → Prop) (a : K n) (b : K m) (a0 a1 a2 b0 b1 b2 : Value) (w : World) (ha : KindIn S w n a a0 a1 a2) (hb : KindIn S w m b b0 b1 b2) (hB : ∀ b, S b → b < w.heap.size) (hno : (okK n a && okK m b) = false) :
    Calls Tryz.prog 6 #[.agg #[a0, a1, a2], .agg #[b0, b1, b2]] w (JEnd n a m b w) := by
  have hj : joinF n a m b = none := by unfold joinF; rw [hno]; rfl
  obtain ⟨x0, xa, xl, xc, ya, yl, yc, rfl, rfl, rfl⟩ := ha.shape
  obtain ⟨z0, za, zl, zc, ua, ul, uc, rfl, rfl, rfl⟩ := hb.shape
  obtain ⟨W3, hW3⟩ : ∃ W3, W3 = ((w.alloc (.cells #[.int .i64 x0, .slice xa xl xc, .slice ya yl yc] 26)).alloc (.cells #[.int .i64 z0, .slice za zl zc, .slice ua ul uc] 26)).alloc (.cells #[.int .i64 0, .slice none 0 0, .slice none 0 0] 26) := ⟨_, rfl⟩
  have h3 : ThreeJ w W3 (.int .i64 x0) (.slice xa xl xc) (.slice ya yl yc) (.int .i64 z0) (.slice za zl zc) (.slice ua ul uc) := by rw [hW3]; exact three_at _ _ _ _ _ _ _
  obtain ⟨ha1, hB1⟩ := ha.step hB h3.below
  obtain ⟨hb1', -⟩ := hb.step hB h3.below
  have HP : Hid (Calls Tryz.prog 18 _ W3 _) := innerPair_no n m S a b x0 z0 xa ya za ua xl xc yl yc zl zc ul uc W3 ha1 hb1' hB1 hno
  have H3 := Lib.hid h3
  have hza : w.heap.size + 3 ≤ W3.heap.size := Nat.le_of_eq h3.size.symm
  have HJ := Lib.hid hj
  clear ha hb ha1 hb1' h3 hno hj hB hB1
  go_enter Tryz.func6, Tryz.ntmps6
  go_wp2_with fail
  rw [← hW3]
  clear hW3
  refine HP.out.mono ?_
  rintro e w2 ⟨hb2, pa, pb, rfl⟩
  have hbA := below_alloc hb2 (.cells #[.pointer pa, .pointer pb, .string ⟨#[]⟩] 43)
  obtain ⟨⟨r0, r1, r2⟩, f0, f1, f2⟩ := j3_cells ((hbA.block _ (by omega)).trans H3.out.bz)
  have HB := Lib.hid (j3_below (N := w.heap.size + 1 + 1) (g0 := .int .i64 0) (g1 := .slice none 0 0) (g2 := .slice none 0 0) (below_step H3.out.below H3.out.below.size hbA) (by omega))
  clear hb2 hbA HP
  go_wp2_with fail
  refine bodyPost_ret (v := .tuple #[.agg #[.int .i64 0, .slice none 0 0, .slice none 0 0], .bool false]) (by simp [results, Tryz.results6, go_sem, r0, r1, r2]) rfl ?_
  exact ⟨HB.out, .inr ⟨HJ.out, rfl⟩⟩

end Go.Proofs.YthcdeahobjhkbaaGreatDoor

/-
  What the program's KindJoin answers, of two schemas that are ok.
-/
namespace Go.Proofs.YthcdeahobjhkbaaGreatDoor
open Go.RowKit

/-- A table that stands. -/
def TabL (W : World) (R : Nat) : Prop := TabJ W R ∧ R < W.heap.size

theorem tabL_alloc {W : World} {R : Nat} {o : Obj} (h : TabL W R) : TabL (W.alloc o) R := ⟨h.1.keep (Below.heap_alloc _ _ _ h.2), by have := h.2; simp; omega⟩

set_option maxRecDepth 20000 in
set_option maxHeartbeats 4000000 in
theorem implKJoin_ok (n m : Nat) (S : Nat → Prop) (a : K n) (b : K m) (a0 a1 a2 b0 b1 b2 : Value) (w : World) (ha : KindIn S w n a a0 a1 a2) (hb : KindIn S w m b b0 b1 b2) (hB : ∀ b, S b → b < w.heap.size) (hoa : okK n a = true) (hob : okK m b = true) (hg : HandleIn w) :
    Calls Tryz.prog 6 #[.agg #[a0, a1, a2], .agg #[b0, b1, b2]] w (JEnd n a m b w) := by
  obtain ⟨o, ho⟩ : ∃ o, o = jnL (n + m) n a m b := ⟨_, rfl⟩
  have hjS : ∀ r, o = some r → joinF n a m b = if okK (n + m + 1) r = true then some r else none := fun r hr => by
    unfold joinF; rw [hoa, hob, ← ho, hr]; rfl
  have hjN : o = none → joinF n a m b = none := fun hr => by
    unfold joinF; rw [hoa, hob, ← ho, hr]; rfl
  obtain ⟨x0, xa, xl, xc, ya, yl, yc, rfl, rfl, rfl⟩ := ha.shape
  obtain ⟨z0, za, zl, zc, ua, ul, uc, rfl, rfl, rfl⟩ := hb.shape
  obtain ⟨W3, hW3⟩ : ∃ W3, W3 = ((w.alloc (.cells #[.int .i64 x0, .slice xa xl xc, .slice ya yl yc] 26)).alloc (.cells #[.int .i64 z0, .slice za zl zc, .slice ua ul uc] 26)).alloc (.cells #[.int .i64 0, .slice none 0 0, .slice none 0 0] 26) := ⟨_, rfl⟩
  have h3 : ThreeJ w W3 (.int .i64 x0) (.slice xa xl xc) (.slice ya yl yc) (.int .i64 z0) (.slice za zl zc) (.slice ua ul uc) := by rw [hW3]; exact three_at _ _ _ _ _ _ _
  obtain ⟨ha1, hB1⟩ := ha.step hB h3.below
  obtain ⟨hb1', -⟩ := hb.step hB h3.below
  have HP : Hid (Calls Tryz.prog 18 _ W3 _) := innerPair_yes n m S a b x0 z0 xa ya za ua xl xc yl yc zl zc ul uc W3 ha1 hb1' hB1 hoa hob
  have HG : Hid ((goodK n a 1 = true ∧ cntK n a ≤ 40) ∧ goodK m b 1 = true ∧ cntK m b ≤ 40) := ⟨okK_get hoa, okK_get hob⟩
  have H3 := Lib.hid h3
  have hza : w.heap.size + 3 ≤ W3.heap.size := Nat.le_of_eq h3.size.symm
  have HJS := Lib.hid hjS
  have HJN := Lib.hid hjN
  have HO := Lib.hid ho
  have HG0 : Hid (HandleIn w) := hg
  clear ha hb ha1 hb1' h3 hoa hob hjS hjN hB hB1 ho hg
  go_enter Tryz.func6, Tryz.ntmps6
  go_wp2_with fail
  rw [← hW3]
  clear hW3
  refine HP.out.mono ?_
  rintro e w2 ⟨hb2, pa, pb, rfl, hia, hib⟩
  obtain ⟨W4, hW4⟩ : ∃ W4, W4 = w2.alloc (.cells #[.pointer (some ⟨pa, 0, none⟩), .pointer (some ⟨pb, 0, none⟩), .string ⟨#[]⟩] 43) := ⟨_, rfl⟩
  have hb4 : Below w2.heap.size w2 W4 := by rw [hW4]; exact (Below.refl _ _).alloc (Nat.le_refl _) _
  have hk4 : W4.heap[w2.heap.size]? = some (.cells #[.pointer (some ⟨pa, 0, none⟩), .pointer (some ⟨pb, 0, none⟩), .string ⟨#[]⟩] 43 (0, 0)) := by rw [hW4]; exact heap_alloc_new _ _
  have hz4 : W4.heap.size = w2.heap.size + 1 := by rw [hW4]; simp
  have hza4 : w2.heap.size + 1 ≤ W4.heap.size := Nat.le_of_eq hz4.symm
  have hb34 : Below W3.heap.size W3 W4 := below_step hb2 hb2.size hb4
  have hz34 := hb34.size
  have HB34 := Lib.hid hb34
  have HS : Hid (∀ W, Below W4.heap.size W4 W → W.cell? ⟨w2.heap.size, 0, none⟩ = some (.pointer (some ⟨pa, 0, none⟩)) ∧ W.cell? ⟨w2.heap.size, 1, none⟩ = some (.pointer (some ⟨pb, 0, none⟩)) ∧ W.cell? ⟨w2.heap.size, 2, none⟩ = some (.string ⟨#[]⟩)) := fun W hW => (j3_cells ((hW.block _ (by omega)).trans hk4)).1
  have HNJ : Hid (∀ W, Below W4.heap.size W4 W → Calls Tryz.prog 19 #[] W fun e w' => ∃ R, e = .returned (.pointer (some ⟨R, 0, none⟩)) ∧ TabL w' R ∧ Below W4.heap.size W4 w' ∧ ∀ N, NewJ W N → NewJ w' N) := fun W hW => (newJoins_any W).mono fun e w' h => ⟨W.heap.size, h.1, ⟨h.2.2.1, h.2.2.2⟩, below_step hW hW.size h.2.1, fun N q => q.keep h.2.1⟩
  have HCj : Hid (∀ W R, Below W4.heap.size W4 W → TabL W R → Calls Tryz.prog 20 #[.pointer (some ⟨R, 0, none⟩), .agg #[.pointer (some ⟨pa, 0, none⟩), .pointer (some ⟨pb, 0, none⟩), .string ⟨#[]⟩]] W fun e w' => ∃ v0 va vl vc xa xl xc u, e = .returned (.tuple #[.agg #[.int .i64 v0, .slice va vl vc, .slice xa xl xc], u]) ∧ EndQ (n + m) o W v0 va vl vc xa xl xc u w' ∧ (W4.heap.size ≤ W.heap.size ∧ Below W4.heap.size W4 w') ∧ ∀ N, NewJ W N → NewJ w' N ∧ N < W.heap.size) := fun W R hW hT => by
    have hw2 : Below w2.heap.size w2 W := hb4.trans (hW.mono (by omega))
    refine (joinI_any (n + m) (fun b => b < w2.heap.size) n m a b _ _ 1 1 R ⟨#[]⟩ W (Nat.le_refl _) (hia.keep (same_below hw2 (fun _ h => h)) (fun _ h => h)) (hib.keep (same_below hw2 (fun _ h => h)) (fun _ h => h)) (fun b hb => Nat.lt_of_lt_of_le hb hw2.size) hT.1 hT.2 HG.out.1.1 HG.out.2.1 HG.out.1.2 HG.out.2.2 (by omega) (by omega) (by show ((0 : Nat) : Int) ≤ 20 * (1 + 1); omega)).mono ?_
    rintro e w' ⟨hb, hE⟩
    rw [← HO.out] at hE
    obtain ⟨v0, va, vl, vc, xa, xl, xc, u, rfl, hQ⟩ := endQ_to hE
    exact ⟨v0, va, vl, vc, xa, xl, xc, u, rfl, hQ, ⟨hW.size, below_step hW hW.size hb⟩, fun N q => ⟨q.keep hb, q.lt⟩⟩
  have hd0 : Below W4.heap.size W4 W4.drew := (Below.refl _ _).drew
  have n0 : ¬ W4.heap.size = w2.heap.size := by omega
  obtain ⟨i0, i1, i2⟩ := HS.out W4 (Below.refl _ _)
  clear hia hib hb2 hk4 HP hb4 hz4 hb34
  go_upto_region 4 with fail
  rw [← hW4]
  clear hW4
  go_cut [8, 9] from 10 to 35 (fun pv uv wx => ∃ A v0 va vl vc xa xl xc u, pv = .pointer (some ⟨A, 0, none⟩) ∧ uv = u ∧ GotQ (n + m) o W4 A v0 va vl vc xa xl xc u wx ∧ Below W4.heap.size W4 wx)
  case first =>
    go_region_held (fun W => W.cell? ⟨w2.heap.size, 0, none⟩ = some (.pointer (some ⟨pa, 0, none⟩)) ∧ W.cell? ⟨w2.heap.size, 1, none⟩ = some (.pointer (some ⟨pb, 0, none⟩)) ∧ W.cell? ⟨w2.heap.size, 2, none⟩ = some (.string ⟨#[]⟩)) (first | with_reducible assumption | go_keep) (first
      | (go_at_call 19; refine (HNJ.out _ (by (first | with_reducible assumption | (with_reducible refine below_alloc ?_ _; with_reducible assumption) | (with_reducible refine below_allocD ?_ _; with_reducible assumption)))).mono ?_; rintro e y1 ⟨R, rfl, hT1, hy1, hq1⟩; obtain ⟨ia0, ia1, ia2⟩ := HS.out y1 hy1; have hza := hy1.size; have m1 : ¬ y1.heap.size = w2.heap.size := (by omega); (first | with_reducible (have q := hq1 _ (newJ_at _)) | with_reducible (have q := hq1 _ (newJ_atD _)) | with_reducible (have q := hq1 _ q) | skip))
      | (go_at_call 20; refine (HCj.out _ _ (by (first | with_reducible assumption | (with_reducible refine below_alloc ?_ _; with_reducible assumption) | (with_reducible refine below_allocD ?_ _; with_reducible assumption))) (by (first | with_reducible assumption | (with_reducible apply tabL_alloc; with_reducible assumption)))).mono ?_; rintro e y4 ⟨v0, va, vl, vc, xa, xl, xc, u, rfl, hQ4, ⟨hW4, hy4⟩, hq4⟩; obtain ⟨id0, id1, id2⟩ := HS.out y4 hy4; have hzd := hy4.size; have m4 : ¬ y4.heap.size = w2.heap.size := (by omega); (first | with_reducible (have q := hq4 _ (newJ_at _)) | with_reducible (have q := hq4 _ (newJ_atD _)) | with_reducible (have q := hq4 _ q) | skip); (first | (obtain ⟨q, hN⟩ := q; obtain ⟨⟨r0, r1, r2⟩, f0, f1, f2⟩ := j3_cells q) | skip)))
    all_goals
      go_wp2_with fail
      go_meet
      first
        | with_reducible exact ⟨_, _, _, _, _, _, _, _, _, rfl, rfl, gotq_set q hQ4 (by omega) hW4, j3_below hy4 (by omega)⟩
        | with_reducible exact ⟨_, _, _, _, _, _, _, _, _, rfl, rfl, gotq_new hQ4 hW4, below_alloc hy4 _⟩
  case rest =>
    obtain ⟨A, v0, va, vl, vc, xa, xl, xc, u, rfl, rfl, hGq, hbc⟩ := hcut
    obtain ⟨hbox, hQ⟩ := hGq
    obtain ⟨⟨c0, c1, c2⟩, -⟩ := j3_cells hbox
    have hA : A < wc.heap.size := (Array.getElem?_eq_some_iff.1 hbox).1
    have HBox := Lib.hid hbox
    have HBc : Hid (Below W3.heap.size W3 wc) := below_step HB34.out HB34.out.size hbc
    have hzc : W3.heap.size ≤ wc.heap.size := HBc.out.size
    clear HNJ HCj HS i0 i1 i2 hd0 n0 hbox hbc
    rcases hQ with ⟨r, rfl, rfl, hr⟩ | ⟨rfl, -, y', rfl⟩
    · have HM : Hid (Calls Tryz.prog 21 #[.nilIface] wc _) := isMisfit_nil wc
      have HR := Lib.hid hr
      clear hr
      go_wp2_with fail
      refine HM.out.mono ?_
      rintro e w7 ⟨rfl, hb7⟩
      have hz7 := hb7.size
      have hbx7 := (hb7.block A hA).trans HBox.out
      have HR7 : Hid (OutAt (n + m + 1) r W4 w7 (.int .i64 v0) (.slice va vl vc) (.slice xa xl xc)) := HR.out.move (fun b _ h => hb7.block b h) hz7 (Nat.le_refl _)
      have HK : Hid (Calls Tryz.prog 22 #[.agg #[.int .i64 v0, .slice va vl vc, .slice xa xl xc]] w7 _) := implKOk_any (n + m + 1) _ r _ _ _ w7 HR7.out.1 (fun b hb => hb.2)
      obtain ⟨⟨d0, d1, d2⟩, -⟩ := j3_cells hbx7
      have HB7 : Hid (Below W3.heap.size W3 w7) := below_step HBc.out HBc.out.size hb7
      have HX7 := Lib.hid hbx7
      have hA7 : A < w7.heap.size := by omega
      clear hb7 hbx7 c0 c1 c2 HM HR
      go_wp2_with fail
      refine HK.out.mono ?_
      rintro e w8 ⟨rfl, hb8⟩
      have hz8 := hb8.size
      have hb38 := below_step HB7.out HB7.out.size hb8
      obtain ⟨⟨r0, r1, r2⟩, f0, f1, f2⟩ := j3_cells ((hb38.block _ (by omega)).trans H3.out.bz)
      obtain ⟨⟨s0, s1, s2⟩, -⟩ := j3_cells ((hb8.block A hA7).trans HX7.out)
      have HR8 : Hid (OutAt (n + m + 1) r W4 w8 (.int .i64 v0) (.slice va vl vc) (.slice xa xl xc)) := HR7.out.move (fun b _ h => hb8.block b h) hz8 (Nat.le_refl _)
      have HB8 := Lib.hid hb38
      clear hb8 hb38 d0 d1 d2 HK
      cases hk : okK (n + m + 1) r
      · have HJ : Hid (joinF n a m b = none) := by rw [HJS.out r rfl, hk]; rfl
        have HE := Lib.hid (j3_below (N := w.heap.size + 1 + 1) (g0 := .int .i64 0) (g1 := .slice none 0 0) (g2 := .slice none 0 0) (below_step H3.out.below H3.out.below.size HB8.out) (by omega))
        clear hk
        go_wp2_with fail
        refine bodyPost_ret (v := .tuple #[.agg #[.int .i64 0, .slice none 0 0, .slice none 0 0], .bool false]) (by simp [results, Tryz.results6, go_sem, r0, r1, r2]) rfl ?_
        exact ⟨HE.out, .inr ⟨HJ.out, rfl⟩⟩
      · have HJ : Hid (joinF n a m b = some r) := by rw [HJS.out r rfl, hk]; rfl
        have HE := Lib.hid (j3_below (N := w.heap.size + 1 + 1) (g0 := .int .i64 v0) (g1 := .slice va vl vc) (g2 := .slice xa xl xc) (below_step H3.out.below H3.out.below.size HB8.out) (by omega))
        have HO8 : Hid (OutAt (n + m + 1) r w (((w8.setCell ⟨w.heap.size + 1 + 1, 0, none⟩ (.int .i64 v0)).setCell ⟨w.heap.size + 1 + 1, 1, none⟩ (.slice va vl vc)).setCell ⟨w.heap.size + 1 + 1, 2, none⟩ (.slice xa xl xc)) (.int .i64 v0) (.slice va vl vc) (.slice xa xl xc)) := HR8.out.move (fun b h1 _ => j3_other (by omega)) (by rw [j3_size]; exact Nat.le_refl _) (by omega)
        clear hk
        go_wp2_with fail
        refine bodyPost_ret (v := .tuple #[.agg #[.int .i64 v0, .slice va vl vc, .slice xa xl xc], .bool true]) (by simp [results, Tryz.results6, go_sem, r0, r1, r2]) rfl ?_
        exact ⟨HE.out, .inl ⟨r, _, _, _, _, _, _, _, HJ.out, rfl, HO8.out⟩⟩
    · have HJ : Hid (joinF n a m b = none) := HJN.out rfl
      have HM : Hid (Calls Tryz.prog 21 #[.iface 87 (.agg #[.string y'])] wc _) := isMisfit_yes y' wc (HG0.out.step (below_step H3.out.below H3.out.below.size HBc.out))
      go_wp2_with fail
      refine HM.out.mono ?_
      rintro e w7 ⟨rfl, hb7⟩
      have hb37 := below_step HBc.out HBc.out.size hb7
      obtain ⟨⟨r0, r1, r2⟩, f0, f1, f2⟩ := j3_cells ((hb37.block _ (by omega)).trans H3.out.bz)
      have HE := Lib.hid (j3_below (N := w.heap.size + 1 + 1) (g0 := .int .i64 0) (g1 := .slice none 0 0) (g2 := .slice none 0 0) (below_step H3.out.below H3.out.below.size hb37) (by omega))
      clear hb7 hb37 c0 c1 c2 HM
      go_wp2_with fail
      refine bodyPost_ret (v := .tuple #[.agg #[.int .i64 0, .slice none 0 0, .slice none 0 0], .bool false]) (by simp [results, Tryz.results6, go_sem, r0, r1, r2]) rfl ?_
      exact ⟨HE.out, .inr ⟨HJ.out, rfl⟩⟩

theorem implKJoin_any (n m : Nat) (S : Nat → Prop) (a : K n) (b : K m) (a0 a1 a2 b0 b1 b2 : Value) (w : World) (ha : KindIn S w n a a0 a1 a2) (hb : KindIn S w m b b0 b1 b2) (hB : ∀ b, S b → b < w.heap.size) (hg : HandleIn w) :
    Calls Tryz.prog 6 #[.agg #[a0, a1, a2], .agg #[b0, b1, b2]] w (JEnd n a m b w) := by
  cases hok : okK n a && okK m b
  · exact implKJoin_bad n m S a b _ _ _ _ _ _ w ha hb hB hok
  · have h2 : okK n a = true ∧ okK m b = true := by simpa using hok
    exact implKJoin_ok n m S a b _ _ _ _ _ _ w ha hb hB h2.1 h2.2 hg

end Go.Proofs.YthcdeahobjhkbaaGreatDoor

/-
  What the law of KindJoin holds: its arguments, their copies, what was asked for, what was answered.
-/
namespace Go.Proofs.YthcdeahobjhkbaaGreatDoor
open Go.RowKit

theorem Box3.eqj {w w' : World} {N : Nat} {a b c : Value} (h : Box3 w N a b c) (hb : w'.heap[N]? = w.heap[N]?) : Box3 w' N a b c :=
  ⟨(World.cell?_of_block (w := w) (w' := w') (a := ⟨N, 0, none⟩) hb).trans h.c0, (World.cell?_of_block (w := w) (w' := w') (a := ⟨N, 1, none⟩) hb).trans h.c1, (World.cell?_of_block (w := w) (w' := w') (a := ⟨N, 2, none⟩) hb).trans h.c2⟩

/-- The law's two arguments, in their boxes. -/
structure ArgJ (S : Nat → Prop) {n m : Nat} (a : K n) (b : K m) (a0 a1 a2 b0 b1 b2 : Value) (w u : World) : Prop where
  below : Below w.heap.size w u
  boxA : Box3 u w.heap.size a0 a1 a2
  boxB : Box3 u (w.heap.size + 1) b0 b1 b2
  argA : KindIn S u n a a0 a1 a2
  argB : KindIn S u m b b0 b1 b2
  lt : ∀ b, S b → b < w.heap.size
  size : w.heap.size + 2 ≤ u.heap.size

theorem ArgJ.step {S : Nat → Prop} {n m : Nat} {a : K n} {b : K m} {a0 a1 a2 b0 b1 b2 : Value} {w u u' : World} (h : ArgJ S a b a0 a1 a2 b0 b1 b2 w u) (hb : Below w.heap.size w u') (hz : u.heap.size ≤ u'.heap.size)
    (hs : ∀ b : Nat, b < w.heap.size + 2 → u'.heap[b]? = u.heap[b]?) : ArgJ S a b a0 a1 a2 b0 b1 b2 w u' :=
  ⟨hb, h.boxA.eqj (hs _ (by omega)), h.boxB.eqj (hs _ (by omega)), h.argA.keep (fun b hb => hs b (by have := h.lt b hb; omega)) (fun _ h => h), h.argB.keep (fun b hb => hs b (by have := h.lt b hb; omega)) (fun _ h => h), h.lt, by have := h.size; omega⟩

theorem ArgJ.keep {S : Nat → Prop} {n m : Nat} {a : K n} {b : K m} {a0 a1 a2 b0 b1 b2 : Value} {w u u' : World} (h : ArgJ S a b a0 a1 a2 b0 b1 b2 w u) (hb : Below u.heap.size u u') : ArgJ S a b a0 a1 a2 b0 b1 b2 w u' :=
  h.step (below_step h.below h.below.size hb) hb.size (fun b hb' => hb.block b (by have := h.size; omega))

/-- The cells of the two boxes. -/
def CellsJ (N0 N1 : Nat) (a0 a1 a2 b0 b1 b2 : Value) (u : World) : Prop := (u.cell? ⟨N0, 0, none⟩ = some a0 ∧ u.cell? ⟨N0, 1, none⟩ = some a1 ∧ u.cell? ⟨N0, 2, none⟩ = some a2) ∧ u.cell? ⟨N1, 0, none⟩ = some b0 ∧ u.cell? ⟨N1, 1, none⟩ = some b1 ∧ u.cell? ⟨N1, 2, none⟩ = some b2

theorem ArgJ.cells {S : Nat → Prop} {n m : Nat} {a : K n} {b : K m} {a0 a1 a2 b0 b1 b2 : Value} {w u : World} (h : ArgJ S a b a0 a1 a2 b0 b1 b2 w u) : CellsJ w.heap.size (w.heap.size + 1) a0 a1 a2 b0 b1 b2 u :=
  ⟨⟨h.boxA.c0, h.boxA.c1, h.boxA.c2⟩, h.boxB.c0, h.boxB.c1, h.boxB.c2⟩

/-- The copies that the program gets, in their boxes. -/
structure CopJ {n m : Nat} (a : K n) (b : K m) (C X0 X1 : Nat) (a0 a1 a2 b0 b1 b2 : Value) (u : World) : Prop where
  boxA : Box3 u X0 a0 a1 a2
  boxB : Box3 u X1 b0 b1 b2
  inA : KindIn (fun b => C ≤ b ∧ b < X0) u n a a0 a1 a2
  inB : KindIn (fun b => X0 < b ∧ b < X1) u m b b0 b1 b2
  thaw : ∀ b o, C ≤ b → b ≤ X1 → u.frozen? ⟨b, o, none⟩ = false
  c0 : C ≤ X0
  x01 : X0 < X1
  xu : X1 < u.heap.size

theorem CopJ.keep {n m : Nat} {a : K n} {b : K m} {C X0 X1 : Nat} {a0 a1 a2 b0 b1 b2 : Value} {u u' : World} (h : CopJ a b C X0 X1 a0 a1 a2 b0 b1 b2 u) (hb : Below u.heap.size u u') : CopJ a b C X0 X1 a0 a1 a2 b0 b1 b2 u' := by
  have h0 := h.c0
  have h1 := h.x01
  have h3 := h.xu
  exact ⟨h.boxA.keep hb, h.boxB.keep hb, h.inA.keep (fun b hb' => hb.block b (by omega)) (fun _ h => h), h.inB.keep (fun b hb' => hb.block b (by omega)) (fun _ h => h),
    fun b o h1 h2 => (hb.frozen (p := ⟨b, o, none⟩) (by show b < _; omega)).trans (h.thaw b o h1 h2), h0, h1, Nat.lt_of_lt_of_le h3 hb.size⟩

theorem CopJ.cells {n m : Nat} {a : K n} {b : K m} {C X0 X1 : Nat} {a0 a1 a2 b0 b1 b2 : Value} {u : World} (h : CopJ a b C X0 X1 a0 a1 a2 b0 b1 b2 u) : CellsJ X0 X1 a0 a1 a2 b0 b1 b2 u :=
  ⟨⟨h.boxA.c0, h.boxA.c1, h.boxA.c2⟩, h.boxB.c0, h.boxB.c1, h.boxB.c2⟩

/-- A schema in a box, all from block C on and ahead of block D. -/
structure AnsJ {m : Nat} (r : K m) (C D A : Nat) (p0 p1 p2 : Value) (u : World) : Prop where
  box : Box3 u A p0 p1 p2
  kind : KindIn (fun b => C ≤ b ∧ b < D) u m r p0 p1 p2
  ca : C ≤ A
  ad : A < D
  lt : D ≤ u.heap.size

theorem AnsJ.same {m : Nat} {r : K m} {C D A : Nat} {p0 p1 p2 : Value} {u u' : World} (h : AnsJ r C D A p0 p1 p2 u) (hz : u.heap.size ≤ u'.heap.size) (hs : ∀ b : Nat, C ≤ b → b < D → u'.heap[b]? = u.heap[b]?) : AnsJ r C D A p0 p1 p2 u' :=
  ⟨h.box.eqj (hs A h.ca h.ad), h.kind.keep (fun b hb => hs b hb.1 hb.2) (fun _ h => h), h.ca, h.ad, Nat.le_trans h.lt hz⟩

theorem AnsJ.keep {m : Nat} {r : K m} {C D A : Nat} {p0 p1 p2 : Value} {u u' : World} (h : AnsJ r C D A p0 p1 p2 u) (hb : Below u.heap.size u u') : AnsJ r C D A p0 p1 p2 u' :=
  h.same hb.size (fun b _ h2 => hb.block b (by have := h.lt; omega))

/-- What the answer owns. -/
structure GotJ2 (m : Nat) (C A : Nat) (L3 L4 : List Spot) (p3 p4 : Value) (u : World) : Prop where
  spn : SpN u p3 L3
  spk : SpK u (m - 1) p4 L4
  own : Own (fun b => C ≤ b ∧ b < A) (L3 ++ L4)
  len : L3.length + L4.length ≤ 1000

theorem GotJ2.same {m C A : Nat} {L3 L4 : List Spot} {p3 p4 : Value} {u u' : World} (h : GotJ2 m C A L3 L4 p3 p4 u) (hs : ∀ b : Nat, C ≤ b → b < A → u'.heap[b]? = u.heap[b]?) : GotJ2 m C A L3 L4 p3 p4 u' :=
  ⟨h.spn.same (w' := u') (fun s hs' => by have := h.own.1 s (List.mem_append_left _ hs'); exact hs _ this.1 this.2), h.spk.same (w' := u') (fun s hs' => by have := h.own.1 s (List.mem_append_right _ hs'); exact hs _ this.1 this.2), h.own, h.len⟩

theorem GotJ2.ok {m C A : Nat} {L3 L4 : List Spot} {p3 p4 : Value} {u : World} (h : GotJ2 m C A L3 L4 p3 p4 u) : ∀ s, s ∈ L3 ++ L4 → s.ok u := fun s hs => (List.mem_append.1 hs).elim (h.spn.ok s) (h.spk.ok s)

/-- The schema that KindJoin answers, its levels, its flag. -/
def jnA (n : Nat) (a : K n) (m : Nat) (b : K m) : K (n + m + 1) := match joinF n a m b with | some r => r | none => (⟨0, [], []⟩ : Kd (K (n + m)))

def jnB (n : Nat) (a : K n) (m : Nat) (b : K m) : Bool := (joinF n a m b).isSome

/-- What the specification's KindJoin answers. -/
def SJPost {M : Nat} (r : K M) (ok : Bool) (w : World) (e : Ending) (w' : World) : Prop :=
  Below w.heap.size w w' ∧ ∃ d0 d1 d2, e = .returned (.tuple #[.agg #[d0, d1, d2], .bool ok]) ∧ KindIn (fun b => w.heap.size ≤ b ∧ b < w'.heap.size) w' M r d0 d1 d2

/-- What the program's KindJoin answers. -/
def JPost {M : Nat} (r : K M) (ok : Bool) (w : World) (e : Ending) (w' : World) : Prop :=
  Below w.heap.size w w' ∧ ∃ d0 d1 d2 L3 L4, e = .returned (.tuple #[.agg #[d0, d1, d2], .bool ok]) ∧ KindIn (fun b => w.heap.size ≤ b ∧ b < w'.heap.size) w' M r d0 d1 d2 ∧ SpN w' d1 L3 ∧ SpK w' (M - 1) d2 L4 ∧ Own (fun b => w.heap.size ≤ b ∧ b < w'.heap.size) (L3 ++ L4) ∧ L3.length + L4.length ≤ 1000

theorem sjpost_of {n m : Nat} {a : K n} {b : K m} {w w' : World} {e : Ending} (h : JSEnd n a m b w e w') : SJPost (jnA n a m b) (jnB n a m b) w e w' := by
  obtain ⟨hb, ⟨r, d0, da, dl, dc, ea, el, ec, hj, rfl, hk⟩ | ⟨hj, rfl⟩⟩ := h
  · unfold jnA jnB; rw [hj]; exact ⟨hb, _, _, _, rfl, hk⟩
  · unfold jnA jnB; rw [hj]; exact ⟨hb, _, _, _, rfl, zeroK_in _ _ _⟩

theorem joinF_ok {n m : Nat} {a : K n} {b : K m} {r : K (n + m + 1)} (h : joinF n a m b = some r) : okK (n + m + 1) r = true := by
  unfold joinF at h
  split at h
  · split at h
    · split at h
      · rename_i h1; cases h; exact h1
      · cases h
    · cases h
  · cases h

theorem jpost_of {n m : Nat} {a : K n} {b : K m} {w w' : World} {e : Ending} (h : JEnd n a m b w e w') : JPost (jnA n a m b) (jnB n a m b) w e w' := by
  obtain ⟨hb, ⟨r, d0, da, dl, dc, ea, el, ec, hj, rfl, hk, L3, L4, h3, h4, ho, hl⟩ | ⟨hj, rfl⟩⟩ := h
  · have hok := joinF_ok hj
    have hc := okK_get hok
    have hsp := spKL_le _ r 1 hc.1
    have hlen : L3.length + L4.length ≤ 1000 := by rw [List.length_append] at hl; have := hc.2; omega
    unfold jnA jnB; rw [hj]; exact ⟨hb, _, _, _, L3, L4, rfl, hk, h3, h4, ho, hlen⟩
  · unfold jnA jnB; rw [hj]; exact ⟨hb, _, _, _, [], [], rfl, zeroK_in _ _ _, SpN.no _, SpK.no _ _, Own.nil _, by simp⟩

end Go.Proofs.YthcdeahobjhkbaaGreatDoor
