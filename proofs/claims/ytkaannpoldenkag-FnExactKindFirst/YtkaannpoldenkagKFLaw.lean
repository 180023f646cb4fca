/-
  The law of KindFirst, walked (what the specification answers is given as a hypothesis here).
-/
import Derived.Test.YtkaannpoldenkagKFLaw0
import Derived.Test.YtkaannpoldenkagB6
import Derived.Test.YtkaannpoldenkagEq
import Derived.Test.YtkaannpoldenkagB1
import Derived.Deep.Cut
import Derived.Deep.RegionWith
namespace Go.Proofs.Ytkaannpoldenkag
open Go.RowKit

/-- KindFirst of the specification. -/
def SpecFirstSaid : Prop := ∀ (n : Nat) (S : Nat → Prop) (t : K n) (c0 c1 c2 : Value) (w : World), KindIn S w n t c0 c1 c2 → (∀ b, S b → b < w.heap.size) →
  Calls Try.prog 21 #[.agg #[c0, c1, c2]] w fun e w' => ∃ g0 g1 g2 g3 g4, e = .returned (.agg #[g0, g1, g2, g3, g4]) ∧ TreeIn (fun b => w.heap.size ≤ b ∧ b < w'.heap.size) w' n (ansT n t) g0 g1 g2 g3 g4 ∧ Below w.heap.size w w'

theorem Box3.same {w w' : World} {N : Nat} {a b c : Value} (h : Box3 w N a b c) (hb : w'.heap[N]? = w.heap[N]?) : Box3 w' N a b c :=
  ⟨(World.cell?_of_block (w := w) (w' := w') (a := ⟨N, 0, none⟩) hb).trans h.c0, (World.cell?_of_block (w := w) (w' := w') (a := ⟨N, 1, none⟩) hb).trans h.c1, (World.cell?_of_block (w := w) (w' := w') (a := ⟨N, 2, none⟩) hb).trans h.c2⟩

theorem Box5.same {w w' : World} {N : Nat} {a b c d e : Value} (h : Box5 w N a b c d e) (hb : w'.heap[N]? = w.heap[N]?) : Box5 w' N a b c d e :=
  ⟨(World.cell?_of_block (w := w) (w' := w') (a := ⟨N, 0, none⟩) hb).trans h.c0, (World.cell?_of_block (w := w) (w' := w') (a := ⟨N, 1, none⟩) hb).trans h.c1, (World.cell?_of_block (w := w) (w' := w') (a := ⟨N, 2, none⟩) hb).trans h.c2,
    (World.cell?_of_block (w := w) (w' := w') (a := ⟨N, 3, none⟩) hb).trans h.c3, (World.cell?_of_block (w := w) (w' := w') (a := ⟨N, 4, none⟩) hb).trans h.c4⟩

/-- What the law holds from the first answer on: its argument, what is asked for, what was answered. -/
structure Sit (n : Nat) (t : K n) (S P : Nat → Prop) (X A G : Nat) (a0 a1 a2 p0 p1 p2 p3 p4 g0 g1 g2 g3 g4 : Value) (w u : World) : Prop where
  below : Below w.heap.size w u
  box : Box3 u X a0 a1 a2
  arg : KindIn S u n t a0 a1 a2
  argB : ∀ b, S b → b < X
  ansBox : Box5 u A p0 p1 p2 p3 p4
  ans : TreeIn P u n (ansT n t) p0 p1 p2 p3 p4
  ansB : ∀ b, P b → X < b ∧ b < A
  gotBox : Box5 u G g0 g1 g2 g3 g4
  xa : X < A
  ag : A < G
  gu : G < u.heap.size

theorem Sit.step {n : Nat} {t : K n} {S P : Nat → Prop} {X A G : Nat} {a0 a1 a2 p0 p1 p2 p3 p4 g0 g1 g2 g3 g4 : Value} {w u u' : World} (h : Sit n t S P X A G a0 a1 a2 p0 p1 p2 p3 p4 g0 g1 g2 g3 g4 w u) {Z : Nat → Prop} (hb : Below w.heap.size w u') (hz : u.heap.size ≤ u'.heap.size)
    (hs : ∀ b : Nat, b < u.heap.size → ¬ Z b → u'.heap[b]? = u.heap[b]?) (hZ : ∀ b, Z b → A < b ∧ b ≠ G) : Sit n t S P X A G a0 a1 a2 p0 p1 p2 p3 p4 g0 g1 g2 g3 g4 w u' := by
  have xa := h.xa
  have ag := h.ag
  have gu := h.gu
  have q : ∀ b, b ≤ A → u'.heap[b]? = u.heap[b]? := fun b hb => hs b (by omega) (fun hz => by have := hZ b hz; omega)
  exact ⟨hb, h.box.same (q X (by omega)), h.arg.keep (fun b hb => q b (by have := h.argB b hb; omega)) (fun _ h => h), h.argB, h.ansBox.same (q A (Nat.le_refl _)), h.ans.keep (fun b hb => q b (by have := h.ansB b hb; omega)) (fun _ h => h), h.ansB,
    h.gotBox.same (hs G gu (fun hz => (hZ G hz).2 rfl)), xa, ag, by omega⟩

theorem Sit.keep {n : Nat} {t : K n} {S P : Nat → Prop} {X A G : Nat} {a0 a1 a2 p0 p1 p2 p3 p4 g0 g1 g2 g3 g4 : Value} {w u u' : World} (h : Sit n t S P X A G a0 a1 a2 p0 p1 p2 p3 p4 g0 g1 g2 g3 g4 w u) (hw : w.heap.size ≤ u.heap.size) (hb : Below u.heap.size u u') :
    Sit n t S P X A G a0 a1 a2 p0 p1 p2 p3 p4 g0 g1 g2 g3 g4 w u' := h.step (Z := fun _ => False) (below_step h.below hw hb) hb.size (fun b hb' _ => hb.block b hb') (fun _ h => h.elim)

set_option maxRecDepth 20000 in
set_option maxHeartbeats 4000000 in
theorem lawKFirst_of (hSp : SpecFirstSaid) (n : Nat) (S : Nat → Prop) (t : K n) (c0 c1 c2 : Value) (w : World) (ht : KindIn S w n t c0 c1 c2) (hB : ∀ b, S b → b < w.heap.size) :
    Calls Try.prog 6 #[.agg #[c0, c1, c2]] w fun e w' => e = .returned (.bool true) ∧ Below w.heap.size w w' := by
  obtain ⟨x0, xa, xl, xc, ya, yl, yc, rfl, rfl, rfl⟩ := ht.shape
  have HBS : Hid (∀ b, S b → b < w.heap.size) := hB
  have hb0 := (Below.refl w.heap.size w).alloc (Nat.le_refl _) (.cells #[.int .i64 x0, .slice xa xl xc, .slice ya yl yc] 25)
  have hx0 := Box3.new w (.int .i64 x0) (.slice xa xl xc) (.slice ya yl yc) 25
  obtain ⟨ht0, hB0⟩ := ht.step hB hb0
  clear ht hB
  go_enter Try.func6, Try.ntmps6
  go_wp2_with fail
  refine (szKind_any n S t _ _ _ _ _ ht0 hB0 (by omega) (by omega)).mono ?_
  rintro e w1 ⟨rfl, hb1⟩
  have hz1 : w.heap.size + 1 ≤ w1.heap.size := by have := hb1.size; simpa using this
  have hbw1 := below_step hb0 (by simp) hb1
  have hx1 := hx0.keep hb1
  obtain ⟨ht1, hB1⟩ := ht0.step hB0 hb1
  clear hb0 hb1 hx0 ht0 hB0
  obtain ⟨k0, k1, k2⟩ := id hx1
  by_cases hsz : szK n t ≤ 1048576
  case neg =>
    have hneg : leftB (szK n t) 1048576 < 0 := by unfold leftB; rw [if_neg (by omega)]; omega
    go_wp2_with fail
    go_ret
    exact ⟨rfl, hbw1⟩
  have hpos : ¬ leftB (szK n t) 1048576 < 0 := by unfold leftB; rw [if_pos (by omega)]; omega
  go_wp2_with fail
  -- the first copy, and the specification's answer
  refine (toKind_any n S t _ _ _ w1 ht1 hB1 hsz).mono ?_
  rintro e w2 ⟨d0, d1, d2, rfl, hin2, hb2⟩
  have hz2 := hb2.size
  have hbw2 := below_step hbw1 hbw1.size hb2
  have hx2 := hx1.keep hb2
  obtain ⟨ht2, hB2⟩ := ht1.step hB1 hb2
  clear hb2 hx1 ht1 hB1 k0 k1 k2 hpos
  go_wp2_with fail
  refine (hSp n _ t _ _ _ w2 hin2 (fun b hb => hb.2)).mono ?_
  rintro e w3 ⟨p0, p1, p2, p3, p4, rfl, hP3, hb3⟩
  obtain ⟨s0, s1, s2, sa, sl, sc, ra, rl, rc, rfl, rfl, rfl, rfl, rfl⟩ := hP3.shape
  have hz3 := hb3.size
  have hbw3 := below_step hbw2 hbw2.size hb3
  have hx3 := hx2.keep hb3
  obtain ⟨ht3, hB3⟩ := ht2.step hB2 hb3
  clear hb3 hx2 ht2 hB2 hin2
  -- kept in a variable
  have hbA := (Below.refl w3.heap.size w3).alloc (Nat.le_refl _) (.cells #[.int .i64 s0, .int .i64 s1, .string s2, .slice sa sl sc, .slice ra rl rc] 45)
  have hA := Box5.new w3 (.int .i64 s0) (.int .i64 s1) (.string s2) (.slice sa sl sc) (.slice ra rl rc) 45
  obtain ⟨hPA, hCA⟩ := hP3.step (fun b hb => hb.2) hbA
  obtain ⟨htA, hBA⟩ := ht3.step hB3 hbA
  have hxA := hx3.keep hbA
  have hbwA := below_step hbw3 hbw3.size hbA
  have hzA : (w3.alloc (.cells #[.int .i64 s0, .int .i64 s1, .string s2, .slice sa sl sc, .slice ra rl rc] 45)).heap.size = w3.heap.size + 1 := by simp
  clear hbA hP3 ht3 hB3 hx3 hbw3
  obtain ⟨WA, hWA⟩ : ∃ WA, WA = w3.alloc (.cells #[.int .i64 s0, .int .i64 s1, .string s2, .slice sa sl sc, .slice ra rl rc] 45) := ⟨_, rfl⟩
  rw [← hWA] at hA hPA hCA htA hBA hxA hbwA hzA
  obtain ⟨k0, k1, k2⟩ := id hxA
  rw [hWA] at k0 k1 k2
  go_wp2_with fail
  rw [← hWA]
  -- the second copy, and the program's answer
  refine (toKindW_any n S t _ _ _ WA htA hBA hsz).mono ?_
  rintro e w4 ⟨f0, f1, f2, rfl, hin4, hb4, hth4⟩
  obtain ⟨z0, za, zl, zc, va, vl, vc, rfl, rfl, rfl⟩ := hin4.shape
  have hz4 := hb4.size
  have hbw4 := below_step hbwA hbwA.size hb4
  have hx4 := hxA.keep hb4
  have hA4 := hA.keep hb4
  obtain ⟨ht4, hB4⟩ := htA.step hBA hb4
  obtain ⟨hP4, hCP4⟩ := hPA.step hCA hb4
  have hF4 : ∀ b o, (WA.heap.size ≤ b ∧ b < w4.heap.size) → w4.frozen? ⟨b, o, none⟩ = false := fun b o h => hth4 b o h.1 h.2
  clear hb4 hxA hA htA hBA hPA hCA k0 k1 k2 hth4 hWA hbwA
  have hb5 := (Below.refl w4.heap.size w4).alloc (Nat.le_refl _) (.cells #[.int .i64 z0, .slice za zl zc, .slice va vl vc] 30)
  have hy5 := Box3.new w4 (.int .i64 z0) (.slice za zl zc) (.slice va vl vc) 30
  obtain ⟨hin5, hC5⟩ := hin4.step (fun b hb => hb.2) hb5
  have hF5 : ∀ b o, (WA.heap.size ≤ b ∧ b < w4.heap.size) → (w4.alloc (.cells #[.int .i64 z0, .slice za zl zc, .slice va vl vc] 30)).frozen? ⟨b, o, none⟩ = false := fun b o h => (hb5.frozen (p := ⟨b, o, none⟩) h.2).trans (hF4 b o h)
  have hbw5 := below_step hbw4 hbw4.size hb5
  have hx5 := hx4.keep hb5
  have hA5 := hA4.keep hb5
  obtain ⟨ht5, hB5⟩ := ht4.step hB4 hb5
  obtain ⟨hP5, hCP5⟩ := hP4.step hCP4 hb5
  clear hb5 hx4 hA4 ht4 hB4 hP4 hCP4 hin4 hF4 hbw4
  go_wp2_with fail
  refine (implKFirst_any n _ t _ _ _ _ hin5 hC5).mono ?_
  rintro e w6 ⟨hb6, g0, g1, g2, g3, g4, L3, L4, rfl, hG6, hN6, hR6, ho, hll⟩
  obtain ⟨u0, u1, u2, ua, ul, uc, qa, ql, qc, rfl, rfl, rfl, rfl, rfl⟩ := hG6.shape
  have hz6 : w4.heap.size + 1 ≤ w6.heap.size := by have := hb6.size; simpa using this
  simp only [World.size_alloc] at hG6 ho
  have hbw6 := below_step hbw5 hbw5.size hb6
  have hx6 := hx5.keep hb6
  have hA6 := hA5.keep hb6
  have hy6 := hy5.keep hb6
  obtain ⟨ht6, hB6⟩ := ht5.step hB5 hb6
  obtain ⟨hP6, hCP6⟩ := hP5.step hCP5 hb6
  obtain ⟨hin6, hC6⟩ := hin5.step hC5 hb6
  have hF6 : ∀ b o, (WA.heap.size ≤ b ∧ b < w4.heap.size) → w6.frozen? ⟨b, o, none⟩ = false := fun b o h => (hb6.frozen (p := ⟨b, o, none⟩) (by show b < _; simp; omega)).trans (hF5 b o h)
  clear hb6 hx5 hA5 hy5 ht5 hB5 hP5 hCP5 hin5 hC5 hF5 hbw5
  have hb7 := (Below.refl w6.heap.size w6).alloc (Nat.le_refl _) (.cells #[.int .i64 u0, .int .i64 u1, .string u2, .slice ua ul uc, .slice qa ql qc] 45)
  have hg7 := Box5.new w6 (.int .i64 u0) (.int .i64 u1) (.string u2) (.slice ua ul uc) (.slice qa ql qc) 45
  obtain ⟨w7, hw7⟩ : ∃ w7, w7 = w6.alloc (.cells #[.int .i64 u0, .int .i64 u1, .string u2, .slice ua ul uc, .slice qa ql qc] 45) := ⟨_, rfl⟩
  have hz7 : w7.heap.size = w6.heap.size + 1 := by rw [hw7]; simp
  rw [← hw7] at hb7 hg7
  have sit7 : Sit n t S (fun b => w2.heap.size ≤ b ∧ b < w3.heap.size) w.heap.size w3.heap.size w6.heap.size (.int .i64 x0) (.slice xa xl xc) (.slice ya yl yc) (.int .i64 s0) (.int .i64 s1) (.string s2) (.slice sa sl sc) (.slice ra rl rc) (.int .i64 u0) (.int .i64 u1) (.string u2) (.slice ua ul uc) (.slice qa ql qc) w w7 :=
    ⟨below_step hbw6 hbw6.size hb7, hx6.keep hb7, (ht6.step hB6 hb7).1, HBS.out, hA6.keep hb7, (hP6.step hCP6 hb7).1, fun b hb => ⟨by omega, hb.2⟩, hg7, by omega, by omega, by omega⟩
  have hG7 := (hG6.step (fun b hb => hb.2) hb7).1
  have hN7 := hN6.below hb7
  have hR7 := hR6.below hb7
  have hy7 := hy6.keep hb7
  have hin7 := (hin6.step hC6 hb7).1
  have hF7 : ∀ b o, (WA.heap.size ≤ b ∧ b < w4.heap.size) → w7.frozen? ⟨b, o, none⟩ = false := fun b o h => (hb7.frozen (p := ⟨b, o, none⟩) (by show b < _; omega)).trans (hF6 b o h)
  obtain ⟨k0, k1, k2⟩ := id sit7.box
  obtain ⟨m0, m1, m2⟩ := id hy7
  obtain ⟨a0, a1, a2, a3, a4⟩ := id sit7.ansBox
  obtain ⟨b0, b1, b2, b3, b4⟩ := id hg7
  have HE1 : Hid (Calls Try.prog 20 _ _ _) := eqTree_same n _ _ (ansT n t) _ _ _ _ _ _ _ _ _ _ w7 hG7 sit7.ans (fun b hb => by omega) (fun b hb => by omega)
  have HSit : Hid _ := sit7
  have HG : Hid (TreeIn (fun b => w4.heap.size + 1 ≤ b ∧ b < w6.heap.size) w7 n (ansT n t) (.int .i64 u0) (.int .i64 u1) (.string u2) (.slice ua ul uc) (.slice qa ql qc) ∧ SpN w7 (.slice ua ul uc) L3 ∧ SpR w7 (n - 1) (.slice qa ql qc) L4) := ⟨hG7, hN7, hR7⟩
  have HY : Hid (Box3 w7 w4.heap.size (.int .i64 z0) (.slice za zl zc) (.slice va vl vc) ∧ KindIn (fun b => WA.heap.size ≤ b ∧ b < w4.heap.size) w7 n t (.int .i64 z0) (.slice za zl zc) (.slice va vl vc) ∧ ∀ b o, (WA.heap.size ≤ b ∧ b < w4.heap.size) → w7.frozen? ⟨b, o, none⟩ = false) := ⟨hy7, hin7, hF7⟩
  have HO : Hid (Own (fun b => w4.heap.size + 1 ≤ b ∧ b < w6.heap.size) (L3 ++ L4) ∧ (L3 ++ L4).length ≤ 160) := ⟨ho, hll⟩
  rw [hw7] at k0 k1 k2 m0 m1 m2 a0 a1 a2 a3 a4 b0 b1 b2 b3 b4
  clear sit7 hG7 hN7 hR7 hy7 hin7 hF7 hG6 hN6 hR6 ho hll hbw6 hx6 hA6 hy6 ht6 hB6 hP6 hCP6 hin6 hC6 hF6 hb7 hg7 hbw1 hbw2
  go_wp2_with fail
  rw [← hw7]
  refine HE1.out.mono ?_
  rintro e w8 ⟨rfl, hb8⟩
  clear HE1 k0 k1 k2 m0 m1 m2 a0 a1 a2 a3 a4 b0 b1 b2 b3 b4
  have hz8 := hb8.size
  -- the argument is as it was
  obtain ⟨k0, k1, k2⟩ := id (HSit.out.keep (by omega) hb8).box
  obtain ⟨m0, m1, m2⟩ := id (HY.out.1.keep hb8)
  have HC9 : Hid (Calls Try.prog 9 #[.agg #[.int .i64 x0, .slice xa xl xc, .slice ya yl yc]] w8.drew fun e w' => ∃ g0 g1 g2, e = .returned (.agg #[g0, g1, g2]) ∧
      KindIn (fun b => w8.heap.size ≤ b ∧ b < w'.heap.size) w' n t g0 g1 g2 ∧ Below w7.heap.size w7 w' ∧ Box3 w' w4.heap.size (.int .i64 z0) (.slice za zl zc) (.slice va vl vc)) := by
    have s8 := HSit.out.keep (by omega) hb8
    refine (toKind_any n S t _ _ _ w8.drew (KindIn.keep (w := w8) (w' := w8.drew) (fun _ _ => rfl) (fun _ h => h) s8.arg) (fun b hb => by have := HBS.out b hb; simp; omega) hsz).mono ?_
    rintro e w' ⟨g0, g1, g2, rfl, hg, hbg⟩
    have hbg' : Below w8.heap.size w8 w' := ((Below.refl _ _).drew).trans hbg
    have hb' := below_step hb8 hz8 hbg'
    exact ⟨g0, g1, g2, rfl, hg, hb', HY.out.1.keep hb'⟩
  have HC10 : Hid (∀ (w' : World) (g0 g1 g2 : Value), KindIn (fun b => w8.heap.size ≤ b ∧ b < w'.heap.size) w' n t g0 g1 g2 → Below w7.heap.size w7 w' →
      Calls Try.prog 11 #[.agg #[.int .i64 z0, .slice za zl zc, .slice va vl vc], .agg #[g0, g1, g2]] w' fun e w'' => e = .returned (.bool true) ∧ Below w7.heap.size w7 w'') := by
    intro w' g0 g1 g2 hg hbg
    have hzg := hbg.size
    have hin := (HY.out.2.1.step (fun b hb => by omega) hbg).1
    refine (eqKind_same n _ _ t _ _ _ _ _ _ w' hin hg (fun b hb => by omega) (fun b hb => hb.2)).mono ?_
    rintro e w'' ⟨rfl, hb⟩
    exact ⟨rfl, below_step hbg hzg hb⟩
  go_upto_region 10 with fail
  go_cut [31] from 27 (fun v wx => v = .bool false ∧ Below w7.heap.size w7 wx)
  case first =>
    go_region_with (first
      | (go_at_call 9; refine HC9.out.mono ?_; rintro e w9 ⟨g0, g1, g2, rfl, hg, hbg, ⟨o0, o1, o2⟩⟩)
      | (go_at_call 11; refine (HC10.out _ _ _ _ (by assumption) (by assumption)).mono ?_; rintro e w10 ⟨rfl, hb10⟩))
    all_goals
      clear hbg hg
      go_wp2_with fail
      go_meet
      exact ⟨rfl, hb10⟩
  case rest =>
    obtain ⟨rfl, hb10⟩ := hcut
    have hz10 := hb10.size
    clear k0 k1 k2 m0 m1 m2 HC9 HC10 hb8 hz8
    -- marks on the argument
    have hin10 := (HY.out.2.1.step (fun b hb => by omega) hb10).1
    obtain ⟨M3, M4, r1, r2, r3, r4⟩ := kind_spots n t hin10 (fun b o hb => (hb10.frozen (p := ⟨b, o, none⟩) (by show b < _; omega)).trans (HY.out.2.2 b o hb))
    rw [List.length_append] at r4
    have HM : Hid (Calls Try.prog 14 _ _ _) := markKind_any (n - 1) z0 _ _ M3 M4 1 wc r1 r2 (by omega) (by omega)
    have HMb : Hid (∀ s, s ∈ M3 ++ M4 → WA.heap.size ≤ s.b ∧ s.b < w4.heap.size) := r3
    have s10 := HSit.out.keep (by omega) hb10
    have HS10 : Hid (Sit n t S (fun b => w2.heap.size ≤ b ∧ b < w3.heap.size) w.heap.size w3.heap.size w6.heap.size (.int .i64 x0) (.slice xa xl xc) (.slice ya yl yc) (.int .i64 s0) (.int .i64 s1) (.string s2) (.slice sa sl sc) (.slice ra rl rc) (.int .i64 u0) (.int .i64 u1) (.string u2) (.slice ua ul uc) (.slice qa ql qc) w wc) := s10
    obtain ⟨m0, m1, m2⟩ := id (HY.out.1.keep hb10)
    have HB10 : Hid (Below w7.heap.size w7 wc) := hb10
    have HR4 : Hid (M3.length + M4.length ≤ szK n t) := r4
    clear hin10 r1 r2 r3 s10 hb10 HY HSit
    go_wp2_with fail
    refine HM.out.mono ?_
    rintro e w11 ⟨rfl, hW11⟩
    have hz11 := hW11.size
    have hs11 : ∀ b : Nat, b < wc.heap.size → ¬ (WA.heap.size ≤ b ∧ b < w4.heap.size) → w11.heap[b]? = wc.heap[b]? := fun b hb hn => hW11.other hb (fun s hs e => hn (by rw [← e]; exact HMb.out s hs))
    have s11 := HS10.out.step (u' := w11) (Z := fun b => WA.heap.size ≤ b ∧ b < w4.heap.size) (Wrote.below_of HS10.out.below (by omega) hW11 (fun s hs => by have := HMb.out s hs; omega)) hz11 hs11 (fun b hb => by omega)
    have q11 : ∀ b, w4.heap.size + 1 ≤ b → b < w6.heap.size → w11.heap[b]? = w7.heap[b]? := fun b h1 h2 => (hs11 b (by omega) (by omega)).trans (HB10.out.block b (by omega))
    have hG11 := HG.out.1.keep (w' := w11) (fun b hb => q11 b hb.1 hb.2) (fun _ h => h)
    have hN11 := HG.out.2.1.same (w' := w11) (fun s hs => by have := HO.out.1.1 s (List.mem_append_left _ hs); exact q11 _ this.1 this.2)
    have hR11 := HG.out.2.2.same (w' := w11) (fun s hs => by have := HO.out.1.1 s (List.mem_append_right _ hs); exact q11 _ this.1 this.2)
    have HE12 : Hid (Calls Try.prog 20 _ _ _) := eqTree_same n _ _ (ansT n t) _ _ _ _ _ _ _ _ _ _ w11 hG11 s11.ans (fun b hb => by omega) (fun b hb => by omega)
    have HS11 : Hid (Sit n t S (fun b => w2.heap.size ≤ b ∧ b < w3.heap.size) w.heap.size w3.heap.size w6.heap.size (.int .i64 x0) (.slice xa xl xc) (.slice ya yl yc) (.int .i64 s0) (.int .i64 s1) (.string s2) (.slice sa sl sc) (.slice ra rl rc) (.int .i64 u0) (.int .i64 u1) (.string u2) (.slice ua ul uc) (.slice qa ql qc) w w11) := s11
    have HN11 : Hid (SpN w11 (.slice ua ul uc) L3 ∧ SpR w11 (n - 1) (.slice qa ql qc) L4) := ⟨hN11, hR11⟩
    obtain ⟨a0, a1, a2, a3, a4⟩ := id s11.ansBox
    obtain ⟨b0, b1, b2, b3, b4⟩ := id s11.gotBox
    have e11 : ¬ (1 : Int) + (M3.length : Int) + (M4.length : Int) < 0 := by omega
    clear HM HMb HS10 HB10 HG hs11 s11 q11 hG11 hN11 hR11 hW11 m0 m1 m2
    go_wp2_with fail
    refine HE12.out.mono ?_
    rintro e w12 ⟨rfl, hb12⟩
    clear HE12 a0 a1 a2 a3 a4 b0 b1 b2 b3 b4
    have hz12 := hb12.size
    -- marks on the answer
    have s12 := HS11.out.keep (by omega) hb12
    have hN12 := HN11.out.1.below hb12
    have hR12 := HN11.out.2.below hb12
    have hll := HO.out.2
    rw [List.length_append] at hll
    have hok12 : ∀ s, s ∈ L3 ++ L4 → s.ok w12 := fun s hs => (List.mem_append.1 hs).elim (hN12.ok s) (hR12.ok s)
    have HM13 : Hid (Calls Try.prog 23 _ _ _) := markTree_any (n - 1) u0 u1 u2 _ _ L3 L4 1 w12 hN12 hR12 (by omega) (by omega)
    have HS12 : Hid (Sit n t S (fun b => w2.heap.size ≤ b ∧ b < w3.heap.size) w.heap.size w3.heap.size w6.heap.size (.int .i64 x0) (.slice xa xl xc) (.slice ya yl yc) (.int .i64 s0) (.int .i64 s1) (.string s2) (.slice sa sl sc) (.slice ra rl rc) (.int .i64 u0) (.int .i64 u1) (.string u2) (.slice ua ul uc) (.slice qa ql qc) w w12) := s12
    have H12 : Hid (SpN w12 (.slice ua ul uc) L3 ∧ SpR w12 (n - 1) (.slice qa ql qc) L4 ∧ ∀ s, s ∈ L3 ++ L4 → s.ok w12) := ⟨hN12, hR12, hok12⟩
    obtain ⟨b0, b1, b2, b3, b4⟩ := id s12.gotBox
    clear s12 hN12 hR12 hok12 HS11 HN11 hb12
    go_wp2_with fail
    refine HM13.out.mono ?_
    rintro e w13 ⟨rfl, hW13⟩
    have hz13 := hW13.size
    have hs13 : ∀ b : Nat, b < w12.heap.size → ¬ (w4.heap.size + 1 ≤ b ∧ b < w6.heap.size) → w13.heap[b]? = w12.heap[b]? := fun b hb hn => hW13.other hb (fun s hs e => hn (by rw [← e]; exact HO.out.1.1 s hs))
    have s13 := HS12.out.step (u' := w13) (Z := fun b => w4.heap.size + 1 ≤ b ∧ b < w6.heap.size) (Wrote.below_of HS12.out.below (by omega) hW13 (fun s hs => by have := HO.out.1.1 s hs; omega)) hz13 hs13 (fun b hb => by omega)
    have hh13 := hW13.holds H12.out.2.2 HO.out.1.2
    have hsim := hW13.sim H12.out.2.2
    have hN13 := H12.out.1.sim hsim
    have hR13 := H12.out.2.1.sim hsim
    have HH14 : Hid (Calls Try.prog 24 _ _ _) := heldTree_any (n - 1) u0 u1 u2 _ _ L3 L4 1 w13 hN13 hR13 hh13 (by omega) (by omega)
    have HS13 : Hid (Sit n t S (fun b => w2.heap.size ≤ b ∧ b < w3.heap.size) w.heap.size w3.heap.size w6.heap.size (.int .i64 x0) (.slice xa xl xc) (.slice ya yl yc) (.int .i64 s0) (.int .i64 s1) (.string s2) (.slice sa sl sc) (.slice ra rl rc) (.int .i64 u0) (.int .i64 u1) (.string u2) (.slice ua ul uc) (.slice qa ql qc) w w13) := s13
    have H13 : Hid (SpN w13 (.slice ua ul uc) L3 ∧ SpR w13 (n - 1) (.slice qa ql qc) L4 ∧ Holds w13 (L3 ++ L4) 1 ∧ ∀ s, s ∈ L3 ++ L4 → s.ok w13) := ⟨hN13, hR13, hh13, fun s hs => Spot.ok_sim (H12.out.2.2 s hs) hsim⟩
    clear b0 b1 b2 b3 b4
    obtain ⟨b0, b1, b2, b3, b4⟩ := id s13.gotBox
    clear s13 hh13 hsim hN13 hR13 hs13 hW13 HM13 HS12 H12
    have e13 : ¬ (1 : Int) + (L3.length : Int) + (L4.length : Int) < 0 := by omega
    have ne13 : ((1 : Int) + (L3.length : Int) + (L4.length : Int) != 1 + (L3.length : Int) + (L4.length : Int)) = false := by simp
    go_wp2_with fail
    refine HH14.out.mono ?_
    rintro e w14 ⟨rfl, hb14⟩
    have hz14 := hb14.size
    have s14 := HS13.out.keep (by omega) hb14
    obtain ⟨k0, k1, k2⟩ := id s14.box
    have HT15 : Hid (Calls Try.prog 9 _ _ _) := toKind_any n S t _ _ _ w14 s14.arg (fun b hb => by have := HBS.out b hb; omega) hsz
    have HB14 : Hid (Below w13.heap.size w13 w14) := hb14
    clear HH14 b0 b1 b2 b3 b4 s14 hb14
    go_wp2_with fail
    refine HT15.out.mono ?_
    rintro e w15 ⟨d0', d1', d2', rfl, hin15, hb15⟩
    have hz15 := hb15.size
    have HK16 : Hid (Calls Try.prog 22 _ _ _) := implKFirst_any n _ t _ _ _ w15 hin15 (fun b hb => hb.2)
    have HB15 : Hid (Below w13.heap.size w13 w15) := below_step HB14.out hz14 hb15
    clear HT15 k0 k1 k2 hin15 hb15 HB14
    go_wp2_with fail
    refine HK16.out.mono ?_
    rintro e w16 ⟨hb16, h0, h1, h2, h3, h4, N3, N4, rfl, hH16, -, -, -, -⟩
    obtain ⟨v0, v1, v2, ea, el, ec, ja, jl, jc, rfl, rfl, rfl, rfl, rfl⟩ := hH16.shape
    have hz16 := hb16.size
    have hb17 := (Below.refl w16.heap.size w16).alloc (Nat.le_refl _) (.cells #[.int .i64 v0, .int .i64 v1, .string v2, .slice ea el ec, .slice ja jl jc] 45)
    have hb1317 := below_step (below_step HB15.out (by omega) hb16) (by omega) hb17
    have s17 := HS13.out.keep (by omega) hb1317
    obtain ⟨a0, a1, a2, a3, a4⟩ := id s17.ansBox
    have hH17 := (hH16.step (fun b hb => hb.2) hb17).1
    have HE18 : Hid (Calls Try.prog 20 _ _ _) := eqTree_same n _ _ (ansT n t) _ _ _ _ _ _ _ _ _ _ _ hH17 s17.ans (fun b hb => by simp; omega) (fun b hb => by simp; omega)
    have HB17 : Hid (Below w13.heap.size w13 _) := hb1317
    clear HK16 hb16 hH16 hb17 hb1317 s17 hH17 HB15
    go_wp2_with fail
    refine HE18.out.mono ?_
    rintro e w18 ⟨rfl, hb18⟩
    have hb1318 := below_step HB17.out (by simp; omega) hb18
    have hz18 := hb1318.size
    have s18 := HS13.out.keep (by omega) hb1318
    have HH19 : Hid (Calls Try.prog 24 _ _ _) := heldTree_any (n - 1) u0 u1 u2 _ _ L3 L4 1 w18 (H13.out.1.below hb1318) (H13.out.2.1.below hb1318) (H13.out.2.2.1.below H13.out.2.2.2 hb1318) (by omega) (by omega)
    have HBF : Hid (Below w.heap.size w w18) := s18.below
    obtain ⟨b0, b1, b2, b3, b4⟩ := id s18.gotBox
    clear HE18 a0 a1 a2 a3 a4 hb18 hb1318 s18 HB17 H13 HS13
    go_wp2_with fail
    refine HH19.out.mono ?_
    rintro e w19 ⟨rfl, hb19⟩
    have hfin := below_step HBF.out HBF.out.size hb19
    clear HH19 b0 b1 b2 b3 b4 hb19 HBF
    go_wp2_with fail
    go_ret
    exact ⟨rfl, hfin⟩

end Go.Proofs.Ytkaannpoldenkag
