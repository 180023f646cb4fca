/-
  The law of KindHas, walked.
-/
import Derived.Test.YtkaannpoldenkagKImplHas2
import Derived.Test.YtkaannpoldenkagKEq
import Derived.Test.YtkaannpoldenkagKTo
import Derived.Test.YtkaannpoldenkagEq
namespace Go.Proofs.Ytkaannpoldenkag
open Go.RowKit

/-- A schema in a box. -/
structure ArgK (S : Nat → Prop) (w : World) (n : Nat) (k : K n) (N : Nat) (c0 c1 c2 : Value) : Prop where
  box : Box3 w N c0 c1 c2
  kind : KindIn S w n k c0 c1 c2
  lt : ∀ b, S b → b < w.heap.size

/-- A tree in a box. -/
structure ArgT (S : Nat → Prop) (w : World) (m : Nat) (t : T m) (N : Nat) (c0 c1 c2 c3 c4 : Value) : Prop where
  box : Box5 w N c0 c1 c2 c3 c4
  tree : TreeIn S w m t c0 c1 c2 c3 c4
  lt : ∀ b, S b → b < w.heap.size

theorem ArgK.keep {S : Nat → Prop} {w w' : World} {n : Nat} {k : K n} {N : Nat} {c0 c1 c2 : Value} (h : ArgK S w n k N c0 c1 c2) (hb : Below w.heap.size w w') : ArgK S w' n k N c0 c1 c2 :=
  ⟨h.box.keep hb, h.kind.keep (same_below hb h.lt) (fun _ h => h), fun b hb' => Nat.lt_of_lt_of_le (h.lt b hb') hb.size⟩
theorem ArgT.keep {S : Nat → Prop} {w w' : World} {m : Nat} {t : T m} {N : Nat} {c0 c1 c2 c3 c4 : Value} (h : ArgT S w m t N c0 c1 c2 c3 c4) (hb : Below w.heap.size w w') : ArgT S w' m t N c0 c1 c2 c3 c4 :=
  ⟨h.box.keep hb, h.tree.keep (same_below hb h.lt) (fun _ h => h), fun b hb' => Nat.lt_of_lt_of_le (h.lt b hb') hb.size⟩

set_option maxRecDepth 100000 in
set_option maxHeartbeats 4000000 in
theorem lawKHas_any (n m : Nat) (S : Nat → Prop) (k : K n) (t : T m) (c0 c1 c2 e0 e1 e2 e3 e4 : Value) (w : World) (hk : KindIn S w n k c0 c1 c2) (ht : TreeIn S w m t e0 e1 e2 e3 e4) (hB : ∀ b, S b → b < w.heap.size) :
    Calls Try.prog 5 #[.agg #[c0, c1, c2], .agg #[e0, e1, e2, e3, e4]] w fun e w' => e = .returned (.bool true) ∧ Below w.heap.size w w' := by
  obtain ⟨x0, xa, xl, xc, ya, yl, yc, rfl, rfl, rfl⟩ := hk.shape
  obtain ⟨z0, z1, z2, za, zl, zc, va, vl, vc, rfl, rfl, rfl, rfl, rfl⟩ := ht.shape
  have hb0 : Below w.heap.size w ((w.alloc (.cells #[.int .i64 x0, .slice xa xl xc, .slice ya yl yc] 25)).alloc (.cells #[.int .i64 z0, .int .i64 z1, .string z2, .slice za zl zc, .slice va vl vc] 40)) :=
    ((Below.refl _ _).alloc (Nat.le_refl _) _).alloc (by simp) _
  have aK0 : ArgK S ((w.alloc (.cells #[.int .i64 x0, .slice xa xl xc, .slice ya yl yc] 25)).alloc (.cells #[.int .i64 z0, .int .i64 z1, .string z2, .slice za zl zc, .slice va vl vc] 40)) n k w.heap.size (.int .i64 x0) (.slice xa xl xc) (.slice ya yl yc) :=
    ⟨(Box3.new w _ _ _ 25).keep ((Below.refl _ _).alloc (Nat.le_refl _) _), hk.keep (same_below hb0 hB) (fun _ h => h), fun b hb => by have := hB b hb; simp; omega⟩
  have aT0 : ArgT S ((w.alloc (.cells #[.int .i64 x0, .slice xa xl xc, .slice ya yl yc] 25)).alloc (.cells #[.int .i64 z0, .int .i64 z1, .string z2, .slice za zl zc, .slice va vl vc] 40)) m t (w.heap.size + 1) (.int .i64 z0) (.int .i64 z1) (.string z2) (.slice za zl zc) (.slice va vl vc) := by
    refine ⟨?_, ht.keep (same_below hb0 hB) (fun _ h => h), fun b hb => by have := hB b hb; simp; omega⟩
    have := Box5.new (w.alloc (.cells #[.int .i64 x0, .slice xa xl xc, .slice ya yl yc] 25)) (.int .i64 z0) (.int .i64 z1) (.string z2) (.slice za zl zc) (.slice va vl vc) 40
    rwa [show (w.alloc (.cells #[.int .i64 x0, .slice xa xl xc, .slice ya yl yc] 25)).heap.size = w.heap.size + 1 by simp] at this
  clear hk ht hB
  go_enter Try.func5, Try.ntmps5
  go_wp2_with fail
  refine (szKind_any n S k _ _ _ _ _ aK0.kind aK0.lt (by omega) (by omega)).mono ?_
  rintro e w1 ⟨rfl, hb1⟩
  have hbw1 := below_step hb0 (by simp; omega) hb1
  have aK1 := aK0.keep hb1
  have aT1 := aT0.keep hb1
  clear hb0 hb1 aK0 aT0
  obtain ⟨i0, i1, i2⟩ := aK1.box
  obtain ⟨j0, j1, j2, j3, j4⟩ := aT1.box
  by_cases hsz : szK n k ≤ 1048576
  case neg =>
    have hneg : leftB (szK n k) 1048576 < 0 := by unfold leftB; rw [if_neg (by omega)]; omega
    go_wp2_with fail
    go_ret
    exact ⟨rfl, hbw1⟩
  have hpos : leftB (szK n k) 1048576 = 1048576 - szK n k := by unfold leftB; rw [if_pos (by omega)]
  rw [hpos]
  clear hpos
  generalize hlf : (1048576 : Int) - szK n k = lf
  have hlf0 : 0 ≤ lf := by omega
  have hlf1 : lf ≤ 1048576 := by omega
  clear hlf
  go_wp2_with fail
  refine (szTree_any m S t _ _ _ _ _ lf w1 aT1.tree aT1.lt (by omega) hlf1).mono ?_
  rintro e w2 ⟨rfl, hb2⟩
  have hbw2 := below_step hbw1 hbw1.size hb2
  have aK2 := aK1.keep hb2
  have aT2 := aT1.keep hb2
  clear hb2 aK1 aT1 i0 i1 i2 j0 j1 j2 j3 j4
  obtain ⟨i0, i1, i2⟩ := aK2.box
  obtain ⟨j0, j1, j2, j3, j4⟩ := aT2.box
  by_cases hszt : szT m t ≤ 1048576 ∧ (szT m t : Int) ≤ lf
  case neg =>
    have hneg : leftB (szT m t) lf < 0 := by unfold leftB; rw [if_neg (by omega)]; omega
    go_wp2_with fail
    go_ret
    exact ⟨rfl, hbw2⟩
  have hpos : ¬ leftB (szT m t) lf < 0 := by unfold leftB; rw [if_pos (by omega)]; omega
  -- the specification's answer
  have HCa : Hid (Calls Try.prog 9 #[.agg #[.int .i64 x0, .slice xa xl xc, .slice ya yl yc]] w2.drew fun e w' => ∃ g0 g1 g2, e = .returned (.agg #[g0, g1, g2]) ∧ KindIn (fun b => w2.heap.size ≤ b ∧ b < w'.heap.size) w' n k g0 g1 g2 ∧ Below w2.heap.size w2 w' ∧
      Box5 w' (w.heap.size + 1) (.int .i64 z0) (.int .i64 z1) (.string z2) (.slice za zl zc) (.slice va vl vc)) := by
    refine (toKind_any n S k _ _ _ w2.drew (KindIn.keep (w := w2) (w' := w2.drew) (fun _ _ => rfl) (fun _ h => h) aK2.kind) aK2.lt hsz).mono ?_
    rintro e w' ⟨g0, g1, g2, rfl, hg, hbg⟩
    have hbg' : Below w2.heap.size w2 w' := ((Below.refl _ _).drew).trans hbg
    exact ⟨g0, g1, g2, rfl, hg, hbg', aT2.box.keep hbg'⟩
  have HCb : Hid (∀ (w' : World) (g0 g1 g2 : Value), KindIn (fun b => w2.heap.size ≤ b ∧ b < w'.heap.size) w' n k g0 g1 g2 → Below w2.heap.size w2 w' →
      Calls Try.prog 18 #[.agg #[.int .i64 z0, .int .i64 z1, .string z2, .slice za zl zc, .slice va vl vc]] w' fun e w'' => ∃ h0 h1 h2 h3 h4, e = .returned (.agg #[h0, h1, h2, h3, h4]) ∧ TreeIn (fun b => b < w''.heap.size) w'' m t h0 h1 h2 h3 h4 ∧
        KindIn (fun b => b < w''.heap.size) w'' n k g0 g1 g2 ∧ Below w2.heap.size w2 w'') := by
    intro w' g0 g1 g2 hg hbg
    have aT' := aT2.keep hbg
    refine (toTree_any m S t _ _ _ _ _ w' aT'.tree aT'.lt hszt.1).mono ?_
    rintro e w'' ⟨h0, h1, h2, h3, h4, rfl, hh, hbh⟩
    have hz := hbh.size
    exact ⟨h0, h1, h2, h3, h4, rfl, hh.keep (fun _ _ => rfl) (fun b hb => hb.2), hg.keep (same_below hbh (fun b hb => hb.2)) (fun b hb => by omega), below_step hbg hbg.size hbh⟩
  have HCc : Hid (∀ (w'' : World) (g0 g1 g2 h0 h1 h2 h3 h4 : Value), KindIn (fun b => b < w''.heap.size) w'' n k g0 g1 g2 → TreeIn (fun b => b < w''.heap.size) w'' m t h0 h1 h2 h3 h4 → Below w2.heap.size w2 w'' →
      Calls Try.prog 17 #[.agg #[g0, g1, g2], .agg #[h0, h1, h2, h3, h4]] w'' fun e w3 => e = .returned (.bool (hasF n k m t)) ∧ Below w2.heap.size w2 w3) := by
    intro w'' g0 g1 g2 h0 h1 h2 h3 h4 hg hh hb
    refine (specKHas_any n m _ _ k t _ _ _ _ _ _ _ _ w'' hg hh (fun _ h => h) (fun _ h => h)).mono ?_
    rintro e w3 ⟨rfl, hb3⟩
    exact ⟨rfl, below_step hb hb.size hb3⟩
  have HK2 : Hid _ := aK2
  have HT2 : Hid _ := aT2
  have HSZ : Hid (szK n k ≤ 1048576 ∧ szT m t ≤ 1048576) := ⟨hsz, hszt.1⟩
  clear aK2 aT2 hsz hszt
  go_wp2_with fail
  go_region_with (first
    | (go_at_call 9; refine HCa.out.mono ?_; rintro e w3 ⟨g0, g1, g2, rfl, hg, hbg, ⟨o0, o1, o2, o3, o4⟩⟩)
    | (go_at_call 18; refine (HCb.out _ _ _ _ (by assumption) (by assumption)).mono ?_; rintro e w4 ⟨h0, h1, h2, h3, h4, rfl, hh, hg4, hb4⟩)
    | (go_at_call 17; refine (HCc.out _ _ _ _ _ _ _ _ _ (by assumption) (by assumption) (by assumption)).mono ?_; rintro e w5 ⟨rfl, hb5⟩))
  all_goals
    have hbw5 := below_step hbw2 hbw2.size hb5
    have aK5 := HK2.out.keep hb5
    have aT5 := HT2.out.keep hb5
    clear hb5 hg hbg hh hg4 hb4 HCa HCb HCc o0 o1 o2 o3 o4 i0 i1 i2 j0 j1 j2 j3 j4 hpos
    obtain ⟨i0, i1, i2⟩ := aK5.box
    obtain ⟨j0, j1, j2, j3, j4⟩ := aT5.box
    go_wp2_with fail
    -- the copies, and the program's answer
    refine (toKind_any n S k _ _ _ w5 aK5.kind aK5.lt HSZ.out.1).mono ?_
    rintro e w6 ⟨d0, d1, d2, rfl, hin6, hb6⟩
    obtain ⟨f0, fa, fl, fc, ga, gl, gc, rfl, rfl, rfl⟩ := hin6.shape
    have hb7 := hb6.trans (((Below.refl w6.heap.size w6).alloc (Nat.le_refl _) (.cells #[.int .i64 f0, .slice fa fl fc, .slice ga gl gc] 30)).mono hb6.size)
    have hal7 := (Below.refl w6.heap.size w6).alloc (Nat.le_refl _) (.cells #[.int .i64 f0, .slice fa fl fc, .slice ga gl gc] 30)
    have bK7 : ArgK (fun b => w5.heap.size ≤ b ∧ b < w6.heap.size) (w6.alloc (.cells #[.int .i64 f0, .slice fa fl fc, .slice ga gl gc] 30)) n k w6.heap.size (.int .i64 f0) (.slice fa fl fc) (.slice ga gl gc) :=
      ⟨Box3.new w6 _ _ _ 30, hin6.keep (same_below hal7 (fun b hb => hb.2)) (fun _ h => h), fun b hb => by simp; omega⟩
    have hbw7 := below_step hbw5 hbw5.size hb7
    have aK7 := aK5.keep hb7
    have aT7 := aT5.keep hb7
    clear hb7 hal7 hb6 hin6 aK5 aT5 i0 i1 i2 j0 j1 j2 j3 j4
    obtain ⟨i0, i1, i2⟩ := aK7.box
    obtain ⟨j0, j1, j2, j3, j4⟩ := aT7.box
    have hz7 : (w6.alloc (.cells #[.int .i64 f0, .slice fa fl fc, .slice ga gl gc] 30)).heap.size = w6.heap.size + 1 := by simp
    go_wp2_with fail
    generalize (w6.alloc (.cells #[.int .i64 f0, .slice fa fl fc, .slice ga gl gc] 30)) = w7 at *
    refine (toTree_any m S t _ _ _ _ _ w7 aT7.tree aT7.lt HSZ.out.2).mono ?_
    rintro e w8 ⟨d0, d1, d2, d3, d4, rfl, hin8, hb8⟩
    obtain ⟨p0, p1, p2, pa, pl, pc, qa, ql, qc, rfl, rfl, rfl, rfl, rfl⟩ := hin8.shape
    have hal9 := (Below.refl w8.heap.size w8).alloc (Nat.le_refl _) (.cells #[.int .i64 p0, .int .i64 p1, .string p2, .slice pa pl pc, .slice qa ql qc] 45)
    have hb9 := hb8.trans (hal9.mono hb8.size)
    have bT9 : ArgT (fun b => w7.heap.size ≤ b ∧ b < w8.heap.size) (w8.alloc (.cells #[.int .i64 p0, .int .i64 p1, .string p2, .slice pa pl pc, .slice qa ql qc] 45)) m t w8.heap.size (.int .i64 p0) (.int .i64 p1) (.string p2) (.slice pa pl pc) (.slice qa ql qc) :=
      ⟨Box5.new w8 _ _ _ _ _ 45, hin8.keep (same_below hal9 (fun b hb => hb.2)) (fun _ h => h), fun b hb => by simp; omega⟩
    have hbw9 := below_step hbw7 hbw7.size hb9
    have bK9 := bK7.keep hb9
    have aK9 := aK7.keep hb9
    have aT9 := aT7.keep hb9
    clear hb9 hal9 hb8 hin8 aK7 aT7 bK7 i0 i1 i2 j0 j1 j2 j3 j4
    obtain ⟨i0, i1, i2⟩ := bK9.box
    obtain ⟨j0, j1, j2, j3, j4⟩ := bT9.box
    go_wp2_with fail
    generalize (w8.alloc (.cells #[.int .i64 p0, .int .i64 p1, .string p2, .slice pa pl pc, .slice qa ql qc] 45)) = w9 at *
    refine (implKHas_any n m _ _ k t _ _ _ _ _ _ _ _ w9 bK9.kind bT9.tree bK9.lt bT9.lt).mono ?_
    rintro e wa ⟨rfl, hba⟩
    have hbwa := below_step hbw9 hbw9.size hba
    have bKa := bK9.keep hba
    have bTa := bT9.keep hba
    have aKa := aK9.keep hba
    have aTa := aT9.keep hba
    clear hba bK9 bT9 aK9 aT9 i0 i1 i2 j0 j1 j2 j3 j4
    have hne : (hasF n k m t != hasF n k m t) = false := by simp
    obtain ⟨i0, i1, i2⟩ := bKa.box
    obtain ⟨j0, j1, j2⟩ := aKa.box
    have HD1 : Hid (Calls Try.prog 9 #[.agg #[.int .i64 x0, .slice xa xl xc, .slice ya yl yc]] wa.drew fun e w' => ∃ g0 g1 g2, e = .returned (.agg #[g0, g1, g2]) ∧ KindIn (fun b => wa.heap.size ≤ b ∧ b < w'.heap.size) w' n k g0 g1 g2 ∧ Below wa.heap.size wa w' ∧ Box3 w' w6.heap.size (.int .i64 f0) (.slice fa fl fc) (.slice ga gl gc)) := by
      refine (toKind_any n S k _ _ _ wa.drew (KindIn.keep (w := wa) (w' := wa.drew) (fun _ _ => rfl) (fun _ h => h) aKa.kind) aKa.lt HSZ.out.1).mono ?_
      rintro e w' ⟨g0, g1, g2, rfl, hg, hbg⟩
      have hbg' : Below wa.heap.size wa w' := ((Below.refl _ _).drew).trans hbg
      exact ⟨g0, g1, g2, rfl, hg, hbg', bKa.box.keep hbg'⟩
    have HD2 : Hid (∀ (w' : World) (g0 g1 g2 : Value), KindIn (fun b => wa.heap.size ≤ b ∧ b < w'.heap.size) w' n k g0 g1 g2 → Below wa.heap.size wa w' →
        Calls Try.prog 11 #[.agg #[.int .i64 f0, .slice fa fl fc, .slice ga gl gc], .agg #[g0, g1, g2]] w' fun e w'' => e = .returned (.bool true) ∧ Below wa.heap.size wa w'') := by
      intro w' g0 g1 g2 hg hbg
      have bK' := bKa.keep hbg
      refine (eqKind_same n _ _ k _ _ _ _ _ _ w' bK'.kind hg bK'.lt (fun b hb => hb.2)).mono ?_
      rintro e w'' ⟨rfl, hb⟩
      exact ⟨rfl, below_step hbg hbg.size hb⟩
    have HBT : Hid _ := bTa
    have HAT : Hid _ := aTa
    clear bKa aKa bTa aTa
    go_wp2_with fail
    go_region_with (first
      | (go_at_call 9; refine HD1.out.mono ?_; rintro e wb ⟨u0, u1, u2, rfl, hu, hbu, ⟨o0, o1, o2⟩⟩)
      | (go_at_call 11; refine (HD2.out _ _ _ _ (by assumption) (by assumption)).mono ?_; rintro e wc ⟨rfl, hbc⟩))
    all_goals
      have hbwc := below_step hbwa hbwa.size hbc
      have bTc := HBT.out.keep hbc
      have aTc := HAT.out.keep hbc
      clear hbc hu hbu HD1 HD2 o0 o1 o2 i0 i1 i2 j0 j1 j2 hne
      obtain ⟨i0, i1, i2, i3, i4⟩ := bTc.box
      obtain ⟨j0, j1, j2, j3, j4⟩ := aTc.box
      have HE1 : Hid (Calls Try.prog 18 #[.agg #[.int .i64 z0, .int .i64 z1, .string z2, .slice za zl zc, .slice va vl vc]] wc.drew fun e w' => ∃ g0 g1 g2 g3 g4, e = .returned (.agg #[g0, g1, g2, g3, g4]) ∧ TreeIn (fun b => wc.heap.size ≤ b ∧ b < w'.heap.size) w' m t g0 g1 g2 g3 g4 ∧ Below wc.heap.size wc w' ∧
          Box5 w' w8.heap.size (.int .i64 p0) (.int .i64 p1) (.string p2) (.slice pa pl pc) (.slice qa ql qc)) := by
        refine (toTree_any m S t _ _ _ _ _ wc.drew (TreeIn.keep (w := wc) (w' := wc.drew) (fun _ _ => rfl) (fun _ h => h) aTc.tree) aTc.lt HSZ.out.2).mono ?_
        rintro e w' ⟨g0, g1, g2, g3, g4, rfl, hg, hbg⟩
        have hbg' : Below wc.heap.size wc w' := ((Below.refl _ _).drew).trans hbg
        exact ⟨g0, g1, g2, g3, g4, rfl, hg, hbg', bTc.box.keep hbg'⟩
      have HE2 : Hid (∀ (w' : World) (g0 g1 g2 g3 g4 : Value), TreeIn (fun b => wc.heap.size ≤ b ∧ b < w'.heap.size) w' m t g0 g1 g2 g3 g4 → Below wc.heap.size wc w' →
          Calls Try.prog 20 #[.agg #[.int .i64 p0, .int .i64 p1, .string p2, .slice pa pl pc, .slice qa ql qc], .agg #[g0, g1, g2, g3, g4]] w' fun e w'' => e = .returned (.bool true) ∧ Below wc.heap.size wc w'') := by
        intro w' g0 g1 g2 g3 g4 hg hbg
        have bT' := bTc.keep hbg
        refine (eqTree_same m _ _ t _ _ _ _ _ _ _ _ _ _ w' bT'.tree hg bT'.lt (fun b hb => hb.2)).mono ?_
        rintro e w'' ⟨rfl, hb⟩
        exact ⟨rfl, below_step hbg hbg.size hb⟩
      clear bTc aTc
      go_wp2_with fail
      go_region_with (first
        | (go_at_call 18; refine HE1.out.mono ?_; rintro e wd ⟨u0, u1, u2, u3, u4, rfl, hu, hbu, ⟨o0, o1, o2, o3, o4⟩⟩)
        | (go_at_call 20; refine (HE2.out _ _ _ _ _ _ (by assumption) (by assumption)).mono ?_; rintro e we ⟨rfl, hbe⟩))
      all_goals
        have hbwe := below_step hbwc hbwc.size hbe
        clear hbe hu hbu HE1 HE2
        go_wp2_with fail
        go_ret
        exact ⟨rfl, hbwe⟩

end Go.Proofs.Ytkaannpoldenkag
