/-
  The specification's l3Fits and KindFits: what they answer.
-/
import Derived.Test.YtpalkdcgbbbmeaaGreatDoorKSF2
namespace Go.Proofs.YtpalkdcgbbbmeaaGreatDoor
open Go.RowKit

set_option maxRecDepth 20000 in
set_option maxHeartbeats 2000000 in
theorem fits_leafS (S S' : Nat → Prop) (n m : Nat) (a : K (n + 1)) (b : K (m + 1)) (c0 c1 c2 e0 e1 e2 : Value) (w : World) (ha : KindIn S w (n + 1) a c0 c1 c2) (hb : KindIn S' w (m + 1) b e0 e1 e2)
    (hs : Kd.sort b = 1 ∨ Kd.sort b = 2 ∨ Kd.sort b = 3) (hsa : Kd.sort a = Kd.sort b) (hna : Kd.names a = []) (hnb : Kd.names b = []) :
    Calls Tryz.prog 65 #[.agg #[c0, c1, c2], .agg #[e0, e1, e2]] w fun e w' => e = .returned (.bool (fitsK (m + 1) b (n + 1) a)) ∧ Below w.heap.size w w' := by
  have HF : Hid (fitsK (m + 1) b (n + 1) a = true) := fitsK_leaf hs hsa hna hnb
  obtain ⟨rfl, -, ha3, ha4⟩ := ha
  obtain ⟨rfl, -, hb3, hb4⟩ := hb
  obtain ⟨na, nc, rfl, -, -, -⟩ := ha3
  obtain ⟨ma, mc, rfl, -, -, -⟩ := hb3
  obtain ⟨ka, kc, rfl, -, -⟩ := ha4
  obtain ⟨la, lc, rfl, -, -⟩ := hb4
  rw [hsa, hna, hnb]
  simp only [List.length_nil]
  generalize (Kd.kids a).length = kl
  generalize (Kd.kids b).length = ll
  have h6 : (Kd.sort b == 6) = false := by simp; omega
  have h4 : (Kd.sort b == 4) = false := by simp; omega
  clear hsa hna hnb hs
  generalize Kd.sort b = sb at *
  obtain ⟨W0, hW0⟩ : ∃ W0, W0 = (w.alloc (.cells #[.int .i64 sb, .slice na 0 nc, .slice ka kl kc] 26)).alloc (.cells #[.int .i64 sb, .slice ma 0 mc, .slice la ll lc] 26) := ⟨_, rfl⟩
  obtain ⟨hb0, ⟨i0, i1, i2⟩, ⟨j0, j1, j2⟩, -⟩ := two_boxes w _ _ _ _ _ _ W0 hW0
  have HB : Hid (Below w.heap.size w W0) := hb0
  clear hb0
  go_enter Tryz.func65, Tryz.ntmps65
  go_wp2_with fail
  rw [← hW0]
  clear hW0
  go_loopw [5] (fun iv wr => iv = .int .i64 0 ∧ wr = W0) (fun _ _ => 0)
  case atStart => exact ⟨rfl, rfl⟩
  case round =>
    obtain ⟨rfl, hw⟩ := hrel
    have hw' := hw.symm
    clear hw
    subst hw'
    go_wp2_with fail
    go_loopw [8] (fun iv wr => iv = .int .i64 0 ∧ wr = W0) (fun _ _ => 0)
    case atStart => exact ⟨rfl, rfl⟩
    case round =>
      obtain ⟨rfl, hw⟩ := hrel
      have hw' := hw.symm
      clear hw
      subst hw'
      go_wp2_with fail
      go_ret
      exact ⟨ret_bool HF.out.symm, HB.out⟩

theorem l3Fits_step (m : Nat) (hn : FitsSSaid m) : FitsSSaid (m + 1) := by
  intro S S' n a b c0 c1 c2 e0 e1 e2 d d' w ha hb hB hB' hga hgb
  cases n with
  | zero => exact ha.elim
  | succ n =>
  have hka := goodK_kids hga
  have hkb := goodK_kids hgb
  have hga' := hga
  simp only [goodK, Bool.and_eq_true] at hga' hgb
  have hGA : ∀ x, x ∈ Kd.kids a → goodK n x (d + 1) = true := List.all_eq_true.1 hga'.2
  have hGB : ∀ y, y ∈ Kd.kids b → goodK m y (d' + 1) = true := List.all_eq_true.1 hgb.2
  by_cases h6 : Kd.sort b = 6
  · rcases hkb with ⟨h, -, -⟩ | ⟨-, -, y, hy⟩ | ⟨h, -⟩
    · omega
    · by_cases h6a : Kd.sort a = 6
      · rcases hka with ⟨h, -, -⟩ | ⟨-, -, x, hx⟩ | ⟨h, -⟩
        · omega
        · exact fits_two m hn S S' n a b x y _ _ _ _ _ _ d d' w ha hb hB hB' (hGA x (by rw [hx]; simp)) (hGB y (by rw [hy]; simp)) hx hy (.inl ⟨h6a, h6⟩)
        · omega
      · exact fits_into m hn S S' n a b y _ _ _ _ _ _ d d' w ha hb hB hB' hga (hGB y (by rw [hy]; simp)) hy h6 h6a
    · omega
  · by_cases hs : Kd.sort a = Kd.sort b
    · rcases hkb with ⟨h, nb, -⟩ | ⟨h, -, y, hy⟩ | ⟨h, hlb, hrb⟩
      · rcases hka with ⟨h', na, -⟩ | ⟨h', -⟩ | ⟨h', -⟩
        · exact fits_leafS S S' n m a b _ _ _ _ _ _ w ha hb h hs na nb
        · omega
        · omega
      · have h4 : Kd.sort b = 4 := by omega
        rcases hka with ⟨h', -, -⟩ | ⟨-, -, x, hx⟩ | ⟨h', -⟩
        · omega
        · exact fits_two m hn S S' n a b x y _ _ _ _ _ _ d d' w ha hb hB hB' (hGA x (by rw [hx]; simp)) (hGB y (by rw [hy]; simp)) hx hy (.inr ⟨by omega, h4⟩)
        · omega
      · rcases hka with ⟨h', -, -⟩ | ⟨h', -⟩ | ⟨h', hla, hra⟩
        · omega
        · omega
        · exact fits_form m hn S S' n a b _ _ _ _ _ _ d d' w ha hb hB hB' hGA hGB hla hlb (asc_of _ hra) (asc_of _ hrb) h' h
    · exact fits_unlike S S' n m a b _ _ _ _ _ _ w ha hb h6 hs

theorem l3Fits_any : ∀ m, FitsSSaid m := by
  intro m
  induction m with
  | zero => intro S S' n a b c0 c1 c2 e0 e1 e2 d d' w ha hb; exact hb.elim
  | succ m ih => exact l3Fits_step m ih

/-- What KindFits answers. -/
def fitsF (n : Nat) (a : K n) (m : Nat) (b : K m) : Bool := okK n a && okK m b && fitsK m b n a

set_option maxRecDepth 20000 in
set_option maxHeartbeats 2000000 in
theorem specKFits_any (n m : Nat) (S S' : Nat → Prop) (a : K n) (b : K m) (c0 c1 c2 e0 e1 e2 : Value) (w : World) (ha : KindIn S w n a c0 c1 c2) (hb : KindIn S' w m b e0 e1 e2) (hB : ∀ b, S b → b < w.heap.size) (hB' : ∀ b, S' b → b < w.heap.size) :
    Calls Tryz.prog 29 #[.agg #[c0, c1, c2], .agg #[e0, e1, e2]] w fun e w' => e = .returned (.bool (fitsF n a m b)) ∧ Below w.heap.size w w' := by
  obtain ⟨x0, xa, xl, xc, ya, yl, yc, rfl, rfl, rfl⟩ := ha.shape
  obtain ⟨z0, za, zl, zc, ua, ul, uc, rfl, rfl, rfl⟩ := hb.shape
  obtain ⟨W0, hW0⟩ : ∃ W0, W0 = (w.alloc (.cells #[.int .i64 x0, .slice xa xl xc, .slice ya yl yc] 26)).alloc (.cells #[.int .i64 z0, .slice za zl zc, .slice ua ul uc] 26) := ⟨_, rfl⟩
  obtain ⟨hb0, hxa, hxb, hz0⟩ := two_boxes w _ _ _ _ _ _ W0 hW0
  have HK : Hid (∀ W, Below W0.heap.size W0 W → (KindIn S W n a (.int .i64 x0) (.slice xa xl xc) (.slice ya yl yc) ∧ KindIn S' W m b (.int .i64 z0) (.slice za zl zc) (.slice ua ul uc)) ∧ (Box3 W w.heap.size (.int .i64 x0) (.slice xa xl xc) (.slice ya yl yc) ∧ Box3 W (w.heap.size + 1) (.int .i64 z0) (.slice za zl zc) (.slice ua ul uc)) ∧ Below w.heap.size w W ∧ (∀ b, S b → b < W.heap.size) ∧ (∀ b, S' b → b < W.heap.size)) := fun W hW => by
    have hs := hW.size
    exact ⟨⟨ha.keep (same_below (below_step hb0 hb0.size hW) hB) (fun _ h => h), hb.keep (same_below (below_step hb0 hb0.size hW) hB') (fun _ h => h)⟩, ⟨hxa.keep hW, hxb.keep hW⟩, below_step hb0 hb0.size hW, fun b hb => by have := hB b hb; omega, fun b hb => by have := hB' b hb; omega⟩
  obtain ⟨⟨hka0, hkb0⟩, ⟨⟨i0, i1, i2⟩, ⟨j0, j1, j2⟩⟩, hbw0, hl0, hl0'⟩ := HK.out W0 (Below.refl _ _)
  have HC1 : Hid (Calls Tryz.prog 32 #[.agg #[.int .i64 x0, .slice xa xl xc, .slice ya yl yc]] W0 _) := specKOk_any n S a _ _ _ W0 hka0 hl0
  clear ha hb hb0 hxa hxb hz0 hka0 hkb0 hbw0 hl0 hl0' hB hB'
  rw [hW0] at i0 i1 i2 j0 j1 j2
  cases hoa : okK n a
  · have HF : Hid (fitsF n a m b = false) := by show fitsF n a m b = false; unfold fitsF; rw [hoa]; rfl
    have HC1' : Hid (Calls Tryz.prog 32 #[.agg #[.int .i64 x0, .slice xa xl xc, .slice ya yl yc]] W0 fun e w' => e = .returned (.bool false) ∧ Below W0.heap.size W0 w') := by
      have := HC1.out
      rw [hoa] at this
      exact this
    clear HC1 hoa
    go_enter Tryz.func29, Tryz.ntmps29
    go_wp2_with fail
    rw [← hW0]
    clear hW0
    refine HC1'.out.mono ?_
    rintro e w1 ⟨rfl, hb1⟩
    have HB1 : Hid (Below w.heap.size w w1) := (HK.out w1 hb1).2.2.1
    clear hb1
    go_wp2_with fail
    go_ret
    exact ⟨ret_bool HF.out.symm, HB1.out⟩
  have HC1' : Hid (Calls Tryz.prog 32 #[.agg #[.int .i64 x0, .slice xa xl xc, .slice ya yl yc]] W0 fun e w' => e = .returned (.bool true) ∧ Below W0.heap.size W0 w') := by
    have := HC1.out
    rw [hoa] at this
    exact this
  clear HC1
  have HOa : Hid (okK n a = true) := hoa
  clear hoa
  go_enter Tryz.func29, Tryz.ntmps29
  go_wp2_with fail
  rw [← hW0]
  clear hW0
  refine HC1'.out.mono ?_
  rintro e w1 ⟨rfl, hb1⟩
  obtain ⟨⟨hka1, hkb1⟩, ⟨⟨i0, i1, i2⟩, ⟨j0, j1, j2⟩⟩, hbw1, hl1, hl1'⟩ := HK.out w1 hb1
  have HB1 : Hid (Below W0.heap.size W0 w1) := hb1
  have HC2 : Hid (Calls Tryz.prog 32 #[.agg #[.int .i64 z0, .slice za zl zc, .slice ua ul uc]] w1 _) := specKOk_any m S' b _ _ _ w1 hkb1 hl1'
  clear hka1 hkb1 hbw1 hl1 hl1' hb1 HC1'
  go_wp2_with fail
  refine HC2.out.mono ?_
  rintro e w2 ⟨rfl, hb2⟩
  have hb02 : Below W0.heap.size W0 w2 := below_step HB1.out HB1.out.size hb2
  obtain ⟨⟨hka2, hkb2⟩, ⟨⟨i0, i1, i2⟩, ⟨j0, j1, j2⟩⟩, hbw2, hl2, hl2'⟩ := HK.out w2 hb02
  cases hob : okK m b
  · have HF : Hid (fitsF n a m b = false) := by show fitsF n a m b = false; unfold fitsF; rw [hob]; simp
    have HB2 : Hid (Below w.heap.size w w2) := hbw2
    clear hka2 hkb2 hbw2 hl2 hl2' hb2 hb02 HC2 hob
    go_wp2_with fail
    go_ret
    exact ⟨ret_bool HF.out.symm, HB2.out⟩
  · have HF : Hid (fitsF n a m b = fitsK m b n a) := by show fitsF n a m b = _; unfold fitsF; rw [hob, HOa.out]; simp
    have HC3 : Hid (Calls Tryz.prog 65 #[.agg #[.int .i64 x0, .slice xa xl xc, .slice ya yl yc], .agg #[.int .i64 z0, .slice za zl zc, .slice ua ul uc]] w2 _) := l3Fits_any m S S' n a b _ _ _ _ _ _ 1 1 w2 hka2 hkb2 hl2 hl2' (okK_get HOa.out).1 (okK_get hob).1
    have HB2 : Hid (Below w.heap.size w w2) := hbw2
    clear hka2 hkb2 hbw2 hl2 hl2' hb2 hb02 HC2 hob
    go_wp2_with fail
    refine HC3.out.mono ?_
    rintro e w3 ⟨rfl, hb3⟩
    have HB3 : Hid (Below w.heap.size w w3) := below_step HB2.out HB2.out.size hb3
    clear hb3
    go_wp2_with fail
    go_ret
    exact ⟨ret_bool HF.out.symm, HB3.out⟩

end Go.Proofs.YtpalkdcgbbbmeaaGreatDoor
