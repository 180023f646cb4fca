/-
  Several texts in one, in their order.
-/
import Derived.Test.YthcdeahobjhkbaaGreatDoorDW2
import Derived.Test.YthcdeahobjhkbaaGreatDoorB14
import Derived.Test.YthcdeahobjhkbaaGreatDoorB16
import Derived.Deep.AppendLies
import Derived.Deep.Cut
import Derived.Deep.CutRange
import Derived.WalkSmall
import Derived.LoopTactic
import Derived.Test.YthcdeahobjhkbaaGreatDoorB13
import Derived.Test.YthcdeahobjhkbaaGreatDoorDec
import Derived.Lib.Hide
import Derived.Test.YthcdeahobjhkbaaGreatDoorB12
import Derived.Deep.RegionLaw
import Derived.Test.YthcdeahobjhkbaaGreatDoorB15
import Derived.Deep.RegionHeld

/-
  What the specification draws: l5Pair, two schemas, the second as wide as the first or wider.
-/
namespace Go.Proofs.YthcdeahobjhkbaaGreatDoor
open Go.RowKit

/-- What drawing two schemas makes. -/
def PairPost (m : Nat) (w : World) (R : Nat) (ao : Option Addr) (L cap p q : Nat) (e : Ending) (w' : World) : Prop :=
  Near R w w' ∧ ∃ (p' : Nat) (a b : K m) (a0 a1 a2 b0 b1 b2 : Value), p' ≤ p + q ∧ Dr w' R ao L cap p' ∧ e = .returned (.tuple #[.agg #[a0, a1, a2], .agg #[b0, b1, b2]]) ∧ KindIn (fun b => w.heap.size ≤ b ∧ b < w'.heap.size) w' m a a0 a1 a2 ∧ KindIn (fun b => w.heap.size ≤ b ∧ b < w'.heap.size) w' m b b0 b1 b2 ∧
    depK m a 4 ∧ depK m b 11 ∧ okK m a = true ∧ okK m b = true

theorem PairPost.drew {m R L cap p q : Nat} {ao : Option Addr} {w w' : World} {e : Ending} (h : PairPost m w R ao L cap p q e w') : PairPost m w R ao L cap p q e w'.drew := by
  obtain ⟨hn, p', a, b, a0, a1, a2, b0, b1, b2, hp, hD, he, hka, hkb, h1, h2, h3, h4⟩ := h
  exact ⟨hn.drew, p', a, b, a0, a1, a2, b0, b1, b2, hp, hD.same ((Below.refl _ _).drew), he, KindIn.keep (w := w') (w' := w'.drew) (fun _ _ => rfl) (fun _ h => h) hka, KindIn.keep (w := w') (w' := w'.drew) (fun _ _ => rfl) (fun _ h => h) hkb, h1, h2, h3, h4⟩

end Go.Proofs.YthcdeahobjhkbaaGreatDoor

/-
  What the specification draws: DrawKindWay, a schema into which a given one fits.
-/
namespace Go.Proofs.YthcdeahobjhkbaaGreatDoor
open Go.RowKit

theorem dep_of_good : ∀ (n : Nat) (k : K n) (d : Nat), goodK n k (d : Int) = true → cntK n k ≤ 40 → depK n k (7 - d) := by
  intro n
  induction n with
  | zero => intro k d h; simp [goodK] at h
  | succ n ih =>
    intro k d hg hc
    have hf := kids_few hg hc
    have hg' := hg
    simp only [goodK, Bool.and_eq_true, decide_eq_true_eq] at hg'
    have ha : aloneKF (Kd.sort k) (Kd.names k) (Kd.kids k).length = true := hg'.1.2
    have hnames : (Kd.names k).length ≤ 39 ∧ ∀ s, s ∈ Kd.names k → s.size ≤ 8 := by
      unfold aloneKF at ha
      split at ha
      · simp only [Bool.and_eq_true, beq_iff_eq] at ha
        have : Kd.names k = [] := List.eq_nil_of_length_eq_zero (by omega)
        rw [this]; exact ⟨by simp, fun s h => by cases h⟩
      split at ha
      · simp only [Bool.and_eq_true, beq_iff_eq] at ha
        have : Kd.names k = [] := List.eq_nil_of_length_eq_zero (by omega)
        rw [this]; exact ⟨by simp, fun s h => by cases h⟩
      split at ha
      · simp only [Bool.and_eq_true, beq_iff_eq] at ha
        have : Kd.names k = [] := List.eq_nil_of_length_eq_zero (by omega)
        rw [this]; exact ⟨by simp, fun s h => by cases h⟩
      split at ha
      · simp only [Bool.and_eq_true, beq_iff_eq] at ha
        have : Kd.names k = [] := List.eq_nil_of_length_eq_zero (by omega)
        rw [this]; exact ⟨by simp, fun s h => by cases h⟩
      split at ha
      · simp only [Bool.and_eq_true, beq_iff_eq] at ha
        exact ⟨by have := hf.1; omega, riseB_names _ ha.2⟩
      split at ha
      · simp only [Bool.and_eq_true, beq_iff_eq] at ha
        have : Kd.names k = [] := List.eq_nil_of_length_eq_zero (by omega)
        rw [this]; exact ⟨by simp, fun s h => by cases h⟩
      · cases ha
    have hd := hg'.1.1
    refine ⟨by omega, by omega, fun s hs => by have := hnames.2 s hs; omega, by have := hf.1; omega, fun q hq => ?_⟩
    have := ih q (d + 1) (by have := (hf.2 q hq).1; rwa [show ((d : Int) + 1) = ((d + 1 : Nat) : Int) by omega] at this) (hf.2 q hq).2
    rwa [show 7 - d - 1 = 7 - (d + 1) by omega]

/-- What drawing a wider schema makes: the given one, or a new one. -/
def WayPost (S : Nat → Prop) (w : World) (e : Ending) (w' : World) : Prop :=
  Below w.heap.size w w' ∧ ∃ (l : Nat) (k : K l) (c0 c1 c2 : Value), e = .returned (.agg #[c0, c1, c2]) ∧ KindIn (fun b => S b ∨ (w.heap.size ≤ b ∧ b < w'.heap.size)) w' l k c0 c1 c2

theorem way_exit {l : Nat} {S : Nat → Prop} {w W1 W : World} {k : K l} {c0 c1 c2 : Value} (h1 : Below w.heap.size w W1) (hz : W1.heap.size = w.heap.size + 2) (hb : Below W1.heap.size W1 W) (hS : ∀ b, S b → b < w.heap.size)
    (hk : KindIn (fun b => S b ∨ (W1.heap.size ≤ b ∧ b < W.heap.size)) W l k c0 c1 c2) : WayPost S w (.returned (.agg #[c0, c1, c2])) (put3 W (w.heap.size + 1) 0 c0 c1 c2) := by
  have hb2 : Below w.heap.size w W := below_step h1 h1.size hb
  refine ⟨put3_below hb2 (by omega), l, k, _, _, _, rfl, hk.keep (fun b hb => put3_other (hb.elim (fun h => by have := hS b h; omega) (fun h => by omega))) (fun b hb => hb.elim Or.inl (fun h => Or.inr ⟨by omega, by rw [put3_size]; exact h.2⟩))⟩

set_option maxRecDepth 20000 in
set_option maxHeartbeats 4000000 in
theorem drawKWay_any (m : Nat) (S S' : Nat → Prop) (k : K m) (c0 c1 c2 : Value) (w : World) (ao : Option Addr) (L cap : Nat) (hk : KindIn S' w m k c0 c1 c2) (hS' : ∀ b, S' b → b < w.heap.size) (h : CodeIn S w ao L cap) (hS : ∀ b, S b → b < w.heap.size) :
    Calls Tryz.prog 9 #[.agg #[c0, c1, c2], .slice ao L cap] w (WayPost S' w) := by
  obtain ⟨u0, uxa, uxl, uxc, uya, uyl, uyc, rfl, rfl, rfl⟩ := hk.shape
  obtain ⟨W1, hW1⟩ : ∃ W1, W1 = (w.alloc (.cells #[.int .i64 u0, .slice uxa uxl uxc, .slice uya uyl uyc] 26)).alloc (.cells #[.int .i64 0, .slice none 0 0, .slice none 0 0] 26) := ⟨_, rfl⟩
  have hz1 : W1.heap.size = w.heap.size + 2 := by rw [hW1]; simp
  have hb1 : Below w.heap.size w W1 := by rw [hW1]; exact ((Below.refl _ _).alloc (Nat.le_refl _) _).alloc (by simp) _
  have hx1 : Box3 W1 w.heap.size (.int .i64 u0) (.slice uxa uxl uxc) (.slice uya uyl uyc) := by rw [hW1]; exact (Box3.new w _ _ _ 26).keep ((Below.refl _ _).alloc (Nat.le_refl _) _)
  have hq1 : W1.heap[w.heap.size + 1]? = some (.cells #[.int .i64 0, .slice none 0 0, .slice none 0 0] 26 (0, 0)) := by
    rw [hW1]
    have := heap_alloc_new (w.alloc (.cells #[.int .i64 u0, .slice uxa uxl uxc, .slice uya uyl uyc] 26)) (.cells #[.int .i64 0, .slice none 0 0, .slice none 0 0] 26)
    rw [show (w.alloc (.cells #[.int .i64 u0, .slice uxa uxl uxc, .slice uya uyl uyc] 26)).heap.size = w.heap.size + 1 by simp] at this
    exact this
  have HO : Hid (Calls Tryz.prog 11 #[.slice ao L cap] W1 _) := l6Open_any S W1 ao L cap ⟨h.1, h.2.1, fun h0 => by
      obtain ⟨b, off, ha, hb, hc⟩ := h.2.2 h0
      exact ⟨b, off, ha, hb, fun j hj => by
        obtain ⟨u, hu, hcell⟩ := hc j hj
        exact ⟨u, hu, (World.cell?_of_block (hb1.block b (hS b hb))).trans hcell⟩⟩⟩ (fun b hb => by have := hS b hb; omega)
  have HZ : Hid (∀ W, Below W1.heap.size W1 W → (KindIn S' W m k (.int .i64 u0) (.slice uxa uxl uxc) (.slice uya uyl uyc) ∧ Box3 W w.heap.size (.int .i64 u0) (.slice uxa uxl uxc) (.slice uya uyl uyc)) ∧ W.heap[w.heap.size + 1]? = some (.cells #[.int .i64 0, .slice none 0 0, .slice none 0 0] 26 (0, 0))) := fun W hW => ⟨⟨(hk.keep (same_below hb1 hS') (fun _ h => h)).keep (fun b hb => hW.block b (by have := hS' b hb; omega)) (fun _ h => h), hx1.keep hW⟩, (hW.block _ (by omega)).trans hq1⟩
  have HX : Hid (Below w.heap.size w W1 ∧ W1.heap.size = w.heap.size + 2) := ⟨hb1, hz1⟩
  have hz1' : w.heap.size + 2 ≤ W1.heap.size := by omega
  clear h hb1 hq1 hz1 hx1 hk
  go_enter Tryz.func9, Tryz.ntmps9
  go_wp2_with fail
  rw [← hW1]
  clear hW1
  refine HO.out.mono ?_
  rintro e w1 ⟨hb1, R, rfl, hR, L', hD⟩
  have hRl := hD.lt
  have hs1 := hb1.size
  have hz := HZ.out w1 hb1
  have HOk : Hid (Calls Tryz.prog 16 #[.agg #[.int .i64 u0, .slice uxa uxl uxc, .slice uya uyl uyc]] w1 _) := specKOk_any m S' k _ _ _ w1 hz.1.1 (fun b hb => by have := hS' b hb; omega)
  have HB1 : Hid (Below W1.heap.size W1 w1) := hb1
  have HD1 : Hid (Dr w1 R ao L' cap 0) := hD
  obtain ⟨i0, i1, i2⟩ := hz.1.2
  clear HO hb1 hD hz
  go_wp2_with fail
  refine HOk.out.mono ?_
  rintro e w2 ⟨rfl, hb2⟩
  have hs2 := hb2.size
  have HB2 : Hid (Below W1.heap.size W1 w2) := below_step HB1.out HB1.out.size hb2
  have HD2 : Hid (Dr w2 R ao L' cap 0) := HD1.out.same hb2
  clear i0 i1 i2
  obtain ⟨⟨hk2, ⟨i0, i1, i2⟩⟩, hq2⟩ := HZ.out w2 HB2.out
  clear HOk HB1 HD1 hb2
  cases hok : okK m k with
  | false =>
    obtain ⟨⟨r0, r1, r2⟩, f0, f1, f2⟩ := zeroD_cells hq2
    have HP : Hid (WayPost S' w (.returned (.agg #[.int .i64 u0, .slice uxa uxl uxc, .slice uya uyl uyc])) (put3 w2 (w.heap.size + 1) 0 (.int .i64 u0) (.slice uxa uxl uxc) (.slice uya uyl uyc))) := way_exit HX.out.1 HX.out.2 HB2.out hS' (hk2.keep (fun _ _ => rfl) (fun _ h => Or.inl h))
    clear hk2 hq2 hok HZ HX HB2 HD2
    go_wp2_with fail
    refine bodyPost_ret (v := .agg #[.int .i64 u0, .slice uxa uxl uxc, .slice uya uyl uyc]) (by simp [results, Tryz.results9, go_sem, r0, r1, r2]) rfl ?_
    exact HP.out
  | true =>
    have HG : Hid (goodK m k 1 = true ∧ cntK m k ≤ 40) := okK_get hok
    have HDp : Hid (depK m k 6) := dep_of_good m k 1 (okK_get hok).1 (okK_get hok).2
    have HS0 : Hid (Near R w2 w2 ∧ Dr w2 R ao L' cap 0) := ⟨Near.refl _ _, HD2.out⟩
    have HN : Hid (∀ W, Near R w2 W → (KindIn S' W m k (.int .i64 u0) (.slice uxa uxl uxc) (.slice uya uyl uyc) ∧ Box3 W w.heap.size (.int .i64 u0) (.slice uxa uxl uxc) (.slice uya uyl uyc)) ∧ W.heap[w.heap.size + 1]? = some (.cells #[.int .i64 0, .slice none 0 0, .slice none 0 0] 26 (0, 0)) ∧ Below W1.heap.size W1 W) := fun W hW => by
      have hb := near_new HB2.out hR hW
      exact ⟨(HZ.out W hb).1, (HZ.out W hb).2, hb⟩
    clear hk2 hq2 hok i0 i1 i2 HD2
    go_wp2_with fail
    go_loopw [6] (fun iv wr => ∃ (i p' : Nat), i ≤ 3 ∧ iv = .int .i64 i ∧ Near R w2 wr ∧ Dr wr R ao L' cap p' ∧ p' ≤ i * 28000) (fun iv _ => 3 - (intOf iv).toNat)
    case atStart => exact ⟨0, 0, by omega, rfl, HS0.out.1, HS0.out.2, by omega⟩
    case round =>
      obtain ⟨i, p', hi4, rfl, hnr, hD, hp'⟩ := hrel
      have hzr := hnr.size
      obtain ⟨⟨hka, ⟨i0, i1, i2⟩⟩, hqr, hbr⟩ := HN.out wr hnr
      by_cases hlt : i < 3
      · have hlti : (i : Int) < 3 := by omega
        have hcnt := HG.out.2
        have HWd : Hid (Calls Tryz.prog 14 #[.pointer (some ⟨R, 0, none⟩), .agg #[.int .i64 u0, .slice uxa uxl uxc, .slice uya uyl uyc]] wr (DKPost 15 (2 * 6 + 3) wr R ao L' cap p' (700 * cntK m k))) :=
          wider_any 6 m 15 R ao L' cap p' _ k 1 _ _ _ wr (by omega) HDp.out HG.out.1 HG.out.2 hka (fun b hb => ⟨by have := hS' b hb; omega, by have := hS' b hb; omega⟩) hD (by omega)
        have HNr : Hid (Near R w2 wr) := hnr
        clear hnr hD HS0 hka hqr hbr
        go_wp2_with fail
        refine HWd.out.mono ?_
        rintro e w5 ⟨hn5, p5, k5, d0, d1, d2, hp5, hD5, rfl, hk5, hdk⟩
        obtain ⟨v0, vxa, vxl, vxc, vya, vyl, vyc, rfl, rfl, rfl⟩ := hk5.shape
        have hz5 := hn5.size
        obtain ⟨W6, hW6⟩ : ∃ W6, W6 = w5.alloc (.cells #[.int .i64 v0, .slice vxa vxl vxc, .slice vya vyl vyc] 26) := ⟨_, rfl⟩
        have hb56 : Below w5.heap.size w5 W6 := by rw [hW6]; exact (Below.refl _ _).alloc (Nat.le_refl _) _
        have hx6 : Box3 W6 w5.heap.size (.int .i64 v0) (.slice vxa vxl vxc) (.slice vya vyl vyc) := by rw [hW6]; exact Box3.new _ _ _ _ _
        have hzz6 : w5.heap.size + 1 ≤ W6.heap.size := by rw [hW6]; simp
        obtain ⟨hk6, hB6⟩ := hk5.step (fun b hb => hb.2) hb56
        have HOk : Hid (Calls Tryz.prog 16 #[.agg #[.int .i64 v0, .slice vxa vxl vxc, .slice vya vyl vyc]] W6 _) := specKOk_any 15 _ k5 _ _ _ W6 hk6 hB6
        have hn06 : Near R w2 W6 := (HNr.out.trans hn5).trans (Near.of_below hb56)
        have hD6 := hD5.same hb56
        clear HWd hn5 hD5 hk5 i0 i1 i2 hdk
        go_wp2_with fail
        rw [← hW6]
        clear hW6
        refine HOk.out.mono ?_
        rintro e w7 ⟨rfl, hb7⟩
        have hz7 := hb7.size
        obtain ⟨k0, k1, k2⟩ := hx6.keep hb7
        have hn07 := hn06.trans (Near.of_below hb7)
        have hD7 := hD6.same hb7
        have hk7 := (hk6.step hB6 hb7).1
        cases hok : okK 15 k5 with
        | true =>
          obtain ⟨-, q2, q3⟩ := HN.out w7 hn07
          obtain ⟨⟨r0, r1, r2⟩, f0, f1, f2⟩ := zeroD_cells q2
          have HP : Hid (WayPost S' w (.returned (.agg #[.int .i64 v0, .slice vxa vxl vxc, .slice vya vyl vyc])) (put3 w7 (w.heap.size + 1) 0 (.int .i64 v0) (.slice vxa vxl vxc) (.slice vya vyl vyc))) :=
            way_exit HX.out.1 HX.out.2 q3 hS' (hk7.keep (fun _ _ => rfl) (fun b hb => Or.inr ⟨by omega, by omega⟩))
          clear HOk hb7 hb56 hx6 hk6 hn06 hD6 hn07 hD7 hk7 hok q2 q3 HN HX HZ
          go_wp2_with fail
          refine bodyPost_ret (v := .agg #[.int .i64 v0, .slice vxa vxl vxc, .slice vya vyl vyc]) (by simp [results, Tryz.results9, go_sem, r0, r1, r2]) rfl ?_
          exact HP.out
        | false =>
          have HR7 : Hid (Near R w2 w7 ∧ Dr w7 R ao L' cap p5) := ⟨hn07, hD7⟩
          clear HOk hb7 hb56 hx6 hk6 hn06 hD6 hn07 hD7 hk7 hok k0 k1 k2
          go_wp2_with fail
          go_roundw
          case rel => exact ⟨i + 1, p5, by omega, by go_num, HR7.out.1, HR7.out.2, by omega⟩
          case measure => simp [intOf]; omega
      · have hlti : ¬ (i : Int) < 3 := by omega
        obtain ⟨⟨r0, r1, r2⟩, f0, f1, f2⟩ := zeroD_cells hqr
        have HP : Hid (WayPost S' w (.returned (.agg #[.int .i64 u0, .slice uxa uxl uxc, .slice uya uyl uyc])) (put3 wr (w.heap.size + 1) 0 (.int .i64 u0) (.slice uxa uxl uxc) (.slice uya uyl uyc))) := way_exit HX.out.1 HX.out.2 hbr hS' (hka.keep (fun _ _ => rfl) (fun _ h => Or.inl h))
        clear HZ HX HN hnr hD HS0 hka hqr hbr
        go_wp2_with fail
        refine bodyPost_ret (v := .agg #[.int .i64 u0, .slice uxa uxl uxc, .slice uya uyl uyc]) (by simp [results, Tryz.results9, go_sem, r0, r1, r2]) rfl ?_
        exact HP.out

end Go.Proofs.YthcdeahobjhkbaaGreatDoor
