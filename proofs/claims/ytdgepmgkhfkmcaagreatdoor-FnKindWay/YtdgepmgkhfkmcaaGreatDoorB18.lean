/-
  Several texts in one, in their order.
-/
import Derived.Test.YtdgepmgkhfkmcaaGreatDoorDW2
import Derived.Test.YtdgepmgkhfkmcaaGreatDoorB8
import Derived.Test.YtdgepmgkhfkmcaaGreatDoorDP2
import Derived.Test.YtdgepmgkhfkmcaaGreatDoorB14
import Derived.Deep.RegionHeld

/-
  What the specification draws: l5Pair, two schemas, the second as wide as the first or wider.
-/
namespace Go.Proofs.YtdgepmgkhfkmcaaGreatDoor
open Go.RowKit

/-- What drawing two schemas makes. -/
def PairPost (m : Nat) (w : World) (R : Nat) (ao : Option Addr) (L cap p q : Nat) (e : Ending) (w' : World) : Prop :=
  Near R w w' ∧ ∃ (p' : Nat) (a b : K m) (a0 a1 a2 b0 b1 b2 : Value), p' ≤ p + q ∧ Dr w' R ao L cap p' ∧ e = .returned (.tuple #[.agg #[a0, a1, a2], .agg #[b0, b1, b2]]) ∧ KindIn (fun b => w.heap.size ≤ b ∧ b < w'.heap.size) w' m a a0 a1 a2 ∧ KindIn (fun b => w.heap.size ≤ b ∧ b < w'.heap.size) w' m b b0 b1 b2 ∧
    depK m a 4 ∧ depK m b 11 ∧ okK m a = true ∧ okK m b = true

theorem pair_exit {m R L cap p p' q : Nat} {ao : Option Addr} {w W : World} {a b : K m} {a0 a1 a2 b0 b1 b2 : Value} (h : Dr w R ao L cap p) (hn : Near R w W) (hb : W.heap[R]? = some (.cells #[.slice ao L cap, .int .i64 (p' : Int)] 101 (0, 0))) (hp : p' ≤ p + q)
    (ha : KindIn (fun b => w.heap.size + 2 ≤ b ∧ b < W.heap.size) W m a a0 a1 a2) (hk : KindIn (fun b => w.heap.size + 2 ≤ b ∧ b < W.heap.size) W m b b0 b1 b2) (hda : depK m a 4) (hdb : depK m b 11) (hoa : okK m a = true) (hob : okK m b = true) :
    PairPost m w R ao L cap p q (.returned (.tuple #[.agg #[a0, a1, a2], .agg #[b0, b1, b2]])) (put3 (put3 W w.heap.size 0 a0 a1 a2) (w.heap.size + 1) 0 b0 b1 b2) := by
  have hR := h.lt
  have qq : ∀ b, b ≠ w.heap.size → b ≠ w.heap.size + 1 → (put3 (put3 W w.heap.size 0 a0 a1 a2) (w.heap.size + 1) 0 b0 b1 b2).heap[b]? = W.heap[b]? := fun b h h' => by rw [put3_other h', put3_other h]
  have hs : (put3 (put3 W w.heap.size 0 a0 a1 a2) (w.heap.size + 1) 0 b0 b1 b2).heap.size = W.heap.size := by
    rw [put3_size, put3_size]
  have hbW : Below w.heap.size W (put3 (put3 W w.heap.size 0 a0 a1 a2) (w.heap.size + 1) 0 b0 b1 b2) := put3_below (put3_below (Below.refl _ _) (Nat.le_refl _)) (by omega)
  have hn' : Near R w (put3 (put3 W w.heap.size 0 a0 a1 a2) (w.heap.size + 1) 0 b0 b1 b2) := ⟨hbW.os.trans hn.os, hbW.tape.trans hn.tape, hbW.output.trans hn.output, by rw [hs]; exact hn.size, fun b hb hne => (qq b (by omega) (by omega)).trans (hn.block b hb hne)⟩
  refine ⟨hn', p', a, b, a0, a1, a2, b0, b1, b2, hp, h.keep hn' ((qq R (by omega) (by omega)).trans hb), rfl, ha.keep (fun b hb => qq b (by omega) (by omega)) (fun b hb => ⟨by omega, by rw [hs]; exact hb.2⟩), hk.keep (fun b hb => qq b (by omega) (by omega)) (fun b hb => ⟨by omega, by rw [hs]; exact hb.2⟩), hda, hdb, hoa, hob⟩

theorem PairPost.drew {m R L cap p q : Nat} {ao : Option Addr} {w w' : World} {e : Ending} (h : PairPost m w R ao L cap p q e w') : PairPost m w R ao L cap p q e w'.drew := by
  obtain ⟨hn, p', a, b, a0, a1, a2, b0, b1, b2, hp, hD, he, hka, hkb, h1, h2, h3, h4⟩ := h
  exact ⟨hn.drew, p', a, b, a0, a1, a2, b0, b1, b2, hp, hD.same ((Below.refl _ _).drew), he, KindIn.keep (w := w') (w' := w'.drew) (fun _ _ => rfl) (fun _ h => h) hka, KindIn.keep (w := w') (w' := w'.drew) (fun _ _ => rfl) (fun _ h => h) hkb, h1, h2, h3, h4⟩

set_option maxRecDepth 20000 in
set_option maxHeartbeats 4000000 in
theorem l5Pair_any (m R : Nat) (ao : Option Addr) (L cap p : Nat) (w : World) (hm : 11 ≤ m) (h : Dr w R ao L cap p) (hp : p ≤ 700000) :
    Calls Tryz.prog 19 #[.pointer (some ⟨R, 0, none⟩)] w (PairPost m w R ao L cap p 120000) := by
  have hR := h.lt
  have HD0 : Hid (Dr w R ao L cap p) := h
  obtain ⟨W1, hW1⟩ : ∃ W1, W1 = (w.alloc (.cells #[.int .i64 0, .slice none 0 0, .slice none 0 0] 26)).alloc (.cells #[.int .i64 0, .slice none 0 0, .slice none 0 0] 26) := ⟨_, rfl⟩
  have hz1 : W1.heap.size = w.heap.size + 2 := by rw [hW1]; simp
  have hb1 : Below w.heap.size w W1 := by rw [hW1]; exact ((Below.refl _ _).alloc (Nat.le_refl _) _).alloc (by simp) _
  have hq1 : W1.heap[w.heap.size]? = some (.cells #[.int .i64 0, .slice none 0 0, .slice none 0 0] 26 (0, 0)) := by
    rw [hW1]
    have hb : Below (w.heap.size + 1) (w.alloc (.cells #[.int .i64 0, .slice none 0 0, .slice none 0 0] 26)) ((w.alloc (.cells #[.int .i64 0, .slice none 0 0, .slice none 0 0] 26)).alloc (.cells #[.int .i64 0, .slice none 0 0, .slice none 0 0] 26)) := (Below.refl _ _).alloc (by simp) _
    exact (hb.block _ (Nat.lt_succ_self _)).trans (heap_alloc_new _ _)
  have hq2 : W1.heap[w.heap.size + 1]? = some (.cells #[.int .i64 0, .slice none 0 0, .slice none 0 0] 26 (0, 0)) := by
    rw [hW1]
    have := heap_alloc_new (w.alloc (.cells #[.int .i64 0, .slice none 0 0, .slice none 0 0] 26)) (.cells #[.int .i64 0, .slice none 0 0, .slice none 0 0] 26)
    rw [show (w.alloc (.cells #[.int .i64 0, .slice none 0 0, .slice none 0 0] 26)).heap.size = w.heap.size + 1 by simp] at this
    exact this
  have HZ1 : Hid (∀ W, Near R W1 W → Near R w W ∧ W.heap[w.heap.size]? = some (.cells #[.int .i64 0, .slice none 0 0, .slice none 0 0] 26 (0, 0)) ∧ W.heap[w.heap.size + 1]? = some (.cells #[.int .i64 0, .slice none 0 0, .slice none 0 0] 26 (0, 0))) := fun W hW => ⟨(Near.of_below hb1).trans hW, (hW.block _ (by omega) (by omega)).trans hq1, (hW.block _ (by omega) (by omega)).trans hq2⟩
  have HPk : Hid (Calls Tryz.prog 21 #[.pointer (some ⟨R, 0, none⟩), .int .i64 3] W1 (PickPost W1 R ao L cap p 3)) := pick_any W1 R ao L cap p 3 (h.same hb1) (by omega) (by omega) (by omega)
  have hz1' : w.heap.size + 2 ≤ W1.heap.size := by omega
  clear h hb1 hq1 hq2 hz1
  go_enter Tryz.func19, Tryz.ntmps19
  go_wp2_with fail
  rw [← hW1]
  clear hW1
  refine HPk.out.mono ?_
  rintro e w2 ⟨y, rfl, hy, hn2, hD2, -⟩
  have hs2 := hn2.size
  have HK : Hid (∀ top, Calls Tryz.prog 50 #[.pointer (some ⟨R, 0, none⟩), .bool top] w2 (DSPost m w2 R ao L cap (p + 1) 21064)) := fun top => l5SomeOk_any m R ao L cap (p + 1) top w2 (by omega) hD2 (by omega)
  have HN2 : Hid (Near R W1 w2) := hn2
  clear HPk hD2 hn2
  go_wp2_with fail
  refine (HK.out _).mono ?_
  rintro e w3 ⟨hn3, p3, a, c0, c1, c2, hp3, hD3, rfl, hk, hdk, hok⟩
  obtain ⟨u0, ua, ul, uc, ya, yl, yc, rfl, rfl, rfl⟩ := hk.shape
  have hs3 := hn3.size
  obtain ⟨W3, hW3⟩ : ∃ W3, W3 = w3.alloc (.cells #[.int .i64 u0, .slice ua ul uc, .slice ya yl yc] 26) := ⟨_, rfl⟩
  have ha3 : Below w3.heap.size w3 W3 := by rw [hW3]; exact (Below.refl _ _).alloc (Nat.le_refl _) _
  have hx3 : Box3 W3 w3.heap.size (.int .i64 u0) (.slice ua ul uc) (.slice ya yl yc) := by rw [hW3]; exact Box3.new _ _ _ _ _
  have hzz3 : w3.heap.size + 1 ≤ W3.heap.size := by rw [hW3]; simp
  have hk3 : KindIn (fun b => w2.heap.size ≤ b ∧ b < w3.heap.size) W3 m a (.int .i64 u0) (.slice ua ul uc) (.slice ya yl yc) := hk.keep (fun b hb => ha3.block b hb.2) (fun _ h => h)
  have HA : Hid (∀ W, Near R W3 W → KindIn (fun b => w2.heap.size ≤ b ∧ b < w3.heap.size) W m a (.int .i64 u0) (.slice ua ul uc) (.slice ya yl yc) ∧ Box3 W w3.heap.size (.int .i64 u0) (.slice ua ul uc) (.slice ya yl yc)) := fun W hW => ⟨hk3.keep (fun b hb => hW.block b (by omega) (by omega)) (fun _ h => h), ⟨hW.cell hx3.c0 (by omega), hW.cell hx3.c1 (by omega), hW.cell hx3.c2 (by omega)⟩⟩
  have HN3 : Hid (Near R W1 W3) := (HN2.out.trans hn3).trans (Near.of_below ha3)
  have HS0 : Hid (Near R W3 W3 ∧ Dr W3 R ao L cap p3) := ⟨Near.refl _ _, hD3.same ha3⟩
  have HDA : Hid (depK m a 4 ∧ okK m a = true) := ⟨hdk, hok⟩
  clear HK HN2 hn3 hD3 hk hdk hok ha3 hk3 hx3
  go_wp2_with fail
  rw [← hW3]
  clear hW3
  go_loopw [5] (fun iv wr => ∃ (i p' : Nat), i ≤ 3 ∧ iv = .int .i64 i ∧ Near R W3 wr ∧ Dr wr R ao L cap p' ∧ p' ≤ p3 + i * 28000) (fun iv _ => 3 - (intOf iv).toNat)
  case atStart => exact ⟨0, p3, by omega, rfl, HS0.out.1, HS0.out.2, by omega⟩
  case round =>
    obtain ⟨i, p', hi4, rfl, hnr, hD, hp'⟩ := hrel
    have hzr := hnr.size
    by_cases hlt : i < 3
    · have hlti : (i : Int) < 3 := by omega
      obtain ⟨hka, ⟨i0, i1, i2⟩⟩ := HA.out wr hnr
      have HWd : Hid (Calls Tryz.prog 26 #[.pointer (some ⟨R, 0, none⟩), .agg #[.int .i64 u0, .slice ua ul uc, .slice ya yl yc]] wr (DKPost m (2 * 4 + 3) wr R ao L cap p' (700 * cntK m a))) :=
        wider_any 4 m m R ao L cap p' _ a 1 _ _ _ wr (by omega) HDA.out.1 (okK_get HDA.out.2).1 (okK_get HDA.out.2).2 hka (fun b hb => ⟨by omega, by omega⟩) hD (by have := (okK_get HDA.out.2).2; omega)
      have HNr : Hid (Near R W3 wr) := hnr
      clear hnr hD HS0 hka
      go_wp2_with fail
      refine HWd.out.mono ?_
      rintro e w5 ⟨hn5, p5, k, d0, d1, d2, hp5, hD5, rfl, hk, hdk⟩
      obtain ⟨v0, va, vl, vc, za, zl, zc, rfl, rfl, rfl⟩ := hk.shape
      have hcnt := (okK_get HDA.out.2).2
      have hz5 := hn5.size
      obtain ⟨W6, hW6⟩ : ∃ W6, W6 = w5.alloc (.cells #[.int .i64 v0, .slice va vl vc, .slice za zl zc] 26) := ⟨_, rfl⟩
      have hb56 : Below w5.heap.size w5 W6 := by rw [hW6]; exact (Below.refl _ _).alloc (Nat.le_refl _) _
      have hx6 : Box3 W6 w5.heap.size (.int .i64 v0) (.slice va vl vc) (.slice za zl zc) := by rw [hW6]; exact Box3.new _ _ _ _ _
      have hzz6 : w5.heap.size + 1 ≤ W6.heap.size := by rw [hW6]; simp
      obtain ⟨hk6, hB6⟩ := hk.step (fun b hb => hb.2) hb56
      have HOk : Hid (Calls Tryz.prog 25 #[.agg #[.int .i64 v0, .slice va vl vc, .slice za zl zc]] W6 _) := specKOk_any m _ k _ _ _ W6 hk6 hB6
      have hn06 : Near R W3 W6 := (HNr.out.trans hn5).trans (Near.of_below hb56)
      have hD6 := hD5.same hb56
      clear HWd hn5 hD5 hk i0 i1 i2
      go_wp2_with fail
      rw [← hW6]
      clear hW6
      refine HOk.out.mono ?_
      rintro e w7 ⟨rfl, hb7⟩
      have hz7 := hb7.size
      obtain ⟨k0, k1, k2⟩ := hx6.keep hb7
      have hn07 := hn06.trans (Near.of_below hb7)
      have hD7 := hD6.same hb7
      have hk7 := (hk6.step hB6 hb7).1
      cases hok : okK m k with
      | true =>
        obtain ⟨hka, ⟨i0, i1, i2⟩⟩ := HA.out w7 hn07
        obtain ⟨q1, q2, q3⟩ := HZ1.out w7 (HN3.out.trans hn07)
        obtain ⟨⟨r0, r1, r2⟩, f0, f1, f2⟩ := zeroD_cells q2
        obtain ⟨⟨s0, s1, s2⟩, g0, g1, g2⟩ := zeroD_cells q3
        have HP : Hid (PairPost m w R ao L cap p 120000 (.returned (.tuple #[.agg #[.int .i64 u0, .slice ua ul uc, .slice ya yl yc], .agg #[.int .i64 v0, .slice va vl vc, .slice za zl zc]])) (put3 (put3 w7 w.heap.size 0 (.int .i64 u0) (.slice ua ul uc) (.slice ya yl yc)) (w.heap.size + 1) 0 (.int .i64 v0) (.slice va vl vc) (.slice za zl zc)).drew) :=
          PairPost.drew <| pair_exit HD0.out q1 hD7.box (by omega) (hka.keep (fun _ _ => rfl) (fun b hb => ⟨by omega, by omega⟩)) (hk7.keep (fun _ _ => rfl) (fun b hb => ⟨by omega, by omega⟩)) HDA.out.1 hdk HDA.out.2 hok
        have n1 : ¬ w.heap.size = w3.heap.size := by omega
        have n2 : ¬ w.heap.size = w5.heap.size := by omega
        have n3 : ¬ w.heap.size + 1 = w3.heap.size := by omega
        have n4 : ¬ w.heap.size + 1 = w5.heap.size := by omega
        clear HOk hb7 hb56 hx6 hk6 hn06 hD6 hn07 hD7 hk7 hok q1 q2 q3 HZ1 hka HA HDA HN3
        go_upto_region 7 with fail
        go_region_held (fun w' => (w'.cell? ⟨w3.heap.size, 0, none⟩ = some (.int .i64 u0) ∧ w'.cell? ⟨w3.heap.size, 1, none⟩ = some (.slice ua ul uc) ∧ w'.cell? ⟨w3.heap.size, 2, none⟩ = some (.slice ya yl yc)) ∧ (w'.cell? ⟨w5.heap.size, 0, none⟩ = some (.int .i64 v0) ∧ w'.cell? ⟨w5.heap.size, 1, none⟩ = some (.slice va vl vc) ∧ w'.cell? ⟨w5.heap.size, 2, none⟩ = some (.slice za zl zc))) (first | with_reducible assumption | go_keep) (fail)
        all_goals
          go_wp2_with fail
          refine bodyPost_ret (v := .tuple #[.agg #[.int .i64 u0, .slice ua ul uc, .slice ya yl yc], .agg #[.int .i64 v0, .slice va vl vc, .slice za zl zc]]) (by simp [results, Tryz.results19, go_sem, r0, r1, r2, s0, s1, s2]) rfl ?_
          exact HP.out
      | false =>
        have HR7 : Hid (Near R W3 w7 ∧ Dr w7 R ao L cap p5) := ⟨hn07, hD7⟩
        clear HOk hb7 hb56 hx6 hk6 hn06 hD6 hn07 hD7 hk7 hok k0 k1 k2
        go_wp2_with fail
        go_roundw
        case rel => exact ⟨i + 1, p5, by omega, by go_num, HR7.out.1, HR7.out.2, by omega⟩
        case measure => simp [intOf]; omega
    · have hlti : ¬ (i : Int) < 3 := by omega
      obtain ⟨hka, ⟨i0, i1, i2⟩⟩ := HA.out wr hnr
      obtain ⟨q1, q2, q3⟩ := HZ1.out wr (HN3.out.trans hnr)
      obtain ⟨⟨r0, r1, r2⟩, f0, f1, f2⟩ := zeroD_cells q2
      obtain ⟨⟨s0, s1, s2⟩, g0, g1, g2⟩ := zeroD_cells q3
      have HP : Hid (PairPost m w R ao L cap p 120000 (.returned (.tuple #[.agg #[.int .i64 u0, .slice ua ul uc, .slice ya yl yc], .agg #[.int .i64 u0, .slice ua ul uc, .slice ya yl yc]])) (put3 (put3 wr w.heap.size 0 (.int .i64 u0) (.slice ua ul uc) (.slice ya yl yc)) (w.heap.size + 1) 0 (.int .i64 u0) (.slice ua ul uc) (.slice ya yl yc)).drew) :=
        PairPost.drew <| pair_exit HD0.out q1 hD.box (by omega) (hka.keep (fun _ _ => rfl) (fun b hb => ⟨by omega, by omega⟩)) (hka.keep (fun _ _ => rfl) (fun b hb => ⟨by omega, by omega⟩)) HDA.out.1 (HDA.out.1.mono (by omega)) HDA.out.2 HDA.out.2
      have n1 : ¬ w.heap.size = w3.heap.size := by omega
      have n3 : ¬ w.heap.size + 1 = w3.heap.size := by omega
      clear HZ1 q1 q2 q3 hnr hD HS0 hka HA HDA HN3
      go_upto_region 8 with fail
      go_region_held (fun w' => (w'.cell? ⟨w3.heap.size, 0, none⟩ = some (.int .i64 u0) ∧ w'.cell? ⟨w3.heap.size, 1, none⟩ = some (.slice ua ul uc) ∧ w'.cell? ⟨w3.heap.size, 2, none⟩ = some (.slice ya yl yc))) (first | with_reducible assumption | go_keep) (fail)
      all_goals
        go_wp2_with fail
        refine bodyPost_ret (v := .tuple #[.agg #[.int .i64 u0, .slice ua ul uc, .slice ya yl yc], .agg #[.int .i64 u0, .slice ua ul uc, .slice ya yl yc]]) (by simp [results, Tryz.results19, go_sem, r0, r1, r2, s0, s1, s2]) rfl ?_
        exact HP.out

end Go.Proofs.YtdgepmgkhfkmcaaGreatDoor

/-
  What the specification draws: DrawKindWay, a schema into which a given one fits.
-/
namespace Go.Proofs.YtdgepmgkhfkmcaaGreatDoor
open Go.RowKit

theorem dep_of_good : ∀ (n : Nat) (k : K n) (d : Nat), goodK n k (d : Int) = true → cntK n k ≤ 40 → depK n k (7 - d) := by
  intro n
  induction n with
  | zero => intro k d h; simp [goodK] at h
  | succ n ih =>
    intro k d hg hc
    have hf := kids_few hg hc
    have hg' := hg
    simp only [goodK, Bool.and_eq_true, decide_eq_true_eq] at hg'
    have ha : aloneKF (Kd.sort k) (Kd.names k) (Kd.kids k).length = true := hg'.1.2
    have hnames : (Kd.names k).length ≤ 39 ∧ ∀ s, s ∈ Kd.names k → s.size ≤ 8 := by
      unfold aloneKF at ha
      split at ha
      · simp only [Bool.and_eq_true, beq_iff_eq] at ha
        have : Kd.names k = [] := List.eq_nil_of_length_eq_zero (by omega)
        rw [this]; exact ⟨by simp, fun s h => by cases h⟩
      split at ha
      · simp only [Bool.and_eq_true, beq_iff_eq] at ha
        have : Kd.names k = [] := List.eq_nil_of_length_eq_zero (by omega)
        rw [this]; exact ⟨by simp, fun s h => by cases h⟩
      split at ha
      · simp only [Bool.and_eq_true, beq_iff_eq] at ha
        have : Kd.names k = [] := List.eq_nil_of_length_eq_zero (by omega)
        rw [this]; exact ⟨by simp, fun s h => by cases h⟩
      split at ha
      · simp only [Bool.and_eq_true, beq_iff_eq] at ha
        have : Kd.names k = [] := List.eq_nil_of_length_eq_zero (by omega)
        rw [this]; exact ⟨by simp, fun s h => by cases h⟩
      split at ha
      · simp only [Bool.and_eq_true, beq_iff_eq] at ha
        exact ⟨by have := hf.1; omega, riseB_names _ ha.2⟩
      split at ha
      · simp only [Bool.and_eq_true, beq_iff_eq] at ha
        have : Kd.names k = [] := List.eq_nil_of_length_eq_zero (by omega)
        rw [this]; exact ⟨by simp, fun s h => by cases h⟩
      · cases ha
    have hd := hg'.1.1
    refine ⟨by omega, by omega, fun s hs => by have := hnames.2 s hs; omega, by have := hf.1; omega, fun q hq => ?_⟩
    have := ih q (d + 1) (by have := (hf.2 q hq).1; rwa [show ((d : Int) + 1) = ((d + 1 : Nat) : Int) by omega] at this) (hf.2 q hq).2
    rwa [show 7 - d - 1 = 7 - (d + 1) by omega]

/-- What drawing a wider schema makes: the given one, or a new one. -/
def WayPost (S : Nat → Prop) (w : World) (e : Ending) (w' : World) : Prop :=
  Below w.heap.size w w' ∧ ∃ (l : Nat) (k : K l) (c0 c1 c2 : Value), e = .returned (.agg #[c0, c1, c2]) ∧ KindIn (fun b => S b ∨ (w.heap.size ≤ b ∧ b < w'.heap.size)) w' l k c0 c1 c2

theorem way_exit {l : Nat} {S : Nat → Prop} {w W1 W : World} {k : K l} {c0 c1 c2 : Value} (h1 : Below w.heap.size w W1) (hz : W1.heap.size = w.heap.size + 2) (hb : Below W1.heap.size W1 W) (hS : ∀ b, S b → b < w.heap.size)
    (hk : KindIn (fun b => S b ∨ (W1.heap.size ≤ b ∧ b < W.heap.size)) W l k c0 c1 c2) : WayPost S w (.returned (.agg #[c0, c1, c2])) (put3 W (w.heap.size + 1) 0 c0 c1 c2) := by
  have hb2 : Below w.heap.size w W := below_step h1 h1.size hb
  refine ⟨put3_below hb2 (by omega), l, k, _, _, _, rfl, hk.keep (fun b hb => put3_other (hb.elim (fun h => by have := hS b h; omega) (fun h => by omega))) (fun b hb => hb.elim Or.inl (fun h => Or.inr ⟨by omega, by rw [put3_size]; exact h.2⟩))⟩

set_option maxRecDepth 20000 in
set_option maxHeartbeats 4000000 in
theorem drawKWay_any (m : Nat) (S S' : Nat → Prop) (k : K m) (c0 c1 c2 : Value) (w : World) (ao : Option Addr) (L cap : Nat) (hk : KindIn S' w m k c0 c1 c2) (hS' : ∀ b, S' b → b < w.heap.size) (h : CodeIn S w ao L cap) (hS : ∀ b, S b → b < w.heap.size) :
    Calls Tryz.prog 6 #[.agg #[c0, c1, c2], .slice ao L cap] w (WayPost S' w) := by
  obtain ⟨u0, uxa, uxl, uxc, uya, uyl, uyc, rfl, rfl, rfl⟩ := hk.shape
  obtain ⟨W1, hW1⟩ : ∃ W1, W1 = (w.alloc (.cells #[.int .i64 u0, .slice uxa uxl uxc, .slice uya uyl uyc] 26)).alloc (.cells #[.int .i64 0, .slice none 0 0, .slice none 0 0] 26) := ⟨_, rfl⟩
  have hz1 : W1.heap.size = w.heap.size + 2 := by rw [hW1]; simp
  have hb1 : Below w.heap.size w W1 := by rw [hW1]; exact ((Below.refl _ _).alloc (Nat.le_refl _) _).alloc (by simp) _
  have hx1 : Box3 W1 w.heap.size (.int .i64 u0) (.slice uxa uxl uxc) (.slice uya uyl uyc) := by rw [hW1]; exact (Box3.new w _ _ _ 26).keep ((Below.refl _ _).alloc (Nat.le_refl _) _)
  have hq1 : W1.heap[w.heap.size + 1]? = some (.cells #[.int .i64 0, .slice none 0 0, .slice none 0 0] 26 (0, 0)) := by
    rw [hW1]
    have := heap_alloc_new (w.alloc (.cells #[.int .i64 u0, .slice uxa uxl uxc, .slice uya uyl uyc] 26)) (.cells #[.int .i64 0, .slice none 0 0, .slice none 0 0] 26)
    rw [show (w.alloc (.cells #[.int .i64 u0, .slice uxa uxl uxc, .slice uya uyl uyc] 26)).heap.size = w.heap.size + 1 by simp] at this
    exact this
  have HO : Hid (Calls Tryz.prog 18 #[.slice ao L cap] W1 _) := l6Open_any S W1 ao L cap ⟨h.1, h.2.1, fun h0 => by
      obtain ⟨b, off, ha, hb, hc⟩ := h.2.2 h0
      exact ⟨b, off, ha, hb, fun j hj => by
        obtain ⟨u, hu, hcell⟩ := hc j hj
        exact ⟨u, hu, (World.cell?_of_block (hb1.block b (hS b hb))).trans hcell⟩⟩⟩ (fun b hb => by have := hS b hb; omega)
  have HZ : Hid (∀ W, Below W1.heap.size W1 W → (KindIn S' W m k (.int .i64 u0) (.slice uxa uxl uxc) (.slice uya uyl uyc) ∧ Box3 W w.heap.size (.int .i64 u0) (.slice uxa uxl uxc) (.slice uya uyl uyc)) ∧ W.heap[w.heap.size + 1]? = some (.cells #[.int .i64 0, .slice none 0 0, .slice none 0 0] 26 (0, 0))) := fun W hW => ⟨⟨(hk.keep (same_below hb1 hS') (fun _ h => h)).keep (fun b hb => hW.block b (by have := hS' b hb; omega)) (fun _ h => h), hx1.keep hW⟩, (hW.block _ (by omega)).trans hq1⟩
  have HX : Hid (Below w.heap.size w W1 ∧ W1.heap.size = w.heap.size + 2) := ⟨hb1, hz1⟩
  have hz1' : w.heap.size + 2 ≤ W1.heap.size := by omega
  clear h hb1 hq1 hz1 hx1 hk
  go_enter Tryz.func6, Tryz.ntmps6
  go_wp2_with fail
  rw [← hW1]
  clear hW1
  refine HO.out.mono ?_
  rintro e w1 ⟨hb1, R, rfl, hR, L', hD⟩
  have hRl := hD.lt
  have hs1 := hb1.size
  have hz := HZ.out w1 hb1
  have HOk : Hid (Calls Tryz.prog 25 #[.agg #[.int .i64 u0, .slice uxa uxl uxc, .slice uya uyl uyc]] w1 _) := specKOk_any m S' k _ _ _ w1 hz.1.1 (fun b hb => by have := hS' b hb; omega)
  have HB1 : Hid (Below W1.heap.size W1 w1) := hb1
  have HD1 : Hid (Dr w1 R ao L' cap 0) := hD
  obtain ⟨i0, i1, i2⟩ := hz.1.2
  clear HO hb1 hD hz
  go_wp2_with fail
  refine HOk.out.mono ?_
  rintro e w2 ⟨rfl, hb2⟩
  have hs2 := hb2.size
  have HB2 : Hid (Below W1.heap.size W1 w2) := below_step HB1.out HB1.out.size hb2
  have HD2 : Hid (Dr w2 R ao L' cap 0) := HD1.out.same hb2
  clear i0 i1 i2
  obtain ⟨⟨hk2, ⟨i0, i1, i2⟩⟩, hq2⟩ := HZ.out w2 HB2.out
  clear HOk HB1 HD1 hb2
  cases hok : okK m k with
  | false =>
    obtain ⟨⟨r0, r1, r2⟩, f0, f1, f2⟩ := zeroD_cells hq2
    have HP : Hid (WayPost S' w (.returned (.agg #[.int .i64 u0, .slice uxa uxl uxc, .slice uya uyl uyc])) (put3 w2 (w.heap.size + 1) 0 (.int .i64 u0) (.slice uxa uxl uxc) (.slice uya uyl uyc))) := way_exit HX.out.1 HX.out.2 HB2.out hS' (hk2.keep (fun _ _ => rfl) (fun _ h => Or.inl h))
    clear hk2 hq2 hok HZ HX HB2 HD2
    go_wp2_with fail
    refine bodyPost_ret (v := .agg #[.int .i64 u0, .slice uxa uxl uxc, .slice uya uyl uyc]) (by simp [results, Tryz.results6, go_sem, r0, r1, r2]) rfl ?_
    exact HP.out
  | true =>
    have HG : Hid (goodK m k 1 = true ∧ cntK m k ≤ 40) := okK_get hok
    have HDp : Hid (depK m k 6) := dep_of_good m k 1 (okK_get hok).1 (okK_get hok).2
    have HS0 : Hid (Near R w2 w2 ∧ Dr w2 R ao L' cap 0) := ⟨Near.refl _ _, HD2.out⟩
    have HN : Hid (∀ W, Near R w2 W → (KindIn S' W m k (.int .i64 u0) (.slice uxa uxl uxc) (.slice uya uyl uyc) ∧ Box3 W w.heap.size (.int .i64 u0) (.slice uxa uxl uxc) (.slice uya uyl uyc)) ∧ W.heap[w.heap.size + 1]? = some (.cells #[.int .i64 0, .slice none 0 0, .slice none 0 0] 26 (0, 0)) ∧ Below W1.heap.size W1 W) := fun W hW => by
      have hb := near_new HB2.out hR hW
      exact ⟨(HZ.out W hb).1, (HZ.out W hb).2, hb⟩
    clear hk2 hq2 hok i0 i1 i2 HD2
    go_wp2_with fail
    go_loopw [6] (fun iv wr => ∃ (i p' : Nat), i ≤ 3 ∧ iv = .int .i64 i ∧ Near R w2 wr ∧ Dr wr R ao L' cap p' ∧ p' ≤ i * 28000) (fun iv _ => 3 - (intOf iv).toNat)
    case atStart => exact ⟨0, 0, by omega, rfl, HS0.out.1, HS0.out.2, by omega⟩
    case round =>
      obtain ⟨i, p', hi4, rfl, hnr, hD, hp'⟩ := hrel
      have hzr := hnr.size
      obtain ⟨⟨hka, ⟨i0, i1, i2⟩⟩, hqr, hbr⟩ := HN.out wr hnr
      by_cases hlt : i < 3
      · have hlti : (i : Int) < 3 := by omega
        have hcnt := HG.out.2
        have HWd : Hid (Calls Tryz.prog 26 #[.pointer (some ⟨R, 0, none⟩), .agg #[.int .i64 u0, .slice uxa uxl uxc, .slice uya uyl uyc]] wr (DKPost 15 (2 * 6 + 3) wr R ao L' cap p' (700 * cntK m k))) :=
          wider_any 6 m 15 R ao L' cap p' _ k 1 _ _ _ wr (by omega) HDp.out HG.out.1 HG.out.2 hka (fun b hb => ⟨by have := hS' b hb; omega, by have := hS' b hb; omega⟩) hD (by omega)
        have HNr : Hid (Near R w2 wr) := hnr
        clear hnr hD HS0 hka hqr hbr
        go_wp2_with fail
        refine HWd.out.mono ?_
        rintro e w5 ⟨hn5, p5, k5, d0, d1, d2, hp5, hD5, rfl, hk5, hdk⟩
        obtain ⟨v0, vxa, vxl, vxc, vya, vyl, vyc, rfl, rfl, rfl⟩ := hk5.shape
        have hz5 := hn5.size
        obtain ⟨W6, hW6⟩ : ∃ W6, W6 = w5.alloc (.cells #[.int .i64 v0, .slice vxa vxl vxc, .slice vya vyl vyc] 26) := ⟨_, rfl⟩
        have hb56 : Below w5.heap.size w5 W6 := by rw [hW6]; exact (Below.refl _ _).alloc (Nat.le_refl _) _
        have hx6 : Box3 W6 w5.heap.size (.int .i64 v0) (.slice vxa vxl vxc) (.slice vya vyl vyc) := by rw [hW6]; exact Box3.new _ _ _ _ _
        have hzz6 : w5.heap.size + 1 ≤ W6.heap.size := by rw [hW6]; simp
        obtain ⟨hk6, hB6⟩ := hk5.step (fun b hb => hb.2) hb56
        have HOk : Hid (Calls Tryz.prog 25 #[.agg #[.int .i64 v0, .slice vxa vxl vxc, .slice vya vyl vyc]] W6 _) := specKOk_any 15 _ k5 _ _ _ W6 hk6 hB6
        have hn06 : Near R w2 W6 := (HNr.out.trans hn5).trans (Near.of_below hb56)
        have hD6 := hD5.same hb56
        clear HWd hn5 hD5 hk5 i0 i1 i2 hdk
        go_wp2_with fail
        rw [← hW6]
        clear hW6
        refine HOk.out.mono ?_
        rintro e w7 ⟨rfl, hb7⟩
        have hz7 := hb7.size
        obtain ⟨k0, k1, k2⟩ := hx6.keep hb7
        have hn07 := hn06.trans (Near.of_below hb7)
        have hD7 := hD6.same hb7
        have hk7 := (hk6.step hB6 hb7).1
        cases hok : okK 15 k5 with
        | true =>
          obtain ⟨-, q2, q3⟩ := HN.out w7 hn07
          obtain ⟨⟨r0, r1, r2⟩, f0, f1, f2⟩ := zeroD_cells q2
          have HP : Hid (WayPost S' w (.returned (.agg #[.int .i64 v0, .slice vxa vxl vxc, .slice vya vyl vyc])) (put3 w7 (w.heap.size + 1) 0 (.int .i64 v0) (.slice vxa vxl vxc) (.slice vya vyl vyc))) :=
            way_exit HX.out.1 HX.out.2 q3 hS' (hk7.keep (fun _ _ => rfl) (fun b hb => Or.inr ⟨by omega, by omega⟩))
          clear HOk hb7 hb56 hx6 hk6 hn06 hD6 hn07 hD7 hk7 hok q2 q3 HN HX HZ
          go_wp2_with fail
          refine bodyPost_ret (v := .agg #[.int .i64 v0, .slice vxa vxl vxc, .slice vya vyl vyc]) (by simp [results, Tryz.results6, go_sem, r0, r1, r2]) rfl ?_
          exact HP.out
        | false =>
          have HR7 : Hid (Near R w2 w7 ∧ Dr w7 R ao L' cap p5) := ⟨hn07, hD7⟩
          clear HOk hb7 hb56 hx6 hk6 hn06 hD6 hn07 hD7 hk7 hok k0 k1 k2
          go_wp2_with fail
          go_roundw
          case rel => exact ⟨i + 1, p5, by omega, by go_num, HR7.out.1, HR7.out.2, by omega⟩
          case measure => simp [intOf]; omega
      · have hlti : ¬ (i : Int) < 3 := by omega
        obtain ⟨⟨r0, r1, r2⟩, f0, f1, f2⟩ := zeroD_cells hqr
        have HP : Hid (WayPost S' w (.returned (.agg #[.int .i64 u0, .slice uxa uxl uxc, .slice uya uyl uyc])) (put3 wr (w.heap.size + 1) 0 (.int .i64 u0) (.slice uxa uxl uxc) (.slice uya uyl uyc))) := way_exit HX.out.1 HX.out.2 hbr hS' (hka.keep (fun _ _ => rfl) (fun _ h => Or.inl h))
        clear HZ HX HN hnr hD HS0 hka hqr hbr
        go_wp2_with fail
        refine bodyPost_ret (v := .agg #[.int .i64 u0, .slice uxa uxl uxc, .slice uya uyl uyc]) (by simp [results, Tryz.results6, go_sem, r0, r1, r2]) rfl ?_
        exact HP.out

end Go.Proofs.YtdgepmgkhfkmcaaGreatDoor
