/-
 What the specification draws: l5Pair, two schemas, the second as wide as the first or wider.
-/
import Derived.Test.YtpalkdcgbbbmeaaGreatDoorDW2
import Derived.Test.YtpalkdcgbbbmeaaGreatDoorB8
import Derived.Test.YtpalkdcgbbbmeaaGreatDoorDP2
import Derived.Test.YtpalkdcgbbbmeaaGreatDoorB12
import Derived.Deep.RegionHeld
namespace Go.Proofs.YtpalkdcgbbbmeaaGreatDoor
open Go.RowKit

def PairPost (m : Nat) (w : World) (R : Nat) (ao : Option Addr) (L cap p q : Nat) (e : Ending) (w' : World) : Prop :=
 Near R w w' ∧ ∃ (p' : Nat) (a b : K m) (a0 a1 a2 b0 b1 b2 : Value), p' ≤ p + q ∧ Dr w' R ao L cap p' ∧ e = .returned (.tuple #[.agg #[a0, a1, a2], .agg #[b0, b1, b2]]) ∧ KindIn (fun b => w.heap.size ≤ b ∧ b < w'.heap.size) w' m a a0 a1 a2 ∧ KindIn (fun b => w.heap.size ≤ b ∧ b < w'.heap.size) w' m b b0 b1 b2 ∧
  depK m a 4 ∧ depK m b 11 ∧ okK m a = true ∧ okK m b = true

theorem pair_exit {m R L cap p p' q : Nat} {ao : Option Addr} {w W : World} {a b : K m} {a0 a1 a2 b0 b1 b2 : Value} (h : Dr w R ao L cap p) (hn : Near R w W) (hb : W.heap[R]? = some (.cells #[.slice ao L cap, .int .i64 (p' : Int)] 105 (0, 0))) (hp : p' ≤ p + q)
  (ha : KindIn (fun b => w.heap.size + 2 ≤ b ∧ b < W.heap.size) W m a a0 a1 a2) (hk : KindIn (fun b => w.heap.size + 2 ≤ b ∧ b < W.heap.size) W m b b0 b1 b2) (hda : depK m a 4) (hdb : depK m b 11) (hoa : okK m a = true) (hob : okK m b = true) :
  PairPost m w R ao L cap p q (.returned (.tuple #[.agg #[a0, a1, a2], .agg #[b0, b1, b2]])) (put3 (put3 W w.heap.size 0 a0 a1 a2) (w.heap.size + 1) 0 b0 b1 b2) := by
 have hR := h.lt
 have qq : ∀ b, b ≠ w.heap.size → b ≠ w.heap.size + 1 → (put3 (put3 W w.heap.size 0 a0 a1 a2) (w.heap.size + 1) 0 b0 b1 b2).heap[b]? = W.heap[b]? := fun b h h' => by rw [put3_other h', put3_other h]
 have hs : (put3 (put3 W w.heap.size 0 a0 a1 a2) (w.heap.size + 1) 0 b0 b1 b2).heap.size = W.heap.size := by
  rw [put3_size, put3_size]
 have hbW : Below w.heap.size W (put3 (put3 W w.heap.size 0 a0 a1 a2) (w.heap.size + 1) 0 b0 b1 b2) := put3_below (put3_below (Below.refl _ _) (Nat.le_refl _)) (by omega)
 have hn' : Near R w (put3 (put3 W w.heap.size 0 a0 a1 a2) (w.heap.size + 1) 0 b0 b1 b2) := ⟨hbW.os.trans hn.os, hbW.tape.trans hn.tape, hbW.output.trans hn.output, by rw [hs]; exact hn.size, fun b hb hne => (qq b (by omega) (by omega)).trans (hn.block b hb hne)⟩
 refine ⟨hn', p', a, b, a0, a1, a2, b0, b1, b2, hp, h.keep hn' ((qq R (by omega) (by omega)).trans hb), rfl, ha.keep (fun b hb => qq b (by omega) (by omega)) (fun b hb => ⟨by omega, by rw [hs]; exact hb.2⟩), hk.keep (fun b hb => qq b (by omega) (by omega)) (fun b hb => ⟨by omega, by rw [hs]; exact hb.2⟩), hda, hdb, hoa, hob⟩

theorem PairPost.drew {m R L cap p q : Nat} {ao : Option Addr} {w w' : World} {e : Ending} (h : PairPost m w R ao L cap p q e w') : PairPost m w R ao L cap p q e w'.drew := by
 obtain ⟨hn, p', a, b, a0, a1, a2, b0, b1, b2, hp, hD, he, hka, hkb, h1, h2, h3, h4⟩ := h
 exact ⟨hn.drew, p', a, b, a0, a1, a2, b0, b1, b2, hp, hD.same ((Below.refl _ _).drew), he, KindIn.keep (w := w') (w' := w'.drew) (fun _ _ => rfl) (fun _ h => h) hka, KindIn.keep (w := w') (w' := w'.drew) (fun _ _ => rfl) (fun _ h => h) hkb, h1, h2, h3, h4⟩

set_option maxRecDepth 20000 in
set_option maxHeartbeats 4000000 in
theorem l5Pair_any (m R : Nat) (ao : Option Addr) (L cap p : Nat) (w : World) (hm : 11 ≤ m) (h : Dr w R ao L cap p) (hp : p ≤ 700000) :
  Calls Tryz.prog 23 #[.pointer (some ⟨R, 0, none⟩)] w (PairPost m w R ao L cap p 120000) := by
 have hR := h.lt
 have HD0 : Hid (Dr w R ao L cap p) := h
 obtain ⟨W1, hW1⟩ : ∃ W1, W1 = (w.alloc (.cells #[.int .i64 0, .slice none 0 0, .slice none 0 0] 26)).alloc (.cells #[.int .i64 0, .slice none 0 0, .slice none 0 0] 26) := ⟨_, rfl⟩
 have hz1 : W1.heap.size = w.heap.size + 2 := by rw [hW1]; simp
 have hb1 : Below w.heap.size w W1 := by rw [hW1]; exact ((Below.refl _ _).alloc (Nat.le_refl _) _).alloc (by simp) _
 have hq1 : W1.heap[w.heap.size]? = some (.cells #[.int .i64 0, .slice none 0 0, .slice none 0 0] 26 (0, 0)) := by
  rw [hW1]
  have hb : Below (w.heap.size + 1) (w.alloc (.cells #[.int .i64 0, .slice none 0 0, .slice none 0 0] 26)) ((w.alloc (.cells #[.int .i64 0, .slice none 0 0, .slice none 0 0] 26)).alloc (.cells #[.int .i64 0, .slice none 0 0, .slice none 0 0] 26)) := (Below.refl _ _).alloc (by simp) _
  exact (hb.block _ (Nat.lt_succ_self _)).trans (heap_alloc_new _ _)
 have hq2 : W1.heap[w.heap.size + 1]? = some (.cells #[.int .i64 0, .slice none 0 0, .slice none 0 0] 26 (0, 0)) := by
  rw [hW1]
  have := heap_alloc_new (w.alloc (.cells #[.int .i64 0, .slice none 0 0, .slice none 0 0] 26)) (.cells #[.int .i64 0, .slice none 0 0, .slice none 0 0] 26)
  rw [show (w.alloc (.cells #[.int .i64 0, .slice none 0 0, .slice none 0 0] 26)).heap.size = w.heap.size + 1 by simp] at this
  exact this
 have HZ1 : Hid (∀ W, Near R W1 W → Near R w W ∧ W.heap[w.heap.size]? = some (.cells #[.int .i64 0, .slice none 0 0, .slice none 0 0] 26 (0, 0)) ∧ W.heap[w.heap.size + 1]? = some (.cells #[.int .i64 0, .slice none 0 0, .slice none 0 0] 26 (0, 0))) := fun W hW => ⟨(Near.of_below hb1).trans hW, (hW.block _ (by omega) (by omega)).trans hq1, (hW.block _ (by omega) (by omega)).trans hq2⟩
 have HPk : Hid (Calls Tryz.prog 25 #[.pointer (some ⟨R, 0, none⟩), .int .i64 3] W1 (PickPost W1 R ao L cap p 3)) := pick_any W1 R ao L cap p 3 (h.same hb1) (by omega) (by omega) (by omega)
 have hz1' : w.heap.size + 2 ≤ W1.heap.size := by omega
 clear h hb1 hq1 hq2 hz1
 go_enter Tryz.func23, Tryz.ntmps23
 go_wp2_with fail
 rw [← hW1]
 clear hW1
 refine HPk.out.mono ?_
 rintro e w2 ⟨y, rfl, hy, hn2, hD2, -⟩
 have hs2 := hn2.size
 have HK : Hid (∀ top, Calls Tryz.prog 58 #[.pointer (some ⟨R, 0, none⟩), .bool top] w2 (DSPost m w2 R ao L cap (p + 1) 21064)) := fun top => l5SomeOk_any m R ao L cap (p + 1) top w2 (by omega) hD2 (by omega)
 have HN2 : Hid (Near R W1 w2) := hn2
 clear HPk hD2 hn2
 go_wp2_with fail
 refine (HK.out _).mono ?_
 rintro e w3 ⟨hn3, p3, a, c0, c1, c2, hp3, hD3, rfl, hk, hdk, hok⟩
 obtain ⟨u0, ua, ul, uc, ya, yl, yc, rfl, rfl, rfl⟩ := hk.shape
 have hs3 := hn3.size
 obtain ⟨W3, hW3⟩ : ∃ W3, W3 = w3.alloc (.cells #[.int .i64 u0, .slice ua ul uc, .slice ya yl yc] 26) := ⟨_, rfl⟩
 have ha3 : Below w3.heap.size w3 W3 := by rw [hW3]; exact (Below.refl _ _).alloc (Nat.le_refl _) _
 have hx3 : Box3 W3 w3.heap.size (.int .i64 u0) (.slice ua ul uc) (.slice ya yl yc) := by rw [hW3]; exact Box3.new _ _ _ _ _
 have hzz3 : w3.heap.size + 1 ≤ W3.heap.size := by rw [hW3]; simp
 have hk3 : KindIn (fun b => w2.heap.size ≤ b ∧ b < w3.heap.size) W3 m a (.int .i64 u0) (.slice ua ul uc) (.slice ya yl yc) := hk.keep (fun b hb => ha3.block b hb.2) (fun _ h => h)
 have HA : Hid (∀ W, Near R W3 W → KindIn (fun b => w2.heap.size ≤ b ∧ b < w3.heap.size) W m a (.int .i64 u0) (.slice ua ul uc) (.slice ya yl yc) ∧ Box3 W w3.heap.size (.int .i64 u0) (.slice ua ul uc) (.slice ya yl yc)) := fun W hW => ⟨hk3.keep (fun b hb => hW.block b (by omega) (by omega)) (fun _ h => h), ⟨hW.cell hx3.c0 (by omega), hW.cell hx3.c1 (by omega), hW.cell hx3.c2 (by omega)⟩⟩
 have HN3 : Hid (Near R W1 W3) := (HN2.out.trans hn3).trans (Near.of_below ha3)
 have HS0 : Hid (Near R W3 W3 ∧ Dr W3 R ao L cap p3) := ⟨Near.refl _ _, hD3.same ha3⟩
 have HDA : Hid (depK m a 4 ∧ okK m a = true) := ⟨hdk, hok⟩
 clear HK HN2 hn3 hD3 hk hdk hok ha3 hk3 hx3
 go_wp2_with fail
 rw [← hW3]
 clear hW3
 go_loopw [5] (fun iv wr => ∃ (i p' : Nat), i ≤ 3 ∧ iv = .int .i64 i ∧ Near R W3 wr ∧ Dr wr R ao L cap p' ∧ p' ≤ p3 + i * 28000) (fun iv _ => 3 - (intOf iv).toNat)
 case atStart => exact ⟨0, p3, by omega, rfl, HS0.out.1, HS0.out.2, by omega⟩
 case round =>
  obtain ⟨i, p', hi4, rfl, hnr, hD, hp'⟩ := hrel
  have hzr := hnr.size
  by_cases hlt : i < 3
  ·
   have hlti : (i : Int) < 3 := by omega
   obtain ⟨hka, ⟨i0, i1, i2⟩⟩ := HA.out wr hnr
   have HWd : Hid (Calls Tryz.prog 59 #[.pointer (some ⟨R, 0, none⟩), .agg #[.int .i64 u0, .slice ua ul uc, .slice ya yl yc]] wr (DKPost m (2 * 4 + 3) wr R ao L cap p' (700 * cntK m a))) :=
    wider_any 4 m m R ao L cap p' _ a 1 _ _ _ wr (by omega) HDA.out.1 (okK_get HDA.out.2).1 (okK_get HDA.out.2).2 hka (fun b hb => ⟨by omega, by omega⟩) hD (by have := (okK_get HDA.out.2).2; omega)
   have HNr : Hid (Near R W3 wr) := hnr
   clear hnr hD HS0 hka
   go_wp2_with fail
   refine HWd.out.mono ?_
   rintro e w5 ⟨hn5, p5, k, d0, d1, d2, hp5, hD5, rfl, hk, hdk⟩
   obtain ⟨v0, va, vl, vc, za, zl, zc, rfl, rfl, rfl⟩ := hk.shape
   have hcnt := (okK_get HDA.out.2).2
   have hz5 := hn5.size
   obtain ⟨W6, hW6⟩ : ∃ W6, W6 = w5.alloc (.cells #[.int .i64 v0, .slice va vl vc, .slice za zl zc] 26) := ⟨_, rfl⟩
   have hb56 : Below w5.heap.size w5 W6 := by rw [hW6]; exact (Below.refl _ _).alloc (Nat.le_refl _) _
   have hx6 : Box3 W6 w5.heap.size (.int .i64 v0) (.slice va vl vc) (.slice za zl zc) := by rw [hW6]; exact Box3.new _ _ _ _ _
   have hzz6 : w5.heap.size + 1 ≤ W6.heap.size := by rw [hW6]; simp
   obtain ⟨hk6, hB6⟩ := hk.step (fun b hb => hb.2) hb56
   have HOk : Hid (Calls Tryz.prog 32 #[.agg #[.int .i64 v0, .slice va vl vc, .slice za zl zc]] W6 _) := specKOk_any m _ k _ _ _ W6 hk6 hB6
   have hn06 : Near R W3 W6 := (HNr.out.trans hn5).trans (Near.of_below hb56)
   have hD6 := hD5.same hb56
   clear HWd hn5 hD5 hk i0 i1 i2
   go_wp2_with fail
   rw [← hW6]
   clear hW6
   refine HOk.out.mono ?_
   rintro e w7 ⟨rfl, hb7⟩
   have hz7 := hb7.size
   obtain ⟨k0, k1, k2⟩ := hx6.keep hb7
   have hn07 := hn06.trans (Near.of_below hb7)
   have hD7 := hD6.same hb7
   have hk7 := (hk6.step hB6 hb7).1
   cases hok : okK m k with
   | true =>
    obtain ⟨hka, ⟨i0, i1, i2⟩⟩ := HA.out w7 hn07
    obtain ⟨q1, q2, q3⟩ := HZ1.out w7 (HN3.out.trans hn07)
    obtain ⟨⟨r0, r1, r2⟩, f0, f1, f2⟩ := zeroD_cells q2
    obtain ⟨⟨s0, s1, s2⟩, g0, g1, g2⟩ := zeroD_cells q3
    have HP : Hid (PairPost m w R ao L cap p 120000 (.returned (.tuple #[.agg #[.int .i64 u0, .slice ua ul uc, .slice ya yl yc], .agg #[.int .i64 v0, .slice va vl vc, .slice za zl zc]])) (put3 (put3 w7 w.heap.size 0 (.int .i64 u0) (.slice ua ul uc) (.slice ya yl yc)) (w.heap.size + 1) 0 (.int .i64 v0) (.slice va vl vc) (.slice za zl zc)).drew) :=
     PairPost.drew <| pair_exit HD0.out q1 hD7.box (by omega) (hka.keep (fun _ _ => rfl) (fun b hb => ⟨by omega, by omega⟩)) (hk7.keep (fun _ _ => rfl) (fun b hb => ⟨by omega, by omega⟩)) HDA.out.1 hdk HDA.out.2 hok
    have n1 : ¬ w.heap.size = w3.heap.size := by omega
    have n2 : ¬ w.heap.size = w5.heap.size := by omega
    have n3 : ¬ w.heap.size + 1 = w3.heap.size := by omega
    have n4 : ¬ w.heap.size + 1 = w5.heap.size := by omega
    clear HOk hb7 hb56 hx6 hk6 hn06 hD6 hn07 hD7 hk7 hok q1 q2 q3 HZ1 hka HA HDA HN3
    go_upto_region 7 with fail
    go_region_held (fun w' => (w'.cell? ⟨w3.heap.size, 0, none⟩ = some (.int .i64 u0) ∧ w'.cell? ⟨w3.heap.size, 1, none⟩ = some (.slice ua ul uc) ∧ w'.cell? ⟨w3.heap.size, 2, none⟩ = some (.slice ya yl yc)) ∧ (w'.cell? ⟨w5.heap.size, 0, none⟩ = some (.int .i64 v0) ∧ w'.cell? ⟨w5.heap.size, 1, none⟩ = some (.slice va vl vc) ∧ w'.cell? ⟨w5.heap.size, 2, none⟩ = some (.slice za zl zc))) (first | with_reducible assumption | go_keep) (fail)
    all_goals
     go_wp2_with fail
     refine bodyPost_ret (v := .tuple #[.agg #[.int .i64 u0, .slice ua ul uc, .slice ya yl yc], .agg #[.int .i64 v0, .slice va vl vc, .slice za zl zc]]) (by simp [results, Tryz.results23, go_sem, r0, r1, r2, s0, s1, s2]) rfl ?_
     exact HP.out
   | false =>
    have HR7 : Hid (Near R W3 w7 ∧ Dr w7 R ao L cap p5) := ⟨hn07, hD7⟩
    clear HOk hb7 hb56 hx6 hk6 hn06 hD6 hn07 hD7 hk7 hok k0 k1 k2
    go_wp2_with fail
    go_roundw
    case rel => exact ⟨i + 1, p5, by omega, by go_num, HR7.out.1, HR7.out.2, by omega⟩
    case measure => simp [intOf]; omega
  ·
   have hlti : ¬ (i : Int) < 3 := by omega
   obtain ⟨hka, ⟨i0, i1, i2⟩⟩ := HA.out wr hnr
   obtain ⟨q1, q2, q3⟩ := HZ1.out wr (HN3.out.trans hnr)
   obtain ⟨⟨r0, r1, r2⟩, f0, f1, f2⟩ := zeroD_cells q2
   obtain ⟨⟨s0, s1, s2⟩, g0, g1, g2⟩ := zeroD_cells q3
   have HP : Hid (PairPost m w R ao L cap p 120000 (.returned (.tuple #[.agg #[.int .i64 u0, .slice ua ul uc, .slice ya yl yc], .agg #[.int .i64 u0, .slice ua ul uc, .slice ya yl yc]])) (put3 (put3 wr w.heap.size 0 (.int .i64 u0) (.slice ua ul uc) (.slice ya yl yc)) (w.heap.size + 1) 0 (.int .i64 u0) (.slice ua ul uc) (.slice ya yl yc)).drew) :=
    PairPost.drew <| pair_exit HD0.out q1 hD.box (by omega) (hka.keep (fun _ _ => rfl) (fun b hb => ⟨by omega, by omega⟩)) (hka.keep (fun _ _ => rfl) (fun b hb => ⟨by omega, by omega⟩)) HDA.out.1 (HDA.out.1.mono (by omega)) HDA.out.2 HDA.out.2
   have n1 : ¬ w.heap.size = w3.heap.size := by omega
   have n3 : ¬ w.heap.size + 1 = w3.heap.size := by omega
   clear HZ1 q1 q2 q3 hnr hD HS0 hka HA HDA HN3
   go_upto_region 8 with fail
   go_region_held (fun w' => (w'.cell? ⟨w3.heap.size, 0, none⟩ = some (.int .i64 u0) ∧ w'.cell? ⟨w3.heap.size, 1, none⟩ = some (.slice ua ul uc) ∧ w'.cell? ⟨w3.heap.size, 2, none⟩ = some (.slice ya yl yc))) (first | with_reducible assumption | go_keep) (fail)
   all_goals
    go_wp2_with fail
    refine bodyPost_ret (v := .tuple #[.agg #[.int .i64 u0, .slice ua ul uc, .slice ya yl yc], .agg #[.int .i64 u0, .slice ua ul uc, .slice ya yl yc]]) (by simp [results, Tryz.results23, go_sem, r0, r1, r2, s0, s1, s2]) rfl ?_
    exact HP.out

end Go.Proofs.YtpalkdcgbbbmeaaGreatDoor
