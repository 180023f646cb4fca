/-
  What the specification draws: l5Tree at a maybe.
-/
import Derived.Test.YtpalkdcgbbbmeaaGreatDoorDT2
namespace Go.Proofs.YtpalkdcgbbbmeaaGreatDoor
open Go.RowKit

set_option maxRecDepth 20000 in
set_option maxHeartbeats 1000000 in
theorem l5Tree_maybe (m d R : Nat) (hn : DrawTSaid d) (ao : Option Addr) (L cap p : Nat) (k : K m) (S : Nat → Prop) (g : Int) (w : World) (h : Dr w R ao L cap p) (na : Option Addr) (nc kc b off : Nat) (q0 q1 q2 : Value) (hdk : depK m k d) (hg : goodK m k g = true) (hcn : cntK m k ≤ 40)
    (hS : ∀ b, S b → b < w.heap.size ∧ b ≠ R) (hb : S b) (hq0 : w.cell? ⟨b, off, none⟩ = some q0) (hq1 : w.cell? ⟨b, off + 1, none⟩ = some q1) (hq2 : w.cell? ⟨b, off + 2, none⟩ = some q2) (hk : KindIn S w m k q0 q1 q2) (hp : p + (4 + 40 * pt d) ≤ 900000) :
    Calls Tryz.prog 24 #[.pointer (some ⟨R, 0, none⟩), .agg #[.int .i64 6, .slice na 0 nc, .slice (some ⟨b, off, none⟩) 1 kc]] w (DTPost (m + 1) (d + 1) w R ao L cap p (4 + 40 * pt d)) := by
  have hR := h.lt
  obtain ⟨W1, hW1⟩ : ∃ W1, W1 = (w.alloc (.cells #[.int .i64 6, .slice na 0 nc, .slice (some ⟨b, off, none⟩) 1 kc] 26)).alloc (.cells #[.int .i64 0, .int .i64 0, .string ⟨#[]⟩, .slice none 0 0, .slice none 0 0] 29) := ⟨_, rfl⟩
  obtain ⟨W2, hW2⟩ : ∃ W2, W2 = W1.alloc (.cells #[.int .i64 6, .int .i64 0, .string ⟨#[]⟩, .slice none 0 0, .slice none 0 0] 29) := ⟨_, rfl⟩
  have HS : Hid (TStart m R ao L cap p w W1 W2 6 (.slice na 0 nc) (.slice (some ⟨b, off, none⟩) 1 kc)) := tstart m h hW1 hW2
  have HC : Hid (Calls Tryz.prog 25 #[.pointer (some ⟨R, 0, none⟩), .int .i64 3] W2 (PickPost W2 R ao L cap p 3)) := pick_any W2 R ao L cap p 3 HS.out.dr (by omega) (by omega) (by omega)
  have hz1 := HS.out.sz1
  have hz2 := HS.out.sz2
  have HN : Hid (DrawTSaid d ∧ depK m k d) := ⟨hn, hdk⟩
  have HQ : Hid ((∀ b, S b → b < w.heap.size ∧ b ≠ R) ∧ KindIn S w m k q0 q1 q2) := ⟨hS, hk⟩
  obtain ⟨hb1, hb2⟩ := hS b hb
  obtain ⟨v0, va, vl, vc, ya, yl, yc, rfl, rfl, rfl⟩ := hk.shape
  clear h hn hdk hS hk
  go_enter Tryz.func24, Tryz.ntmps24
  go_wp2_with fail
  rw [← hW1, ← hW2]
  clear hW1 hW2
  refine HC.out.mono ?_
  rintro e w3 ⟨y, rfl, hy, hn3, hD3, hz3⟩
  have hM := HS.out.many.keep (by omega) hn3
  have hnw : Near R w w3 := (HS.out.near.trans HS.out.many.near).trans hn3
  clear HC
  by_cases hy0 : y = 0
  · subst hy0
    obtain ⟨⟨x0, x1, x2, x3, x4⟩, y0, y1, y2, y3, y4⟩ := treeX_cells hM
    obtain ⟨⟨z0, z1, z2, z3, z4⟩, u0, u1, u2, u3, u4⟩ := zeroDT_cells ((hM.near.block (w.heap.size + 1) (by omega) (by omega)).trans HS.out.zero)
    have HP : Hid (DTPost (m + 1) (d + 1) w R ao L cap p (4 + 40 * pt d) (.returned (.agg #[.int .i64 6, .int .i64 0, .string ByteArray.empty, .slice none 0 0, .slice none 0 0])) (put5 w3 (w.heap.size + 1) 0 (.int .i64 6) (.int .i64 0) (.string ByteArray.empty) (.slice none 0 0) (.slice none 0 0))) :=
      dt_leaf HS.out hn3 hD3 (by omega) (fun b hb => rfl) (Below.refl 0 w3) rfl (by rfl) (by rfl) (by simp)
    clear hM hn3 hD3 HS HN HQ hnw
    go_wp2_with fail
    refine bodyPost_ret (v := .agg #[.int .i64 6, .int .i64 0, .string ByteArray.empty, .slice none 0 0, .slice none 0 0]) (by simp [results, Tryz.results24, go_sem, z0, z1, z2, z3, z4]) rfl ?_
    exact HP.out
  · have hyp : (0 : Int) < (y : Int) := by omega
    have kb := (hM.near.block w.heap.size (by omega) (by omega)).trans HS.out.kbox
    have k2 : w3.cell? ⟨w.heap.size, 2, none⟩ = some (.slice (some ⟨b, off, none⟩) 1 kc) := by simp [World.cell?, kb]
    have e0 := hnw.cell hq0 hb2
    have e1 := hnw.cell hq1 hb2
    have e2 := hnw.cell hq2 hb2
    have HK : Hid (Calls Tryz.prog 24 #[.pointer (some ⟨R, 0, none⟩), .agg #[.int .i64 v0, .slice va vl vc, .slice ya yl yc]] w3 (DTPost m d w3 R ao L cap (p + 1) (pt d))) :=
      HN.out.1 m R ao L cap (p + 1) k S g _ _ _ w3 HN.out.2 hg hcn (HQ.out.2.keep (fun b hb => hnw.block b (HQ.out.1 b hb).1 (HQ.out.1 b hb).2) (fun _ h => h)) (fun b hb => ⟨by have := (HQ.out.1 b hb).1; have := hnw.size; omega, (HQ.out.1 b hb).2⟩) hD3 (by omega)
    have HM : Hid (Many R (w.heap.size + 2) m W1 w3 6 [] [] (.slice none 0 0) (.slice none 0 0) ∧ Near R w w3) := ⟨hM, hnw⟩
    clear hM hnw hn3 hD3 hq0 hq1 hq2 kb
    go_wp2_with fail
    refine HK.out.mono ?_
    rintro e w4 ⟨hn4, p', t, c0, c1, c2, c3, c4, hp', hD4, rfl, ht, hdt⟩
    obtain ⟨t0, t1, t2, ta, tl, tc, ua, ul, uc, rfl, rfl, rfl, rfl, rfl⟩ := ht.shape
    have hz4 := hn4.size
    obtain ⟨W5, hW5⟩ : ∃ W5, W5 = w4.alloc (.cells #[.int .i64 t0, .int .i64 t1, .string t2, .slice ta tl tc, .slice ua ul uc] 29) := ⟨_, rfl⟩
    have hb5 : Below w4.heap.size w4 W5 := by rw [hW5]; exact (Below.refl _ _).alloc (Nat.le_refl _) _
    have hx5 : Box5 W5 w4.heap.size (.int .i64 t0) (.int .i64 t1) (.string t2) (.slice ta tl tc) (.slice ua ul uc) := by rw [hW5]; exact Box5.new _ _ _ _ _ _ _
    have hz5 : W5.heap.size = w4.heap.size + 1 := by rw [hW5]; simp
    have hM5 := HM.out.1.keep (by omega) (hn4.trans (Near.of_below hb5))
    obtain ⟨⟨x0, x1, x2, x3, x4⟩, y0, y1, y2, y3, y4⟩ := treeX_cells hM5
    obtain ⟨⟨z0, z1, z2, z3, z4⟩, u0, u1, u2, u3, u4⟩ := zeroDT_cells ((hM5.near.block (w.heap.size + 1) (by omega) (by omega)).trans HS.out.zero)
    have HP : Hid (DTPost (m + 1) (d + 1) w R ao L cap p (4 + 40 * pt d) (.returned (.agg #[.int .i64 6, .int .i64 0, .string ByteArray.empty, .slice none 0 0, .slice (some ⟨w4.heap.size, 0, none⟩) 1 1])) (put5 (W5.setCell ⟨w.heap.size + 2, 4, none⟩ (.slice (some ⟨w4.heap.size, 0, none⟩) 1 1)) (w.heap.size + 1) 0 (.int .i64 6) (.int .i64 0) (.string ByteArray.empty) (.slice none 0 0) (.slice (some ⟨w4.heap.size, 0, none⟩) 1 1))) := by
      have qs : ∀ a, a ≠ w.heap.size + 2 → (W5.setCell ⟨w.heap.size + 2, 4, none⟩ (.slice (some ⟨w4.heap.size, 0, none⟩) 1 1)).heap[a]? = W5.heap[a]? := fun a ha => Below.heap_setCell _ _ _ _ ha
      have hsz : (W5.setCell ⟨w.heap.size + 2, 4, none⟩ (.slice (some ⟨w4.heap.size, 0, none⟩) 1 1)).heap.size = W5.heap.size := by simp
      have hnr : Near R w W5 := (HM.out.2.trans hn4).trans (Near.of_below hb5)
      refine dt_exit HS.out.dr0 (by omega) ⟨hnr.os, hnr.tape, hnr.output, by rw [hsz]; exact hnr.size, fun a ha hne => (qs a (by omega)).trans (hnr.block a ha hne)⟩ ((qs R (by omega)).trans (hD4.same hb5).box) (by omega) (oneDT_in (by rfl) (by rfl) (by simp) ⟨by omega, by rw [hsz]; omega⟩ ?_ (t := t) (c0 := .int .i64 t0) (c1 := .int .i64 t1) (c2 := .string t2) (c3 := .slice ta tl tc) (c4 := .slice ua ul uc) ?_) hdt.one
      · exact ⟨(World.cell?_of_block (qs _ (by show w4.heap.size ≠ _; omega))).trans hx5.c0, (World.cell?_of_block (qs _ (by show w4.heap.size ≠ _; omega))).trans hx5.c1, (World.cell?_of_block (qs _ (by show w4.heap.size ≠ _; omega))).trans hx5.c2, (World.cell?_of_block (qs _ (by show w4.heap.size ≠ _; omega))).trans hx5.c3, (World.cell?_of_block (qs _ (by show w4.heap.size ≠ _; omega))).trans hx5.c4⟩
      · exact ht.keep (fun a ha => (qs a (by omega)).trans (hb5.block a ha.2)) (fun a ha => ⟨by omega, by rw [hsz]; omega⟩)
    clear HK hM5 hn4 hD4 ht hdt HS HN HQ HM hx5 hb5
    subst hW5
    go_wp2_with fail
    refine bodyPost_ret (v := .agg #[.int .i64 6, .int .i64 0, .string ByteArray.empty, .slice none 0 0, .slice (some ⟨w4.heap.size, 0, none⟩) 1 1]) (by simp [results, Tryz.results24, go_sem, z0, z1, z2, z3, z4]) rfl ?_
    exact HP.out

end Go.Proofs.YtpalkdcgbbbmeaaGreatDoor
