/-
  What the specification draws: l5Tree at a form.
-/
import Derived.Test.YtpalkdcgbbbmeaaGreatDoorDT4
namespace Go.Proofs.YtpalkdcgbbbmeaaGreatDoor
open Go.RowKit

set_option maxRecDepth 20000 in
set_option maxHeartbeats 4000000 in
theorem l5Tree_form (m d R : Nat) (hn : DrawTSaid d) (ao : Option Addr) (L cap p : Nat) (na0 : List ByteArray) (ki : List (K m)) (len : Nat) (S : Nat → Prop) (g : Int) (w : World) (h : Dr w R ao L cap p) (ka : Option Addr) (nb : Option Addr) (nc kc : Nat) (hl1 : na0.length = len) (hl2 : ki.length = len) (hl39 : len ≤ 39)
    (hdk : ∀ k, k ∈ ki → depK m k d ∧ goodK m k g = true ∧ cntK m k ≤ 40) (hns : ∀ s, s ∈ na0 → s.size ≤ 10000)
    (hS : ∀ b, S b → b < w.heap.size ∧ b ≠ R) (hnm : StrsIn S w na0 (.slice nb len nc)) (hki : RowIn3 S w (KindIn S w m) ki (.slice ka len kc)) (hp : p + (4 + 40 * pt d) ≤ 900000) :
    Calls Tryz.prog 24 #[.pointer (some ⟨R, 0, none⟩), .agg #[.int .i64 5, .slice nb len nc, .slice ka len kc]] w (DTPost (m + 1) (d + 1) w R ao L cap p (4 + 40 * pt d)) := by
  have hR := h.lt
  obtain ⟨W1, hW1⟩ : ∃ W1, W1 = (w.alloc (.cells #[.int .i64 5, .slice nb len nc, .slice ka len kc] 26)).alloc (.cells #[.int .i64 0, .int .i64 0, .string ⟨#[]⟩, .slice none 0 0, .slice none 0 0] 29) := ⟨_, rfl⟩
  obtain ⟨W2, hW2⟩ : ∃ W2, W2 = W1.alloc (.cells #[.int .i64 5, .int .i64 0, .string ⟨#[]⟩, .slice none 0 0, .slice none 0 0] 29) := ⟨_, rfl⟩
  have HS : Hid (TStart m R ao L cap p w W1 W2 5 (.slice nb len nc) (.slice ka len kc)) := tstart m h hW1 hW2
  have hz1 := HS.out.sz1
  have hz2 := HS.out.sz2
  have HN : Hid (DrawTSaid d ∧ ∀ k, k ∈ ki → depK m k d ∧ goodK m k g = true ∧ cntK m k ≤ 40) := ⟨hn, hdk⟩
  have HSS : Hid (∀ b, S b → b < w.heap.size ∧ b ≠ R) := hS
  have HNam : Hid (∀ i, i < len → ∃ (b off : Nat) (nm : ByteArray), nb = some ⟨b, off, none⟩ ∧ b < w.heap.size ∧ b ≠ R ∧ nm.size ≤ 10000 ∧ w.cell? ⟨b, off + i, none⟩ = some (.string nm)) := fun i hi => by
    obtain ⟨ao', cap', hv, -, -, hc⟩ := hnm
    obtain ⟨b, off, ha, hB, hcell⟩ := hc (fun e => by rw [e] at hl1; simp at hl1; omega)
    have hin : i < na0.length := by omega
    cases hv
    exact ⟨b, off, na0[i], ha, (hS b hB).1, (hS b hB).2, hns _ (List.getElem_mem hin), hcell i hin⟩
  have HKid : Hid (∀ i, i < len → ∃ (b off : Nat) (k : K m) (v0 : Int) (va : Option Addr) (vl vc : Nat) (ya : Option Addr) (yl yc : Nat), ka = some ⟨b, off, none⟩ ∧ b < w.heap.size ∧ b ≠ R ∧ k ∈ ki ∧ KindIn S w m k (.int .i64 v0) (.slice va vl vc) (.slice ya yl yc) ∧ w.cell? ⟨b, off + i * 3, none⟩ = some (.int .i64 v0) ∧ w.cell? ⟨b, off + i * 3 + 1, none⟩ = some (.slice va vl vc) ∧ w.cell? ⟨b, off + i * 3 + 2, none⟩ = some (.slice ya yl yc)) := fun i hi => by
    obtain ⟨ao', cap', hv, -, hc⟩ := hki
    obtain ⟨b, off, ha, hB, hcell⟩ := hc (fun e => by rw [e] at hl2; simp at hl2; omega)
    have hin : i < ki.length := by omega
    cases hv
    obtain ⟨c0, c1, c2, h0, h1, h2, hk⟩ := hcell i hin
    obtain ⟨v0, va, vl, vc, ya, yl, yc, rfl, rfl, rfl⟩ := hk.shape
    exact ⟨b, off, ki[i], v0, va, vl, vc, ya, yl, yc, ha, (hS b hB).1, (hS b hB).2, List.getElem_mem hin, hk, h0, h1, h2⟩
  clear h hn hdk hS hnm hki hns hl1 hl2
  generalize hqe : pt d = qd at *
  go_enter Tryz.func24, Tryz.ntmps24
  go_wp2_with fail
  rw [← hW1, ← hW2]
  clear hW1 hW2
  generalize hXe : w.heap.size + 2 = X at *
  go_loopw [7] (fun iv wr => ∃ (i p' : Nat) (ns : List ByteArray) (ks : List (T m)) (na : Option Addr) (nc : Nat) (ka : Option Addr) (kc : Nat), i ≤ len ∧ iv = .int .i64 i ∧ ns.length = i ∧ ks.length = i ∧ Many R X m W1 wr 5 ns ks (.slice na i nc) (.slice ka i kc) ∧ Dr wr R ao L cap p' ∧ p' ≤ p + i * qd ∧ ∀ k, k ∈ ks → depT m k d) (fun iv _ => len - (intOf iv).toNat)
  case atStart => exact ⟨0, p, [], [], none, 0, none, 0, by omega, rfl, rfl, rfl, by rw [← hXe]; exact HS.out.many, HS.out.dr, by omega, fun k hk => by cases hk⟩
  case round =>
    obtain ⟨i, p', ns, ks, na, nc', ka', kc', hile, rfl, hnl, hkl, hM, hD, hp', hdep⟩ := hrel
    have hzr := hM.near.size
    have hXr := hM.lt
    have hmul : i * qd ≤ 39 * qd := Nat.mul_le_mul_right _ (by omega)
    have HM : Hid (Many R X m W1 wr 5 ns ks (.slice na i nc') (.slice ka' i kc')) := hM
    have HDr : Hid (Dr wr R ao L cap p') := hD
    have HDep : Hid ((ns.length = i ∧ ks.length = i) ∧ ∀ k, k ∈ ks → depT m k d) := ⟨⟨hnl, hkl⟩, hdep⟩
    have kb := (hM.near.block w.heap.size (by omega) (by omega)).trans HS.out.kbox
    have k1 : wr.cell? ⟨w.heap.size, 1, none⟩ = some (.slice nb len nc) := by simp [World.cell?, kb]
    by_cases hi0 : i = len
    · subst hi0
      obtain ⟨⟨x0, x1, x2, x3, x4⟩, y0, y1, y2, y3, y4⟩ := treeX_cells hM
      obtain ⟨⟨z0, z1, z2, z3, z4⟩, u0, u1, u2, u3, u4⟩ := zeroDT_cells ((hM.near.block (w.heap.size + 1) (by omega) (by omega)).trans HS.out.zero)
      have HP : Hid (DTPost (m + 1) (d + 1) w R ao L cap p (4 + 40 * qd) (.returned (.agg #[.int .i64 5, .int .i64 0, .string ByteArray.empty, .slice na i nc', .slice ka' i kc'])) (put5 wr (w.heap.size + 1) 0 (.int .i64 5) (.int .i64 0) (.string ByteArray.empty) (.slice na i nc') (.slice ka' i kc'))) :=
        dt_many HS.out (by rw [hXe]; exact HM.out) hD.box (by omega) (by rfl) (by rw [HDep.out.1.1]; omega) (by rw [HDep.out.1.2]; omega) HDep.out.2
      clear hM hD hdep hkl hnl HM HDr HDep HS HN HNam HKid kb
      go_wp2_with fail
      refine bodyPost_ret (v := .agg #[.int .i64 5, .int .i64 0, .string ByteArray.empty, .slice na i nc', .slice ka' i kc']) (by simp [results, Tryz.results24, go_sem, z0, z1, z2, z3, z4]) rfl ?_
      exact HP.out
    · have hlt : i < len := by omega
      have hlti : (i : Int) < (len : Int) := by omega
      have hnw : Near R w wr := HS.out.near.trans hM.near
      obtain ⟨bn, on, nm, hbn, hbn1, hbn2, hnm, hcn⟩ := HNam.out i hlt
      subst hbn
      have f0 := hnw.cell hcn hbn2
      have hmul2 : (i + 1) * qd = i * qd + qd := Nat.succ_mul _ _
      have x3 : wr.cell? ⟨X, 3, none⟩ = some (.slice na i nc') := (treeX_cells hM).1.2.2.2.1
      have HO : Hid (wr.ownsRow (X + 1) 9 1 (.slice na i nc') i (ns.map .string)) := by
        have := hM.names
        rw [hnl] at this; exact this
      have hoxN : ∀ o, (wr.drew.alloc o).ownsRow (X + 1) 9 1 (.slice na i nc') i (ns.map .string) := fun o => HO.out.drew.alloc o
      obtain ⟨is0, hi0', hy0, hy1, hyb⟩ := info_parts Tryz.info_strD
      have HIS : Hid (_ ∧ _ ∧ _ ∧ _) := ⟨hi0', hy0, hy1, hyb⟩
      clear hi0' hy0 hy1 hyb hcn hM hD hdep hnl hkl kb hnw hi0 HNam
      go_upto_region 21 with fail
      go_cut [7] from 62 to 90 (fun iv wx => iv = .int .i64 i ∧ ∃ g cap', Many R X m W1 wx 5 (ns ++ [nm]) ks (.slice (some ⟨g, 0, none⟩) (i + 1) cap') (.slice ka' i kc') ∧ Dr wx R ao L cap p')
      case first =>
        go_region_law (first
          | (refine step_append_lies _ (by rfl) (.tmp 70) (.tmp 76) 23 (by rfl) (X + 1) 9 is0 _ 1 16 Tryz.underlying23 HIS.out.1 HIS.out.2.1 HIS.out.2.2.1 HIS.out.2.2.2 rfl (by decide) (.slice na i nc') i (ns.map .string) (by rfl) (hoxN _) ⟨wr.heap.size, 0, none⟩ 1 1 [.string nm] (by rfl) rfl (World.news_of_block (heap_alloc_new wr.drew _)) (by simp [Value.oneCell']) (by decide) (by unfold maxLen; omega) (by omega) (by simp; omega) (wr.heap.size + 1) (by simp) ?_; intro g cap' w5 hown hgrow hat hlt5; have hb5 := (box_after (W := wr.drew) HO.out hXr (by omega) (Near.refl R wr.drew) hgrow).trans HM.out.box; have x3'' : w5.cell? ⟨X, 3, none⟩ = some (.slice na i nc') := (by simp [World.cell?, hb5]); have xf'' : w5.frozen? ⟨X, 3, none⟩ = false := (by simp [World.frozen?, hb5])))
        all_goals
          have hM2 := Many.name (W := wr.drew) (Wa := wr.drew.alloc (.cells #[.string nm] 9)) (one := .cells #[.string nm] 9) (x := nm) (g := g) (cap := cap') (HM.out.keep (by omega) ((Near.refl R wr).drewN 1)) (by omega) rfl ⟨rfl, rfl, rfl⟩ hnm (by rw [HDep.out.1.1]; exact hown) hgrow hat
          rw [HDep.out.1.1] at hM2
          have HM2 : Hid (Many R X m W1 (w5.setCell ⟨X, 3, none⟩ (.slice (some ⟨g, 0, none⟩) (i + 1) cap')) 5 (ns ++ [nm]) ks (.slice (some ⟨g, 0, none⟩) (i + 1) cap') (.slice ka' i kc')) := hM2
          have HDn : Hid (Dr (w5.setCell ⟨X, 3, none⟩ (.slice (some ⟨g, 0, none⟩) (i + 1) cap')) R ao L cap p') :=
            HS.out.dr0.keep (HS.out.near.trans hM2.near) (box_afterD (W := wr.drew) (w2 := wr.drew) (o := .cells #[.string nm] 9) HO.out (by omega) (by show R < wr.heap.size; omega) hgrow _ 3 HDr.out.box)
          clear hM2 hown hgrow hat hlt5 hb5 x3'' xf'' x3 f0
          go_wp2_with fail
          go_meet
          exact ⟨rfl, _, _, HM2.out, HDn.out⟩
      case rest =>
        obtain ⟨rfl, g', cap', hM2, hDc⟩ := hcut
        have hXc := hM2.lt
        have hzc := hM2.near.size
        have hnc : Near R w wc := HS.out.near.trans hM2.near
        have x4 : wc.cell? ⟨X, 4, none⟩ = some (.slice ka' i kc') := (treeX_cells hM2).1.2.2.2.2
        have kb := (hM2.near.block w.heap.size (by omega) (by omega)).trans HS.out.kbox
        obtain ⟨bk, ok, k, v0, va, vl, vc, ya, yl, yc, hbk, hbk1, hbk2, hkm, hkk0, hc0, hc1, hc2⟩ := HKid.out i hlt
        subst hbk
        have k2 : wc.cell? ⟨w.heap.size, 2, none⟩ = some (.slice (some ⟨bk, ok, none⟩) len kc) := by simp [World.cell?, kb]
        have e0 := hnc.cell hc0 hbk2
        have e1 := hnc.cell hc1 hbk2
        have e2 := hnc.cell hc2 hbk2
        have HK : Hid (Calls Tryz.prog 24 #[.pointer (some ⟨R, 0, none⟩), .agg #[.int .i64 v0, .slice va vl vc, .slice ya yl yc]] wc.drew (DTPost m d wc.drew R ao L cap p' (pt d))) :=
          HN.out.1 m R ao L cap p' k S g _ _ _ wc.drew (HN.out.2 k hkm).1 (HN.out.2 k hkm).2.1 (HN.out.2 k hkm).2.2 (KindIn.keep (w := w) (w' := wc.drew) (fun b hb => hnc.block b (HSS.out b hb).1 (HSS.out b hb).2) (fun _ h => h) hkk0) (fun b hb => ⟨by have := (HSS.out b hb).1; have := hnc.size; show b < wc.heap.size; omega, (HSS.out b hb).2⟩) (hDc.drewN 1) (by rw [hqe]; omega)
        rw [hqe] at HK
        obtain ⟨xs, hxs, hkk⟩ := hM2.kids
        have HKK : Hid (∀ q (h : q < ks.length), _) := hkk
        have HX : Hid (wc.ownsRow (X + 1) 29 5 (.slice ka' i kc') i xs) := by
          rw [HDep.out.1.2] at hxs; exact hxs
        have HM2 : Hid (Many R X m W1 wc 5 (ns ++ [nm]) ks (.slice (some ⟨g', 0, none⟩) (i + 1) cap') (.slice ka' i kc')) := hM2
        obtain ⟨ik0, hi0', hy0, hy1, hyb⟩ := info_parts Tryz.info_treeR
        have HIK : Hid (_ ∧ _ ∧ _ ∧ _) := ⟨hi0', hy0, hy1, hyb⟩
        clear hi0' hy0 hy1 hyb hxs hkk hM2 hDc x3 f0 HO HM HDr hoxN HKid kb hnc hkk0 hc0 hc1 hc2 k1
        go_wp2_with fail
        go_region_law (first
          | (refine step_append_lies _ (by rfl) (.tmp 80) (.tmp 88) 27 (by rfl) (X + 1) 29 ik0 _ 5 80 Tryz.underlying27 HIK.out.1 HIK.out.2.1 HIK.out.2.2.1 HIK.out.2.2.2 rfl (by decide) (.slice ka' i kc') i xs (by rfl) (hox2 _) ⟨v2.heap.size, 0, none⟩ 1 1 [.int .i64 t0, .int .i64 t1, .string t2, .slice ta tl tc, .slice ua ul uc] (by rfl) rfl (World.news_of_block (heap_alloc_new v2 _)) (by simp [Value.oneCell']) (by decide) (by unfold maxLen; omega) (by omega) (by simp; omega) (v2.heap.size + 1) (by simp) ?_; intro g2 cap2 v3 hown2 hgrow2 hat2 hlt2; have hb6 := (box_after (W := wc.drew) HX.out hXc (by omega) hn5 hgrow2).trans HM2.out.box; have x4'' : v3.cell? ⟨X, 4, none⟩ = some (.slice ka' i kc') := (by simp [World.cell?, hb6]); have xg'' : v3.frozen? ⟨X, 4, none⟩ = false := (by simp [World.frozen?, hb6]))
          | (go_simp; go_at_call 24; refine HK.out.mono ?_; rintro e v2 ⟨hn5, p5, t5, f0, f1, f2, f3, f4, hp5, hD5, rfl, ht5, hdt5⟩; obtain ⟨t0, t1, t2, ta, tl, tc, ua, ul, uc, rfl, rfl, rfl, rfl, rfl⟩ := ht5.shape; have hsz2 : wc.heap.size ≤ v2.heap.size := hn5.size; have hox2 := fun o => owns_on (R := R) (X := X) (W := wc.drew) HX.out (by omega) hn5 o; have x4' : v2.cell? ⟨X, 4, none⟩ = some (.slice ka' i kc') := (World.cell?_of_block (hn5.block X (by simpa using hXc) (by omega))).trans x4; have x4a : (v2.alloc (.cells #[.int .i64 t0, .int .i64 t1, .string t2, .slice ta tl tc, .slice ua ul uc] 29)).cell? ⟨X, 4, none⟩ = some (.slice ka' i kc') := (World.cell?_of_block (Below.heap_alloc _ _ _ (by show X < _; omega))).trans x4'))
        all_goals
          have hF := Many.kidD (g := g2) (cap := cap2) (xs := xs) 1 HM2.out (by omega) (by omega) hn5 ht5 (by rw [HDep.out.1.2]; exact HX.out) HKK.out (by rw [HDep.out.1.2]; exact hown2) hgrow2 hat2
          rw [HDep.out.1.2] at hF
          have HF : Hid (Many R X m W1 (v3.setCell ⟨X, 4, none⟩ (.slice (some ⟨g2, 0, none⟩) (i + 1) cap2)) 5 (ns ++ [nm]) (ks ++ [t5]) (.slice (some ⟨g', 0, none⟩) (i + 1) cap') (.slice (some ⟨g2, 0, none⟩) (i + 1) cap2)) := hF
          have HDn : Hid (Dr (v3.setCell ⟨X, 4, none⟩ (.slice (some ⟨g2, 0, none⟩) (i + 1) cap2)) R ao L cap p5) :=
            HS.out.dr0.keep (HS.out.near.trans hF.near) (box_afterD (W := wc.drew) HX.out (by omega) (by omega) hgrow2 _ 4 hD5.box)
          have HDep5 : Hid (∀ k, k ∈ ks ++ [t5] → depT m k d) := fun k hk => by
            rcases List.mem_append.1 hk with h | h
            · exact HDep.out.2 k h
            · rw [List.mem_singleton] at h; subst h; exact hdt5
          clear hF hown2 hgrow2 hat2 hlt2 ht5 hdt5 hD5 hn5 hox2 x4' x4a x4'' xg'' hb6
          go_wp2_with fail
          go_roundw
          case rel => exact ⟨i + 1, p5, ns ++ [nm], ks ++ [t5], some ⟨g', 0, none⟩, cap', some ⟨g2, 0, none⟩, cap2, by omega, by go_num, by simp [HDep.out.1.1], by simp [HDep.out.1.2], HF.out, HDn.out, by omega, HDep5.out⟩
          case measure => simp [intOf]; omega

end Go.Proofs.YtpalkdcgbbbmeaaGreatDoor
