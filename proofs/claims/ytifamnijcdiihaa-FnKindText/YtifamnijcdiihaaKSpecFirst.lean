/-
  The specification's l2First, KindFirst: what they answer.
-/
import Derived.Test.YtifamnijcdiihaaB1
import Derived.Test.YtifamnijcdiihaaB4
import Derived.Test.YtifamnijcdiihaaB6
import Derived.Test.YtifamnijcdiihaaKMade
import Derived.Deep.Cut
import Derived.Deep.CutRange
namespace Go.Proofs.Ytifamnijcdiihaa
open Go.RowKit

theorem Try.info_treeF : (Try.prog.info? 37).map (fun i => (i.zero, i.size, i.bytes)) = some (some (.agg #[.int .i64 0, .int .i64 0, .string ⟨#[]⟩, .slice none 0 0, .slice none 0 0]), 5, 80) := by kernel_rfl
theorem Try.info_strF : (Try.prog.info? 9).map (fun i => (i.zero, i.size, i.bytes)) = some (some (.string ⟨#[]⟩), 1, 16) := by kernel_rfl

/-- What was gathered, as a tree. -/
theorem many_tree {R X n B b0 : Nat} {w wr : World} {so : Int} {ns : List ByteArray} {ks : List (T n)} {nv kv d0 d1 d2 d3 d4 : Value} (h : Many R X n w wr so ns ks nv kv) {t : T (n + 1)} (hs : Nd.sort t = so) (hm : Nd.num t = 0) (ht : Nd.text t = ByteArray.empty) (hN : Nd.names t = ns) (hK : Nd.kids t = ks)
    (hwf : (Lit.int .i64 so).wf = true) (hl : ns.length ≤ 20000) (hk : ks.length ≤ 20000) (hb0 : b0 < X + 1) (hB : B ≤ X + 1) :
    TreeIn (fun b => B ≤ b ∧ b < (put5 wr b0 0 d0 d1 d2 d3 d4).heap.size) (put5 wr b0 0 d0 d1 d2 d3 d4) (n + 1) t (.int .i64 so) (.int .i64 0) (.string ByteArray.empty) nv kv := by
  have q : ∀ b, b ≠ b0 → (put5 wr b0 0 d0 d1 d2 d3 d4).heap[b]? = wr.heap[b]? := fun b h => put5_other h
  have hz : (put5 wr b0 0 d0 d1 d2 d3 d4).heap.size = wr.heap.size := put5_size
  generalize put5 wr b0 0 d0 d1 d2 d3 d4 = W at *
  obtain ⟨xs, hxs, hkk⟩ := h.kids
  have hnm := h.names
  refine ⟨by rw [hs], by rw [hm], by rw [ht], by rw [ht]; simp [maxLen], by rw [hs]; exact hwf, by rw [hm]; rfl, ?_, ?_⟩
  · rw [hN]
    refine strs_of_owns (owns_keep hnm fun g hg => ?_) hl h.short fun g hg => ?_
    · have := owns_lt hnm g hg
      exact q g (by omega)
    · have := owns_lt hnm g hg
      exact ⟨by omega, by omega⟩
  · rw [hK]
    refine row_of_owns (owns_keep hxs fun g hg => ?_) hk (fun g hg => ?_) fun q' hq' => ?_
    · have := owns_lt hxs g hg
      exact q g (by omega)
    · have := owns_lt hxs g hg
      exact ⟨by omega, by omega⟩
    · obtain ⟨c0, c1, c2, c3, c4, hd, hdt⟩ := hkk q' hq'
      refine ⟨c0, c1, c2, c3, c4, hd, hdt.keep (fun b hb => ?_) (fun b hb => ?_)⟩
      · have := hb.1
        exact q b (by omega)
      · have h1 := hb.1
        have h2 := hb.2.1
        exact ⟨by omega, by omega⟩

/-- l2First at schemas of at most n levels. -/
def FirstSSaid (n : Nat) : Prop := ∀ (S : Nat → Prop) (k : K n) (c0 c1 c2 : Value) (d : Int) (w : World), KindIn S w n k c0 c1 c2 → (∀ b, S b → b < w.heap.size) → goodK n k d = true → cntK n k ≤ 40 →
  Calls Try.prog 36 #[.agg #[c0, c1, c2]] w fun e w' => ∃ g0 g1 g2 g3 g4, e = .returned (.agg #[g0, g1, g2, g3, g4]) ∧ TreeIn (fun b => w.heap.size ≤ b ∧ b < w'.heap.size) w' n (firstT n k) g0 g1 g2 g3 g4 ∧ Below w.heap.size w w'

set_option maxRecDepth 100000 in
set_option maxHeartbeats 20000000 in
theorem l2First_step (n : Nat) (hn : FirstSSaid n) : FirstSSaid (n + 1) := by
  intro S k c0 c1 c2 d w hk hB hg hc
  have HN0 : Hid (¬ Kd.sort k = 5 → Kd.names k = []) := names_of_other hg
  have HF5 : Hid (Kd.sort k = 5 → (Kd.names k).length = (Kd.kids k).length ∧ riseB (Kd.names k) = true) := form_of hg
  have hg2 := hg
  simp only [goodK, Bool.and_eq_true] at hg2
  have HGK : Hid (∀ j (h : j < (Kd.kids k).length), goodK n (Kd.kids k)[j] (d + 1) = true ∧ cntK n (Kd.kids k)[j] ≤ 40) := by
    intro j h
    refine ⟨List.all_eq_true.1 hg2.2 _ (List.getElem_mem h), ?_⟩
    have := sumL_mono (fun x => cntK n x) (Kd.kids k) _ (List.getElem_mem h)
    simp only [cntK] at hc; omega
  have hkc : (Kd.kids k).length ≤ 40 := by have := sumK_ge (Kd.kids k) hg2.2; simp only [cntK] at hc; omega
  have hnc : (Kd.names k).length ≤ 40 := by
    by_cases h5 : Kd.sort k = 5
    · have := (HF5.out h5).1; omega
    · rw [HN0.out h5]; simp
  clear hg2 hg hc
  obtain ⟨rfl, hwf, h3, h4⟩ := hk
  obtain ⟨na, nc, rfl, -, -, hncell⟩ := id h3
  obtain ⟨ka, kc, rfl, -, hkcell⟩ := id h4
  generalize hs : Kd.sort k = so at *
  have HS : Hid (Kd.sort k = so) := hs
  clear hs
  obtain ⟨W2, hW2⟩ : ∃ W2, W2 = (w.alloc (.cells #[.int .i64 so, .slice na (Kd.names k).length nc, .slice ka (Kd.kids k).length kc] 26)).alloc (.cells #[.int .i64 0, .int .i64 0, .string ⟨#[]⟩, .slice none 0 0, .slice none 0 0] 37) := ⟨_, rfl⟩
  have hz2 : W2.heap.size = w.heap.size + 1 + 1 := by rw [hW2]; simp
  have hb2 : Below w.heap.size w W2 := by rw [hW2]; exact ((Below.refl _ _).alloc (Nat.le_refl _) _).alloc (by simp) _
  have m1 : W2.cell? ⟨w.heap.size, 1, none⟩ = some (.slice na (Kd.names k).length nc) := by rw [hW2]; simp [go_sem]
  have m2 : W2.cell? ⟨w.heap.size, 2, none⟩ = some (.slice ka (Kd.kids k).length kc) := by rw [hW2]; simp [go_sem]
  have mres : W2.heap[w.heap.size + 1]? = some (.cells #[.int .i64 0, .int .i64 0, .string ⟨#[]⟩, .slice none 0 0, .slice none 0 0] 37 (0, 0)) := by
    have := heap_alloc_new (w.alloc (.cells #[.int .i64 so, .slice na (Kd.names k).length nc, .slice ka (Kd.kids k).length kc] 26)) (.cells #[.int .i64 0, .int .i64 0, .string ⟨#[]⟩, .slice none 0 0, .slice none 0 0] 37)
    rw [hW2]; simpa using this
  go_enter Try.func36, Try.ntmps36
  go_wp2_with fail
  rw [← hW2]
  clear hW2
  go_loopw [4] (fun i wr => ∃ (j : Nat) (nv kv : Value), j ≤ (Kd.names k).length ∧ i = .int .i64 j ∧ Many w.heap.size (w.heap.size + 1 + 1) n W2 wr so ((Kd.names k).take j) (((Kd.kids k).map (fun x => firstT n x)).take j) nv kv ∧ Below (w.heap.size + 1 + 1) W2 wr) (fun i _ => (Kd.names k).length - (intOf i).toNat)
  case atStart =>
    refine ⟨0, .slice none 0 0, .slice none 0 0, Nat.zero_le _, rfl, ⟨Near.alloc _ _ _, ?_, ⟨by simp, .inl ⟨rfl, by simp⟩⟩, by simp, ⟨[], ⟨by simp, .inl ⟨rfl, by simp⟩⟩, fun j hj => absurd hj (by simp)⟩, fun b hb => by cases hb⟩, (Below.refl _ _).alloc (by omega) _⟩
    rw [← hz2]; exact heap_alloc_new _ _
  case round =>
    obtain ⟨j, nv, kv, hj, rfl, hM, hbel⟩ := hrel
    obtain ⟨nva, nvc, rfl⟩ := owns_shape hM.names
    obtain ⟨xs, hxs, hkids⟩ := hM.kids
    obtain ⟨kva, kvc, rfl⟩ := owns_shape hxs
    have hX := hM.lt
    have hzr := hbel.size
    have hlN : ((Kd.names k).take j).length = j := by simp; omega
    have i1 := (hbel.cell (p := ⟨w.heap.size, 1, none⟩) (by show w.heap.size < _; omega)).trans m1
    have i2 := (hbel.cell (p := ⟨w.heap.size, 2, none⟩) (by show w.heap.size < _; omega)).trans m2
    have hbw : Below w.heap.size w wr := hb2.trans (hbel.mono (by omega))
    have HM : Hid (Many w.heap.size (w.heap.size + 1 + 1) n W2 wr so ((Kd.names k).take j) (((Kd.kids k).map (fun x => firstT n x)).take j) (.slice nva ((Kd.names k).take j).length nvc) (.slice kva (((Kd.kids k).map (fun x => firstT n x)).take j).length kvc)) := hM
    have hbox := hM.box
    clear hM hkids hxs
    by_cases hlt : j < (Kd.names k).length
    · have h5 : Kd.sort k = 5 := Classical.byContradiction fun h => by rw [HS.out] at h; have := HN0.out h; rw [this] at hlt; exact absurd hlt (Nat.not_lt_zero _)
      have hf5 := HF5.out (by rw [← HS.out]; exact h5)
      have hltk : j < (Kd.kids k).length := by omega
      have hlK : (((Kd.kids k).map (fun x => firstT n x)).take j).length = j := by simp; omega
      obtain ⟨nb, noff, rfl, hnB, hncl⟩ := hncell (by intro h; rw [h] at hlt; simp at hlt)
      obtain ⟨kb, koff, rfl, hkB, hkcl⟩ := hkcell (by intro h; rw [h] at hltk; simp at hltk)
      obtain ⟨y0, y1, y2, e0, e1, e2, hyin⟩ := hkcl j hltk
      have hnb := hB nb hnB
      have hkb := hB kb hkB
      have f0 := (hbw.cell (p := ⟨nb, noff + j, none⟩) hnb).trans (hncl j hlt)
      have hszn := rise_short hf5.2 (Kd.names k)[j] (List.getElem_mem hlt)
      rw [hlN, hlK] at HM hbox
      have x3 : wr.cell? ⟨w.heap.size + 1 + 1, 3, none⟩ = some (.slice nva j nvc) := by simp [World.cell?, hbox]
      have HXN : Hid (wr.ownsRow (w.heap.size + 1 + 1 + 1) 9 1 (.slice nva j nvc) j (((Kd.names k).take j).map .string)) := by
        have := HM.out.names
        rw [hlN] at this; exact this
      obtain ⟨is0, hi0, hz0, hz1, hzb⟩ := info_parts Try.info_strF
      have HIS : Hid (_ ∧ _ ∧ _ ∧ _) := ⟨hi0, hz0, hz1, hzb⟩
      clear hi0 hz0 hz1 hzb
      have hoxN : ∀ o, (wr.drew.alloc o).ownsRow (w.heap.size + 1 + 1 + 1) 9 1 (.slice nva j nvc) j (((Kd.names k).take j).map .string) := fun o => HXN.out.drew.alloc o
      have HNT : Hid ((Kd.names k).take (j + 1) = (Kd.names k).take j ++ [(Kd.names k)[j]] ∧ ((Kd.kids k).map (fun x => firstT n x)).take (j + 1) = ((Kd.kids k).map (fun x => firstT n x)).take j ++ [firstT n (Kd.kids k)[j]]) := by
        refine ⟨List.take_succ_eq_append_getElem hlt, ?_⟩
        rw [List.take_succ_eq_append_getElem (by simpa using hltk)]; simp
      have HGJ : Hid _ := HGK.out j hltk
      have HY : Hid (KindIn S w n (Kd.kids k)[j] y0 y1 y2 ∧ w.cell? ⟨kb, koff + j * 3, none⟩ = some y0 ∧ w.cell? ⟨kb, koff + j * 3 + 1, none⟩ = some y1 ∧ w.cell? ⟨kb, koff + j * 3 + 2, none⟩ = some y2) := ⟨hyin, e0, e1, e2⟩
      have hkj : (j : Int) < ((Kd.kids k).length : Int) := by omega
      have hnb' : nb < wr.heap.size := by have := hbw.size; omega
      have hN0 : w.heap.size < wr.heap.size := by omega
      clear hncell hkcell hncl hkcl hyin e0 e1 e2 h5 hf5 hbox
      generalize (Kd.names k)[j] = nm at *
      generalize (Kd.kids k)[j] = kj at *
      go_upto_region 5 with fail
      go_cut [4] from 8 to 35 (fun i wx => i = .int .i64 j ∧ ∃ g cap, Many w.heap.size (w.heap.size + 1 + 1) n W2 wx so ((Kd.names k).take j ++ [nm]) (((Kd.kids k).map (fun x => firstT n x)).take j) (.slice (some ⟨g, 0, none⟩) (j + 1) cap) (.slice kva j kvc) ∧ Below (w.heap.size + 1 + 1) W2 wx)
      case first =>
        go_region_law (first
          | (refine step_append_lies _ (by rfl) (.tmp 16) (.tmp 22) 23 (by rfl) (w.heap.size + 1 + 1 + 1) 9 is0 _ 1 16 Try.underlying23 HIS.out.1 HIS.out.2.1 HIS.out.2.2.1 HIS.out.2.2.2 rfl (by decide) (.slice nva j nvc) j (((Kd.names k).take j).map .string) (by rfl) (hoxN _) ⟨wr.heap.size, 0, none⟩ 1 1 [.string nm] (by rfl) rfl (World.news_of_block (heap_alloc_new wr.drew _)) (by simp [Value.oneCell']) (by decide) (by unfold maxLen; omega) (by omega) (by simp; omega) (wr.heap.size + 1) (by simp) ?_; intro g cap w3 hown hgrow hat hlt3; have hb3 := ((hgrow.block (w.heap.size + 1 + 1) (by simp; omega) (fun e => by have := owns_lt HXN.out _ e.symm; omega)).trans (Below.heap_alloc _ _ _ (by simpa using hX))).trans HM.out.box; have x3'' : w3.cell? ⟨w.heap.size + 1 + 1, 3, none⟩ = some (.slice nva j nvc) := (by simp [World.cell?, hb3]); have xf'' : w3.frozen? ⟨w.heap.size + 1 + 1, 3, none⟩ = false := (by simp [World.frozen?, hb3])))
        all_goals
          have hMN := HM.out.name (Wa := wr.drew.alloc (.cells #[.string nm] 9)) (one := .cells #[.string nm] 9) (x := nm) (g := g) (cap := cap) (by omega) rfl ⟨rfl, rfl, rfl⟩ (by omega) (by rw [hlN]; exact hown) hgrow hat
          rw [hlN] at hMN
          have hb4 : Below (w.heap.size + 1 + 1) W2 (w3.setCell ⟨w.heap.size + 1 + 1, 3, none⟩ (.slice (some ⟨g, 0, none⟩) (j + 1) cap)) :=
            (((hbel.drew.alloc (by simp; omega) (.cells #[.string nm] 9)).grown hgrow (by simp; omega) (fun q hq => by have := owns_lt HXN.out q hq; omega)).setCell (Nat.le_refl _) _)
          have HMN : Hid _ := hMN
          have HB4 : Hid _ := hb4
          clear hMN hb4 hown hgrow hat hlt3 hb3 x3'' xf'' x3 f0 i1 i2
          go_wp2_with fail
          go_meet
          exact ⟨rfl, _, _, HMN.out, HB4.out⟩
      case rest =>
        obtain ⟨rfl, g, cap, hMN, hb4⟩ := hcut
        have hz4 := hMN.lt
        clear x3 f0 i1 i2
        obtain ⟨xs, hxs, hkids⟩ := hMN.kids
        rw [hlK] at hxs
        have hX4 := hMN.lt
        have hbox4 := hMN.box
        have x4 : wc.cell? ⟨w.heap.size + 1 + 1, 4, none⟩ = some (.slice kva j kvc) := by simp [World.cell?, hbox4]
        have i1 := (hb4.cell (p := ⟨w.heap.size, 1, none⟩) (by show w.heap.size < _; omega)).trans m1
        have i2 := (hb4.cell (p := ⟨w.heap.size, 2, none⟩) (by show w.heap.size < _; omega)).trans m2
        have hbwc : Below w.heap.size w wc := hb2.trans (hb4.mono (by omega))
        have p0 := (hbwc.cell (p := ⟨kb, koff + j * 3, none⟩) hkb).trans HY.out.2.1
        have p1 := (hbwc.cell (p := ⟨kb, koff + j * 3 + 1, none⟩) hkb).trans HY.out.2.2.1
        have p2 := (hbwc.cell (p := ⟨kb, koff + j * 3 + 2, none⟩) hkb).trans HY.out.2.2.2
        have HC : Hid (Calls Try.prog 36 _ _ _) := hn S kj y0 y1 y2 (d + 1) wc.drew (HY.out.1.keep (same_below hbwc.drew hB) (fun _ h => h)) (fun b hb => by have := hB b hb; have := hbwc.size; simp; omega) HGJ.out.1 HGJ.out.2
        have HXK : Hid (wc.ownsRow (w.heap.size + 1 + 1 + 1) 37 5 (.slice kva j kvc) j xs) := hxs
        have HKK : Hid (∀ q (h : q < (((Kd.kids k).map (fun x => firstT n x)).take j).length), _) := hkids
        have HMN : Hid (Many w.heap.size (w.heap.size + 1 + 1) n W2 wc so ((Kd.names k).take j ++ [nm]) (((Kd.kids k).map (fun x => firstT n x)).take j) (.slice (some ⟨g, 0, none⟩) (j + 1) cap) (.slice kva j kvc)) := hMN
        obtain ⟨it0, hi0, hz0, hz1, hzb⟩ := info_parts Try.info_treeF
        have HIT : Hid (_ ∧ _ ∧ _ ∧ _) := ⟨hi0, hz0, hz1, hzb⟩
        have hkb4 : kb < wc.heap.size := by have := hbwc.size; omega
        have hN4 : w.heap.size < wc.heap.size := by omega
        have hw5 : (wc.drew).heap.size = wc.heap.size := by simp
        clear hi0 hz0 hz1 hzb hxs hkids hMN hbox4 hoxN HM HXN hX hnb' hN0 hzr hbw
        go_wp2_with fail
        go_region_law (first
          | (refine step_append_lies _ (by rfl) (.tmp 26) (.tmp 33) 35 (by rfl) (w.heap.size + 1 + 1 + 1) 37 it0 _ 5 80 Try.underlying35 HIT.out.1 HIT.out.2.1 HIT.out.2.2.1 HIT.out.2.2.2 rfl (by decide) (.slice kva j kvc) j xs (by rfl) (hoxK _) ⟨w5.heap.size, 0, none⟩ 1 1 [.int .i64 u0, .int .i64 u1, .string u2, .slice ua ul uc, .slice va vl vc] (by rfl) rfl (World.news_of_block (heap_alloc_new w5 _)) (by simp [Value.oneCell']) (by decide) (by unfold maxLen; omega) (by omega) (by simp; omega) (w5.heap.size + 1) (by simp) ?_; intro g2 cap2 w6 hown6 hgrow6 hat6 hlt6; have hb6 := ((hgrow6.block (w.heap.size + 1 + 1) (by simp; omega) (fun e => by have := owns_lt HXK.out _ e.symm; omega)).trans (Below.heap_alloc _ _ _ (by omega))).trans hbx5; have x4'' : w6.cell? ⟨w.heap.size + 1 + 1, 4, none⟩ = some (.slice kva j kvc) := (by simp [World.cell?, hb6]); have xf4 : w6.frozen? ⟨w.heap.size + 1 + 1, 4, none⟩ = false := (by simp [World.frozen?, hb6]))
          | (go_simp; go_at_call 36; refine HC.out.mono ?_; rintro e w5 ⟨u0', u1', u2', u3', u4', rfl, hin5, hb5⟩; obtain ⟨u0, u1, u2, ua, ul, uc, va, vl, vc, rfl, rfl, rfl, rfl, rfl⟩ := hin5.shape; have hz5 : wc.heap.size ≤ w5.heap.size := (by have := hb5.size; simpa using this); have hbx5 := (hb5.block (w.heap.size + 1 + 1) (by simp; omega)).trans HMN.out.box; have hoxK : ∀ o, (w5.alloc o).ownsRow (w.heap.size + 1 + 1 + 1) 37 5 (.slice kva j kvc) j xs := (fun o => owns_keep HXK.out (fun g' hg' => by have := owns_lt HXK.out g' hg'; rw [Below.heap_alloc _ _ _ (by omega)]; exact hb5.block g' (by simp; omega))); have x4' : w5.cell? ⟨w.heap.size + 1 + 1, 4, none⟩ = some (.slice kva j kvc) := (by simp [World.cell?, hbx5]); have x4a : (w5.alloc (.cells #[.int .i64 u0, .int .i64 u1, .string u2, .slice ua ul uc, .slice va vl vc] 37)).cell? ⟨w.heap.size + 1 + 1, 4, none⟩ = some (.slice kva j kvc) := (World.cell?_of_block (Below.heap_alloc _ _ _ (by show w.heap.size + 1 + 1 < _; omega))).trans x4'))
        all_goals
          have hKd := Many.kid (W := wc.drew) (W1 := w5) (Wa := w5.alloc (.cells #[.int .i64 u0, .int .i64 u1, .string u2, .slice ua ul uc, .slice va vl vc] 37)) (one := .cells #[.int .i64 u0, .int .i64 u1, .string u2, .slice ua ul uc, .slice va vl vc] 37) (g := g2) (cap := cap2) (xs := xs)
            (HMN.out.keep (by omega) (Near.drew (Near.refl _ wc))) (by omega) (by omega) (Near.of_below hb5) hin5 rfl ⟨rfl, rfl, rfl⟩ (by rw [hlK]; exact HXK.out.drew)
            (fun q hq => by obtain ⟨d0, d1, d2, d3, d4, hd, hdt⟩ := HKK.out q hq; exact ⟨d0, d1, d2, d3, d4, hd, TreeIn.keep (w := wc) (w' := wc.drew) (fun _ _ => rfl) (fun _ h => h) hdt⟩) (by rw [hlK]; exact hown6) hgrow6 hat6
          rw [hlK] at hKd
          have HF : Hid (Many w.heap.size (w.heap.size + 1 + 1) n W2 (w6.setCell ⟨w.heap.size + 1 + 1, 4, none⟩ (.slice (some ⟨g2, 0, none⟩) (j + 1) cap2)) so ((Kd.names k).take (j + 1)) (((Kd.kids k).map (fun x => firstT n x)).take (j + 1)) (.slice (some ⟨g, 0, none⟩) (j + 1) cap) (.slice (some ⟨g2, 0, none⟩) (j + 1) cap2)) := by
            show Many _ _ _ _ _ _ _ _ _ _
            rw [HNT.out.1, HNT.out.2]; exact hKd
          have HB6 : Hid (Below (w.heap.size + 1 + 1) W2 (w6.setCell ⟨w.heap.size + 1 + 1, 4, none⟩ (.slice (some ⟨g2, 0, none⟩) (j + 1) cap2))) :=
            ((((hb4.drew.trans (hb5.mono (by simp; omega))).alloc (by omega) (.cells #[.int .i64 u0, .int .i64 u1, .string u2, .slice ua ul uc, .slice va vl vc] 37)).grown hgrow6 (by simp; omega) (fun q hq => by have := owns_lt HXK.out q hq; omega)).setCell (Nat.le_refl _) _)
          clear hKd hown6 hgrow6 hat6 hin5 hb5 hoxK x4' x4a x4'' xf4 hb6 hbx5
          go_wp2_with fail
          go_roundw
          case rel => exact ⟨j + 1, _, _, by omega, by go_num, HF.out, HB6.out⟩
          case measure => simp [intOf]; omega
    · have hjl : j = (Kd.names k).length := by omega
      have hres := (hbel.block (w.heap.size + 1) (by omega)).trans mres
      have r0 : wr.cell? ⟨w.heap.size + 1, 0, none⟩ = some (.int .i64 0) := by simp [World.cell?, hres]
      have r1 : wr.cell? ⟨w.heap.size + 1, 1, none⟩ = some (.int .i64 0) := by simp [World.cell?, hres]
      have r2 : wr.cell? ⟨w.heap.size + 1, 2, none⟩ = some (.string ⟨#[]⟩) := by simp [World.cell?, hres]
      have r3 : wr.cell? ⟨w.heap.size + 1, 3, none⟩ = some (.slice none 0 0) := by simp [World.cell?, hres]
      have r4 : wr.cell? ⟨w.heap.size + 1, 4, none⟩ = some (.slice none 0 0) := by simp [World.cell?, hres]
      have rf : ∀ o, wr.frozen? ⟨w.heap.size + 1, o, none⟩ = false := fun o => by simp [World.frozen?, hres]
      have rf0 := rf 0
      have rf1 := rf 1
      have rf2 := rf 2
      have rf3 := rf 3
      have rf4 := rf 4
      have y0 : wr.cell? ⟨w.heap.size + 1 + 1, 0, none⟩ = some (.int .i64 so) := by simp [World.cell?, hbox]
      have y1 : wr.cell? ⟨w.heap.size + 1 + 1, 1, none⟩ = some (.int .i64 0) := by simp [World.cell?, hbox]
      have y2 : wr.cell? ⟨w.heap.size + 1 + 1, 2, none⟩ = some (.string ByteArray.empty) := by simp [World.cell?, hbox]
      have y3 : wr.cell? ⟨w.heap.size + 1 + 1, 3, none⟩ = some (.slice nva ((Kd.names k).take j).length nvc) := by simp [World.cell?, hbox]
      have y4 : wr.cell? ⟨w.heap.size + 1 + 1, 4, none⟩ = some (.slice kva (((Kd.kids k).map (fun x => firstT n x)).take j).length kvc) := by simp [World.cell?, hbox]
      have HF : Hid (TreeIn (fun b => w.heap.size ≤ b ∧ b < (put5 wr (w.heap.size + 1) 0 (.int .i64 so) (.int .i64 0) (.string ByteArray.empty) (.slice nva ((Kd.names k).take j).length nvc) (.slice kva (((Kd.kids k).map (fun x => firstT n x)).take j).length kvc)).heap.size)
          (put5 wr (w.heap.size + 1) 0 (.int .i64 so) (.int .i64 0) (.string ByteArray.empty) (.slice nva ((Kd.names k).take j).length nvc) (.slice kva (((Kd.kids k).map (fun x => firstT n x)).take j).length kvc)) (n + 1) (firstT (n + 1) k) (.int .i64 so) (.int .i64 0) (.string ByteArray.empty) (.slice nva ((Kd.names k).take j).length nvc) (.slice kva (((Kd.kids k).map (fun x => firstT n x)).take j).length kvc)) := by
        have eN : Kd.names k = (Kd.names k).take j := by rw [hjl, List.take_length]
        have eK : (if Kd.sort k = 5 then (Kd.kids k).map (fun x => firstT n x) else []) = ((Kd.kids k).map (fun x => firstT n x)).take j := by
          by_cases h5 : Kd.sort k = 5
          · rw [if_pos h5, hjl, (HF5.out (by rw [← HS.out]; exact h5)).1, ← List.length_map (f := fun x => firstT n x), List.take_length]
          · rw [if_neg h5, hjl, HN0.out (by rw [← HS.out]; exact h5)]; rfl
        exact many_tree HM.out (t := firstT (n + 1) k) HS.out rfl rfl eN eK hwf (by simp; omega) (by simp; omega) (by omega) (by omega)
      have HB : Hid (Below w.heap.size w (put5 wr (w.heap.size + 1) 0 (.int .i64 so) (.int .i64 0) (.string ByteArray.empty) (.slice nva ((Kd.names k).take j).length nvc) (.slice kva (((Kd.kids k).map (fun x => firstT n x)).take j).length kvc))) := put5_below hbw (by omega)
      clear hncell hkcell hjl rf hres hbox HM hlN
      generalize ((Kd.names k).take j).length = ln at *
      generalize (((Kd.kids k).map (fun x => firstT n x)).take j).length = lk at *
      go_wp2_with fail
      refine bodyPost_ret (v := .agg #[.int .i64 so, .int .i64 0, .string ByteArray.empty, .slice nva ln nvc, .slice kva lk kvc]) (by simp [results, Try.results36, go_sem, r0, r1, r2, r3, r4]) rfl ?_
      exact ⟨_, _, _, _, _, rfl, HF.out, HB.out⟩

theorem l2First_any : ∀ n, FirstSSaid n := by
  intro n
  induction n with
  | zero => intro S k c0 c1 c2 d w hk; exact hk.elim
  | succ n ih => exact l2First_step n ih

end Go.Proofs.Ytifamnijcdiihaa
