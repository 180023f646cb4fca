/-
  Several texts in one, in their order.
-/
import Derived.Test.YthcdeahobjhkbaaGreatDoorB4
import Derived.Test.YthcdeahobjhkbaaGreatDoorB3
import Derived.Test.YthcdeahobjhkbaaGreatDoorJC0
import Derived.Test.YthcdeahobjhkbaaGreatDoorJ00
import Derived.Deep.RegionHeldLaw
import Derived.Deep.RegionLaw
import Derived.Deep.Cut
import Derived.Deep.CutRange
import Derived.Lib.Hide
import Derived.WalkSmall
import Derived.LoopTactic

/-
  What the specification's l3Copy answers: the schema anew.
-/
namespace Go.Proofs.YthcdeahobjhkbaaGreatDoor
open Go.RowKit

/-- A schema in new blocks. -/
def CopyPost (L : Nat) (r : K (L + 1)) (w : World) (e : Ending) (w' : World) : Prop :=
  Below w.heap.size w w' ∧ ∃ d0 d1 d2, e = .returned (.agg #[d0, d1, d2]) ∧ KindIn (fun b => w.heap.size ≤ b ∧ b < w'.heap.size) w' (L + 1) r d0 d1 d2

/-- l3Copy at schemas of at most n levels. -/
def CopySaid (n : Nat) : Prop := ∀ (L : Nat) (S : Nat → Prop) (k : K n) (g : Nat) (c0 c1 c2 : Value) (w : World), n ≤ L → goodK n k (g : Int) = true → cntK n k ≤ 40 → KindIn S w n k c0 c1 c2 → (∀ b, S b → b < w.heap.size) →
  Calls Tryz.prog 51 #[.agg #[c0, c1, c2]] w (CopyPost L (copyL L n k) w)

/-- What stands behind the first statement: the box of the answer, its names copied. -/
structure Begun (k : List ByteArray) (so : Int) (nv : Value) (X : Nat) (W2 W : World) : Prop where
  below : Below W2.heap.size W2 W
  box : W.heap[X]? = some (.cells #[.int .i64 so, nv, .slice none 0 0] 26 (0, 0))
  names : StrsIn (fun b => W2.heap.size ≤ b ∧ b < W.heap.size ∧ b ≠ X) W k nv
  x : W2.heap.size ≤ X

theorem begun_of {k : List ByteArray} {so : Int} {nv : Value} {X : Nat} {W2 U : World} (hb : Below W2.heap.size W2 U) (hz : U.heap[X]? = some (.cells #[.int .i64 0, .slice none 0 0, .slice none 0 0] 26 (0, 0))) (hX : W2.heap.size ≤ X) (hN : StrsIn (fun b => W2.heap.size ≤ b ∧ b < U.heap.size ∧ b ≠ X) U k nv) :
    Begun k so nv X W2 (((U.setCell ⟨X, 0, none⟩ (.int .i64 so)).setCell ⟨X, 1, none⟩ nv).setCell ⟨X, 2, none⟩ (.slice none 0 0)) := by
  refine ⟨j3_below hb hX, ?_, hN.keep (fun b hb => j3_other hb.2.2) (fun b hb => ⟨hb.1, by rw [j3_size]; exact hb.2.1, hb.2.2⟩), hX⟩
  simp [World.setCell, Array.getElem?_modify, hz]

theorem strs_copy {k : List ByteArray} {W2 w5 : World} {X g nl cap : Nat} {e : TypeId} (hown : w5.ownsRow W2.heap.size e 1 (.slice (some ⟨g, 0, none⟩) nl cap) nl (k.map .string)) (hk : k.length = nl) (hl : nl ≤ 20000) (hs : ∀ x, x ∈ k → x.size ≤ 10000) (hX : g ≠ X) : StrsIn (fun b => W2.heap.size ≤ b ∧ b < w5.heap.size ∧ b ≠ X) w5 k (.slice (some ⟨g, 0, none⟩) nl cap) := by
  subst hk
  refine strs_of_ownsK hown hl hs fun q hq => ?_
  have h := r1_lt hown q hq
  have e : g = q := by simpa [Value.ownBlock] using hq
  exact ⟨h.1, h.2, by omega⟩

/-- The row is copied first, then the box is made. -/
theorem begun_late {k : List ByteArray} {W2 V w5 : World} {E g nl cap : Nat} (hb : Below W2.heap.size W2 V) (hgrow : V.grownBy w5 (some E)) (hE : W2.heap.size ≤ E) (hown : w5.ownsRow W2.heap.size 9 1 (.slice (some ⟨g, 0, none⟩) nl cap) nl (k.map .string)) (hk : k.length = nl) (hl : nl ≤ 20000) (hs : ∀ x, x ∈ k → x.size ≤ 10000) (hg : g < w5.heap.size) :
    Below W2.heap.size W2 w5 ∧ Below W2.heap.size W2 (w5.alloc (.cells #[.int .i64 0, .slice none 0 0, .slice none 0 0] 26)) ∧ (w5.alloc (.cells #[.int .i64 0, .slice none 0 0, .slice none 0 0] 26)).heap[w5.heap.size]? = some (.cells #[.int .i64 0, .slice none 0 0, .slice none 0 0] 26 (0, 0)) ∧ W2.heap.size ≤ w5.heap.size ∧
      StrsIn (fun b => W2.heap.size ≤ b ∧ b < (w5.alloc (.cells #[.int .i64 0, .slice none 0 0, .slice none 0 0] 26)).heap.size ∧ b ≠ w5.heap.size) (w5.alloc (.cells #[.int .i64 0, .slice none 0 0, .slice none 0 0] 26)) k (.slice (some ⟨g, 0, none⟩) nl cap) := by
  have hb5 : Below W2.heap.size W2 w5 := hb.grown hgrow hb.size (fun q hq => by cases hq; exact hE)
  have hz := hb5.size
  refine ⟨hb5, hb5.alloc hz _, heap_alloc_new _ _, hz, ?_⟩
  exact (strs_copy (X := w5.heap.size) hown hk hl hs (by omega)).keep (fun b hb => Below.heap_alloc _ _ _ hb.2.1) (fun b hb => ⟨hb.1, by simp; omega, hb.2.2⟩)

/-- The box stands while the row is copied. -/
theorem begun_early {k : List ByteArray} {W2 V w5 : World} {E g nl cap X : Nat} (hb : Below W2.heap.size W2 V) (hgrow : V.grownBy w5 (some E)) (hE : W2.heap.size ≤ E) (hown : w5.ownsRow W2.heap.size 9 1 (.slice (some ⟨g, 0, none⟩) nl cap) nl (k.map .string)) (hk : k.length = nl) (hl : nl ≤ 20000) (hs : ∀ x, x ∈ k → x.size ≤ 10000) (hg : g = E ∨ g = V.heap.size) (hXE : X ≠ E)
    (hX : V.heap[X]? = some (.cells #[.int .i64 0, .slice none 0 0, .slice none 0 0] 26 (0, 0))) :
    Below W2.heap.size W2 w5 ∧ w5.heap[X]? = some (.cells #[.int .i64 0, .slice none 0 0, .slice none 0 0] 26 (0, 0)) ∧
      StrsIn (fun b => W2.heap.size ≤ b ∧ b < w5.heap.size ∧ b ≠ X) w5 k (.slice (some ⟨g, 0, none⟩) nl cap) := by
  have hXV : X < V.heap.size := (Array.getElem?_eq_some_iff.1 hX).1
  exact ⟨hb.grown hgrow hb.size (fun q hq => by cases hq; exact hE), (hgrow.block X hXV (fun e => hXE (by simpa using e))).trans hX, strs_copy hown hk hl hs (by omega)⟩

set_option maxRecDepth 20000 in
set_option maxHeartbeats 8000000 in
theorem copy_step (n : Nat) (hn : CopySaid n) : CopySaid (n + 1) := by
  intro L S k g c0 c1 c2 w hL hg hc40 hk hB
  obtain ⟨L, rfl⟩ : ∃ L', L = L' + 1 := ⟨L - 1, by omega⟩
  obtain ⟨hnl, hns, hkl, hfew⟩ := few_of_good hg hc40
  obtain ⟨rfl, hwf, h3, h4⟩ := hk
  obtain ⟨na, nc, rfl, -⟩ := id h3
  obtain ⟨ka, kc, rfl, -, hkc⟩ := id h4
  have HNm : Hid (StrsIn S w (Kd.names k) (.slice na (Kd.names k).length nc)) := h3
  have HKr : Hid (∀ i (hi : i < (Kd.kids k).length), ∃ b off c0 c1 c2, ka = some ⟨b, off, none⟩ ∧ S b ∧ w.cell? ⟨b, off + i * 3, none⟩ = some c0 ∧ w.cell? ⟨b, off + i * 3 + 1, none⟩ = some c1 ∧ w.cell? ⟨b, off + i * 3 + 2, none⟩ = some c2 ∧ KindIn S w n (Kd.kids k)[i] c0 c1 c2) := fun i hi => by
    obtain ⟨b, off, e, hb, hcell⟩ := hkc (fun e => by rw [e] at hi; simp at hi)
    obtain ⟨c0, c1, c2, q0, q1, q2, hkin⟩ := hcell i hi
    exact ⟨b, off, c0, c1, c2, e, hb, q0, q1, q2, hkin⟩
  have HDk : Hid (∀ x, x ∈ Kd.kids k → goodK n x ((g + 1 : Nat) : Int) = true ∧ cntK n x ≤ 40) := fun x hx => by
    have := hfew x hx
    rwa [show ((g : Int) + 1) = ((g + 1 : Nat) : Int) by omega] at this
  have HN : Hid (CopySaid n) := hn
  have HSS : Hid (∀ b, S b → b < w.heap.size) := hB
  have HWf : Hid ((Lit.int .i64 (Kd.sort k)).wf = true) := hwf
  have HNs : Hid (∀ x, x ∈ Kd.names k → x.size ≤ 10000) := hns
  generalize hs : Kd.sort k = so at *
  obtain ⟨kl, hkl0⟩ : ∃ kl, (Kd.kids k).length = kl := ⟨_, rfl⟩
  obtain ⟨nl, hnl0⟩ : ∃ nl, (Kd.names k).length = nl := ⟨_, rfl⟩
  rw [hkl0] at hkl
  rw [hnl0] at hnl
  rw [hkl0, hnl0]
  have HLn : Hid ((Kd.kids k).length = kl ∧ (Kd.names k).length = nl ∧ Kd.sort k = so) := ⟨hkl0, hnl0, hs⟩
  obtain ⟨W2, hW2⟩ : ∃ W2, W2 = (w.alloc (.cells #[.int .i64 so, .slice na nl nc, .slice ka kl kc] 26)).alloc (.cells #[.int .i64 0, .slice none 0 0, .slice none 0 0] 26) := ⟨_, rfl⟩
  have hz2 : W2.heap.size = w.heap.size + 2 := by rw [hW2]; simp
  have hb2 : Below w.heap.size w W2 := by rw [hW2]; exact ((Below.refl _ _).alloc (Nat.le_refl _) _).alloc (by simp) _
  have hkb : W2.heap[w.heap.size]? = some (.cells #[.int .i64 so, .slice na nl nc, .slice ka kl kc] 26 (0, 0)) := by rw [hW2, Below.heap_alloc _ _ _ (by simp)]; exact heap_alloc_new _ _
  have hzb : W2.heap[w.heap.size + 1]? = some (.cells #[.int .i64 0, .slice none 0 0, .slice none 0 0] 26 (0, 0)) := by
    have := heap_alloc_new (w.alloc (.cells #[.int .i64 so, .slice na nl nc, .slice ka kl kc] 26)) (.cells #[.int .i64 0, .slice none 0 0, .slice none 0 0] 26)
    rw [show (w.alloc (.cells #[.int .i64 so, .slice na nl nc, .slice ka kl kc] 26)).heap.size = w.heap.size + 1 by simp] at this
    rw [hW2]; exact this
  have HW : Hid (Below w.heap.size w W2 ∧ W2.heap.size = w.heap.size + 2) := ⟨hb2, hz2⟩
  have hz2a : w.heap.size + 2 ≤ W2.heap.size := Nat.le_of_eq hz2.symm
  have hz2b : W2.heap.size ≤ w.heap.size + 2 := Nat.le_of_eq hz2
  have HC : Hid (∀ W, Below W2.heap.size W2 W → W.cell? ⟨w.heap.size, 0, none⟩ = some (.int .i64 so) ∧ W.cell? ⟨w.heap.size, 1, none⟩ = some (.slice na nl nc)) := fun W hW => by
    have e := (hW.block w.heap.size (by omega)).trans hkb
    exact ⟨by simp [World.cell?, e], by simp [World.cell?, e]⟩
  have HXN : Hid (∀ W, Below W2.heap.size W2 W → ((Kd.names k).map Value.string).length = nl * 1 ∧ (∀ u ∈ (Kd.names k).map Value.string, u.oneCell' = true) ∧ (0 < nl → ∃ ad, na = some ad ∧ ∀ j u, ((Kd.names k).map Value.string)[j]? = some u → W.cell? (ad.add j) = some u)) := fun W hW => by
    have hN := HNm.out
    rw [HLn.out.2.1] at hN
    exact strs_news HLn.out.2.1 hN (fun b hb => (hW.block b (by have := HSS.out b hb; omega)).trans (hb2.block b (HSS.out b hb)))
  obtain ⟨is0, hi0, hy0, hy1, hyb⟩ := info_parts Tryz.info_strD
  have HIS : Hid (_ ∧ _ ∧ _ ∧ _) := ⟨hi0, hy0, hy1, hyb⟩
  have HB2 : Hid (W2.heap[w.heap.size]? = some (.cells #[.int .i64 so, .slice na nl nc, .slice ka kl kc] 26 (0, 0)) ∧ W2.heap[w.heap.size + 1]? = some (.cells #[.int .i64 0, .slice none 0 0, .slice none 0 0] 26 (0, 0))) := ⟨hkb, hzb⟩
  clear h3 h4 hkc hns hn hB hwf hg hc40 hfew hkb hzb hkl0 hnl0 hs hi0 hy0 hy1 hyb hb2 hz2
  go_enter Tryz.func51, Tryz.ntmps51
  go_upto_region 1 with fail
  rw [← hW2]
  clear hW2
  go_cut [3] from 5 to 30 (fun pv wx => ∃ (X : Nat) (nv : Value), pv = .pointer (some ⟨X, 0, none⟩) ∧ Begun (Kd.names k) so nv X W2 wx)
  case first =>
    have hbd : Below W2.heap.size W2 W2.drew := (Below.refl _ _).drew
    refine wp_region_held_drew (S := fun w' => w'.cell? ⟨w.heap.size, 0, none⟩ = some (.int .i64 so) ∧ w'.cell? ⟨w.heap.size, 1, none⟩ = some (.slice na nl nc)) (by kernel_rfl) (HC.out _ hbd) (fun hHeld => ?_)
    refine wpAnyH_take (i := 0) (v := ?_) rfl (by kernel_rfl) (by kernel_rfl) (by kernel_rfl) (fun _ _ _ h => h) (Or.inl ⟨by rfl, ?_⟩) (by assumption) ?_
    rotate_left 1
    · (intro wq hSw; (try dsimp only at hSw); go_simp; first | done | with_reducible rfl)
    refine wpAnyH_take (i := 1) (v := ?_) rfl (by kernel_rfl) (by kernel_rfl) (by kernel_rfl) (fun _ _ _ h => h) (Or.inl ⟨by rfl, ?_⟩) (by assumption) ?_
    rotate_left 1
    · (intro wq hSw; (try dsimp only at hSw); go_simp; first | done | with_reducible rfl)
    refine wpAnyH_take (i := 3) (v := ?_) rfl (by kernel_rfl) (by kernel_rfl) (by kernel_rfl) (fun _ _ _ h => h) (Or.inl ⟨by rfl, ?_⟩) (by assumption) ?_
    rotate_left 1
    · (intro wq hSw; (try dsimp only at hSw); go_simp; first | done | with_reducible rfl)
    refine wpAnyH_take (i := 4) (v := ?_) rfl (by kernel_rfl) (by kernel_rfl) (by kernel_rfl) (fun _ _ _ h => h) (Or.inl ⟨by rfl, ?_⟩) (by assumption) ?_
    rotate_left 1
    · (intro wq hSw; (try dsimp only at hSw); go_simp; first | done | with_reducible rfl)
    refine wpAnyH_ready (rs := [2, 7]) (by kernel_rfl) (by simp) ?_
    refine AllReadyH.cons rfl (fun K hK => ?_) (AllReadyH.cons rfl (fun K hK => ?_) AllReadyH.nil)
    · go_simp
      refine hK.out _ _ (HC.out _ (j_belowAD hbd)) (fun hHeld => ?_)
      clear hK K
      obtain ⟨VA, hVA⟩ : ∃ V, V = (W2.alloc (.cells #[] 9)).drew := ⟨_, rfl⟩
      rw [← hVA]
      have hbA : Below W2.heap.size W2 VA := by rw [hVA]; exact j_belowAD hbd
      have eA : VA.heap[W2.heap.size]? = some (.cells #[] 9 (0, 0)) := by rw [hVA]; exact heap_alloc_new W2 _
      have sA : W2.heap.size + 1 ≤ VA.heap.size := by rw [hVA]; show _ ≤ (W2.alloc _).heap.size; simp
      clear hVA
      refine wpAnyH_ready (rs := [5, 7]) (by kernel_rfl) (by simp) ?_
      refine AllReadyH.cons rfl (fun K hK => ?_) (AllReadyH.cons rfl (fun K hK => ?_) AllReadyH.nil)
      · refine step_copy VA (by rfl) (.tmp 7) (.tmp 9) 23 (by rfl) W2.heap.size 9 is0 _ 1 16 Tryz.underlying23 HIS.out.1 HIS.out.2.1 HIS.out.2.2.1 HIS.out.2.2.2 rfl (by decide) (W2.heap.size) (by rfl) eA (by omega) na nl nc ((Kd.names k).map .string) (by rfl) (HXN.out _ hbA).1 (HXN.out _ hbA).2.2 (HXN.out _ hbA).2.1 (by unfold maxLen; omega) (by omega) VA.heap.size rfl ?_
        intro g cap w5 hown hgrow hat hlt
        obtain ⟨hb5, hbU, hzU, hXU, hNU⟩ := begun_late hbA hgrow (Nat.le_refl _) hown HLn.out.2.1 (by omega) HNs.out hlt
        refine hK.out _ _ (HC.out _ hb5) (fun hHeld => ?_)
        clear hK K hown hgrow hat
        refine wpAnyH_take (i := 6) (v := ?_) rfl (by kernel_rfl) (by kernel_rfl) (by kernel_rfl) (fun _ _ _ h => h) (Or.inl ⟨by rfl, ?_⟩) (by assumption) ?_
        rotate_left 1
        · (intro wq hSw; (try dsimp only at hSw); go_simp; first | done | with_reducible rfl)
        refine wpAnyH_ready (rs := [7]) (by kernel_rfl) (by simp) ?_
        refine AllReadyH.cons rfl (fun K hK => ?_) AllReadyH.nil
        go_simp
        refine hK.out _ _ (HC.out _ hbU) (fun hHeld => ?_)
        clear hK K hHeld
        obtain ⟨X, hX⟩ : ∃ X, X = w5.heap.size := ⟨_, rfl⟩
        rw [← hX] at hzU hXU hNU ⊢
        obtain ⟨U, hU⟩ : ∃ V, V = w5.alloc (.cells #[.int .i64 0, .slice none 0 0, .slice none 0 0] 26) := ⟨_, rfl⟩
        rw [← hU]
        rw [← hU] at hbU hzU hNU
        clear hX hU hb5 hlt
        obtain ⟨⟨r0, r1, r2⟩, f0, f1, f2⟩ := j3_cells hzU
        have HF := Lib.hid (begun_of (so := so) hbU hzU hXU hNU)
        have hkept := HC.out _ (j3_below (g0 := .int .i64 so) (g1 := (.slice (some ⟨g, 0, none⟩) nl cap)) (g2 := .slice none 0 0) hbU hXU)
        refine wpAnyH_ready (rs := [8]) (by kernel_rfl) (by simp) ?_
        refine AllReadyH.cons rfl (fun K hK => ?_) AllReadyH.nil
        go_simp
        refine hK.out _ _ hkept (fun hHeld => ?_)
        clear hK K hkept r0 r1 r2 f0 f1 f2
        refine wpAnyH_done (by kernel_rfl) ?_ _
        go_wp2_with fail
        go_meet
        exact ⟨X, _, rfl, HF.out⟩
      · go_simp
        have hbB := hbA.alloc hbA.size (.cells #[.int .i64 0, .slice none 0 0, .slice none 0 0] 26)
        have zB := heap_alloc_new VA (.cells #[.int .i64 0, .slice none 0 0, .slice none 0 0] 26)
        have eB := (Below.heap_alloc VA (.cells #[.int .i64 0, .slice none 0 0, .slice none 0 0] 26) W2.heap.size (by omega)).trans eA
        refine hK.out _ _ (HC.out _ hbB) (fun hHeld => ?_)
        clear hK K
        obtain ⟨X, hX⟩ : ∃ X, X = VA.heap.size := ⟨_, rfl⟩
        rw [← hX] at zB ⊢
        obtain ⟨VB, hVB⟩ : ∃ V, V = VA.alloc (.cells #[.int .i64 0, .slice none 0 0, .slice none 0 0] 26) := ⟨_, rfl⟩
        rw [← hVB]
        rw [← hVB] at hbB zB eB
        have hXg : W2.heap.size < X := by omega
        clear hVB hX
        refine wpAnyH_ready (rs := [5]) (by kernel_rfl) (by simp) ?_
        refine AllReadyH.cons rfl (fun K hK => ?_) AllReadyH.nil
        refine step_copy VB (by rfl) (.tmp 7) (.tmp 9) 23 (by rfl) W2.heap.size 9 is0 _ 1 16 Tryz.underlying23 HIS.out.1 HIS.out.2.1 HIS.out.2.2.1 HIS.out.2.2.2 rfl (by decide) (W2.heap.size) (by rfl) eB (by omega) na nl nc ((Kd.names k).map .string) (by rfl) (HXN.out _ hbB).1 (HXN.out _ hbB).2.2 (HXN.out _ hbB).2.1 (by unfold maxLen; omega) (by omega) VB.heap.size rfl ?_
        intro g cap w5 hown hgrow hat hlt
        obtain ⟨hb5, hz5, hN5⟩ := begun_early (X := X) hbB hgrow (Nat.le_refl _) hown HLn.out.2.1 (by omega) HNs.out hat (by omega) zB
        refine hK.out _ _ (HC.out _ hb5) (fun hHeld => ?_)
        clear hK K hown hgrow hat
        refine wpAnyH_take (i := 6) (v := ?_) rfl (by kernel_rfl) (by kernel_rfl) (by kernel_rfl) (fun _ _ _ h => h) (Or.inl ⟨by rfl, ?_⟩) (by assumption) ?_
        rotate_left 1
        · (intro wq hSw; (try dsimp only at hSw); go_simp; first | done | with_reducible rfl)
        obtain ⟨⟨r0, r1, r2⟩, f0, f1, f2⟩ := j3_cells hz5
        have HF := Lib.hid (begun_of (so := so) hb5 hz5 (Nat.le_of_lt hXg) hN5)
        have hkept := HC.out _ (j3_below (g0 := .int .i64 so) (g1 := (.slice (some ⟨g, 0, none⟩) nl cap)) (g2 := .slice none 0 0) hb5 (Nat.le_of_lt hXg))
        refine wpAnyH_ready (rs := [8]) (by kernel_rfl) (by simp) ?_
        refine AllReadyH.cons rfl (fun K hK => ?_) AllReadyH.nil
        go_simp
        refine hK.out _ _ hkept (fun hHeld => ?_)
        clear hK K hkept r0 r1 r2 f0 f1 f2
        refine wpAnyH_done (by kernel_rfl) ?_ _
        go_wp2_with fail
        go_meet
        exact ⟨X, _, rfl, HF.out⟩
    · go_simp
      refine hK.out _ _ (HC.out _ (j_belowAD hbd)) (fun hHeld => ?_)
      clear hK K
      obtain ⟨X, hX⟩ : ∃ X, X = W2.heap.size := ⟨_, rfl⟩
      obtain ⟨VC, hVC⟩ : ∃ V, V = (W2.alloc (.cells #[.int .i64 0, .slice none 0 0, .slice none 0 0] 26)).drew := ⟨_, rfl⟩
      rw [← hVC]
      have hbC : Below W2.heap.size W2 VC := by rw [hVC]; exact j_belowAD hbd
      have zC : VC.heap[X]? = some (.cells #[.int .i64 0, .slice none 0 0, .slice none 0 0] 26 (0, 0)) := by rw [hVC, hX]; exact heap_alloc_new W2 _
      have sC : W2.heap.size + 1 ≤ VC.heap.size := by rw [hVC]; show _ ≤ (W2.alloc _).heap.size; simp
      have hXg : W2.heap.size ≤ X := Nat.le_of_eq hX.symm
      have hXl : X ≤ W2.heap.size := Nat.le_of_eq hX
      rw [← hX]
      clear hX
      clear hVC
      refine wpAnyH_ready (rs := [2]) (by kernel_rfl) (by simp) ?_
      refine AllReadyH.cons rfl (fun K hK => ?_) AllReadyH.nil
      go_simp
      have hbD := hbC.alloc hbC.size (.cells #[] 9)
      have eD := heap_alloc_new VC (.cells #[] 9)
      have zD := (Below.heap_alloc VC (.cells #[] 9) X (by omega)).trans zC
      refine hK.out _ _ (HC.out _ hbD) (fun hHeld => ?_)
      clear hK K
      obtain ⟨E, hE⟩ : ∃ E, E = VC.heap.size := ⟨_, rfl⟩
      rw [← hE] at eD ⊢
      obtain ⟨VD, hVD⟩ : ∃ V, V = VC.alloc (.cells #[] 9) := ⟨_, rfl⟩
      rw [← hVD]
      rw [← hVD] at hbD eD zD
      have hEg : W2.heap.size ≤ E := by omega
      have hXE : X ≠ E := by omega
      clear hVD hE
      refine wpAnyH_ready (rs := [5]) (by kernel_rfl) (by simp) ?_
      refine AllReadyH.cons rfl (fun K hK => ?_) AllReadyH.nil
      refine step_copy VD (by rfl) (.tmp 7) (.tmp 9) 23 (by rfl) W2.heap.size 9 is0 _ 1 16 Tryz.underlying23 HIS.out.1 HIS.out.2.1 HIS.out.2.2.1 HIS.out.2.2.2 rfl (by decide) (E) (by rfl) eD (by omega) na nl nc ((Kd.names k).map .string) (by rfl) (HXN.out _ hbD).1 (HXN.out _ hbD).2.2 (HXN.out _ hbD).2.1 (by unfold maxLen; omega) (by omega) VD.heap.size rfl ?_
      intro g cap w5 hown hgrow hat hlt
      obtain ⟨hb5, hz5, hN5⟩ := begun_early (X := X) hbD hgrow hEg hown HLn.out.2.1 (by omega) HNs.out hat (by omega) zD
      refine hK.out _ _ (HC.out _ hb5) (fun hHeld => ?_)
      clear hK K hown hgrow hat
      refine wpAnyH_take (i := 6) (v := ?_) rfl (by kernel_rfl) (by kernel_rfl) (by kernel_rfl) (fun _ _ _ h => h) (Or.inl ⟨by rfl, ?_⟩) (by assumption) ?_
      rotate_left 1
      · (intro wq hSw; (try dsimp only at hSw); go_simp; first | done | with_reducible rfl)
      obtain ⟨⟨r0, r1, r2⟩, f0, f1, f2⟩ := j3_cells hz5
      have HF := Lib.hid (begun_of (so := so) hb5 hz5 hXg hN5)
      have hkept := HC.out _ (j3_below (g0 := .int .i64 so) (g1 := (.slice (some ⟨g, 0, none⟩) nl cap)) (g2 := .slice none 0 0) hb5 hXg)
      refine wpAnyH_ready (rs := [8]) (by kernel_rfl) (by simp) ?_
      refine AllReadyH.cons rfl (fun K hK => ?_) AllReadyH.nil
      go_simp
      refine hK.out _ _ hkept (fun hHeld => ?_)
      clear hK K hkept r0 r1 r2 f0 f1 f2
      refine wpAnyH_done (by kernel_rfl) ?_ _
      go_wp2_with fail
      go_meet
      exact ⟨X, _, rfl, HF.out⟩
  case rest =>
    obtain ⟨X, nv, rfl, hBg⟩ := hcut
    have hXge := hBg.x
    obtain ⟨na', nc', rfl, -⟩ := id hBg.names
    have HBg := hidF hBg
    have hzc := hBg.below.size
    have hXc : X < wc.heap.size := (Array.getElem?_eq_some_iff.1 hBg.box).1
    have hbc : Below w.heap.size w wc := below_step HW.out.1 HW.out.1.size hBg.below
    have HBc := hidF hbc
    have HKb : Hid (wc.heap[w.heap.size]? = some (.cells #[.int .i64 so, .slice na nl nc, .slice ka kl kc] 26 (0, 0)) ∧ wc.heap[w.heap.size + 1]? = some (.cells #[.int .i64 0, .slice none 0 0, .slice none 0 0] 26 (0, 0))) := ⟨(hBg.below.block _ (by omega)).trans HB2.out.1, (hBg.below.block _ (by omega)).trans HB2.out.2⟩
    have k2 : wc.cell? ⟨w.heap.size, 2, none⟩ = some (.slice ka kl kc) := j3_at HKb.out.1 2 _ rfl
    clear hBg hbc
    go_wp2_with fail
    go_loopw [4] (fun iv wr => ∃ (i : Nat) (a : Option Addr) (c : Nat), i ≤ kl ∧ iv = .int .i64 i ∧ (∀ b, b < wc.heap.size → b ≠ X → wr.heap[b]? = wc.heap[b]?) ∧ GrowC w.heap.size X (L + 1) wc wr so (.slice na' (Kd.names k).length nc') (((Kd.kids k).take i).map (copyL L n)) (.slice a i c)) (fun iv _ => kl - (intOf iv).toNat)
    case atStart => exact ⟨0, none, 0, by omega, rfl, fun _ _ _ => rfl, GrowC.start HBg.out.box⟩
    case round =>
      obtain ⟨i, a, c, hi, rfl, hsm, hG⟩ := hrel
      have hzr := hG.near.size
      have hXr := hG.lt
      have HG := hidF hG
      have HKL : Hid ((((Kd.kids k).take i).map (copyL L n)).length = i) := by
        show _ = _
        have := HLn.out.1
        rw [List.length_map, List.length_take]; omega
      have HBlk : Hid (∀ b, b < wc.heap.size → b ≠ X → wr.heap[b]? = wc.heap[b]?) := hsm
      have HBk2 : Hid (wr.heap[w.heap.size]? = some (.cells #[.int .i64 so, .slice na nl nc, .slice ka kl kc] 26 (0, 0))) := (hsm _ (by omega) (by omega)).trans HKb.out.1
      have y2 : wr.cell? ⟨w.heap.size, 2, none⟩ = some (.slice ka kl kc) := j3_at HBk2.out 2 _ rfl
      clear hG k2 hsm
      by_cases hlt : i < kl
      case pos =>
        have hlti : (i : Int) < (kl : Int) := by omega
        have hik : i < (Kd.kids k).length := by have := HLn.out.1; omega
        obtain ⟨kb, koff, e0, e1, e2, hka, hSb, f0, f1, f2, hkin⟩ := HKr.out i hik
        have hSb' := HSS.out kb hSb
        have hsame : ∀ b, S b → wr.heap[b]? = w.heap[b]? := fun b hb => by
          have := HSS.out b hb
          exact (HBlk.out b (by omega) (by omega)).trans (HBc.out.block b this)
        have q0 := (World.cell?_of_block (a := ⟨kb, koff + i * 3, none⟩) (hsame kb hSb)).trans f0
        have q1 := (World.cell?_of_block (a := ⟨kb, koff + i * 3 + 1, none⟩) (hsame kb hSb)).trans f1
        have q2 := (World.cell?_of_block (a := ⟨kb, koff + i * 3 + 2, none⟩) (hsame kb hSb)).trans f2
        obtain ⟨u0, ua, ul, uc, ta, tl, tc, rfl, rfl, rfl⟩ := hkin.shape
        obtain ⟨hgi, hci⟩ := HDk.out _ (List.getElem_mem hik)
        have HCc : Hid (Calls Tryz.prog 51 #[.agg #[.int .i64 u0, .slice ua ul uc, .slice ta tl tc]] wr.drew (CopyPost L (copyL L n (Kd.kids k)[i]) wr.drew)) :=
          HN.out L S _ (g + 1) _ _ _ wr.drew (by omega) hgi hci (KindIn.keep (w' := wr.drew) hsame (fun _ h => h) hkin) (fun b hb => by have := HSS.out b hb; show b < wr.heap.size; omega)
        obtain ⟨xs, hxs, hkk⟩ := HG.out.kids
        have HKK := hidF hkk
        have HX : Hid (wr.ownsRow wc.heap.size 26 3 (.slice a i c) i xs) := by
          rw [HKL.out] at hxs; exact hxs
        have x2 : wr.cell? ⟨X, 2, none⟩ = some (.slice a i c) := j3_at HG.out.box 2 _ rfl
        obtain ⟨ik0, hi0, hy0, hy1, hyb⟩ := info_parts Tryz.info_kindD
        have HIK : Hid (_ ∧ _ ∧ _ ∧ _) := ⟨hi0, hy0, hy1, hyb⟩
        have HTk : Hid (((Kd.kids k).take (i + 1)).map (copyL L n) = ((Kd.kids k).take i).map (copyL L n) ++ [copyL L n (Kd.kids k)[i]]) := by
          show _ = _
          rw [List.take_succ_eq_append_getElem hik, List.map_append]; rfl
        clear hi0 hy0 hy1 hyb hxs hkk hsame f0 f1 f2 hkin hgi hci
        subst hka
        go_wp2_with fail
        go_region_law (first
            | (refine step_append_lies _ (by rfl) (.tmp 20) (.tmp 27) 24 (by rfl) wc.heap.size 26 ik0 _ 3 56 Tryz.underlying24 HIK.out.1 HIK.out.2.1 HIK.out.2.2.1 HIK.out.2.2.2 rfl (by decide) (.slice a i c) i xs (by rfl) (hox _) ⟨v2.heap.size, 0, none⟩ 1 1 [.int .i64 y0, .slice ya yl yc, .slice za zl zc] (by rfl) rfl (World.news_of_block (heap_alloc_new v2 _)) (by simp [Value.oneCell']) (by decide) (by unfold maxLen; omega) (by omega) (by simp; omega) (v2.heap.size + 1) (by simp) ?_; intro g2 cap2 v3 hown2 hgrow2 hat2 hlt2; have hb6 := (((hgrow2.block X (by simp; omega) (fun e => by have := r1_lt HX.out _ e.symm; omega)).trans (Below.heap_alloc _ _ _ (by omega))).trans (hb5.block X (by simpa using hXr))).trans HG.out.box; have x2'' : v3.cell? ⟨X, 2, none⟩ = some (.slice a i c) := (by simp [World.cell?, hb6]); have xg'' : v3.frozen? ⟨X, 2, none⟩ = false := (by simp [World.frozen?, hb6]))
            | (go_simp; go_at_call 51; refine HCc.out.mono ?_; rintro e v2 ⟨hb5, c0', c1', c2', rfl, hk5⟩; obtain ⟨y0, ya, yl, yc, za, zl, zc, rfl, rfl, rfl⟩ := hk5.shape; have hn5 := Near.of_below (bb := w.heap.size) hb5; have hsz2 : wr.heap.size ≤ v2.heap.size := hn5.size; have hox := fun o => owns_onG (R := w.heap.size) (M := wc.heap.size) (W := wr.drew) HX.out.drew (by omega) hn5 o; have x2' : v2.cell? ⟨X, 2, none⟩ = some (.slice a i c) := (World.cell?_of_block (hb5.block X (by simpa using hXr))).trans x2; have x2a : (v2.alloc (.cells #[.int .i64 y0, .slice ya yl yc, .slice za zl zc] 26)).cell? ⟨X, 2, none⟩ = some (.slice a i c) := (World.cell?_of_block (Below.heap_alloc _ _ _ (by show X < _; omega))).trans x2'))
        all_goals
          have hF := GrowC.kid (W := wr.drew) (W1 := v2) (Wa := v2.alloc (.cells #[.int .i64 y0, .slice ya yl yc, .slice za zl zc] 26)) (one := .cells #[.int .i64 y0, .slice ya yl yc, .slice za zl zc] 26) (g := g2) (cap := cap2) (xs := xs)
              (HG.out.keep (by omega) (by omega) ((Near.refl w.heap.size wr).drew)) (by omega) (by omega) (by omega) hn5 hk5 rfl ⟨rfl, rfl, rfl⟩ (by rw [HKL.out]; exact HX.out.drew)
              (fun q hq => by obtain ⟨a0, a1, a2, hd, hdt⟩ := HKK.out q hq; exact ⟨a0, a1, a2, hd, KindIn.keep (w := wr) (w' := wr.drew) (fun _ _ => rfl) (fun _ h => h) hdt⟩) (by rw [HKL.out]; exact hown2) hgrow2 hat2
          rw [HKL.out, ← HTk.out] at hF
          have HF := hidF hF
          have HSm : Hid (∀ b, b < wc.heap.size → b ≠ X → (v3.setCell ⟨X, 2, none⟩ (.slice (some ⟨g2, 0, none⟩) (i + 1) cap2)).heap[b]? = wc.heap[b]?) := fun b hb hne => by
            rw [Below.heap_setCell _ _ _ _ (by show b ≠ X; exact hne), blk_afterG (b := b) (W := wr.drew) (w2 := v2) HX.out.drew (by omega) hb hgrow2]
            exact (hb5.block b (by show b < wr.heap.size; omega)).trans (HBlk.out b hb hne)
          clear hF hown2 hgrow2 hat2 hlt2 hk5 hn5 hb5 hox x2' x2a x2'' xg'' hb6
          go_wp2_with fail
          go_roundw
          case rel => exact ⟨i + 1, some ⟨g2, 0, none⟩, cap2, by omega, by go_num, HSm.out, HF.out⟩
          case measure => simp [intOf]; omega
      have hge : ¬ (i : Int) < (kl : Int) := by omega
      obtain rfl : i = kl := by omega
      have hz1 : wr.heap[w.heap.size + 1]? = some (.cells #[.int .i64 0, .slice none 0 0, .slice none 0 0] 26 (0, 0)) := (HBlk.out _ (by omega) (by omega)).trans HKb.out.2
      obtain ⟨⟨r0, r1, r2⟩, f0, f1, f2⟩ := j3_cells hz1
      obtain ⟨⟨p0, p1, p2⟩, -⟩ := j3_cells HG.out.box
      have HFin : Hid (CopyPost (L + 1) (copyL (L + 1) (n + 1) k) w (.returned (.agg #[.int .i64 so, .slice na' (Kd.names k).length nc', .slice a i c])) (put3 wr (w.heap.size + 1) 0 (.int .i64 so) (.slice na' (Kd.names k).length nc') (.slice a i c))) := by
        have hbw : Below w.heap.size w wr := ⟨HG.out.near.os.trans HBc.out.os, HG.out.near.tape.trans HBc.out.tape, HG.out.near.output.trans HBc.out.output, by have := HBc.out.size; omega, fun b hb => (HBlk.out b (by omega) (by omega)).trans (HBc.out.block b hb)⟩
        have hall : ((Kd.kids k).take i).map (copyL L n) = (Kd.kids k).map (copyL L n) := by rw [List.take_of_length_le (by have := HLn.out.1; omega)]
        refine ⟨put3_below hbw (by omega), _, _, _, rfl, ?_⟩
        have hG2 := HG.out
        rw [hall] at hG2
        have hkl2 : ((Kd.kids k).map (copyL L n)).length ≤ 20000 := by have := HLn.out.1; rw [List.length_map]; omega
        have hN2 := HBg.out.names.keep (w' := put3 wr (w.heap.size + 1) 0 (.int .i64 so) (.slice na' (Kd.names k).length nc') (.slice a i c)) (S' := fun b => w.heap.size ≤ b ∧ b < (put3 wr (w.heap.size + 1) 0 (.int .i64 so) (.slice na' (Kd.names k).length nc') (.slice a i c)).heap.size) (fun b hb => (put3_other (by omega)).trans (HBlk.out b hb.2.1 hb.2.2)) (fun b hb => ⟨by omega, by rw [put3_size]; omega⟩)
        have := GrowC.kind (B := w.heap.size) (W := put3 wr (w.heap.size + 1) 0 (.int .i64 so) (.slice na' (Kd.names k).length nc') (.slice a i c)) hG2 HWf.out (fun b hb => put3_other (by omega)) (by rw [put3_size]; exact Nat.le_refl _) hN2 hkl2 (by omega)
        rw [← HLn.out.2.2] at this ⊢
        exact this
      unfold put3 at HFin
      clear hi hlt
      go_wp2_with fail
      refine bodyPost_ret (v := .agg #[.int .i64 so, .slice na' (Kd.names k).length nc', .slice a i c]) (by simp [results, Tryz.results51, go_sem, r0, r1, r2]) rfl ?_
      exact HFin.out

theorem l3Copy_any : ∀ n, CopySaid n := by
  intro n
  induction n with
  | zero => intro L S k; exact Empty.elim (show Empty from k)
  | succ n ih => exact copy_step n ih

end Go.Proofs.YthcdeahobjhkbaaGreatDoor

/-
  What the specification's l3Bare and l3Maybe answer.
-/
namespace Go.Proofs.YthcdeahobjhkbaaGreatDoor
open Go.RowKit

set_option maxRecDepth 20000 in
set_option maxHeartbeats 1000000 in
theorem l3Bare_no (S : Nat → Prop) (n : Nat) (k : K (n + 1)) (c0 c1 c2 : Value) (w : World) (hk : KindIn S w (n + 1) k c0 c1 c2) (h6 : Kd.sort k ≠ 6) :
    Calls Tryz.prog 31 #[.agg #[c0, c1, c2]] w fun e w' => Below w.heap.size w w' ∧ e = .returned (.agg #[c0, c1, c2]) := by
  obtain ⟨rfl, -, h3, h4⟩ := hk
  obtain ⟨na, nc, rfl, -⟩ := id h3
  obtain ⟨ka, kc, rfl, -, hkc⟩ := id h4
  have hbx : ∀ o1 o2 : Obj, Below w.heap.size w ((w.alloc o1).alloc o2) := fun o1 o2 => ((Below.refl _ _).alloc (Nat.le_refl _) _).alloc (by simp) _
  have HB := Lib.hid hbx
  generalize Kd.sort k = so at *
  clear h3 h4 hkc hbx
  go_enter Tryz.func31, Tryz.ntmps31
  go_wp2_with fail
  refine bodyPost_ret (v := .agg #[.int .i64 so, .slice na (Kd.names k).length nc, .slice ka (Kd.kids k).length kc]) (by simp [results, Tryz.results31, go_sem]) rfl ?_
  exact ⟨HB.out _ _, rfl⟩

set_option maxRecDepth 20000 in
set_option maxHeartbeats 1000000 in
theorem l3Maybe_any (L n : Nat) (S : Nat → Prop) (k : K (n + 1)) (g : Nat) (c0 c1 c2 : Value) (w : World) (hL : n + 1 ≤ L) (hg : goodK (n + 1) k (g : Int) = true) (hc40 : cntK (n + 1) k ≤ 40) (hk : KindIn S w (n + 1) k c0 c1 c2) (hB : ∀ b, S b → b < w.heap.size) :
    Calls Tryz.prog 32 #[.agg #[c0, c1, c2]] w (CopyPost (L + 1) (maybeL (L + 1) (n + 1) k) w) := by
  obtain ⟨u0, ua, ul, uc, ta, tl, tc, rfl, rfl, rfl⟩ := hk.shape
  have hu : u0 = Kd.sort k := by have := hk.1; injection this
  obtain ⟨W2, hW2⟩ : ∃ W2, W2 = (w.alloc (.cells #[.int .i64 u0, .slice ua ul uc, .slice ta tl tc] 26)).alloc (.cells #[.int .i64 0, .slice none 0 0, .slice none 0 0] 26) := ⟨_, rfl⟩
  have hz2 : W2.heap.size = w.heap.size + 2 := by rw [hW2]; simp
  have hb2 : Below w.heap.size w W2 := by rw [hW2]; exact ((Below.refl _ _).alloc (Nat.le_refl _) _).alloc (by simp) _
  have hzb : W2.heap[w.heap.size + 1]? = some (.cells #[.int .i64 0, .slice none 0 0, .slice none 0 0] 26 (0, 0)) := by
    have := heap_alloc_new (w.alloc (.cells #[.int .i64 u0, .slice ua ul uc, .slice ta tl tc] 26)) (.cells #[.int .i64 0, .slice none 0 0, .slice none 0 0] 26)
    rw [show (w.alloc (.cells #[.int .i64 u0, .slice ua ul uc, .slice ta tl tc] 26)).heap.size = w.heap.size + 1 by simp] at this
    rw [hW2]; exact this
  have hk2 : KindIn S W2 (n + 1) k (.int .i64 u0) (.slice ua ul uc) (.slice ta tl tc) := hk.keep (same_below hb2 hB) (fun _ h => h)
  have hB2 : ∀ b, S b → b < W2.heap.size := fun b hb => Nat.lt_of_lt_of_le (hB b hb) hb2.size
  have HFin : Hid (∀ (m : Nat) (r : K (m + 1)) (W : World) (d0 d1 d2 : Value), Below W2.heap.size W2 W → KindIn (fun b => W2.heap.size ≤ b ∧ b < W.heap.size) W (m + 1) r d0 d1 d2 → CopyPost m r w (.returned (.agg #[d0, d1, d2])) (((W.setCell ⟨w.heap.size + 1, 0, none⟩ d0).setCell ⟨w.heap.size + 1, 1, none⟩ d1).setCell ⟨w.heap.size + 1, 2, none⟩ d2)) := fun m r W d0 d1 d2 hbW hr => by
    refine ⟨j3_below (below_step hb2 hb2.size hbW) (by omega), d0, d1, d2, rfl, hr.keep (fun b hb => j3_other (by omega)) (fun b hb => ⟨by omega, by rw [j3_size]; exact hb.2⟩)⟩
  by_cases h6 : u0 = 6
  · have HC : Hid (Calls Tryz.prog 51 #[.agg #[.int .i64 u0, .slice ua ul uc, .slice ta tl tc]] W2 (CopyPost (L + 1) (copyL (L + 1) (n + 1) k) W2)) := l3Copy_any (n + 1) (L + 1) S k g _ _ _ W2 (by omega) hg hc40 hk2 hB2
    have hm : maybeL (L + 1) (n + 1) k = copyL (L + 1) (n + 1) k := if_pos (hu.symm.trans h6)
    rw [hm]
    clear hk hk2 hB hB2 hb2 hm hu
    subst h6
    have HZ := hidF hzb
    clear hz2
    go_enter Tryz.func32, Tryz.ntmps32
    go_wp2_with fail
    rw [← hW2]
    refine HC.out.mono ?_
    rintro e w5 ⟨hb5, d0, d1, d2, rfl, hk5⟩
    obtain ⟨y0, ya, yl, yc, za, zl, zc, rfl, rfl, rfl⟩ := hk5.shape
    have hlt : w.heap.size + 1 < W2.heap.size := by rw [hW2]; simp
    obtain ⟨⟨r0, r1, r2⟩, f0, f1, f2⟩ := j3_cells ((hb5.block _ hlt).trans HZ.out)
    have HF := Lib.hid (HFin.out _ _ _ _ _ _ hb5 hk5)
    clear hb5 hk5 hW2 hlt
    go_wp2_with fail
    refine bodyPost_ret (v := .agg #[.int .i64 y0, .slice ya yl yc, .slice za zl zc]) (by simp [results, Tryz.results32, go_sem, r0, r1, r2]) rfl ?_
    exact HF.out
  · have HC : Hid (Calls Tryz.prog 51 #[.agg #[.int .i64 u0, .slice ua ul uc, .slice ta tl tc]] W2 (CopyPost L (copyL L (n + 1) k) W2)) := l3Copy_any (n + 1) L S k g _ _ _ W2 hL hg hc40 hk2 hB2
    have hm : maybeL (L + 1) (n + 1) k = (⟨6, [], [copyL L (n + 1) k]⟩ : Kd (K (L + 1))) := if_neg (fun e => h6 (hu.trans e))
    rw [hm]
    have HZ := hidF hzb
    clear hk hk2 hB hB2 hb2 hm hu hz2
    go_enter Tryz.func32, Tryz.ntmps32
    go_wp2_with fail
    rw [← hW2]
    refine HC.out.mono ?_
    rintro e w5 ⟨hb5, d0, d1, d2, rfl, hk5⟩
    obtain ⟨y0, ya, yl, yc, za, zl, zc, rfl, rfl, rfl⟩ := hk5.shape
    have hlt : w.heap.size + 1 < W2.heap.size := by rw [hW2]; simp
    have hz5 := hb5.size
    obtain ⟨⟨r0, r1, r2⟩, f0, f1, f2⟩ := j3_cells (((below_alloc hb5 (.cells #[.int .i64 y0, .slice ya yl yc, .slice za zl zc] 26)).block _ hlt).trans HZ.out)
    have hx3 := Box3.new w5 (.int .i64 y0) (.slice ya yl yc) (.slice za zl zc) 26
    have HF := Lib.hid (HFin.out (L + 1) (⟨6, [], [copyL L (n + 1) k]⟩ : Kd (K (L + 1))) _ _ _ _ (below_alloc hb5 (.cells #[.int .i64 y0, .slice ya yl yc, .slice za zl zc] 26)) (oneD_in (c := 1) rfl ⟨hz5, by simp⟩ hx3.c0 hx3.c1 hx3.c2 (hk5.keep (fun b hb => Below.heap_alloc _ _ _ hb.2) (fun b hb => ⟨hb.1, by simp; omega⟩))))
    clear hb5 hk5 hW2 hlt hx3 hz5
    go_wp2_with fail
    refine bodyPost_ret (v := .agg #[.int .i64 6, .slice none 0 0, .slice (some ⟨w5.heap.size, 0, none⟩) 1 1]) (by simp [results, Tryz.results32, go_sem, r0, r1, r2]) rfl ?_
    exact HF.out

end Go.Proofs.YthcdeahobjhkbaaGreatDoor
