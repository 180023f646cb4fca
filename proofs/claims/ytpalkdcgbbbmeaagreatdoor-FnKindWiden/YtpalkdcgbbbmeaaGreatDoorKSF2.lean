/-
  The specification's l3Fits at two forms: walked.
-/
import Derived.Test.YtpalkdcgbbbmeaaGreatDoorKSF1
import Derived.Test.YtpalkdcgbbbmeaaGreatDoorKW1
namespace Go.Proofs.YtpalkdcgbbbmeaaGreatDoor
open Go.RowKit

/-- What the first loop has found of a name of the form that fits. -/
def GoodA (n m : Nat) (a : K (n + 1)) (b : K (m + 1)) (i : Nat) : Prop := ∃ (j : Nat) (h1 : i < (Kd.names a).length) (h2 : i < (Kd.kids a).length) (h3 : j < (Kd.names b).length) (h4 : j < (Kd.kids b).length), (Kd.names b)[j] = (Kd.names a)[i] ∧ fitsK m (Kd.kids b)[j] n (Kd.kids a)[i] = true

/-- What the second loop has found of a name of the form into which it fits. -/
def GoodB (n m : Nat) (a : K (n + 1)) (b : K (m + 1)) (j : Nat) : Prop := ∃ (h3 : j < (Kd.names b).length) (h4 : j < (Kd.kids b).length), (Kd.names b)[j] ∈ Kd.names a ∨ srtK m (Kd.kids b)[j] = 6

theorem fits_yes {n m : Nat} {a : K (n + 1)} {b : K (m + 1)} (hsb : Kd.sort b = 5) (hsa : Kd.sort a = 5) (hA : Asc (Kd.names a)) (hB : Asc (Kd.names b))
    (h1 : ∀ i, i < (Kd.names a).length → GoodA n m a b i) (h2 : ∀ j, j < (Kd.names b).length → GoodB n m a b j) : fitsK (m + 1) b (n + 1) a = true := by
  refine fitsK_form_yes hsb hsa (fun i h => ?_) (fun j h h' => ?_)
  · obtain ⟨j, _, _, h3, _, he, _⟩ := h1 i h
    rw [← he]; exact List.getElem_mem h3
  · obtain ⟨_, h4, hj⟩ := h2 j h
    unfold fieldFits
    by_cases hm : (Kd.names b)[j] ∈ Kd.names a
    · obtain ⟨i, hi, he⟩ := List.getElem_of_mem hm
      obtain ⟨j', hi1, hi2, hj3, hj4, he', hf⟩ := h1 i hi
      have : j' = j := asc_inj hB j' j hj3 h (he'.trans he)
      subst this
      rw [he', atName_yes _ _ i hi1 hi2 hA]
      exact hf
    · rw [atName_no _ _ _ hm]
      rcases hj with h | h
      · exact absurd h hm
      · show (srtK m (Kd.kids b)[j] == 6) = true
        rw [h]; rfl

theorem fits_badA {n m : Nat} {a : K (n + 1)} {b : K (m + 1)} (hsb : Kd.sort b = 5) (hsa : Kd.sort a = 5) (hA : Asc (Kd.names a)) (i j : Nat) (hi : i < (Kd.names a).length) (hi2 : i < (Kd.kids a).length) (hj : j < (Kd.names b).length) (hj2 : j < (Kd.kids b).length)
    (he : (Kd.names b)[j] = (Kd.names a)[i]) (h : fitsK m (Kd.kids b)[j] n (Kd.kids a)[i] = false) : fitsK (m + 1) b (n + 1) a = false := by
  refine fitsK_form_bad hsb hsa j hj hj2 ?_
  unfold fieldFits
  rw [he, atName_yes _ _ i hi hi2 hA]
  exact h

theorem fits_badB {n m : Nat} {a : K (n + 1)} {b : K (m + 1)} (hsb : Kd.sort b = 5) (hsa : Kd.sort a = 5) (j : Nat) (hj : j < (Kd.names b).length) (hj2 : j < (Kd.kids b).length)
    (hm : (Kd.names b)[j] ∉ Kd.names a) (h : ¬ srtK m (Kd.kids b)[j] = 6) : fitsK (m + 1) b (n + 1) a = false := by
  refine fitsK_form_bad hsb hsa j hj hj2 ?_
  unfold fieldFits
  rw [atName_no _ _ _ hm]
  simpa using h

/-- A schema stored into a box. -/
theorem set3_box {W : World} {N : Nat} {g0 g1 g2 z0 z1 z2 : Value} (h : W.cell? ⟨N, 0, none⟩ = some z0 ∧ W.cell? ⟨N, 1, none⟩ = some z1 ∧ W.cell? ⟨N, 2, none⟩ = some z2) : Box3 (((W.setCell ⟨N, 0, none⟩ g0).setCell ⟨N, 1, none⟩ g1).setCell ⟨N, 2, none⟩ g2) N g0 g1 g2 := by
  obtain ⟨h0, h1, h2⟩ := h
  refine ⟨?_, ?_, ?_⟩
  · rw [World.cell?_setCell_other _ _ _ _ (by simp), World.cell?_setCell_other _ _ _ _ (by simp), World.cell?_setCell_same _ _ _ h0]
  · rw [World.cell?_setCell_other _ _ _ _ (by simp), World.cell?_setCell_same _ _ _ ((World.cell?_setCell_other _ _ _ _ (by simp)).trans h1)]
  · rw [World.cell?_setCell_same _ _ _ ((World.cell?_setCell_other _ _ _ _ (by simp)).trans ((World.cell?_setCell_other _ _ _ _ (by simp)).trans h2))]

theorem set3_below {B : Nat} {V W : World} {N : Nat} {g0 g1 g2 : Value} (h : Below B V W) (hN : B ≤ N) : Below B V (((W.setCell ⟨N, 0, none⟩ g0).setCell ⟨N, 1, none⟩ g1).setCell ⟨N, 2, none⟩ g2) := ((h.setCell hN _).setCell hN _).setCell hN _

theorem kind_alloc {S : Nat → Prop} {W : World} {n : Nat} {k : K n} {c0 c1 c2 : Value} {o : Obj} (h : KindIn S W n k c0 c1 c2) (hS : ∀ b, S b → b < W.heap.size) : KindIn S (W.alloc o) n k c0 c1 c2 :=
  h.keep (fun b hb => ((Below.refl W.heap.size W).alloc (Nat.le_refl _) o).block b (hS b hb)) (fun _ h => h)

theorem set3_kind {S : Nat → Prop} {W : World} {N n : Nat} {k : K n} {c0 c1 c2 g0 g1 g2 : Value} (h : KindIn S W n k c0 c1 c2) (hN : ∀ b, S b → b ≠ N) : KindIn S (((W.setCell ⟨N, 0, none⟩ g0).setCell ⟨N, 1, none⟩ g1).setCell ⟨N, 2, none⟩ g2) n k c0 c1 c2 :=
  h.keep (fun b hb => (Below.heap_setCell _ _ _ _ (hN b hb)).trans ((Below.heap_setCell _ _ _ _ (hN b hb)).trans (Below.heap_setCell _ _ _ _ (hN b hb)))) (fun _ h => h)

/-- A new box for a schema. -/
def NewK (W : World) (g : Nat) : Prop := (W.cell? ⟨g, 0, none⟩ = some (.int .i64 0) ∧ W.cell? ⟨g, 1, none⟩ = some (.slice none 0 0) ∧ W.cell? ⟨g, 2, none⟩ = some (.slice none 0 0)) ∧ W.frozen? ⟨g, 0, none⟩ = false ∧ W.frozen? ⟨g, 1, none⟩ = false ∧ W.frozen? ⟨g, 2, none⟩ = false

theorem keptK_new {V w' : World} (hb : Below (V.alloc (.cells #[.int .i64 0, .slice none 0 0, .slice none 0 0] 26)).heap.size (V.alloc (.cells #[.int .i64 0, .slice none 0 0, .slice none 0 0] 26)) w') : NewK w' V.heap.size := by
  have hz : (V.alloc (.cells #[.int .i64 0, .slice none 0 0, .slice none 0 0] 26)).heap.size = V.heap.size + 1 := by simp
  exact zero3_cells ((hb.block V.heap.size (by omega)).trans (heap_alloc_new _ _))

theorem keptK_newD {V w' : World} (hb : Below (V.alloc (.cells #[.int .i64 0, .slice none 0 0, .slice none 0 0] 26)).drew.heap.size (V.alloc (.cells #[.int .i64 0, .slice none 0 0, .slice none 0 0] 26)).drew w') : NewK w' V.heap.size := by
  have hz : (V.alloc (.cells #[.int .i64 0, .slice none 0 0, .slice none 0 0] 26)).heap.size = V.heap.size + 1 := by simp
  have hb' : Below (V.alloc (.cells #[.int .i64 0, .slice none 0 0, .slice none 0 0] 26)).heap.size (V.alloc (.cells #[.int .i64 0, .slice none 0 0, .slice none 0 0] 26)).drew w' := hb
  have e : (V.alloc (.cells #[.int .i64 0, .slice none 0 0, .slice none 0 0] 26)).drew.heap[V.heap.size]? = (V.alloc (.cells #[.int .i64 0, .slice none 0 0, .slice none 0 0] 26)).heap[V.heap.size]? := rfl
  exact zero3_cells ((hb'.block V.heap.size (by omega)).trans (e.trans (heap_alloc_new _ _)))

theorem memB_get {s : ByteArray} {l : List ByteArray} (h : memB s l = true) : s ∈ l := Classical.byContradiction fun hn => by rw [memB_no hn] at h; cases h

theorem kind_sort {S : Nat → Prop} {W : World} : ∀ {m : Nat} {y : K m} {u0 : Int} {c1 c2 : Value}, KindIn S W m y (.int .i64 u0) c1 c2 → u0 = srtK m y
  | 0, _, _, _, _, h => h.elim
  | _ + 1, _, _, _, _, h => by
    have h1 := h.1
    simpa [srtK] using h1

/-- The kid at a place. -/
theorem kid_at {S : Nat → Prop} {w W : World} {n : Nat} {ks : List (K n)} {ka : Option Addr} {kl kc : Nat} (hk : RowIn3 S w (KindIn S w n) ks (.slice ka kl kc)) (hB : ∀ b, S b → b < w.heap.size) (hb : Below w.heap.size w W) (i : Nat) (h : i < ks.length) :
    ∃ p o u0 ua ul uc va vl vc, ka = some ⟨p, o, none⟩ ∧ (W.cell? ⟨p, o + i * 3, none⟩ = some (.int .i64 u0) ∧ W.cell? ⟨p, o + i * 3 + 1, none⟩ = some (.slice ua ul uc) ∧ W.cell? ⟨p, o + i * 3 + 2, none⟩ = some (.slice va vl vc)) ∧ KindIn S W n ks[i] (.int .i64 u0) (.slice ua ul uc) (.slice va vl vc) ∧ p < w.heap.size := by
  obtain ⟨ka', kc', he, hkl, hkc⟩ := hk
  cases he
  obtain ⟨b, off, rfl, hbB, hcl⟩ := hkc (by intro h'; rw [h'] at h; simp at h)
  obtain ⟨g0, g1, g2, q0, q1, q2, hin⟩ := hcl i h
  obtain ⟨u0, ua, ul, uc, va, vl, vc, rfl, rfl, rfl⟩ := hin.shape
  have hbb := hB b hbB
  exact ⟨b, off, u0, ua, ul, uc, va, vl, vc, rfl, ⟨(hb.cell (p := ⟨b, off + i * 3, none⟩) hbb).trans q0, (hb.cell (p := ⟨b, off + i * 3 + 1, none⟩) hbb).trans q1, (hb.cell (p := ⟨b, off + i * 3 + 2, none⟩) hbb).trans q2⟩, hin.keep (same_below hb hB) (fun _ h => h), hbb⟩

set_option maxRecDepth 20000 in
set_option maxHeartbeats 2000000 in
theorem fits_form (m : Nat) (hn : FitsSSaid m) (S S' : Nat → Prop) (n : Nat) (a : K (n + 1)) (b : K (m + 1)) (c0 c1 c2 e0 e1 e2 : Value) (d d' : Int) (w : World) (ha : KindIn S w (n + 1) a c0 c1 c2) (hb : KindIn S' w (m + 1) b e0 e1 e2) (hB : ∀ b, S b → b < w.heap.size) (hB' : ∀ b, S' b → b < w.heap.size) (hga : ∀ x, x ∈ Kd.kids a → goodK n x (d + 1) = true) (hgb : ∀ y, y ∈ Kd.kids b → goodK m y (d' + 1) = true)
    (hla : (Kd.names a).length = (Kd.kids a).length) (hlb : (Kd.names b).length = (Kd.kids b).length) (hAa : Asc (Kd.names a)) (hAb : Asc (Kd.names b)) (hsa : Kd.sort a = 5) (hsb : Kd.sort b = 5) :
    Calls Tryz.prog 65 #[.agg #[c0, c1, c2], .agg #[e0, e1, e2]] w fun e w' => e = .returned (.bool (fitsK (m + 1) b (n + 1) a)) ∧ Below w.heap.size w w' := by
  have HNo : Hid (∀ i (hi : i < (Kd.names a).length), (Kd.names a)[i] ∉ Kd.names b → fitsK (m + 1) b (n + 1) a = false) := fun i hi h => fitsK_form_no hsb hsa i hi h
  have HBA : Hid (∀ (i j : Nat) (hi : i < (Kd.names a).length) (hi2 : i < (Kd.kids a).length) (hj : j < (Kd.names b).length) (hj2 : j < (Kd.kids b).length), (Kd.names b)[j] = (Kd.names a)[i] → fitsK m (Kd.kids b)[j] n (Kd.kids a)[i] = false → fitsK (m + 1) b (n + 1) a = false) := fun i j hi hi2 hj hj2 => fits_badA hsb hsa hAa i j hi hi2 hj hj2
  have HBB : Hid (∀ (j : Nat) (hj : j < (Kd.names b).length) (hj2 : j < (Kd.kids b).length), (Kd.names b)[j] ∉ Kd.names a → ¬ srtK m (Kd.kids b)[j] = 6 → fitsK (m + 1) b (n + 1) a = false) := fun j hj hj2 => fits_badB hsb hsa j hj hj2
  have HY : Hid ((∀ i, i < (Kd.names a).length → GoodA n m a b i) → (∀ j, j < (Kd.names b).length → GoodB n m a b j) → fitsK (m + 1) b (n + 1) a = true) := fits_yes hsb hsa hAa hAb
  have ha' := ha
  have hb' := hb
  obtain ⟨rfl, -, ha3, ha4⟩ := ha
  obtain ⟨rfl, -, hb3, hb4⟩ := hb
  obtain ⟨na, nc, rfl, hnl, -, hnc⟩ := id ha3
  obtain ⟨ma, mc, rfl, hml, -, hmc⟩ := id hb3
  obtain ⟨ka, kc, rfl, hkl, hkc⟩ := id ha4
  obtain ⟨la, lc, rfl, hll, hlc⟩ := id hb4
  unfold maxLen at hnl hml hkl hll
  rw [hsa] at ha'
  rw [hsb] at hb'
  rw [hsa, hsb]
  obtain ⟨W0, hW0⟩ : ∃ W0, W0 = (w.alloc (.cells #[.int .i64 5, .slice na (Kd.names a).length nc, .slice ka (Kd.kids a).length kc] 26)).alloc (.cells #[.int .i64 5, .slice ma (Kd.names b).length mc, .slice la (Kd.kids b).length lc] 26) := ⟨_, rfl⟩
  obtain ⟨hb0, hxa, hxb, hz0⟩ := two_boxes w _ _ _ _ _ _ W0 hW0
  have hz0' : w.heap.size + 2 ≤ W0.heap.size := by omega
  have H0 : Hid (Below w.heap.size w W0) := hb0
  have HKa : Hid (∀ W, Below W0.heap.size W0 W → KindIn S W (n + 1) a (.int .i64 5) (.slice na (Kd.names a).length nc) (.slice ka (Kd.kids a).length kc) ∧ Box3 W w.heap.size (.int .i64 5) (.slice na (Kd.names a).length nc) (.slice ka (Kd.kids a).length kc)) := fun W hW => ⟨ha'.keep (same_below (below_step hb0 hb0.size hW) hB) (fun _ h => h), hxa.keep hW⟩
  have HKb : Hid (∀ W, Below W0.heap.size W0 W → KindIn S' W (m + 1) b (.int .i64 5) (.slice ma (Kd.names b).length mc) (.slice la (Kd.kids b).length lc) ∧ Box3 W (w.heap.size + 1) (.int .i64 5) (.slice ma (Kd.names b).length mc) (.slice la (Kd.kids b).length lc)) := fun W hW => ⟨hb'.keep (same_below (below_step hb0 hb0.size hW) hB') (fun _ h => h), hxb.keep hW⟩
  have HNa : Hid (∀ W, Below W0.heap.size W0 W → ∀ i (h : i < (Kd.names a).length), ∃ p o, na = some ⟨p, o, none⟩ ∧ W.cell? ⟨p, o + i, none⟩ = some (.string (Kd.names a)[i]) ∧ p < w.heap.size) := fun W hW i h => by
    obtain ⟨p, o, rfl, hpB, hcl⟩ := hnc (by intro h'; rw [h'] at h; simp at h)
    exact ⟨p, o, rfl, ((below_step hb0 hb0.size hW).cell (p := ⟨p, o + i, none⟩) (hB p hpB)).trans (hcl i h), hB p hpB⟩
  have HNb : Hid (∀ W, Below W0.heap.size W0 W → ∀ i (h : i < (Kd.names b).length), ∃ p o, ma = some ⟨p, o, none⟩ ∧ W.cell? ⟨p, o + i, none⟩ = some (.string (Kd.names b)[i]) ∧ p < w.heap.size) := fun W hW i h => by
    obtain ⟨p, o, rfl, hpB, hcl⟩ := hmc (by intro h'; rw [h'] at h; simp at h)
    exact ⟨p, o, rfl, ((below_step hb0 hb0.size hW).cell (p := ⟨p, o + i, none⟩) (hB' p hpB)).trans (hcl i h), hB' p hpB⟩
  have HKi : Hid (∀ W, Below W0.heap.size W0 W → ∀ i (h : i < (Kd.kids a).length), ∃ p o u0 ua ul uc va vl vc, ka = some ⟨p, o, none⟩ ∧ (W.cell? ⟨p, o + i * 3, none⟩ = some (.int .i64 u0) ∧ W.cell? ⟨p, o + i * 3 + 1, none⟩ = some (.slice ua ul uc) ∧ W.cell? ⟨p, o + i * 3 + 2, none⟩ = some (.slice va vl vc)) ∧ KindIn S W n (Kd.kids a)[i] (.int .i64 u0) (.slice ua ul uc) (.slice va vl vc) ∧ p < w.heap.size) := fun W hW i h => kid_at ha4 hB (below_step hb0 hb0.size hW) i h
  have HKj : Hid (∀ W, Below W0.heap.size W0 W → ∀ i (h : i < (Kd.kids b).length), ∃ p o u0 ua ul uc va vl vc, la = some ⟨p, o, none⟩ ∧ (W.cell? ⟨p, o + i * 3, none⟩ = some (.int .i64 u0) ∧ W.cell? ⟨p, o + i * 3 + 1, none⟩ = some (.slice ua ul uc) ∧ W.cell? ⟨p, o + i * 3 + 2, none⟩ = some (.slice va vl vc)) ∧ KindIn S' W m (Kd.kids b)[i] (.int .i64 u0) (.slice ua ul uc) (.slice va vl vc) ∧ p < w.heap.size) := fun W hW i h => kid_at hb4 hB' (below_step hb0 hb0.size hW) i h
  have HGd : Hid ((∀ x, x ∈ Kd.kids a → goodK n x (d + 1) = true) ∧ (∀ y, y ∈ Kd.kids b → goodK m y (d' + 1) = true)) := ⟨hga, hgb⟩
  have HAs : Hid (Asc (Kd.names a) ∧ Asc (Kd.names b)) := ⟨hAa, hAb⟩
  have HLs : Hid ((Kd.names a).length = (Kd.kids a).length ∧ (Kd.names b).length = (Kd.kids b).length) := ⟨hla, hlb⟩
  have HBS : Hid ((∀ b, S b → b < w.heap.size) ∧ (∀ b, S' b → b < w.heap.size)) := ⟨hB, hB'⟩
  clear hga hgb hkc hlc ha3 ha4 hb3 hb4 ha' hb' hnc hmc hsa hsb hAa hAb hb0 hxa hxb hz0 hla hlb hB hB'
  go_enter Tryz.func65, Tryz.ntmps65
  go_wp2_with fail
  rw [← hW0]
  clear hW0
  go_loopw [5] (fun iv wr => ∃ i : Nat, i ≤ (Kd.names a).length ∧ iv = .int .i64 i ∧ Below W0.heap.size W0 wr ∧ ∀ q, q < i → GoodA n m a b q) (fun iv _ => (Kd.names a).length - (intOf iv).toNat)
  case atStart => exact ⟨0, Nat.zero_le _, rfl, Below.refl _ _, fun q h => absurd h (Nat.not_lt_zero _)⟩
  case round =>
    obtain ⟨i, hi, rfl, hbel, hall⟩ := hrel
    have HALL : Hid (∀ q, q < i → GoodA n m a b q) := hall
    have HBe : Hid (Below W0.heap.size W0 wr) := hbel
    have hzr := hbel.size
    obtain ⟨i0, i1, i2⟩ := (HKa.out wr hbel).2
    obtain ⟨j0, j1, j2⟩ := (HKb.out wr hbel).2
    clear hall hbel
    by_cases hlt : i < (Kd.names a).length
    · have hlti : (i : Int) < ((Kd.names a).length : Int) := by omega
      have hltk : i < (Kd.kids a).length := by rw [← HLs.out.1]; exact hlt
      obtain ⟨p, o, rfl, f0, hpl⟩ := HNa.out wr HBe.out i hlt
      have hA1 : Below W0.heap.size W0 wr.drew := HBe.out.drew
      have n1 : ¬ wr.heap.size = w.heap.size := by omega
      have n2 : ¬ wr.heap.size = w.heap.size + 1 := by omega
      have n3 : ¬ wr.heap.size = p := by omega
      have HS0 : Hid (∀ nm, (Kd.names a)[i] = nm → ∀ W, Below W0.heap.size W0 W → (W.cell? ⟨w.heap.size, 1, none⟩ = some (.slice (some ⟨p, o, none⟩) (Kd.names a).length nc) ∧ W.cell? ⟨p, o + i, none⟩ = some (.string nm)) ∧ W.cell? ⟨w.heap.size + 1, 0, none⟩ = some (.int .i64 5) ∧ W.cell? ⟨w.heap.size + 1, 1, none⟩ = some (.slice ma (Kd.names b).length mc) ∧ W.cell? ⟨w.heap.size + 1, 2, none⟩ = some (.slice la (Kd.kids b).length lc)) := fun nm he W hW => by
        have hA := (HKa.out W hW).2
        have hBx := (HKb.out W hW).2
        obtain ⟨p', o', he', hc', -⟩ := HNa.out W hW i hlt
        cases he'
        exact ⟨⟨hA.c1, by rw [← he]; exact hc'⟩, hBx.c0, hBx.c1, hBx.c2⟩
      by_cases hmem : (Kd.names a)[i] ∈ Kd.names b
      · obtain ⟨j, hj, hje⟩ := List.getElem_of_mem hmem
        have hjk : j < (Kd.kids b).length := by rw [← HLs.out.2]; exact hj
        have HCk : Hid (∀ W, Below W0.heap.size W0 W → Calls Tryz.prog 91 #[.agg #[.int .i64 5, .slice ma (Kd.names b).length mc, .slice la (Kd.kids b).length lc], .string (Kd.names a)[i]] W fun e w' => (Below W0.heap.size W0 w' ∧ Below W.heap.size W w') ∧ ∃ g0 g1 g2, e = .returned (.tuple #[.agg #[g0, g1, g2], .bool true]) ∧ KindIn S' w' m (Kd.kids b)[j] g0 g1 g2) := fun W hW => by
          refine (l3Kid_yes S' m b _ _ _ (Kd.names a)[i] W (HKb.out W hW).1 (fun b hb => Nat.lt_of_lt_of_le (HBS.out.2 b hb) (by have := hW.size; omega)) j hj hjk hje (fun q hq hqj he => by have := asc_inj HAs.out.2 q j hq hj (he.trans hje.symm); omega)).mono fun e w' h => ?_
          exact ⟨⟨below_step hW hW.size h.1, h.1⟩, h.2⟩
        have HGy : Hid (goodK m (Kd.kids b)[j] (d' + 1) = true ∧ goodK n (Kd.kids a)[i] (d + 1) = true) := ⟨HGd.out.2 _ (List.getElem_mem hjk), HGd.out.1 _ (List.getElem_mem hltk)⟩
        have HBad : Hid (fitsK m (Kd.kids b)[j] n (Kd.kids a)[i] = false → fitsK (m + 1) b (n + 1) a = false) := HBA.out i j hlt hltk hj hjk hje
        have HGo : Hid (fitsK m (Kd.kids b)[j] n (Kd.kids a)[i] = true → ∀ q, q < i + 1 → GoodA n m a b q) := fun h q hq => by
          by_cases hqi : q < i
          · exact HALL.out q hqi
          · have : q = i := by omega
            subst this
            exact ⟨j, hlt, hltk, hj, hjk, hje, h⟩
        have HXi : Hid (∀ W, Below W0.heap.size W0 W → ∃ p o u0 ua ul uc va vl vc, ka = some ⟨p, o, none⟩ ∧ (W.cell? ⟨p, o + i * 3, none⟩ = some (.int .i64 u0) ∧ W.cell? ⟨p, o + i * 3 + 1, none⟩ = some (.slice ua ul uc) ∧ W.cell? ⟨p, o + i * 3 + 2, none⟩ = some (.slice va vl vc)) ∧ KindIn S W n (Kd.kids a)[i] (.int .i64 u0) (.slice ua ul uc) (.slice va vl vc) ∧ p < w.heap.size) := fun W hW => HKi.out W hW i hltk
        have hltki : (i : Int) < ((Kd.kids a).length : Int) := by omega
        clear hmem hje
        generalize (Kd.names a)[i] = nm at *
        generalize (Kd.kids b)[j] = yj at *
        generalize (Kd.kids a)[i] = xi at *
        have HS : Hid (∀ W, Below W0.heap.size W0 W → (W.cell? ⟨w.heap.size, 1, none⟩ = some (.slice (some ⟨p, o, none⟩) (Kd.names a).length nc) ∧ W.cell? ⟨p, o + i, none⟩ = some (.string nm)) ∧ W.cell? ⟨w.heap.size + 1, 0, none⟩ = some (.int .i64 5) ∧ W.cell? ⟨w.heap.size + 1, 1, none⟩ = some (.slice ma (Kd.names b).length mc) ∧ W.cell? ⟨w.heap.size + 1, 2, none⟩ = some (.slice la (Kd.kids b).length lc)) := HS0.out nm rfl
        go_upto_region 12 with fail
        go_cut [5, 6, 7] from 49 to 77 (fun iv pv ov wx => iv = .int .i64 i ∧ ov = .bool true ∧ ∃ N y0 ya yl yc za zl zc, pv = .pointer (some ⟨N, 0, none⟩) ∧ Box3 wx N (.int .i64 y0) (.slice ya yl yc) (.slice za zl zc) ∧ KindIn S' wx m yj (.int .i64 y0) (.slice ya yl yc) (.slice za zl zc) ∧ Below W0.heap.size W0 wx ∧ W0.heap.size ≤ N)
        case first =>
          go_region_held (fun w' => (w'.cell? ⟨w.heap.size, 1, none⟩ = some (.slice (some ⟨p, o, none⟩) (Kd.names a).length nc) ∧ w'.cell? ⟨p, o + i, none⟩ = some (.string nm)) ∧ w'.cell? ⟨w.heap.size + 1, 0, none⟩ = some (.int .i64 5) ∧ w'.cell? ⟨w.heap.size + 1, 1, none⟩ = some (.slice ma (Kd.names b).length mc) ∧ w'.cell? ⟨w.heap.size + 1, 2, none⟩ = some (.slice la (Kd.kids b).length lc)) (first | with_reducible assumption | go_keep) (first | (go_at_call 91; refine (HCk.out _ ?_).mono ?_; (first | with_reducible assumption | (with_reducible refine below_alloc ?_ _; with_reducible assumption) | (with_reducible refine below_allocD ?_ _; with_reducible assumption)); rintro e w5 ⟨⟨hb5, hc5⟩, g0, g1, g2, rfl, hg5⟩; obtain ⟨y0, ya, yl, yc, za, zl, zc, rfl, rfl, rfl⟩ := hg5.shape; obtain ⟨⟨k0, k1⟩, k2, k3, k4⟩ := HS.out w5 hb5; have hz5 := hb5.size; have m1 : ¬ w5.heap.size = w.heap.size := (by omega); have m2 : ¬ w5.heap.size = w.heap.size + 1 := (by omega); have m3 : ¬ w5.heap.size = p := (by omega); first | ((with_reducible (have hk5 := keptK_new hc5)); obtain ⟨⟨l0, l1, l2⟩, l3, l4, l5⟩ := id hk5) | ((with_reducible (have hk5 := keptK_newD hc5)); obtain ⟨⟨l0, l1, l2⟩, l3, l4, l5⟩ := id hk5) | skip))
          all_goals
            go_wp2_with fail
            go_meet
            first
              | with_reducible exact ⟨rfl, rfl, _, _, _, _, _, _, _, _, rfl, set3_box ⟨l0, l1, l2⟩, set3_kind hg5 (fun b hb => by have := HBS.out.2 b hb; omega), set3_below hb5 hzr, hzr⟩
              | with_reducible exact ⟨rfl, rfl, _, _, _, _, _, _, _, _, rfl, Box3.new _ _ _ _ _, kind_alloc hg5 (fun b hb => Nat.lt_of_lt_of_le (HBS.out.2 b hb) (by omega)), below_alloc hb5 _, hz5⟩
        case rest =>
          obtain ⟨rfl, rfl, N, y0, ya, yl, yc, za, zl, zc, rfl, hbox, hky, hbc, hN⟩ := hcut
          obtain ⟨q, r, u0, ua, ul, uc, va, vl, vc, rfl, ⟨x0, x1, x2⟩, hxi, hql⟩ := HXi.out wc hbc
          have hA := (HKa.out wc hbc).2
          have HCf : Hid (Calls Tryz.prog 65 #[.agg #[.int .i64 u0, .slice ua ul uc, .slice va vl vc], .agg #[.int .i64 y0, .slice ya yl yc, .slice za zl zc]] wc.drew fun e w' => e = .returned (.bool (fitsK m yj n xi)) ∧ Below W0.heap.size W0 w' ∧ (w'.cell? ⟨w.heap.size, 2, none⟩ = some (.slice (some ⟨q, r, none⟩) (Kd.kids a).length kc) ∧ w'.cell? ⟨q, r + i * 3, none⟩ = some (.int .i64 u0) ∧ w'.cell? ⟨q, r + i * 3 + 1, none⟩ = some (.slice ua ul uc) ∧ w'.cell? ⟨q, r + i * 3 + 2, none⟩ = some (.slice va vl vc)) ∧ w'.cell? ⟨N, 0, none⟩ = some (.int .i64 y0) ∧ w'.cell? ⟨N, 1, none⟩ = some (.slice ya yl yc) ∧ w'.cell? ⟨N, 2, none⟩ = some (.slice za zl zc)) := by
            have hbd : Below wc.heap.size wc wc.drew := (Below.refl _ _).drew
            have hzc := hbc.size
            have hNl : N < wc.heap.size := World.block_lt_of_cell? wc ⟨N, 0, none⟩ hbox.c0
            refine (hn S S' n xi yj _ _ _ _ _ _ (d + 1) (d' + 1) wc.drew (KindIn.keep (w := wc) (w' := wc.drew) (fun _ _ => rfl) (fun _ h => h) hxi) (KindIn.keep (w := wc) (w' := wc.drew) (fun _ _ => rfl) (fun _ h => h) hky) (fun b hb => by have := HBS.out.1 b hb; show b < wc.heap.size; omega) (fun b hb => by have := HBS.out.2 b hb; show b < wc.heap.size; omega) HGy.out.2 HGy.out.1).mono ?_
            rintro e w' ⟨rfl, hb'⟩
            have hbb : Below wc.heap.size wc w' := hbd.trans hb'
            have hc : ∀ k j, k < wc.heap.size → w'.cell? ⟨k, j, none⟩ = wc.cell? ⟨k, j, none⟩ := fun k j h => hbb.cell (p := ⟨k, j, none⟩) h
            exact ⟨rfl, below_step hbc hbc.size hbb, ⟨(hc _ _ (by omega)).trans hA.c2, (hc _ _ (by omega)).trans x0, (hc _ _ (by omega)).trans x1, (hc _ _ (by omega)).trans x2⟩, (hc _ _ (by omega)).trans hbox.c0, (hc _ _ (by omega)).trans hbox.c1, (hc _ _ (by omega)).trans hbox.c2⟩
          obtain ⟨b0, b1, b2⟩ := hbox
          obtain ⟨a0, a1, a2⟩ := hA
          clear hky hxi hn i0 i1 i2 j0 j1 j2 f0 HCk HS HS0 n1 n2 n3 hA1
          go_upto_region 13 with fail
          go_cut [5, 77] from 49 to 77 (fun iv rv wx => iv = .int .i64 i ∧ rv = .bool (!fitsK m yj n xi) ∧ Below W0.heap.size W0 wx)
          case first =>
            go_region_held (fun w' => (w'.cell? ⟨w.heap.size, 2, none⟩ = some (.slice (some ⟨q, r, none⟩) (Kd.kids a).length kc) ∧ w'.cell? ⟨q, r + i * 3, none⟩ = some (.int .i64 u0) ∧ w'.cell? ⟨q, r + i * 3 + 1, none⟩ = some (.slice ua ul uc) ∧ w'.cell? ⟨q, r + i * 3 + 2, none⟩ = some (.slice va vl vc)) ∧ w'.cell? ⟨N, 0, none⟩ = some (.int .i64 y0) ∧ w'.cell? ⟨N, 1, none⟩ = some (.slice ya yl yc) ∧ w'.cell? ⟨N, 2, none⟩ = some (.slice za zl zc)) (first | with_reducible assumption | go_keep) (first | (go_at_call 65; refine HCf.out.mono ?_; rintro e w6 ⟨rfl, hb6, ⟨k0, k1, k2, k3⟩, k4, k5, k6⟩))
            all_goals
              go_wp2_with fail
              go_meet
              exact ⟨rfl, by simp, hb6⟩
          case rest =>
            obtain ⟨rfl, rfl, hbf⟩ := hcut
            cases hres : fitsK m yj n xi
            · have HF : Hid (fitsK (m + 1) b (n + 1) a = false) := HBad.out hres
              have HBf : Hid (Below w.heap.size w _) := below_step H0.out H0.out.size hbf
              clear hres hbf
              go_wp2_with fail
              go_ret
              exact ⟨ret_bool HF.out.symm, HBf.out⟩
            · have HF : Hid (∀ q, q < i + 1 → GoodA n m a b q) := HGo.out hres
              have HBf : Hid (Below W0.heap.size W0 _) := hbf
              clear hres hbf
              go_wp2_with fail
              go_roundw
              case rel => exact ⟨i + 1, by omega, by go_num, HBf.out, HF.out⟩
              case measure => simp [intOf]; omega
      · have HF : Hid (fitsK (m + 1) b (n + 1) a = false) := HNo.out i hlt hmem
        have HCk : Hid (∀ W, Below W0.heap.size W0 W → Calls Tryz.prog 91 #[.agg #[.int .i64 5, .slice ma (Kd.names b).length mc, .slice la (Kd.kids b).length lc], .string (Kd.names a)[i]] W fun e w' => (Below W0.heap.size W0 w' ∧ Below W.heap.size W w') ∧ e = .returned (.tuple #[.agg #[.int .i64 0, .slice none 0 0, .slice none 0 0], .bool false])) := fun W hW => by
          refine (l3Kid_no S' m b _ _ _ (Kd.names a)[i] W (HKb.out W hW).1 (fun b hb => Nat.lt_of_lt_of_le (HBS.out.2 b hb) (by have := hW.size; omega)) (fun q hq he => hmem (by rw [← he]; exact List.getElem_mem hq))).mono fun e w' h => ?_
          exact ⟨⟨below_step hW hW.size h.1, h.1⟩, h.2⟩
        clear hmem
        generalize (Kd.names a)[i] = nm at *
        have HS : Hid (∀ W, Below W0.heap.size W0 W → (W.cell? ⟨w.heap.size, 1, none⟩ = some (.slice (some ⟨p, o, none⟩) (Kd.names a).length nc) ∧ W.cell? ⟨p, o + i, none⟩ = some (.string nm)) ∧ W.cell? ⟨w.heap.size + 1, 0, none⟩ = some (.int .i64 5) ∧ W.cell? ⟨w.heap.size + 1, 1, none⟩ = some (.slice ma (Kd.names b).length mc) ∧ W.cell? ⟨w.heap.size + 1, 2, none⟩ = some (.slice la (Kd.kids b).length lc)) := HS0.out nm rfl
        go_upto_region 12 with fail
        go_cut [5, 6, 7] from 49 to 77 (fun iv pv ov wx => iv = .int .i64 i ∧ ov = .bool false ∧ Below W0.heap.size W0 wx)
        case first =>
          go_region_held (fun w' => (w'.cell? ⟨w.heap.size, 1, none⟩ = some (.slice (some ⟨p, o, none⟩) (Kd.names a).length nc) ∧ w'.cell? ⟨p, o + i, none⟩ = some (.string nm)) ∧ w'.cell? ⟨w.heap.size + 1, 0, none⟩ = some (.int .i64 5) ∧ w'.cell? ⟨w.heap.size + 1, 1, none⟩ = some (.slice ma (Kd.names b).length mc) ∧ w'.cell? ⟨w.heap.size + 1, 2, none⟩ = some (.slice la (Kd.kids b).length lc)) (first | with_reducible assumption | go_keep) (first | (go_at_call 91; refine (HCk.out _ ?_).mono ?_; (first | with_reducible assumption | (with_reducible refine below_alloc ?_ _; with_reducible assumption) | (with_reducible refine below_allocD ?_ _; with_reducible assumption)); rintro e w5 ⟨⟨hb5, hc5⟩, rfl⟩; obtain ⟨⟨k0, k1⟩, k2, k3, k4⟩ := HS.out w5 hb5; have hz5 := hb5.size; have m1 : ¬ w5.heap.size = w.heap.size := (by omega); have m2 : ¬ w5.heap.size = w.heap.size + 1 := (by omega); have m3 : ¬ w5.heap.size = p := (by omega); first | ((with_reducible (have hk5 := keptK_new hc5)); obtain ⟨⟨l0, l1, l2⟩, l3, l4, l5⟩ := id hk5) | ((with_reducible (have hk5 := keptK_newD hc5)); obtain ⟨⟨l0, l1, l2⟩, l3, l4, l5⟩ := id hk5) | skip))
          all_goals
            go_wp2_with fail
            go_meet
            first
              | with_reducible exact ⟨rfl, rfl, set3_below hb5 hzr⟩
              | with_reducible exact ⟨rfl, rfl, below_alloc hb5 _⟩
        case rest =>
          obtain ⟨rfl, rfl, hbc⟩ := hcut
          have HBf : Hid (Below w.heap.size w wc) := below_step H0.out H0.out.size hbc
          clear hbc i0 i1 i2 j0 j1 j2 f0 HCk HS HS0 n1 n2 n3 hA1
          go_wp2_with fail
          go_quiet (fail)
          go_wp2_with fail
          go_ret
          exact ⟨ret_bool HF.out.symm, below_drewN HBf.out _⟩
    · have hlti : ¬ (i : Int) < ((Kd.names a).length : Int) := by omega
      have HAll : Hid (∀ q, q < (Kd.names a).length → GoodA n m a b q) := fun q hq => HALL.out q (by omega)
      obtain ⟨V, hV⟩ : ∃ V, V = wr := ⟨_, rfl⟩
      rw [← hV] at HBe hzr i0 i1 i2 j0 j1 j2 ⊢
      clear hV HALL HNo HBA
      go_wp2_with fail
      clear i0 i1 i2 j0 j1 j2
      go_loopw [8] (fun jv wr' => ∃ j : Nat, j ≤ (Kd.names b).length ∧ jv = .int .i64 j ∧ Below W0.heap.size W0 wr' ∧ ∀ q, q < j → GoodB n m a b q) (fun jv _ => (Kd.names b).length - (intOf jv).toNat)
      case atStart => exact ⟨0, Nat.zero_le _, rfl, HBe.out, fun q h => absurd h (Nat.not_lt_zero _)⟩
      case round =>
        obtain ⟨j, hj, rfl, hbel, hall⟩ := hrel
        have HALL : Hid (∀ q, q < j → GoodB n m a b q) := hall
        have HBr : Hid (Below W0.heap.size W0 wr) := hbel
        have hzr' := hbel.size
        obtain ⟨i0, i1, i2⟩ := (HKa.out wr hbel).2
        obtain ⟨j0, j1, j2⟩ := (HKb.out wr hbel).2
        clear hall hbel
        by_cases hltb : j < (Kd.names b).length
        · have hltbi : (j : Int) < ((Kd.names b).length : Int) := by omega
          have hltk : j < (Kd.kids b).length := by rw [← HLs.out.2]; exact hltb
          obtain ⟨p, o, rfl, f0, hpl⟩ := HNb.out wr HBr.out j hltb
          have hA1 : Below W0.heap.size W0 wr.drew := HBr.out.drew
          have n1 : ¬ wr.heap.size = w.heap.size := by omega
          have n2 : ¬ wr.heap.size = w.heap.size + 1 := by omega
          have n3 : ¬ wr.heap.size = p := by omega
          have HS0 : Hid (∀ nm, (Kd.names b)[j] = nm → ∀ W, Below W0.heap.size W0 W → (W.cell? ⟨w.heap.size + 1, 1, none⟩ = some (.slice (some ⟨p, o, none⟩) (Kd.names b).length mc) ∧ W.cell? ⟨p, o + j, none⟩ = some (.string nm)) ∧ W.cell? ⟨w.heap.size, 0, none⟩ = some (.int .i64 5) ∧ W.cell? ⟨w.heap.size, 1, none⟩ = some (.slice na (Kd.names a).length nc) ∧ W.cell? ⟨w.heap.size, 2, none⟩ = some (.slice ka (Kd.kids a).length kc)) := fun nm he W hW => by
            have hA := (HKa.out W hW).2
            have hBx := (HKb.out W hW).2
            obtain ⟨p', o', he', hc', -⟩ := HNb.out W hW j hltb
            cases he'
            exact ⟨⟨hBx.c1, by rw [← he]; exact hc'⟩, hA.c0, hA.c1, hA.c2⟩
          have HCk : Hid (∀ W, Below W0.heap.size W0 W → Calls Tryz.prog 91 #[.agg #[.int .i64 5, .slice na (Kd.names a).length nc, .slice ka (Kd.kids a).length kc], .string (Kd.names b)[j]] W fun e w' => (Below W0.heap.size W0 w' ∧ Below W.heap.size W w') ∧ ∃ y0 ya yl yc za zl zc, e = .returned (.tuple #[.agg #[.int .i64 y0, .slice ya yl yc, .slice za zl zc], .bool (memB (Kd.names b)[j] (Kd.names a))])) := fun W hW => by
            by_cases hmem : (Kd.names b)[j] ∈ Kd.names a
            · obtain ⟨i', hi', hie⟩ := List.getElem_of_mem hmem
              rw [memB_yes hmem]
              refine (l3Kid_yes S n a _ _ _ (Kd.names b)[j] W (HKa.out W hW).1 (fun b hb => Nat.lt_of_lt_of_le (HBS.out.1 b hb) (by have := hW.size; omega)) i' hi' (by rw [← HLs.out.1]; exact hi') hie (fun q hq hqj he => by have := asc_inj HAs.out.1 q i' hq hi' (he.trans hie.symm); omega)).mono fun e w' h => ?_
              obtain ⟨hb', g0, g1, g2, rfl, hg⟩ := h
              obtain ⟨y0, ya, yl, yc, za, zl, zc, rfl, rfl, rfl⟩ := hg.shape
              exact ⟨⟨below_step hW hW.size hb', hb'⟩, _, _, _, _, _, _, _, rfl⟩
            · rw [memB_no hmem]
              refine (l3Kid_no S n a _ _ _ (Kd.names b)[j] W (HKa.out W hW).1 (fun b hb => Nat.lt_of_lt_of_le (HBS.out.1 b hb) (by have := hW.size; omega)) (fun q hq he => hmem (by rw [← he]; exact List.getElem_mem hq))).mono fun e w' h => ?_
              exact ⟨⟨below_step hW hW.size h.1, h.1⟩, _, _, _, _, _, _, _, h.2⟩
          have HBad : Hid (memB (Kd.names b)[j] (Kd.names a) = false → ¬ srtK m (Kd.kids b)[j] = 6 → fitsK (m + 1) b (n + 1) a = false) := fun h => HBB.out j hltb hltk (fun h' => by rw [memB_yes h'] at h; cases h)
          have HGo : Hid (memB (Kd.names b)[j] (Kd.names a) = true ∨ srtK m (Kd.kids b)[j] = 6 → ∀ q, q < j + 1 → GoodB n m a b q) := fun h q hq => by
            by_cases hqi : q < j
            · exact HALL.out q hqi
            · have : q = j := by omega
              subst this
              exact ⟨hltb, hltk, h.imp memB_get id⟩
          have HXj : Hid (∀ W, Below W0.heap.size W0 W → ∃ p o u0, la = some ⟨p, o, none⟩ ∧ W.cell? ⟨p, o + j * 3, none⟩ = some (.int .i64 u0) ∧ u0 = srtK m (Kd.kids b)[j]) := fun W hW => by
            obtain ⟨p, o, u0, ua, ul, uc, va, vl, vc, h1, h2, h3, -⟩ := HKj.out W hW j hltk
            exact ⟨p, o, u0, h1, h2.1, kind_sort h3⟩
          have hltki : (j : Int) < ((Kd.kids b).length : Int) := by omega
          generalize hmm : memB (Kd.names b)[j] (Kd.names a) = mm at *
          clear hmm
          generalize (Kd.names b)[j] = nm at *
          generalize srtK m (Kd.kids b)[j] = sj at *
          have HS : Hid (∀ W, Below W0.heap.size W0 W → (W.cell? ⟨w.heap.size + 1, 1, none⟩ = some (.slice (some ⟨p, o, none⟩) (Kd.names b).length mc) ∧ W.cell? ⟨p, o + j, none⟩ = some (.string nm)) ∧ W.cell? ⟨w.heap.size, 0, none⟩ = some (.int .i64 5) ∧ W.cell? ⟨w.heap.size, 1, none⟩ = some (.slice na (Kd.names a).length nc) ∧ W.cell? ⟨w.heap.size, 2, none⟩ = some (.slice ka (Kd.kids a).length kc)) := HS0.out nm rfl
          go_upto_region 18 with fail
          go_cut [8, 10] from 78 to 105 (fun jv ov wx => jv = .int .i64 j ∧ ov = .bool mm ∧ Below W0.heap.size W0 wx)
          case first =>
            go_region_held (fun w' => (w'.cell? ⟨w.heap.size + 1, 1, none⟩ = some (.slice (some ⟨p, o, none⟩) (Kd.names b).length mc) ∧ w'.cell? ⟨p, o + j, none⟩ = some (.string nm)) ∧ w'.cell? ⟨w.heap.size, 0, none⟩ = some (.int .i64 5) ∧ w'.cell? ⟨w.heap.size, 1, none⟩ = some (.slice na (Kd.names a).length nc) ∧ w'.cell? ⟨w.heap.size, 2, none⟩ = some (.slice ka (Kd.kids a).length kc)) (first | with_reducible assumption | go_keep) (first | (go_at_call 91; refine (HCk.out _ ?_).mono ?_; (first | with_reducible assumption | (with_reducible refine below_alloc ?_ _; with_reducible assumption) | (with_reducible refine below_allocD ?_ _; with_reducible assumption)); rintro e w5 ⟨⟨hb5, hc5⟩, y0, ya, yl, yc, za, zl, zc, rfl⟩; obtain ⟨⟨k0, k1⟩, k2, k3, k4⟩ := HS.out w5 hb5; have hz5 := hb5.size; have m1 : ¬ w5.heap.size = w.heap.size := (by omega); have m2 : ¬ w5.heap.size = w.heap.size + 1 := (by omega); have m3 : ¬ w5.heap.size = p := (by omega); first | ((with_reducible (have hk5 := keptK_new hc5)); obtain ⟨⟨l0, l1, l2⟩, l3, l4, l5⟩ := id hk5) | ((with_reducible (have hk5 := keptK_newD hc5)); obtain ⟨⟨l0, l1, l2⟩, l3, l4, l5⟩ := id hk5) | skip))
            all_goals
              go_wp2_with fail
              go_meet
              first
                | with_reducible exact ⟨rfl, rfl, set3_below hb5 hzr'⟩
                | with_reducible exact ⟨rfl, rfl, below_alloc hb5 _⟩
          case rest =>
            obtain ⟨rfl, rfl, hbc⟩ := hcut
            obtain ⟨q, r, u0, rfl, x0, rfl⟩ := HXj.out wc hbc
            have hBx := (HKb.out wc hbc).2
            obtain ⟨b0, b1, b2⟩ := hBx
            have HBf : Hid (Below W0.heap.size W0 wc) := hbc
            clear hbc i0 i1 i2 j0 j1 j2 f0 HCk HS HS0 n1 n2 n3 hA1
            cases mm
            · by_cases h6 : u0 = 6
              · have h6b : (u0 != 6) = false := by simpa using h6
                have HF : Hid (∀ q, q < j + 1 → GoodB n m a b q) := HGo.out (.inr h6)
                clear h6
                go_wp2_with fail
                go_roundw
                case rel => exact ⟨j + 1, by omega, by go_num, HBf.out, HF.out⟩
                case measure => simp [intOf]; omega
              · have h6b : (u0 != 6) = true := by simpa using h6
                have HF : Hid (fitsK (m + 1) b (n + 1) a = false) := HBad.out rfl h6
                clear h6
                go_wp2_with fail
                go_ret
                exact ⟨ret_bool HF.out.symm, below_step H0.out H0.out.size HBf.out⟩
            · have HF : Hid (∀ q, q < j + 1 → GoodB n m a b q) := HGo.out (.inl rfl)
              go_wp2_with fail
              go_roundw
              case rel => exact ⟨j + 1, by omega, by go_num, HBf.out, HF.out⟩
              case measure => simp [intOf]; omega
        · have hltbi : ¬ (j : Int) < ((Kd.names b).length : Int) := by omega
          have HF : Hid (fitsK (m + 1) b (n + 1) a = true) := HY.out HAll.out (fun q hq => HALL.out q (by omega))
          go_wp2_with fail
          go_ret
          exact ⟨ret_bool HF.out.symm, below_step H0.out H0.out.size HBr.out⟩

end Go.Proofs.YtpalkdcgbbbmeaaGreatDoor
