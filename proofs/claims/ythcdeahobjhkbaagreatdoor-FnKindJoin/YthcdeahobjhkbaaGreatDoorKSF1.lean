/-
  The specification's l3Fits: walked, but for forms.
-/
import Derived.Test.YthcdeahobjhkbaaGreatDoorB4
import Derived.Deep.RegionHeld
import Derived.Deep.Cut
import Derived.BigQuiet
import Derived.Lib.Hide
namespace Go.Proofs.YthcdeahobjhkbaaGreatDoor
open Go.RowKit

/-- What l3Fits answers. -/
def FitsSSaid (m : Nat) : Prop := ∀ (S S' : Nat → Prop) (n : Nat) (a : K n) (b : K m) (c0 c1 c2 e0 e1 e2 : Value) (d d' : Int) (w : World), KindIn S w n a c0 c1 c2 → KindIn S' w m b e0 e1 e2 → (∀ b, S b → b < w.heap.size) → (∀ b, S' b → b < w.heap.size) → goodK n a d = true → goodK m b d' = true →
  Calls Tryz.prog 25 #[.agg #[c0, c1, c2], .agg #[e0, e1, e2]] w fun e w' => e = .returned (.bool (fitsK m b n a)) ∧ Below w.heap.size w w'

theorem two_boxes (w : World) (c0 c1 c2 e0 e1 e2 : Value) (W0 : World) (hW0 : W0 = (w.alloc (.cells #[c0, c1, c2] 26)).alloc (.cells #[e0, e1, e2] 26)) :
    Below w.heap.size w W0 ∧ Box3 W0 w.heap.size c0 c1 c2 ∧ Box3 W0 (w.heap.size + 1) e0 e1 e2 ∧ W0.heap.size = w.heap.size + 2 := by
  rw [hW0]
  have hx := Box3.new (w.alloc (.cells #[c0, c1, c2] 26)) e0 e1 e2 26
  rw [show (w.alloc (.cells #[c0, c1, c2] 26)).heap.size = w.heap.size + 1 by simp] at hx
  exact ⟨((Below.refl _ _).alloc (Nat.le_refl _) _).alloc (by simp) _, (Box3.new w _ _ _ 26).keep ((Below.refl _ _).alloc (Nat.le_refl _) _), hx, by simp⟩

/-- The kids of a schema that has one. -/
theorem one_kid {S : Nat → Prop} {w W : World} {n : Nat} {ks : List (K n)} {x : K n} {ka : Option Addr} {kl kc : Nat} (hk : RowIn3 S w (KindIn S w n) ks (.slice ka kl kc)) (hx : ks = [x]) (hB : ∀ b, S b → b < w.heap.size) (hb : Below w.heap.size w W) :
    ∃ b off u0 ua ul uc va vl vc, (ka = some ⟨b, off, none⟩ ∧ kl = 1) ∧ (W.cell? ⟨b, off, none⟩ = some (.int .i64 u0) ∧ W.cell? ⟨b, off + 1, none⟩ = some (.slice ua ul uc) ∧ W.cell? ⟨b, off + 2, none⟩ = some (.slice va vl vc)) ∧ KindIn S W n x (.int .i64 u0) (.slice ua ul uc) (.slice va vl vc) ∧ b < w.heap.size := by
  obtain ⟨ka', kc', he, hkl, hkc⟩ := hk
  cases he
  subst hx
  obtain ⟨b, off, rfl, hbB, hcl⟩ := hkc (by simp)
  obtain ⟨g0, g1, g2, q0, q1, q2, hin⟩ := hcl 0 (by simp)
  rw [Nat.zero_mul, Nat.add_zero] at q0
  rw [Nat.zero_mul, Nat.add_zero] at q1 q2
  obtain ⟨u0, ua, ul, uc, va, vl, vc, rfl, rfl, rfl⟩ := hin.shape
  have hbb := hB b hbB
  exact ⟨b, off, u0, ua, ul, uc, va, vl, vc, ⟨rfl, rfl⟩, ⟨(hb.cell (p := ⟨b, off, none⟩) hbb).trans q0, (hb.cell (p := ⟨b, off + 1, none⟩) hbb).trans q1, (hb.cell (p := ⟨b, off + 2, none⟩) hbb).trans q2⟩, hin.keep (same_below hb hB) (fun _ h => h), hbb⟩

set_option maxRecDepth 20000 in
set_option maxHeartbeats 2000000 in
theorem fits_two (m : Nat) (hn : FitsSSaid m) (S S' : Nat → Prop) (n : Nat) (a : K (n + 1)) (b : K (m + 1)) (x : K n) (y : K m) (c0 c1 c2 e0 e1 e2 : Value) (d d' : Int) (w : World) (ha : KindIn S w (n + 1) a c0 c1 c2) (hb : KindIn S' w (m + 1) b e0 e1 e2) (hB : ∀ b, S b → b < w.heap.size) (hB' : ∀ b, S' b → b < w.heap.size) (hga : goodK n x (d + 1) = true) (hgb : goodK m y (d' + 1) = true)
    (hx : Kd.kids a = [x]) (hy : Kd.kids b = [y]) (hs : (Kd.sort a = 6 ∧ Kd.sort b = 6) ∨ (Kd.sort a = 4 ∧ Kd.sort b = 4)) :
    Calls Tryz.prog 25 #[.agg #[c0, c1, c2], .agg #[e0, e1, e2]] w fun e w' => e = .returned (.bool (fitsK (m + 1) b (n + 1) a)) ∧ Below w.heap.size w w' := by
  have HF : Hid (fitsK (m + 1) b (n + 1) a = fitsK m y n x) := by
    rcases hs with ⟨h1, h2⟩ | ⟨h1, h2⟩
    · exact fitsK_mm h2 h1 hy hx
    · exact fitsK_ll h2 h1 hy hx
  obtain ⟨rfl, -, ha3, ha4⟩ := ha
  obtain ⟨rfl, -, hb3, hb4⟩ := hb
  obtain ⟨na, nc, rfl, -, -, -⟩ := id ha3
  obtain ⟨ma, mc, rfl, -, -, -⟩ := id hb3
  obtain ⟨ka, kc, rfl, -, -⟩ := id ha4
  obtain ⟨la, lc, rfl, -, -⟩ := id hb4
  obtain ⟨W0, hW0⟩ : ∃ W0, W0 = (w.alloc (.cells #[.int .i64 (Kd.sort a), .slice na (Kd.names a).length nc, .slice ka (Kd.kids a).length kc] 26)).alloc (.cells #[.int .i64 (Kd.sort b), .slice ma (Kd.names b).length mc, .slice la (Kd.kids b).length lc] 26) := ⟨_, rfl⟩
  obtain ⟨hb0, hxa, hxb, hz0⟩ := two_boxes w _ _ _ _ _ _ W0 hW0
  obtain ⟨p, o, u0, ua, ul, uc, va, vl, vc, ⟨rfl, hla⟩, ⟨f0, f1, f2⟩, hin, hpl⟩ := one_kid ha4 hx hB hb0
  obtain ⟨q, r, t0, ta, tl, tc, sa, sl, sc, ⟨rfl, hlb⟩, ⟨g0, g1, g2⟩, hin', hql⟩ := one_kid hb4 hy hB' hb0
  rw [hla, hlb] at hW0
  rw [hla] at hxa
  rw [hlb] at hxb
  rw [hla, hlb]
  have HC : Hid (Calls Tryz.prog 25 #[.agg #[.int .i64 u0, .slice ua ul uc, .slice va vl vc], .agg #[.int .i64 t0, .slice ta tl tc, .slice sa sl sc]] W0.drew fun e w' => e = .returned (.bool (fitsK m y n x)) ∧ Below w.heap.size w w' ∧ (w'.cell? ⟨w.heap.size, 2, none⟩ = some (.slice (some ⟨p, o, none⟩) 1 kc) ∧ w'.cell? ⟨w.heap.size + 1, 2, none⟩ = some (.slice (some ⟨q, r, none⟩) 1 lc)) ∧ (w'.cell? ⟨p, o, none⟩ = some (.int .i64 u0) ∧ w'.cell? ⟨p, o + 1, none⟩ = some (.slice ua ul uc) ∧ w'.cell? ⟨p, o + 2, none⟩ = some (.slice va vl vc)) ∧ w'.cell? ⟨q, r, none⟩ = some (.int .i64 t0) ∧ w'.cell? ⟨q, r + 1, none⟩ = some (.slice ta tl tc) ∧ w'.cell? ⟨q, r + 2, none⟩ = some (.slice sa sl sc)) := by
    have hbd : Below W0.heap.size W0 W0.drew := (Below.refl _ _).drew
    refine (hn S S' n x y _ _ _ _ _ _ (d + 1) (d' + 1) W0.drew (KindIn.keep (w := W0) (w' := W0.drew) (fun _ _ => rfl) (fun _ h => h) hin) (KindIn.keep (w := W0) (w' := W0.drew) (fun _ _ => rfl) (fun _ h => h) hin') (fun b hb => by have := hB b hb; show b < W0.heap.size; omega) (fun b hb => by have := hB' b hb; show b < W0.heap.size; omega) hga hgb).mono ?_
    rintro e w' ⟨rfl, hb'⟩
    have hbb : Below W0.heap.size W0 w' := hbd.trans hb'
    have hc : ∀ k j, k < W0.heap.size → w'.cell? ⟨k, j, none⟩ = W0.cell? ⟨k, j, none⟩ := fun k j h => hbb.cell (p := ⟨k, j, none⟩) h
    exact ⟨rfl, below_step hb0 hb0.size hbb, ⟨(hc _ _ (by omega)).trans hxa.c2, (hc _ _ (by omega)).trans hxb.c2⟩, ⟨(hc _ _ (by omega)).trans f0, (hc _ _ (by omega)).trans f1, (hc _ _ (by omega)).trans f2⟩, (hc _ _ (by omega)).trans g0, (hc _ _ (by omega)).trans g1, (hc _ _ (by omega)).trans g2⟩
  have hzi : w.heap.size + 2 ≤ W0.heap.size := by omega
  clear ha3 ha4 hb3 hb4 hin hin' hb0 hz0
  obtain ⟨i0, i1, i2⟩ := hxa
  obtain ⟨j0, j1, j2⟩ := hxb
  rcases hs with ⟨h1, h2⟩ | ⟨h1, h2⟩
  all_goals
    rw [h1] at i0 hW0
    rw [h2] at j0 hW0
    rw [h1, h2]
    clear hx hy h1 h2
    go_enter Tryz.func25, Tryz.ntmps25
  case' inl => go_upto_region 3 with fail
  case' inr => go_upto_region 8 with fail
  all_goals
    rw [← hW0]
    clear hW0
    go_region_held (fun w' => (w'.cell? ⟨w.heap.size, 2, none⟩ = some (.slice (some ⟨p, o, none⟩) 1 kc) ∧ w'.cell? ⟨w.heap.size + 1, 2, none⟩ = some (.slice (some ⟨q, r, none⟩) 1 lc)) ∧ (w'.cell? ⟨p, o, none⟩ = some (.int .i64 u0) ∧ w'.cell? ⟨p, o + 1, none⟩ = some (.slice ua ul uc) ∧ w'.cell? ⟨p, o + 2, none⟩ = some (.slice va vl vc)) ∧ w'.cell? ⟨q, r, none⟩ = some (.int .i64 t0) ∧ w'.cell? ⟨q, r + 1, none⟩ = some (.slice ta tl tc) ∧ w'.cell? ⟨q, r + 2, none⟩ = some (.slice sa sl sc)) (first | with_reducible assumption | go_keep) (first | (go_at_call 25; refine HC.out.mono ?_; rintro e w5 ⟨rfl, hb5, ⟨k0, k1⟩, ⟨k2, k3, k4⟩, k5, k6, k7⟩))
    all_goals
      go_wp2_with fail
      go_ret
      exact ⟨ret_bool HF.out.symm, hb5⟩

set_option maxRecDepth 20000 in
set_option maxHeartbeats 2000000 in
theorem fits_into (m : Nat) (hn : FitsSSaid m) (S S' : Nat → Prop) (n : Nat) (a : K (n + 1)) (b : K (m + 1)) (y : K m) (c0 c1 c2 e0 e1 e2 : Value) (d d' : Int) (w : World) (ha : KindIn S w (n + 1) a c0 c1 c2) (hb : KindIn S' w (m + 1) b e0 e1 e2) (hB : ∀ b, S b → b < w.heap.size) (hB' : ∀ b, S' b → b < w.heap.size) (hga : goodK (n + 1) a d = true) (hgb : goodK m y (d' + 1) = true)
    (hy : Kd.kids b = [y]) (hs : Kd.sort b = 6) (hsa : Kd.sort a ≠ 6) :
    Calls Tryz.prog 25 #[.agg #[c0, c1, c2], .agg #[e0, e1, e2]] w fun e w' => e = .returned (.bool (fitsK (m + 1) b (n + 1) a)) ∧ Below w.heap.size w w' := by
  have HF : Hid (fitsK (m + 1) b (n + 1) a = fitsK m y (n + 1) a) := fitsK_xm hs hsa hy
  have ha' := ha
  obtain ⟨x0, xa, xl, xc, ya, yl, yc, rfl, rfl, rfl⟩ := ha'.shape
  have hx0 : x0 = Kd.sort a := by have := ha.1; simpa using this
  obtain ⟨rfl, -, hb3, hb4⟩ := hb
  obtain ⟨ma, mc, rfl, -, -, -⟩ := id hb3
  obtain ⟨la, lc, rfl, -, -⟩ := id hb4
  obtain ⟨W0, hW0⟩ : ∃ W0, W0 = (w.alloc (.cells #[.int .i64 x0, .slice xa xl xc, .slice ya yl yc] 26)).alloc (.cells #[.int .i64 (Kd.sort b), .slice ma (Kd.names b).length mc, .slice la (Kd.kids b).length lc] 26) := ⟨_, rfl⟩
  obtain ⟨hb0, hxa, hxb, hz0⟩ := two_boxes w _ _ _ _ _ _ W0 hW0
  obtain ⟨q, r, t0, ta, tl, tc, sa, sl, sc, ⟨rfl, hlb⟩, ⟨g0, g1, g2⟩, hin', hql⟩ := one_kid hb4 hy hB' hb0
  have hin := ha.keep (same_below hb0 hB) (fun _ h => h)
  rw [hlb] at hW0
  rw [hlb] at hxb
  rw [hlb]
  have HC : Hid (Calls Tryz.prog 25 #[.agg #[.int .i64 x0, .slice xa xl xc, .slice ya yl yc], .agg #[.int .i64 t0, .slice ta tl tc, .slice sa sl sc]] W0.drew fun e w' => e = .returned (.bool (fitsK m y (n + 1) a)) ∧ Below w.heap.size w w' ∧ (w'.cell? ⟨w.heap.size, 0, none⟩ = some (.int .i64 x0) ∧ w'.cell? ⟨w.heap.size, 1, none⟩ = some (.slice xa xl xc) ∧ w'.cell? ⟨w.heap.size, 2, none⟩ = some (.slice ya yl yc)) ∧ w'.cell? ⟨w.heap.size + 1, 2, none⟩ = some (.slice (some ⟨q, r, none⟩) 1 lc) ∧ w'.cell? ⟨q, r, none⟩ = some (.int .i64 t0) ∧ w'.cell? ⟨q, r + 1, none⟩ = some (.slice ta tl tc) ∧ w'.cell? ⟨q, r + 2, none⟩ = some (.slice sa sl sc)) := by
    have hbd : Below W0.heap.size W0 W0.drew := (Below.refl _ _).drew
    refine (hn S S' (n + 1) a y _ _ _ _ _ _ d (d' + 1) W0.drew (KindIn.keep (w := W0) (w' := W0.drew) (fun _ _ => rfl) (fun _ h => h) hin) (KindIn.keep (w := W0) (w' := W0.drew) (fun _ _ => rfl) (fun _ h => h) hin') (fun b hb => by have := hB b hb; show b < W0.heap.size; omega) (fun b hb => by have := hB' b hb; show b < W0.heap.size; omega) hga hgb).mono ?_
    rintro e w' ⟨rfl, hb'⟩
    have hbb : Below W0.heap.size W0 w' := hbd.trans hb'
    have hc : ∀ k j, k < W0.heap.size → w'.cell? ⟨k, j, none⟩ = W0.cell? ⟨k, j, none⟩ := fun k j h => hbb.cell (p := ⟨k, j, none⟩) h
    exact ⟨rfl, below_step hb0 hb0.size hbb, ⟨(hc _ _ (by omega)).trans hxa.c0, (hc _ _ (by omega)).trans hxa.c1, (hc _ _ (by omega)).trans hxa.c2⟩, (hc _ _ (by omega)).trans hxb.c2, (hc _ _ (by omega)).trans g0, (hc _ _ (by omega)).trans g1, (hc _ _ (by omega)).trans g2⟩
  have hne : (x0 == 6) = false := by rw [hx0]; simpa using hsa
  clear ha ha' hb3 hb4 hin hin' hb0 hz0 hx0
  obtain ⟨i0, i1, i2⟩ := hxa
  obtain ⟨j0, j1, j2⟩ := hxb
  rw [hs] at j0 hW0
  rw [hs]
  clear hy hs hsa
  go_enter Tryz.func25, Tryz.ntmps25
  go_upto_region 4 with fail
  rw [← hW0]
  clear hW0
  go_region_held (fun w' => (w'.cell? ⟨w.heap.size, 0, none⟩ = some (.int .i64 x0) ∧ w'.cell? ⟨w.heap.size, 1, none⟩ = some (.slice xa xl xc) ∧ w'.cell? ⟨w.heap.size, 2, none⟩ = some (.slice ya yl yc)) ∧ w'.cell? ⟨w.heap.size + 1, 2, none⟩ = some (.slice (some ⟨q, r, none⟩) 1 lc) ∧ w'.cell? ⟨q, r, none⟩ = some (.int .i64 t0) ∧ w'.cell? ⟨q, r + 1, none⟩ = some (.slice ta tl tc) ∧ w'.cell? ⟨q, r + 2, none⟩ = some (.slice sa sl sc)) (first | with_reducible assumption | go_keep) (first | (go_at_call 25; refine HC.out.mono ?_; rintro e w5 ⟨rfl, hb5, ⟨k0, k1, k2⟩, k3, k4, k5, k6⟩))
  all_goals
    go_wp2_with fail
    go_ret
    exact ⟨ret_bool HF.out.symm, hb5⟩

set_option maxRecDepth 20000 in
set_option maxHeartbeats 2000000 in
theorem fits_unlike (S S' : Nat → Prop) (n m : Nat) (a : K (n + 1)) (b : K (m + 1)) (c0 c1 c2 e0 e1 e2 : Value) (w : World) (ha : KindIn S w (n + 1) a c0 c1 c2) (hb : KindIn S' w (m + 1) b e0 e1 e2)
    (hs : Kd.sort b ≠ 6) (hsa : Kd.sort a ≠ Kd.sort b) :
    Calls Tryz.prog 25 #[.agg #[c0, c1, c2], .agg #[e0, e1, e2]] w fun e w' => e = .returned (.bool (fitsK (m + 1) b (n + 1) a)) ∧ Below w.heap.size w w' := by
  have HF : Hid (fitsK (m + 1) b (n + 1) a = false) := fitsK_no hs hsa
  obtain ⟨x0, xa, xl, xc, ya, yl, yc, rfl, rfl, rfl⟩ := ha.shape
  obtain ⟨z0, za, zl, zc, ua, ul, uc, rfl, rfl, rfl⟩ := hb.shape
  have hx0 : x0 = Kd.sort a := by have := ha.1; simpa using this
  have hz0 : z0 = Kd.sort b := by have := hb.1; simpa using this
  have h6 : (z0 == 6) = false := by rw [hz0]; simpa using hs
  have hne : (x0 != z0) = true := by rw [hz0, hx0]; simpa using hsa
  have HB : Hid (Below w.heap.size w ((w.alloc (.cells #[.int .i64 x0, .slice xa xl xc, .slice ya yl yc] 26)).alloc (.cells #[.int .i64 z0, .slice za zl zc, .slice ua ul uc] 26))) := (two_boxes w _ _ _ _ _ _ _ rfl).1
  clear ha hb hx0 hz0 hs hsa
  go_enter Tryz.func25, Tryz.ntmps25
  go_wp2_with fail
  go_ret
  exact ⟨ret_bool HF.out.symm, HB.out⟩

end Go.Proofs.YthcdeahobjhkbaaGreatDoor
