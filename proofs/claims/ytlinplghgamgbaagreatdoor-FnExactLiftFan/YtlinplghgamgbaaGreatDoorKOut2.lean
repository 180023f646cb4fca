/-
  What the program copies out: outerKind.
-/
import Derived.Test.YtlinplghgamgbaaGreatDoorB8
import Derived.Test.YtlinplghgamgbaaGreatDoorKMade
import Derived.Test.YtlinplghgamgbaaGreatDoorB1
import Derived.Deep.RegionLaw
import Derived.Deep.RegionWith
import Derived.Deep.Cut
import Derived.WalkSmall
import Derived.LoopTactic
namespace Go.Proofs.YtlinplghgamgbaaGreatDoor
open Go.RowKit

theorem Tryz.info_kindO : (Tryz.prog.info? 70).map (fun i => (i.zero, i.size, i.bytes)) = some (some (.agg #[.int .i64 0, .slice none 0 0, .slice none 0 0]), 3, 56) := by kernel_rfl

/-- What outerKind makes. -/
def OutKPost (n : Nat) (t : K n) (w : World) (e : Ending) (w' : World) : Prop :=
  Below w.heap.size w w' ∧ ∃ g0 g1 g2 L3 L4, e = .returned (.agg #[g0, g1, g2]) ∧ KindIn (fun b => w.heap.size ≤ b ∧ b < w'.heap.size) w' n t g0 g1 g2 ∧ SpN w' g1 L3 ∧ SpK w' (n - 1) g2 L4 ∧
    Own (fun b => w.heap.size ≤ b ∧ b < w'.heap.size) (L3 ++ L4) ∧ (L3 ++ L4).length = spKL n t

/-- outerKind at schemas of at most n levels. -/
def OutKSaid (n : Nat) : Prop := ∀ (S : Nat → Prop) (t : K n) (v : Value) (d : Int) (w : World), InnerK S w n t v → (∀ b, S b → b < w.heap.size) → goodK n t d = true → cntK n t ≤ 40 → Calls Tryz.prog 82 #[v] w (OutKPost n t w)

theorem goodK_wf {n : Nat} {t : K (n + 1)} {d : Int} (h : goodK (n + 1) t d = true) : (Lit.int .i64 (Kd.sort t)).wf = true := by
  simp only [goodK, Bool.and_eq_true] at h
  have ha : aloneKF (Kd.sort t) (Kd.names t) (Kd.kids t).length = true := h.1.2
  generalize Kd.sort t = s at *
  unfold aloneKF at ha
  by_cases h1 : s = 1
  · subst h1; rfl
  by_cases h2 : s = 2
  · subst h2; rfl
  by_cases h3 : s = 3
  · subst h3; rfl
  by_cases h4 : s = 4
  · subst h4; rfl
  by_cases h5 : s = 5
  · subst h5; rfl
  by_cases h6 : s = 6
  · subst h6; rfl
  rw [if_neg h1, if_neg h2, if_neg h3, if_neg h4, if_neg h5, if_neg h6] at ha
  cases ha

/-- What stands when the loop begins. -/
structure KOutStart (n : Nat) (t : K (n + 1)) (w : World) (X : Nat) (s : Int) (nv : Value) (W : World) : Prop where
  below : Below w.heap.size w W
  zero : W.heap[w.heap.size]? = some (.cells #[.int .i64 0, .slice none 0 0, .slice none 0 0] 70 (0, 0))
  box : W.heap[X]? = some (.cells #[.int .i64 s, nv, .slice none 0 0] 70 (0, 0))
  names : W.ownsRow (w.heap.size + 1) 9 1 nv (Kd.names t).length ((Kd.names t).map .string)
  far : nv.ownBlock ≠ some X
  low : w.heap.size < X

theorem kstart_alloc {n : Nat} {t : K (n + 1)} {w W1 w1 : World} {s : Int} {nv : Value} (hb1 : Below w.heap.size w W1) (hz1 : W1.heap.size = w.heap.size + 1) (hzero : W1.heap[w.heap.size]? = some (.cells #[.int .i64 0, .slice none 0 0, .slice none 0 0] 70 (0, 0))) (hb2 : Below W1.heap.size W1 w1)
    (hown : w1.ownsRow W1.heap.size 9 1 nv (Kd.names t).length ((Kd.names t).map .string)) : KOutStart n t w w1.heap.size s nv (w1.alloc (.cells #[.int .i64 s, nv, .slice none 0 0] 70)) := by
  have hz2 := hb2.size
  have hol := r1_lt hown
  refine ⟨(hb1.trans (hb2.mono (by omega))).alloc (by omega) _, ?_, heap_alloc_new _ _, by rw [← hz1]; exact hown.alloc _, fun e => by have := hol _ e; omega, by omega⟩
  rw [Below.heap_alloc _ _ _ (by omega), hb2.block _ (by omega)]; exact hzero

theorem kstart_set {n : Nat} {t : K (n + 1)} {w W1 W2 w1 : World} {s : Int} {nv : Value} (hb1 : Below w.heap.size w W1) (hz1 : W1.heap.size = w.heap.size + 1) (hzero : W1.heap[w.heap.size]? = some (.cells #[.int .i64 0, .slice none 0 0, .slice none 0 0] 70 (0, 0)))
    (hW2 : W2 = W1.alloc (.cells #[.int .i64 0, .slice none 0 0, .slice none 0 0] 70)) (hb2 : Below W2.heap.size W2 w1)
    (hown : w1.ownsRow W2.heap.size 9 1 nv (Kd.names t).length ((Kd.names t).map .string)) : KOutStart n t w (w.heap.size + 1) s nv (put3 w1 (w.heap.size + 1) 0 (.int .i64 s) nv (.slice none 0 0)) := by
  have hzW2 : W2.heap.size = w.heap.size + 2 := by rw [hW2]; simp; omega
  have hz2 := hb2.size
  have hol := r1_lt hown
  have hbx : w1.heap[w.heap.size + 1]? = some (.cells #[.int .i64 0, .slice none 0 0, .slice none 0 0] 70 (0, 0)) := by
    rw [hb2.block _ (by omega), hW2, ← hz1]; exact heap_alloc_new _ _
  have hb1' : Below w.heap.size w W2 := by rw [hW2]; exact hb1.alloc hb1.size _
  refine ⟨put3_below (hb1'.trans (hb2.mono (by omega))) (by omega), ?_, ?_, ?_, fun e => by have := hol _ e; omega, by omega⟩
  · rw [put3_other (by omega), hb2.block _ (by omega), hW2, Below.heap_alloc _ _ _ (by omega)]; exact hzero
  · simp [put3, World.setCell, Array.getElem?_modify, hbx]
  · have h1 : w1.ownsRow (w.heap.size + 1) 9 1 nv (Kd.names t).length ((Kd.names t).map .string) := by
      refine ⟨hown.1, hown.2.elim .inl fun ⟨g, cap, cur, e, hg, r⟩ => .inr ⟨g, cap, cur, e, by omega, r⟩⟩
    exact r1_keep h1 fun g hg => put3_other (by have := hol g hg; omega)

theorem zero_kind0 {w : World} {N : Nat} (h : w.heap[N]? = some (.cells #[.int .i64 0, .slice none 0 0, .slice none 0 0] 70 (0, 0))) :
    (w.cell? ⟨N, 0, none⟩ = some (.int .i64 0) ∧ w.cell? ⟨N, 1, none⟩ = some (.slice none 0 0) ∧ w.cell? ⟨N, 2, none⟩ = some (.slice none 0 0)) ∧
      w.frozen? ⟨N, 0, none⟩ = false ∧ w.frozen? ⟨N, 1, none⟩ = false ∧ w.frozen? ⟨N, 2, none⟩ = false := by
  refine ⟨⟨?_, ?_, ?_⟩, ?_, ?_, ?_⟩ <;> simp [World.cell?, World.frozen?, h]

/-- The way out. -/
theorem kout_out {n : Nat} {t : K (n + 1)} {w W wr : World} {X : Nat} {v nv : Value} {s : Int} (h : KOutStart n t w X s nv W) (hs : Kd.sort t = s) (hwf : (Lit.int .i64 s).wf = true) (hl : (Kd.names t).length ≤ 100) (hns : ∀ x, x ∈ Kd.names t → x.size ≤ 10000) (hkl : (Kd.kids t).length ≤ 100)
    (hL : KOutLoop X n (Kd.kids t) s nv W (Kd.kids t).length v wr) : OutKPost (n + 1) t w (.returned (.agg #[.int .i64 s, nv, v])) (put3 wr w.heap.size 0 (.int .i64 s) nv v) := by
  have hlow := h.low
  have hzW := h.below.size
  have hzr := hL.near.size
  obtain ⟨xs, Ps, hxs, hpl, hko, hln⟩ := hL.row
  have hv := r1_lt hxs
  have hol := r1_lt h.names
  have q : ∀ b, b ≠ w.heap.size → (put3 wr w.heap.size 0 (.int .i64 s) nv v).heap[b]? = wr.heap[b]? := fun b h => put3_other h
  have hz : (put3 wr w.heap.size 0 (.int .i64 s) nv v).heap.size = wr.heap.size := put3_size
  have hXW : X < W.heap.size := (Array.getElem?_eq_some_iff.1 h.box).1
  have hown' : wr.ownsRow (w.heap.size + 1) 9 1 nv (Kd.names t).length ((Kd.names t).map .string) := r1_keep h.names fun g hg => hL.near.block g (hol g hg).2 (fun e => h.far (by rw [← e]; exact hg))
  obtain ⟨L3, p1, p2, p3⟩ := spn_of_owns hown' (by omega)
  obtain ⟨L4, hR, hO, hLl⟩ := spk_of_owns hxs (by omega) hpl hko (fun b hb => hb.2.2)
  rw [List.take_length] at hln
  have hO' : Own (fun b => W.heap.size ≤ b ∧ b < wr.heap.size) L4 := hO.mono (fun b hb => hb.elim (fun h => ⟨h.1, h.2.1⟩) (fun h => hv b h))
  have hown34 : Own (fun b => w.heap.size + 1 ≤ b ∧ b < wr.heap.size) (L3 ++ L4) := p3.app hO' (fun b h => by have := hol b h; omega) (fun b h => by omega) (fun b h1 h2 => by have := hol b h1; omega)
  have hbw : Below w.heap.size w wr := ⟨hL.near.os.trans h.below.os, hL.near.tape.trans h.below.tape, hL.near.output.trans h.below.output, by omega, fun b hb => (hL.near.block b (by omega) (by omega)).trans (h.below.block b hb)⟩
  refine ⟨put3_below hbw (Nat.le_refl _), _, _, _, L3, L4, rfl, ⟨by rw [hs], by rw [hs]; exact hwf, ?_, ?_⟩, p1.same (fun x h => q _ (by have := (hown34.1 x (List.mem_append_left _ h)).1; omega)), hR.same (fun x h => q _ (by have := (hown34.1 x (List.mem_append_right _ h)).1; omega)), hown34.mono (fun b hb => by rw [hz]; omega), ?_⟩
  · have h3 := strs_of_ownsK (S := fun b => w.heap.size + 1 ≤ b ∧ b < wr.heap.size) hown' (by omega) hns (fun g hg => by have := hol g hg; omega)
    exact h3.keep (fun b hb => q b (by omega)) (fun b hb => by rw [hz]; omega)
  · have h4 := row3_of_owns (S := fun b => w.heap.size + 1 ≤ b ∧ b < wr.heap.size) hxs (by omega) (fun g hg => by have := hv g hg; omega) (fun j hj => by
      obtain ⟨d0, d1, d2, K3, K4, hd, -, hdt, -⟩ := hko.2 j hj (by omega)
      exact ⟨d0, d1, d2, hd, hdt.keep (fun _ _ => rfl) (fun b hb => ⟨by have := hb.1; omega, hb.2.1⟩)⟩)
    exact h4.keepK (fun b hb => q b (by omega)) (fun b hb => by rw [hz]; omega)
  · rw [List.length_append, p2, hLl]
    show _ = (Kd.names t).length + sumL (fun x => 1 + spKL n x) (Kd.kids t)
    omega

set_option maxRecDepth 100000 in
set_option maxHeartbeats 4000000 in
theorem outerKind_step (n : Nat) (hn : OutKSaid n) : OutKSaid (n + 1) := by
  intro S t v d w hin hB hg hc
  have hwf := goodK_wf hg
  have HN0 : ¬ Kd.sort t = 5 → Kd.names t = [] := names_of_other hg
  have HF5 : Kd.sort t = 5 → (Kd.names t).length = (Kd.kids t).length ∧ riseB (Kd.names t) = true := form_of hg
  have hg2 := hg
  simp only [goodK, Bool.and_eq_true] at hg2
  have HGK : Hid (∀ j (h : j < (Kd.kids t).length), goodK n (Kd.kids t)[j] (d + 1) = true ∧ cntK n (Kd.kids t)[j] ≤ 40) := by
    intro j h
    refine ⟨List.all_eq_true.1 hg2.2 _ (List.getElem_mem h), ?_⟩
    have := sumL_mono (fun x => cntK n x) (Kd.kids t) _ (List.getElem_mem h)
    simp only [cntK] at hc; omega
  have hkc : (Kd.kids t).length ≤ 40 := by have := sumK_ge (Kd.kids t) hg2.2; simp only [cntK] at hc; omega
  have hnc : (Kd.names t).length ≤ 40 := by
    by_cases h5 : Kd.sort t = 5
    · have := (HF5 h5).1; omega
    · rw [HN0 h5]; simp
  have hns : ∀ x, x ∈ Kd.names t → x.size ≤ 10000 := by
    intro x hx
    by_cases h5 : Kd.sort t = 5
    · have := rise_short (HF5 h5).2 x hx; omega
    · rw [HN0 h5] at hx; cases hx
  have HNS : Hid (∀ x, x ∈ Kd.names t → x.size ≤ 10000) := hns
  clear hg2 hg hc HN0 HF5
  obtain ⟨b, nv, pv, kv, rfl, hSb, hcell, hN, -, hK⟩ := hin
  obtain ⟨na, nc, rfl, -⟩ := id hN
  obtain ⟨ka, kc, rfl, -, hkids⟩ := id hK
  generalize hs : Kd.sort t = s at *
  have HS : Hid (Kd.sort t = s) := hs
  clear hs
  have hbb := hB b hSb
  have k0 : w.cell? ⟨b, 0, none⟩ = some (.int .i64 s) := by simp [World.cell?, hcell]
  have k1 : w.cell? ⟨b, 1, none⟩ = some (.slice na (Kd.names t).length nc) := by simp [World.cell?, hcell]
  have k3 : w.cell? ⟨b, 3, none⟩ = some (.slice ka (Kd.kids t).length kc) := by simp [World.cell?, hcell]
  obtain ⟨W1, hW1⟩ : ∃ W1, W1 = w.alloc (.cells #[.int .i64 0, .slice none 0 0, .slice none 0 0] 70) := ⟨_, rfl⟩
  have hz1 : W1.heap.size = w.heap.size + 1 := by rw [hW1]; simp
  have hb1 : Below w.heap.size w W1 := by rw [hW1]; exact (Below.refl _ _).alloc (Nat.le_refl _) _
  have hzero : W1.heap[w.heap.size]? = some (.cells #[.int .i64 0, .slice none 0 0, .slice none 0 0] 70 (0, 0)) := by rw [hW1]; exact heap_alloc_new _ _
  have j0 := (hb1.cell (p := ⟨b, 0, none⟩) hbb).trans k0
  have j1 := (hb1.cell (p := ⟨b, 1, none⟩) hbb).trans k1
  have HC : ∀ W, Below w.heap.size w W → w.heap.size + 1 ≤ W.heap.size → Calls Tryz.prog 98 #[.slice na (Kd.names t).length nc] W.drew fun e w' => ∃ va vl vc, e = .returned (.slice va vl vc) ∧ Below W.heap.size W w' ∧ w'.cell? ⟨b, 0, none⟩ = some (.int .i64 s) ∧
      w'.ownsRow W.heap.size 9 1 (.slice va vl vc) (Kd.names t).length ((Kd.names t).map .string) := by
    intro W hbW hzW
    refine (copyNames_any S (Kd.names t) _ W.drew (hN.keep (same_below hbW.drew hB) (fun _ h => h)) (fun b hb => by have := hB b hb; simp; omega) (by omega) hns).mono ?_
    rintro e w' ⟨v', rfl, hown, hb⟩
    have hb' : Below W.heap.size W w' := ((Below.refl _ _).drew).trans hb
    obtain ⟨a, c, rfl⟩ := r1_shape hown
    exact ⟨_, _, _, rfl, hb', (hb'.cell (p := ⟨b, 0, none⟩) (by show b < _; omega)).trans ((hbW.cell (p := ⟨b, 0, none⟩) hbb).trans k0), hown⟩
  have HCB : Hid (Calls Tryz.prog 98 #[.slice na (Kd.names t).length nc] W1.drew _) := HC W1 hb1 (by omega)
  have hbA : Below w.heap.size w (W1.alloc (.cells #[.int .i64 0, .slice none 0 0, .slice none 0 0] 70)) := hb1.alloc hb1.size _
  have HCA : Hid (Calls Tryz.prog 98 #[.slice na (Kd.names t).length nc] (W1.alloc (.cells #[.int .i64 0, .slice none 0 0, .slice none 0 0] 70)).drew _) := HC _ hbA (by simp; omega)
  have HZA : Hid ((W1.alloc (.cells #[.int .i64 0, .slice none 0 0, .slice none 0 0] 70)).heap[w.heap.size + 1]? = some (.cells #[.int .i64 0, .slice none 0 0, .slice none 0 0] 70 (0, 0))) := by rw [← hz1]; exact heap_alloc_new _ _
  have HZ0 : Hid (W1.heap[w.heap.size]? = some (.cells #[.int .i64 0, .slice none 0 0, .slice none 0 0] 70 (0, 0)) ∧ Below w.heap.size w W1) := ⟨hzero, hb1⟩
  have HK : Hid (Row1 S w (InnerK S w n) (Kd.kids t) (.slice ka (Kd.kids t).length kc)) := hK
  have jA0 := (hbA.cell (p := ⟨b, 0, none⟩) hbb).trans k0
  have jA1 := (hbA.cell (p := ⟨b, 1, none⟩) hbb).trans k1
  clear hN hK hns hzero hcell HC hbA
  go_enter Tryz.func82, Tryz.ntmps82
  go_wp2_with fail
  rw [← hW1]
  clear hW1
  go_upto_region 1 with fail
  go_cut [3] from 6 (fun v wx => ∃ (X : Nat) (va : Option Addr) (vl vc : Nat), v = .pointer (some ⟨X, 0, none⟩) ∧ KOutStart n t w X s (.slice va vl vc) wx)
  case first =>
    go_region_law (first
      | (go_simp; go_at_call 98; refine HCB.out.mono ?_; rintro e w1 ⟨va, vl, vc, rfl, hb2, j0', hown⟩; have j0'' : (w1.alloc (.cells #[.int .i64 0, .slice none 0 0, .slice none 0 0] 70)).cell? ⟨b, 0, none⟩ = some (.int .i64 s) := ((World.cell?_of_block (Below.heap_alloc _ _ _ (by show b < _; have := hb2.size; omega))).trans j0'))
      | (go_simp; go_at_call 98; refine HCA.out.mono ?_; rintro e w1 ⟨va, vl, vc, rfl, hb2, j0', hown⟩; obtain ⟨⟨r0, r1, r2⟩, f0, f1, f2⟩ := zero_kind0 ((hb2.block (w.heap.size + 1) (by simp; omega)).trans HZA.out)))
    all_goals
      have HST : Hid (KOutStart n t w _ s (.slice va vl vc) _) := (by first | exact kstart_alloc HZ0.out.2 hz1 HZ0.out.1 hb2 hown | exact kstart_set HZ0.out.2 hz1 HZ0.out.1 rfl hb2 hown)
      clear hb2 hown
      go_wp2_with fail
      go_meet
      exact ⟨_, _, _, _, rfl, HST.out⟩
  case rest =>
    obtain ⟨X, va, vl, vc, rfl, hST⟩ := hcut
    have hXc : X < wc.heap.size := (Array.getElem?_eq_some_iff.1 hST.box).1
    have hlow := hST.low
    have k3c := (hST.below.cell (p := ⟨b, 3, none⟩) hbb).trans k3
    have HST : Hid (KOutStart n t w X s (.slice va vl vc) wc) := hST
    have hzc := hST.below.size
    clear hST HCA HCB HZA j0 j1 jA0 jA1 k0 k1 k3
    go_wp2_with fail
    go_loopw [21] (fun i wr => ∃ (k : Nat) (v : Value), k ≤ (Kd.kids t).length ∧ i = .int .i64 k ∧ KOutLoop X n (Kd.kids t) s (.slice va vl vc) wc k v wr) (fun i _ => (Kd.kids t).length - (intOf i).toNat)
    case atStart => exact ⟨0, .slice none 0 0, Nat.zero_le _, rfl, Near.refl _ _, HST.out.box, [], [], World.ownsRow_nil _ _ _ _, rfl, ⟨Own.nil _, fun j _ hp => absurd hp (Nat.not_lt_zero _)⟩, by simp [sumL]⟩
    case round =>
      obtain ⟨k, v, hk, rfl, hL⟩ := hrel
      obtain ⟨xs, Ps, hown, hpl, hko, hln⟩ := hL.row
      obtain ⟨xa, xc, rfl⟩ := r1_shape hown
      have hnr := hL.near
      have hzr := hnr.size
      have x0 : wr.cell? ⟨X, 0, none⟩ = some (.int .i64 s) := by simp [World.cell?, hL.box]
      have x1 : wr.cell? ⟨X, 1, none⟩ = some (.slice va vl vc) := by simp [World.cell?, hL.box]
      have x2 : wr.cell? ⟨X, 2, none⟩ = some (.slice xa k xc) := by simp [World.cell?, hL.box]
      have HL : Hid (KOutLoop X n (Kd.kids t) s (.slice va vl vc) wc k (.slice xa k xc) wr) := hL
      have HX : Hid (wr.ownsRow wc.heap.size 70 3 (.slice xa k xc) k xs) := hown
      have HKO : Hid (Ps.length = k ∧ KidsOwnK (fun b => wc.heap.size ≤ b ∧ b < wr.heap.size ∧ (Value.slice xa k xc).ownBlock ≠ some b) wr n (Kd.kids t) xs Ps ∧ Ps.flatten.length + k = sumL (fun x => 1 + spKL n x) ((Kd.kids t).take k)) := ⟨hpl, hko, hln⟩
      clear hL hown hpl hko hln
      by_cases hlt : k < (Kd.kids t).length
      · obtain ⟨kb, off, rfl, hbB, hcell⟩ := hkids (by intro h; rw [h] at hlt; simp at hlt)
        obtain ⟨c, e0, hr⟩ := hcell k hlt
        obtain ⟨cb, rfl, -⟩ := id hr.ptr
        have hkb := hB kb hbB
        have hsame : ∀ b, S b → wr.heap[b]? = w.heap[b]? := fun b hb => by
          have := hB b hb
          rw [hnr.block b (by omega) (by omega)]; exact HST.out.below.block b this
        have f0 : wr.cell? ⟨kb, off + k, none⟩ = some (.pointer (some ⟨cb, 0, none⟩)) := (World.cell?_of_block (w := w) (w' := wr) (a := ⟨kb, off + k, none⟩) (hsame kb hbB)).trans e0
        have HC : Hid (Calls Tryz.prog 82 #[.pointer (some ⟨cb, 0, none⟩)] wr.drew (OutKPost n (Kd.kids t)[k] wr.drew)) := hn S (Kd.kids t)[k] _ (d + 1) wr.drew (hr.keep (w' := wr.drew) (fun b hb => hsame b hb) (fun _ h => h)) (fun b hb => by have := hB b hb; simp; omega) (HGK.out k hlt).1 (HGK.out k hlt).2
        obtain ⟨i0, hi0, hz0, hzz1, hz2⟩ := info_parts Tryz.info_kindO
        have HI0 : Hid (_ ∧ _ ∧ _ ∧ _) := ⟨hi0, hz0, hzz1, hz2⟩
        have hXr : X < wr.heap.size := by omega
        clear hi0 hz0 hzz1 hz2 hkids hcell e0 hr hsame
        go_wp2_with fail
        go_region_law (first
          | (refine step_append_lies _ (by rfl) (.tmp 26) (.tmp 29) 68 (by rfl) wc.heap.size 70 i0 _ 3 56 Tryz.underlying68 HI0.out.1 HI0.out.2.1 HI0.out.2.2.1 HI0.out.2.2.2 rfl (by decide) (.slice xa k xc) k xs (by rfl) (hox _) ⟨w2.heap.size, 0, none⟩ 1 1 [.int .i64 u0, .slice ua ul uc, .slice ya yl yc] (by rfl) rfl (World.news_of_block (heap_alloc_new w2 _)) (by simp [Value.oneCell']) (by decide) (by unfold maxLen; omega) (by omega) (by simp; omega) (w2.heap.size + 1) (by simp) ?_; intro g cap w3 hown3 hgrow3 hat3 hlt3; have hb3 := ((hgrow3.block X (by simp; omega) (fun e => by have := r1_lt HX.out _ e.symm; omega)).trans (Below.heap_alloc _ _ _ (by omega))).trans hbx2; have x2'' : w3.cell? ⟨X, 2, none⟩ = some (.slice xa k xc) := (by simp [World.cell?, hb3]); have xf'' : w3.frozen? ⟨X, 2, none⟩ = false := (by simp [World.frozen?, hb3]))
          | (go_simp; go_at_call 82; refine HC.out.mono ?_; rintro e w2 ⟨hb2, g0, g1, g2, L3, L4, rfl, hin2, hs3, hs4, ho, hl⟩; obtain ⟨u0, ua, ul, uc, ya, yl, yc, rfl, rfl, rfl⟩ := hin2.shape; have hsz2 : wr.heap.size ≤ w2.heap.size := hb2.size; have hbx2 := (hb2.block X (by simpa using hXr)).trans HL.out.box; have hox : ∀ o, (w2.alloc o).ownsRow wc.heap.size 70 3 (.slice xa k xc) k xs := (fun o => (r1_keep HX.out (fun g' hg' => hb2.block g' (by have := r1_lt HX.out g' hg'; simp; omega))).alloc o); have x2' : w2.cell? ⟨X, 2, none⟩ = some (.slice xa k xc) := (by simp [World.cell?, hbx2]); have x2a : (w2.alloc (.cells #[.int .i64 u0, .slice ua ul uc, .slice ya yl yc] 70)).cell? ⟨X, 2, none⟩ = some (.slice xa k xc) := (World.cell?_of_block (Below.heap_alloc _ _ _ (by show X < _; omega))).trans x2'))
        all_goals
          have HF : Hid (KOutLoop X n (Kd.kids t) s (.slice va vl vc) wc (k + 1) (.slice (some ⟨g, 0, none⟩) (k + 1) cap) (w3.setCell ⟨X, 2, none⟩ (.slice (some ⟨g, 0, none⟩) (k + 1) cap))) :=
            kout_next (W := wr.drew) HL.out.near hXc HL.out.box hlt HX.out HKO.out.1 HKO.out.2.1 HKO.out.2.2 rfl ⟨rfl, rfl, rfl⟩ hb2 hin2 hs3 hs4 ho hl hown3 hgrow3 hat3
          clear hown3 hgrow3 hat3 hin2 hb2 hs3 hs4 ho hl hox x2' x2a x2'' xf'' hb3 hbx2
          go_wp2_with fail
          go_roundw
          case rel => exact ⟨k + 1, _, by omega, by go_num, HF.out⟩
          case measure => simp [intOf]; omega
      · have hkl : k = (Kd.kids t).length := by omega
        have hzr0 : wr.heap[w.heap.size]? = some (.cells #[.int .i64 0, .slice none 0 0, .slice none 0 0] 70 (0, 0)) := (hnr.block _ (by omega) (by omega)).trans HST.out.zero
        obtain ⟨⟨r0, r1, r2⟩, f0, f1, f2⟩ := zero_kind0 hzr0
        have HP : Hid (OutKPost (n + 1) t w (.returned (.agg #[.int .i64 s, .slice va vl vc, .slice xa k xc])) (put3 wr w.heap.size 0 (.int .i64 s) (.slice va vl vc) (.slice xa k xc))) := by
          have h1 := HL.out
          rw [hkl] at h1 ⊢
          exact kout_out HST.out HS.out hwf (by omega) HNS.out (by omega) h1
        clear hkl hkids HX HKO HL hzr0
        go_wp2_with fail
        refine bodyPost_ret (v := .agg #[.int .i64 s, .slice va vl vc, .slice xa k xc]) (by simp [results, Tryz.results82, go_sem, r0, r1, r2]) rfl ?_
        exact HP.out

theorem outerKind_any : ∀ n, OutKSaid n := by
  intro n
  induction n with
  | zero => intro S t v d w h; exact h.elim
  | succ n ih => exact outerKind_step n ih

end Go.Proofs.YtlinplghgamgbaaGreatDoor
