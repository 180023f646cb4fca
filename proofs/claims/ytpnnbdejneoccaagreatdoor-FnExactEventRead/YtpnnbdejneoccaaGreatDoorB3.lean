/-
  Several texts in one, in their order.
-/
import Derived.Test.YtpnnbdejneoccaaGreatDoorB1
import Derived.Deep.RegionWith

/-
  The comparison of the laws: what eqStringS answers of two copies of one list: true.
-/
namespace Go.Proofs.YtpnnbdejneoccaaGreatDoor
open Go.RowKit

set_option maxHeartbeats 400000 in
theorem eqStringS_same (S S' : Nat → Prop) (l : List ByteArray) (v v' : Value) (w : World) (hl : StrsIn S w l v) (hl' : StrsIn S' w l v') (hB : ∀ b, S b → b < w.heap.size) (hB' : ∀ b, S' b → b < w.heap.size) :
    Calls Tryz.prog 42 #[v, v'] w fun e w' => e = .returned (.bool true) ∧ Below w.heap.size w w' := by
  obtain ⟨ao, cap, rfl, hlen, hs, hc⟩ := hl
  obtain ⟨ao', cap', rfl, -, -, hc'⟩ := hl'
  unfold maxLen at hlen
  have hne : ((l.length : Int) != (l.length : Int)) = false := by simp
  go_enter Tryz.func42, Tryz.ntmps42
  go_wp2_with fail
  go_loopw [5] (fun i wr => ∃ k : Nat, k ≤ l.length ∧ i = .int .i64 k ∧ Below w.heap.size w wr) (fun i _ => l.length - (intOf i).toNat)
  case atStart => exact ⟨0, Nat.zero_le _, rfl, Below.refl _ _⟩
  case round =>
    obtain ⟨k, hk, rfl, hbel⟩ := hrel
    by_cases hlt : k < l.length
    · obtain ⟨b, off, rfl, hbB, hcell⟩ := hc (by intro h; rw [h] at hlt; simp at hlt)
      obtain ⟨b', off', rfl, hbB', hcell'⟩ := hc' (by intro h; rw [h] at hlt; simp at hlt)
      have f0 := (hbel.cell (p := ⟨b, off + k, none⟩) (hB b hbB)).trans (hcell k hlt)
      have f1 := (hbel.cell (p := ⟨b', off' + k, none⟩) (hB' b' hbB')).trans (hcell' k hlt)
      have hsk := hs l[k] (List.getElem_mem hlt)
      clear hc hc' hcell hcell' hs
      generalize l[k] = s at *
      go_wp2_with fail
      go_region
      all_goals go_wp2_with fail
      all_goals
        go_roundw
        case rel => exact ⟨k + 1, by omega, by go_num, hbel.drew⟩
        case measure => simp [intOf]; omega
    · clear hc hc' hs
      go_wp2_with fail
      go_ret
      exact ⟨rfl, hbel⟩

end Go.Proofs.YtpnnbdejneoccaaGreatDoor

/-
  The comparison of the laws: what eqStringS, eqTreeS and eqTree answer of two copies of one tree: true.
-/
namespace Go.Proofs.YtpnnbdejneoccaaGreatDoor
open Go.RowKit

/-- eqTree of two copies of one tree of at most n levels. -/
def EqSaid (n : Nat) : Prop := ∀ (S S' : Nat → Prop) (t : T n) (c0 c1 c2 c3 c4 d0 d1 d2 d3 d4 : Value) (w : World), TreeIn S w n t c0 c1 c2 c3 c4 → TreeIn S' w n t d0 d1 d2 d3 d4 →
  (∀ b, S b → b < w.heap.size) → (∀ b, S' b → b < w.heap.size) →
  Calls Tryz.prog 17 #[.agg #[c0, c1, c2, c3, c4], .agg #[d0, d1, d2, d3, d4]] w fun e w' => e = .returned (.bool true) ∧ Below w.heap.size w w'

set_option maxHeartbeats 400000 in
theorem eqTreeS_same (n : Nat) (hn : EqSaid n) (S S' : Nat → Prop) (l : List (T n)) (v v' : Value) (w : World) (hl : RowIn S w (TreeIn S w n) l v) (hl' : RowIn S' w (TreeIn S' w n) l v')
    (hB : ∀ b, S b → b < w.heap.size) (hB' : ∀ b, S' b → b < w.heap.size) :
    Calls Tryz.prog 43 #[v, v'] w fun e w' => e = .returned (.bool true) ∧ Below w.heap.size w w' := by
  obtain ⟨ao, cap, rfl, hlen, hc⟩ := hl
  obtain ⟨ao', cap', rfl, -, hc'⟩ := hl'
  unfold maxLen at hlen
  have hne : ((l.length : Int) != (l.length : Int)) = false := by simp
  go_enter Tryz.func43, Tryz.ntmps43
  go_wp2_with fail
  go_loopw [5] (fun i wr => ∃ k : Nat, k ≤ l.length ∧ i = .int .i64 k ∧ Below w.heap.size w wr) (fun i _ => l.length - (intOf i).toNat)
  case atStart => exact ⟨0, Nat.zero_le _, rfl, Below.refl _ _⟩
  case round =>
    obtain ⟨k, hk, rfl, hbel⟩ := hrel
    by_cases hlt : k < l.length
    · obtain ⟨b, off, rfl, hbB, hcell⟩ := hc (by intro h; rw [h] at hlt; simp at hlt)
      obtain ⟨b', off', rfl, hbB', hcell'⟩ := hc' (by intro h; rw [h] at hlt; simp at hlt)
      obtain ⟨x0, x1, x2, x3, x4, e0, e1, e2, e3, e4, hr⟩ := hcell k hlt
      obtain ⟨y0, y1, y2, y3, y4, e0', e1', e2', e3', e4', hr'⟩ := hcell' k hlt
      have f0 := (hbel.cell (p := ⟨b, off + k * 5, none⟩) (hB b hbB)).trans e0
      have f1 := (hbel.cell (p := ⟨b, off + k * 5 + 1, none⟩) (hB b hbB)).trans e1
      have f2 := (hbel.cell (p := ⟨b, off + k * 5 + 2, none⟩) (hB b hbB)).trans e2
      have f3 := (hbel.cell (p := ⟨b, off + k * 5 + 3, none⟩) (hB b hbB)).trans e3
      have f4 := (hbel.cell (p := ⟨b, off + k * 5 + 4, none⟩) (hB b hbB)).trans e4
      have f5 := (hbel.cell (p := ⟨b', off' + k * 5, none⟩) (hB' b' hbB')).trans e0'
      have f6 := (hbel.cell (p := ⟨b', off' + k * 5 + 1, none⟩) (hB' b' hbB')).trans e1'
      have f7 := (hbel.cell (p := ⟨b', off' + k * 5 + 2, none⟩) (hB' b' hbB')).trans e2'
      have f8 := (hbel.cell (p := ⟨b', off' + k * 5 + 3, none⟩) (hB' b' hbB')).trans e3'
      have f9 := (hbel.cell (p := ⟨b', off' + k * 5 + 4, none⟩) (hB' b' hbB')).trans e4'
      clear hc hc' hcell hcell' e0 e1 e2 e3 e4 e0' e1' e2' e3' e4'
      have q := hr.keep (same_below hbel hB) (fun _ h => h)
      have q' := hr'.keep (same_below hbel hB') (fun _ h => h)
      have hsz := hbel.size
      have HC : Hid (∀ m : Nat, Calls Tryz.prog 17 #[.agg #[x0, x1, x2, x3, x4], .agg #[y0, y1, y2, y3, y4]] (wr.drewN m) fun e w' => e = .returned (.bool true) ∧ Below wr.heap.size wr w') := by
        intro m
        have hm : Below wr.heap.size wr (wr.drewN m) := below_drewN (Below.refl _ _) m
        have hmz : (wr.drewN m).heap.size = wr.heap.size := by simp
        refine (hn S S' l[k] _ _ _ _ _ _ _ _ _ _ (wr.drewN m) (q.keep (same_below hm (fun b hb => Nat.lt_of_lt_of_le (hB b hb) hsz)) (fun _ h => h)) (q'.keep (same_below hm (fun b hb => Nat.lt_of_lt_of_le (hB' b hb) hsz)) (fun _ h => h))
          (fun b hb => by have := hB b hb; omega) (fun b hb => by have := hB' b hb; omega)).mono ?_
        rintro e w' ⟨rfl, h⟩
        rw [hmz] at h
        exact ⟨rfl, hm.trans h⟩
      clear hr hr' q q' hn
      go_wp2_with fail
      go_region_with (go_at_call 17; refine (HC.out 1).mono ?_; rintro e w' ⟨rfl, hb1⟩)
      all_goals go_wp2_with fail
      all_goals
        go_roundw
        case rel => exact ⟨k + 1, by omega, by go_num, below_step hbel hsz (by assumption)⟩
        case measure => simp [intOf]; omega
    · clear hc hc'
      go_wp2_with fail
      go_ret
      exact ⟨rfl, hbel⟩

set_option maxHeartbeats 400000 in
theorem eqTree_step (n : Nat) (hn : EqSaid n) : EqSaid (n + 1) := by
  intro S S' t c0 c1 c2 c3 c4 d0 d1 d2 d3 d4 w ht ht' hB hB'
  obtain ⟨rfl, rfl, rfl, hs, -, -, h3, h4⟩ := ht
  obtain ⟨rfl, rfl, rfl, -, -, -, h3', h4'⟩ := ht'
  have hb2 : Below w.heap.size w ((w.alloc (.cells #[.int .i64 (Nd.sort t), .int .i64 (Nd.num t), .string (Nd.text t), c3, c4] 25)).alloc (.cells #[.int .i64 (Nd.sort t), .int .i64 (Nd.num t), .string (Nd.text t), d3, d4] 25)) :=
    ((Below.refl _ _).alloc (Nat.le_refl _) _).alloc (by simp) _
  have k3 := h3.keep (same_below hb2 hB) (fun _ h => h)
  have k3' := h3'.keep (same_below hb2 hB') (fun _ h => h)
  have k4 := h4.keepT (same_below hb2 hB) (fun _ h => h)
  have k4' := h4'.keepT (same_below hb2 hB') (fun _ h => h)
  have hn0 : (Nd.sort t != Nd.sort t) = false := by simp
  have hn1 : (Nd.num t != Nd.num t) = false := by simp
  clear h3 h3' h4 h4'
  go_enter Tryz.func17, Tryz.ntmps17
  go_wp2_with fail
  refine (eqStringS_same S S' _ _ _ _ k3 k3' (fun b hb => by have := hB b hb; simp; omega) (fun b hb => by have := hB' b hb; simp; omega)).mono ?_
  rintro e w1 ⟨rfl, hb3⟩
  obtain ⟨hc, hf⟩ := bcell hb3
  have hz1 := hb3.size
  simp at hz1
  have hb4 := below_step hb2 (by simp; omega) hb3
  have m4 := k4.keepT (same_below hb3 (fun b hb => by have := hB b hb; simp; omega)) (fun _ h => h)
  have m4' := k4'.keepT (same_below hb3 (fun b hb => by have := hB' b hb; simp; omega)) (fun _ h => h)
  clear k3 k3' k4 k4' hb3 hb2
  go_wp2_with fail
  refine (eqTreeS_same n hn S S' _ _ _ _ m4 m4' (fun b hb => by have := hB b hb; omega) (fun b hb => by have := hB' b hb; omega)).mono ?_
  rintro e w2 ⟨rfl, hb5⟩
  have hb6 := below_step hb4 (by omega) hb5
  clear m4 m4' hb4 hb5 hc hf
  go_wp2_with fail
  go_ret
  exact ⟨rfl, hb6⟩

theorem eqTree_same : ∀ n, EqSaid n := by
  intro n
  induction n with
  | zero => intro S S' t c0 c1 c2 c3 c4 d0 d1 d2 d3 d4 w ht; exact ht.elim
  | succ n ih => exact eqTree_step n ih

end Go.Proofs.YtpnnbdejneoccaaGreatDoor
