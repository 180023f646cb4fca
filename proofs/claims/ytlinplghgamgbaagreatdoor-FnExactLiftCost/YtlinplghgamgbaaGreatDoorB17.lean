/-
  Several texts in one, in their order.
-/
import Derived.Test.YtlinplghgamgbaaGreatDoorB1
import Derived.Deep.RegionWith
import Derived.Test.YtlinplghgamgbaaGreatDoorB5
import Derived.Test.YtlinplghgamgbaaGreatDoorB4

/-
  The comparison of the laws: what eqStringS answers of two copies of one list: true.
-/
namespace Go.Proofs.YtlinplghgamgbaaGreatDoor
open Go.RowKit

set_option maxHeartbeats 400000 in
theorem eqStringS_same (S S' : Nat → Prop) (l : List ByteArray) (v v' : Value) (w : World) (hl : StrsIn S w l v) (hl' : StrsIn S' w l v') (hB : ∀ b, S b → b < w.heap.size) (hB' : ∀ b, S' b → b < w.heap.size) :
    Calls Tryz.prog 22 #[v, v'] w fun e w' => e = .returned (.bool true) ∧ Below w.heap.size w w' := by
  obtain ⟨ao, cap, rfl, hlen, hs, hc⟩ := hl
  obtain ⟨ao', cap', rfl, -, -, hc'⟩ := hl'
  unfold maxLen at hlen
  have hne : ((l.length : Int) != (l.length : Int)) = false := by simp
  go_enter Tryz.func22, Tryz.ntmps22
  go_wp2_with fail
  go_loopw [5] (fun i wr => ∃ k : Nat, k ≤ l.length ∧ i = .int .i64 k ∧ Below w.heap.size w wr) (fun i _ => l.length - (intOf i).toNat)
  case atStart => exact ⟨0, Nat.zero_le _, rfl, Below.refl _ _⟩
  case round =>
    obtain ⟨k, hk, rfl, hbel⟩ := hrel
    by_cases hlt : k < l.length
    · obtain ⟨b, off, rfl, hbB, hcell⟩ := hc (by intro h; rw [h] at hlt; simp at hlt)
      obtain ⟨b', off', rfl, hbB', hcell'⟩ := hc' (by intro h; rw [h] at hlt; simp at hlt)
      have f0 := (hbel.cell (p := ⟨b, off + k, none⟩) (hB b hbB)).trans (hcell k hlt)
      have f1 := (hbel.cell (p := ⟨b', off' + k, none⟩) (hB' b' hbB')).trans (hcell' k hlt)
      have hsk := hs l[k] (List.getElem_mem hlt)
      clear hc hc' hcell hcell' hs
      generalize l[k] = s at *
      go_wp2_with fail
      go_region
      all_goals go_wp2_with fail
      all_goals
        go_roundw
        case rel => exact ⟨k + 1, by omega, by go_num, hbel.drew⟩
        case measure => simp [intOf]; omega
    · clear hc hc' hs
      go_wp2_with fail
      go_ret
      exact ⟨rfl, hbel⟩

end Go.Proofs.YtlinplghgamgbaaGreatDoor

/-
  The law of KindRead, walked: what the two readers answer is given as hypotheses here.
-/
namespace Go.Proofs.YtlinplghgamgbaaGreatDoor
open Go.RowKit

theorem Box3.eqb {w w' : World} {N : Nat} {a b c : Value} (h : Box3 w N a b c) (hb : w'.heap[N]? = w.heap[N]?) : Box3 w' N a b c :=
  ⟨(World.cell?_of_block (w := w) (w' := w') (a := ⟨N, 0, none⟩) hb).trans h.c0, (World.cell?_of_block (w := w) (w' := w') (a := ⟨N, 1, none⟩) hb).trans h.c1, (World.cell?_of_block (w := w) (w' := w') (a := ⟨N, 2, none⟩) hb).trans h.c2⟩

/-- What the law holds from the first answer on: what is asked for, what was answered. -/
structure SitK (m : Nat) (k : K m) (P : Nat → Prop) (A G : Nat) (p0 p1 p2 g0 g1 g2 : Value) (w u : World) : Prop where
  below : Below w.heap.size w u
  ansBox : Box3 u A p0 p1 p2
  ans : KindIn P u m k p0 p1 p2
  ansB : ∀ b, P b → b < A
  gotBox : Box3 u G g0 g1 g2
  ag : A < G
  gu : G < u.heap.size

theorem SitK.step {m : Nat} {k : K m} {P : Nat → Prop} {A G : Nat} {p0 p1 p2 g0 g1 g2 : Value} {w u u' : World} (h : SitK m k P A G p0 p1 p2 g0 g1 g2 w u) {Z : Nat → Prop} (hb : Below w.heap.size w u') (hz : u.heap.size ≤ u'.heap.size)
    (hs : ∀ b : Nat, b < u.heap.size → ¬ Z b → u'.heap[b]? = u.heap[b]?) (hZ : ∀ b, Z b → A < b ∧ b ≠ G) : SitK m k P A G p0 p1 p2 g0 g1 g2 w u' := by
  have ag := h.ag
  have gu := h.gu
  have q : ∀ b, b ≤ A → u'.heap[b]? = u.heap[b]? := fun b hb => hs b (by omega) (fun hz => by have := hZ b hz; omega)
  exact ⟨hb, h.ansBox.eqb (q A (Nat.le_refl _)), h.ans.keep (fun b hb => q b (by have := h.ansB b hb; omega)) (fun _ h => h), h.ansB,
    h.gotBox.eqb (hs G gu (fun hz => (hZ G hz).2 rfl)), ag, by omega⟩

theorem SitK.keep {m : Nat} {k : K m} {P : Nat → Prop} {A G : Nat} {p0 p1 p2 g0 g1 g2 : Value} {w u u' : World} (h : SitK m k P A G p0 p1 p2 g0 g1 g2 w u) (hw : w.heap.size ≤ u.heap.size) (hb : Below u.heap.size u u') :
    SitK m k P A G p0 p1 p2 g0 g1 g2 w u' := h.step (Z := fun _ => False) (below_step h.below hw hb) hb.size (fun b hb' _ => hb.block b hb') (fun _ h => h.elim)

end Go.Proofs.YtlinplghgamgbaaGreatDoor

/-
  What the laws do with nodes of upcasters: as with trees (printed by mkn.py).
-/
namespace Go.Proofs.YtlinplghgamgbaaGreatDoor
open Go.RowKit

/-- eqTree of two copies of one tree of at most n levels. -/
def EqSaidN (n : Nat) : Prop := ∀ (S S' : Nat → Prop) (t : T n) (c0 c1 c2 c3 c4 d0 d1 d2 d3 d4 : Value) (w : World), TreeIn S w n t c0 c1 c2 c3 c4 → TreeIn S' w n t d0 d1 d2 d3 d4 →
  (∀ b, S b → b < w.heap.size) → (∀ b, S' b → b < w.heap.size) →
  Calls Tryz.prog 10 #[.agg #[c0, c1, c2, c3, c4], .agg #[d0, d1, d2, d3, d4]] w fun e w' => e = .returned (.bool true) ∧ Below w.heap.size w w'

set_option maxHeartbeats 400000 in
theorem eqNodeS_same (n : Nat) (hn : EqSaidN n) (S S' : Nat → Prop) (l : List (T n)) (v v' : Value) (w : World) (hl : RowIn S w (TreeIn S w n) l v) (hl' : RowIn S' w (TreeIn S' w n) l v')
    (hB : ∀ b, S b → b < w.heap.size) (hB' : ∀ b, S' b → b < w.heap.size) :
    Calls Tryz.prog 23 #[v, v'] w fun e w' => e = .returned (.bool true) ∧ Below w.heap.size w w' := by
  obtain ⟨ao, cap, rfl, hlen, hc⟩ := hl
  obtain ⟨ao', cap', rfl, -, hc'⟩ := hl'
  unfold maxLen at hlen
  have hne : ((l.length : Int) != (l.length : Int)) = false := by simp
  go_enter Tryz.func23, Tryz.ntmps23
  go_wp2_with fail
  go_loopw [5] (fun i wr => ∃ k : Nat, k ≤ l.length ∧ i = .int .i64 k ∧ Below w.heap.size w wr) (fun i _ => l.length - (intOf i).toNat)
  case atStart => exact ⟨0, Nat.zero_le _, rfl, Below.refl _ _⟩
  case round =>
    obtain ⟨k, hk, rfl, hbel⟩ := hrel
    by_cases hlt : k < l.length
    · obtain ⟨b, off, rfl, hbB, hcell⟩ := hc (by intro h; rw [h] at hlt; simp at hlt)
      obtain ⟨b', off', rfl, hbB', hcell'⟩ := hc' (by intro h; rw [h] at hlt; simp at hlt)
      obtain ⟨x0, x1, x2, x3, x4, e0, e1, e2, e3, e4, hr⟩ := hcell k hlt
      obtain ⟨y0, y1, y2, y3, y4, e0', e1', e2', e3', e4', hr'⟩ := hcell' k hlt
      have f0 := (hbel.cell (p := ⟨b, off + k * 5, none⟩) (hB b hbB)).trans e0
      have f1 := (hbel.cell (p := ⟨b, off + k * 5 + 1, none⟩) (hB b hbB)).trans e1
      have f2 := (hbel.cell (p := ⟨b, off + k * 5 + 2, none⟩) (hB b hbB)).trans e2
      have f3 := (hbel.cell (p := ⟨b, off + k * 5 + 3, none⟩) (hB b hbB)).trans e3
      have f4 := (hbel.cell (p := ⟨b, off + k * 5 + 4, none⟩) (hB b hbB)).trans e4
      have f5 := (hbel.cell (p := ⟨b', off' + k * 5, none⟩) (hB' b' hbB')).trans e0'
      have f6 := (hbel.cell (p := ⟨b', off' + k * 5 + 1, none⟩) (hB' b' hbB')).trans e1'
      have f7 := (hbel.cell (p := ⟨b', off' + k * 5 + 2, none⟩) (hB' b' hbB')).trans e2'
      have f8 := (hbel.cell (p := ⟨b', off' + k * 5 + 3, none⟩) (hB' b' hbB')).trans e3'
      have f9 := (hbel.cell (p := ⟨b', off' + k * 5 + 4, none⟩) (hB' b' hbB')).trans e4'
      clear hc hc' hcell hcell' e0 e1 e2 e3 e4 e0' e1' e2' e3' e4'
      have q := hr.keep (same_below hbel hB) (fun _ h => h)
      have q' := hr'.keep (same_below hbel hB') (fun _ h => h)
      have hsz := hbel.size
      have HC : Hid (∀ m : Nat, Calls Tryz.prog 10 #[.agg #[x0, x1, x2, x3, x4], .agg #[y0, y1, y2, y3, y4]] (wr.drewN m) fun e w' => e = .returned (.bool true) ∧ Below wr.heap.size wr w') := by
        intro m
        have hm : Below wr.heap.size wr (wr.drewN m) := below_drewN (Below.refl _ _) m
        have hmz : (wr.drewN m).heap.size = wr.heap.size := by simp
        refine (hn S S' l[k] _ _ _ _ _ _ _ _ _ _ (wr.drewN m) (q.keep (same_below hm (fun b hb => Nat.lt_of_lt_of_le (hB b hb) hsz)) (fun _ h => h)) (q'.keep (same_below hm (fun b hb => Nat.lt_of_lt_of_le (hB' b hb) hsz)) (fun _ h => h))
          (fun b hb => by have := hB b hb; omega) (fun b hb => by have := hB' b hb; omega)).mono ?_
        rintro e w' ⟨rfl, h⟩
        rw [hmz] at h
        exact ⟨rfl, hm.trans h⟩
      clear hr hr' q q' hn
      go_wp2_with fail
      go_region_with (go_at_call 10; refine (HC.out 1).mono ?_; rintro e w' ⟨rfl, hb1⟩)
      all_goals go_wp2_with fail
      all_goals
        go_roundw
        case rel => exact ⟨k + 1, by omega, by go_num, below_step hbel hsz (by assumption)⟩
        case measure => simp [intOf]; omega
    · clear hc hc'
      go_wp2_with fail
      go_ret
      exact ⟨rfl, hbel⟩

set_option maxHeartbeats 400000 in
theorem eqNode_step (n : Nat) (hn : EqSaidN n) : EqSaidN (n + 1) := by
  intro S S' t c0 c1 c2 c3 c4 d0 d1 d2 d3 d4 w ht ht' hB hB'
  obtain ⟨rfl, rfl, rfl, hs, -, -, h3, h4⟩ := ht
  obtain ⟨rfl, rfl, rfl, -, -, -, h3', h4'⟩ := ht'
  have hb2 : Below w.heap.size w ((w.alloc (.cells #[.int .i64 (Nd.sort t), .int .i64 (Nd.num t), .string (Nd.text t), c3, c4] 30)).alloc (.cells #[.int .i64 (Nd.sort t), .int .i64 (Nd.num t), .string (Nd.text t), d3, d4] 30)) :=
    ((Below.refl _ _).alloc (Nat.le_refl _) _).alloc (by simp) _
  have k3 := h3.keep (same_below hb2 hB) (fun _ h => h)
  have k3' := h3'.keep (same_below hb2 hB') (fun _ h => h)
  have k4 := h4.keepT (same_below hb2 hB) (fun _ h => h)
  have k4' := h4'.keepT (same_below hb2 hB') (fun _ h => h)
  have hn0 : (Nd.sort t != Nd.sort t) = false := by simp
  have hn1 : (Nd.num t != Nd.num t) = false := by simp
  clear h3 h3' h4 h4'
  go_enter Tryz.func10, Tryz.ntmps10
  go_wp2_with fail
  refine (eqStringS_same S S' _ _ _ _ k3 k3' (fun b hb => by have := hB b hb; simp; omega) (fun b hb => by have := hB' b hb; simp; omega)).mono ?_
  rintro e w1 ⟨rfl, hb3⟩
  obtain ⟨hc, hf⟩ := bcell hb3
  have hz1 := hb3.size
  simp at hz1
  have hb4 := below_step hb2 (by simp; omega) hb3
  have m4 := k4.keepT (same_below hb3 (fun b hb => by have := hB b hb; simp; omega)) (fun _ h => h)
  have m4' := k4'.keepT (same_below hb3 (fun b hb => by have := hB' b hb; simp; omega)) (fun _ h => h)
  clear k3 k3' k4 k4' hb3 hb2
  go_wp2_with fail
  refine (eqNodeS_same n hn S S' _ _ _ _ m4 m4' (fun b hb => by have := hB b hb; omega) (fun b hb => by have := hB' b hb; omega)).mono ?_
  rintro e w2 ⟨rfl, hb5⟩
  have hb6 := below_step hb4 (by omega) hb5
  clear m4 m4' hb4 hb5 hc hf
  go_wp2_with fail
  go_ret
  exact ⟨rfl, hb6⟩

theorem eqNode_same : ∀ n, EqSaidN n := by
  intro n
  induction n with
  | zero => intro S S' t c0 c1 c2 c3 c4 d0 d1 d2 d3 d4 w ht; exact ht.elim
  | succ n ih => exact eqNode_step n ih

end Go.Proofs.YtlinplghgamgbaaGreatDoor
