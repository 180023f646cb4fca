/-
  Several texts in one, in their order.
-/
import Derived.Test.YtnpckelaileooaaGreatDoorB7
import Derived.Test.YtnpckelaileooaaGreatDoorDec
import Derived.Deep.RegionLaw
import Derived.Deep.Cut
import Derived.Deep.CutRange
import Derived.Lib.Hide
import Derived.WalkSmall
import Derived.LoopTactic
import Derived.Test.YtnpckelaileooaaGreatDoorB9

/-
  What the specification draws: l5SpoilKind.
-/
namespace Go.Proofs.YtnpckelaileooaaGreatDoor
open Go.RowKit

/-- The way out, one cell of the first new block turned. -/
theorem sp_exit2 {m R L cap p p' q o : Nat} {S : Nat → Prop} {ao : Option Addr} {w W : World} {k : K m} {g0 g1 g2 x : Value} (h : Dr w R ao L cap p) (hS : ∀ b, S b → b < w.heap.size) (hn : Near R w W) (hb : W.heap[R]? = some (.cells #[.slice ao L cap, .int .i64 (p' : Int)] 67 (0, 0))) (hp : p' ≤ p + q)
    (hk : KindIn (fun b => S b ∨ (w.heap.size + 2 ≤ b ∧ b < W.heap.size)) W m k g0 g1 g2) :
    SpoilPost m S w R ao L cap p q (.returned (.agg #[g0, g1, g2])) (put3 (W.setCell ⟨w.heap.size, o, none⟩ x) (w.heap.size + 1) 0 g0 g1 g2) := by
  have hR := h.lt
  have qq : ∀ b, b ≠ w.heap.size → (W.setCell ⟨w.heap.size, o, none⟩ x).heap[b]? = W.heap[b]? := fun b hb => Below.heap_setCell _ _ _ _ hb
  have hz : (W.setCell ⟨w.heap.size, o, none⟩ x).heap.size = W.heap.size := by simp
  refine sp_exit h hS ⟨hn.os, hn.tape, hn.output, by rw [hz]; exact hn.size, fun b hb hne => (qq b (by omega)).trans (hn.block b hb hne)⟩ ((qq R (by omega)).trans hb) hp (hk.keep (fun b hb => qq b ?_) (fun b hb => by rw [hz]; exact hb))
  exact hb.elim (fun h => by have := hS b h; omega) (fun h => by omega)

theorem kids_more {S S8 : Nat → Prop} {w w8 : World} {m kl M : Nat} {l : List (K m)} {t : K m} {xs : List Value} {c0 c1 c2 v : Value} {e : TypeId} (hl : l.length = kl) (hxl : xs.length = kl * 3)
    (hk : ∀ j (h : j < l.length), ∃ c0 c1 c2, (xs[j * 3]? = some c0 ∧ xs[j * 3 + 1]? = some c1 ∧ xs[j * 3 + 2]? = some c2) ∧ KindIn S w m l[j] c0 c1 c2) (hs : Same S w w8) (hSS : ∀ b, S b → S8 b)
    (ht : KindIn S8 w8 m t c0 c1 c2) (hown : w8.ownsRow M e 3 v (kl + 1) (xs ++ [c0, c1, c2])) (hle : kl ≤ 1000) (hv : ∀ g, v.ownBlock = some g → S8 g) : RowIn3 S8 w8 (KindIn S8 w8 m) (l ++ [t]) v := by
  subst hl
  refine row3_of_owns (M := M) (e := e) (xs := xs ++ [c0, c1, c2]) (by simpa using hown) (by simp; omega) hv fun j hj => ?_
  rcases Nat.lt_or_ge j l.length with hlt | hge
  · obtain ⟨d0, d1, d2, ⟨e0, e1, e2⟩, hd⟩ := hk j hlt
    refine ⟨d0, d1, d2, ⟨?_, ?_, ?_⟩, ?_⟩
    · rw [List.getElem?_append_left (by omega)]; exact e0
    · rw [List.getElem?_append_left (by omega)]; exact e1
    · rw [List.getElem?_append_left (by omega)]; exact e2
    · rw [List.getElem_append_left hlt]; exact hd.keep hs hSS
  · have hj' : j = l.length := by simp at hj; omega
    subst hj'
    refine ⟨c0, c1, c2, ⟨?_, ?_, ?_⟩, ?_⟩
    · rw [List.getElem?_append_right (by omega)]; simp [hxl]
    · rw [List.getElem?_append_right (by omega)]; simp [hxl, Nat.add_sub_cancel_left]
    · rw [List.getElem?_append_right (by omega)]; simp [hxl, Nat.add_sub_cancel_left]
    · rw [List.getElem_append_right (Nat.le_refl _)]; simpa using ht

theorem put3_far {w : World} {g o j : Nat} {a0 a1 a2 : Value} (h : j < o ∨ o + 3 ≤ j) : (put3 w g o a0 a1 a2).cell? ⟨g, j, none⟩ = w.cell? ⟨g, j, none⟩ := by
  have ne : ∀ i, i ≠ j → (⟨g, i, none⟩ : Addr) ≠ ⟨g, j, none⟩ := fun i hi e => hi (congrArg Addr.off e)
  unfold put3
  rw [World.cell?_setCell_other (h := ne _ (by omega)), World.cell?_setCell_other (h := ne _ (by omega)), World.cell?_setCell_other (h := ne _ (by omega))]

theorem put3_near {w : World} {g o : Nat} {a0 a1 a2 b0 b1 b2 : Value} (h0 : w.cell? ⟨g, o, none⟩ = some b0) (h1 : w.cell? ⟨g, o + 1, none⟩ = some b1) (h2 : w.cell? ⟨g, o + 2, none⟩ = some b2) :
    (put3 w g o a0 a1 a2).cell? ⟨g, o, none⟩ = some a0 ∧ (put3 w g o a0 a1 a2).cell? ⟨g, o + 1, none⟩ = some a1 ∧ (put3 w g o a0 a1 a2).cell? ⟨g, o + 2, none⟩ = some a2 := by
  have ne : ∀ i j, i ≠ j → (⟨g, i, none⟩ : Addr) ≠ ⟨g, j, none⟩ := fun i j hi e => hi (congrArg Addr.off e)
  unfold put3
  refine ⟨?_, ?_, ?_⟩
  · rw [World.cell?_setCell_other _ _ _ _ (ne _ _ (by omega)), World.cell?_setCell_other _ _ _ _ (ne _ _ (by omega))]; exact World.cell?_setCell_same _ _ _ h0
  · rw [World.cell?_setCell_other _ _ _ _ (ne _ _ (by omega))]
    exact World.cell?_setCell_same _ _ _ ((World.cell?_setCell_other _ _ _ _ (ne o (o + 1) (by omega))).trans h1)
  · exact World.cell?_setCell_same _ _ _ ((World.cell?_setCell_other _ _ _ _ (ne (o + 1) (o + 2) (by omega))).trans ((World.cell?_setCell_other _ _ _ _ (ne o (o + 2) (by omega))).trans h2))

theorem kids_put {S S8 U : Nat → Prop} {w w8 : World} {m kl M i g cap : Nat} {l : List (K m)} {t : K m} {xs : List Value} {c0 c1 c2 : Value} {e : TypeId} (hl : l.length = kl)
    (hk : ∀ j (h : j < l.length), ∃ c0 c1 c2, (xs[j * 3]? = some c0 ∧ xs[j * 3 + 1]? = some c1 ∧ xs[j * 3 + 2]? = some c2) ∧ KindIn S w m l[j] c0 c1 c2) (hs : Same S w w8) (hSg : ¬ S g) (hSS : ∀ b, S b → S8 b)
    (ht : KindIn U w8 m t c0 c1 c2) (hUg : ¬ U g) (hU : ∀ b, U b → S8 b) (hown : w8.ownsRow M e 3 (.slice (some ⟨g, 0, none⟩) kl cap) kl xs) (hle : kl ≤ 1000) (hg : S8 g) (hi : i < kl) :
    RowIn3 S8 (put3 w8 g (i * 3) c0 c1 c2) (KindIn S8 (put3 w8 g (i * 3) c0 c1 c2) m) (l.set i t) (.slice (some ⟨g, 0, none⟩) kl cap) := by
  subst hl
  have hc : ∀ j x, xs[j]? = some x → w8.cell? ⟨g, 0 + j, none⟩ = some x := fun j x hx => by
    have := hown.cells (g := g) rfl j x hx
    rwa [Addr.add_lit] at this
  have ho : ∀ b, b ≠ g → (put3 w8 g (i * 3) c0 c1 c2).heap[b]? = w8.heap[b]? := fun b hb => put3_other hb
  refine ⟨some ⟨g, 0, none⟩, cap, by simp, by simp; unfold maxLen; omega, fun _ => ⟨g, 0, rfl, hg, fun j hj => ?_⟩⟩
  rw [List.length_set] at hj
  obtain ⟨d0, d1, d2, ⟨e0, e1, e2⟩, hd⟩ := hk j hj
  have h0 := hc _ _ e0
  have h1 := hc _ _ e1
  have h2 := hc _ _ e2
  rw [Nat.zero_add] at h0 h1 h2 ⊢
  rcases Nat.lt_trichotomy i j with hij | rfl | hij
  · refine ⟨d0, d1, d2, (put3_far (by omega)).trans h0, (put3_far (by omega)).trans h1, (put3_far (by omega)).trans h2, ?_⟩
    rw [List.getElem_set_ne (by omega)]
    exact hd.keep (fun b hb => (ho b (fun e => hSg (e ▸ hb))).trans (hs b hb)) hSS
  · obtain ⟨p0, p1, p2⟩ := put3_near (a0 := c0) (a1 := c1) (a2 := c2) h0 h1 h2
    refine ⟨c0, c1, c2, p0, p1, p2, ?_⟩
    rw [List.getElem_set_self]
    exact ht.keep (fun b hb => ho b (fun e => hUg (e ▸ hb))) hU
  · refine ⟨d0, d1, d2, (put3_far (by omega)).trans h0, (put3_far (by omega)).trans h1, (put3_far (by omega)).trans h2, ?_⟩
    rw [List.getElem_set_ne (by omega)]
    exact hd.keep (fun b hb => (ho b (fun e => hSg (e ▸ hb))).trans (hs b hb)) hSS

end Go.Proofs.YtnpckelaileooaaGreatDoor

/-
  What the specification draws: l5AnyKind.
-/
namespace Go.Proofs.YtnpckelaileooaaGreatDoor
open Go.RowKit

/-- What drawing any schema makes. -/
def AnyPost (m : Nat) (w : World) (R : Nat) (ao : Option Addr) (L cap p q : Nat) (e : Ending) (w' : World) : Prop :=
  Near R w w' ∧ ∃ (p' : Nat) (k : K m) (c0 c1 c2 : Value), p' ≤ p + q ∧ Dr w' R ao L cap p' ∧ e = .returned (.agg #[c0, c1, c2]) ∧ KindIn (fun b => w.heap.size ≤ b ∧ b < w'.heap.size) w' m k c0 c1 c2

theorem any_exit {m R L cap p p' q : Nat} {ao : Option Addr} {w W : World} {k : K m} {g0 g1 g2 : Value} (h : Dr w R ao L cap p) (hn : Near R w W) (hb : W.heap[R]? = some (.cells #[.slice ao L cap, .int .i64 (p' : Int)] 67 (0, 0))) (hp : p' ≤ p + q) (hk : KindIn (fun b => w.heap.size + 1 ≤ b ∧ b < W.heap.size) W m k g0 g1 g2) :
    AnyPost m w R ao L cap p q (.returned (.agg #[g0, g1, g2])) (put3 W w.heap.size 0 g0 g1 g2) := by
  have hR := h.lt
  have qq : ∀ b, b ≠ w.heap.size → (put3 W w.heap.size 0 g0 g1 g2).heap[b]? = W.heap[b]? := fun b h => put3_other h
  have hz : (put3 W w.heap.size 0 g0 g1 g2).heap.size = W.heap.size := put3_size
  have hn' : Near R w (put3 W w.heap.size 0 g0 g1 g2) := ⟨hn.os, hn.tape, hn.output, by rw [hz]; exact hn.size, fun b hb hne => (qq b (by omega)).trans (hn.block b hb hne)⟩
  exact ⟨hn', p', k, _, _, _, hp, h.keep hn' ((qq R (by omega)).trans hb), rfl, hk.keep (fun b hb => qq b (by omega)) (fun b hb => ⟨by omega, by rw [hz]; exact hb.2⟩)⟩

end Go.Proofs.YtnpckelaileooaaGreatDoor

/-
  What the specification draws: l6Open, DrawKindFirst.
-/
namespace Go.Proofs.YtnpckelaileooaaGreatDoor
open Go.RowKit

/-- The bytes of a code. -/
def CodeIn (S : Nat → Prop) (w : World) (ao : Option Addr) (L cap : Nat) : Prop :=
  L ≤ cap ∧ cap ≤ maxLen ∧ (0 < L → ∃ b off, ao = some ⟨b, off, none⟩ ∧ S b ∧ ∀ j, j < L → ∃ u : Nat, u ≤ 255 ∧ w.cell? ⟨b, off + j, none⟩ = some (.int .u8 (u : Int)))

theorem dr_new {S : Nat → Prop} {w : World} {ao : Option Addr} {L L' cap : Nat} (h : CodeIn S w ao L cap) (hS : ∀ b, S b → b < w.heap.size) (hl : L' ≤ L) (hl2 : L' ≤ 2000) :
    Dr (w.alloc (.cells #[.slice ao L' cap, .int .i64 0] 67)) w.heap.size ao L' cap 0 := by
  refine ⟨heap_alloc_new _ _, hl2, fun h0 => ?_⟩
  obtain ⟨b, off, ha, hb, hc⟩ := h.2.2 (by omega)
  have := hS b hb
  refine ⟨b, off, ha, by omega, fun j hj => ?_⟩
  obtain ⟨u, hu, hcell⟩ := hc j (by omega)
  exact ⟨u, hu, (World.cell?_of_block (Below.heap_alloc _ _ _ (by show b < _; omega))).trans hcell⟩

set_option maxRecDepth 20000 in
set_option maxHeartbeats 4000000 in
theorem l6Open_any (S : Nat → Prop) (w : World) (ao : Option Addr) (L cap : Nat) (h : CodeIn S w ao L cap) (hS : ∀ b, S b → b < w.heap.size) :
    Calls Tryz.prog 16 #[.slice ao L cap] w fun e w' => Below w.heap.size w w' ∧ ∃ R, e = .returned (.pointer (some ⟨R, 0, none⟩)) ∧ w.heap.size ≤ R ∧ ∃ L', Dr w' R ao L' cap 0 := by
  by_cases hL : 2000 < L
  · have hLi : (2000 : Int) < (L : Int) := by omega
    have hci : ¬ (cap : Int) < 2000 := by have := h.1; omega
    have hcap := h.1
    have HC : Hid (CodeIn S w ao L cap) := h
    clear h
    go_enter Tryz.func16, Tryz.ntmps16
    go_wp2_with fail
    go_ret
    exact ⟨(Below.refl _ _).alloc (Nat.le_refl _) _, w.heap.size, ⟨rfl, Nat.le_refl _, 2000, dr_new HC.out hS (by omega) (by omega)⟩⟩
  · have hLi : ¬ (2000 : Int) < (L : Int) := by omega
    have HC : Hid (CodeIn S w ao L cap) := h
    clear h
    go_enter Tryz.func16, Tryz.ntmps16
    go_wp2_with fail
    go_ret
    exact ⟨(Below.refl _ _).alloc (Nat.le_refl _) _, w.heap.size, ⟨rfl, Nat.le_refl _, L, dr_new HC.out hS (Nat.le_refl _) (by omega)⟩⟩

/-- What drawing a schema out of a code makes. -/
def DrawnK (m : Nat) (w : World) (e : Ending) (w' : World) : Prop :=
  Below w.heap.size w w' ∧ ∃ (k : K m) (c0 c1 c2 : Value), e = .returned (.agg #[c0, c1, c2]) ∧ KindIn (fun b => w.heap.size ≤ b ∧ b < w'.heap.size) w' m k c0 c1 c2

theorem near_new {R : Nat} {w w1 w' : World} (hb : Below w.heap.size w w1) (hR : w.heap.size ≤ R) (hn : Near R w1 w') : Below w.heap.size w w' :=
  ⟨hn.os.trans hb.os, hn.tape.trans hb.tape, hn.output.trans hb.output, by have := hb.size; have := hn.size; omega, fun b hbl => (hn.block b (by have := hb.size; omega) (by omega)).trans (hb.block b hbl)⟩

end Go.Proofs.YtnpckelaileooaaGreatDoor
