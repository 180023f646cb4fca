/-
  What the specification draws: a spoilt tree's contract; rows of trees copied.
-/
import Derived.Test.YtpalkdcgbbbmeaaGreatDoorDF0
import Derived.Test.YtpalkdcgbbbmeaaGreatDoorDT2
import Derived.Test.YtpalkdcgbbbmeaaGreatDoorDCp
namespace Go.Proofs.YtpalkdcgbbbmeaaGreatDoor
open Go.RowKit

/-- What l5Spoil makes. -/
def SpoilPostT (m : Nat) (S : Nat → Prop) (w : World) (R : Nat) (ao : Option Addr) (L cap p q : Nat) (e : Ending) (w' : World) : Prop :=
  Near R w w' ∧ ∃ (p' : Nat) (t : T m) (c0 c1 c2 c3 c4 : Value), p' ≤ p + q ∧ Dr w' R ao L cap p' ∧ e = .returned (.agg #[c0, c1, c2, c3, c4]) ∧ TreeIn (fun b => S b ∨ (w.heap.size ≤ b ∧ b < w'.heap.size)) w' m t c0 c1 c2 c3 c4

/-- The way out: the answer's block is the second new one, the first one may be turned. -/
theorem spt_exit {m R L cap p p' q : Nat} {S : Nat → Prop} {ao : Option Addr} {w W W' : World} {t : T m} {g0 g1 g2 g3 g4 : Value} (h : Dr w R ao L cap p) (hS : ∀ b, S b → b < w.heap.size) (hn : Near R w W) (hb : W.heap[R]? = some (.cells #[.slice ao L cap, .int .i64 (p' : Int)] 105 (0, 0))) (hp : p' ≤ p + q)
    (hk : TreeIn (fun b => S b ∨ (w.heap.size + 2 ≤ b ∧ b < W.heap.size)) W m t g0 g1 g2 g3 g4) (hB : Below w.heap.size W W') (hW : ∀ b, b ≠ w.heap.size → W'.heap[b]? = W.heap[b]?) (hz : W'.heap.size = W.heap.size) :
    SpoilPostT m S w R ao L cap p q (.returned (.agg #[g0, g1, g2, g3, g4])) (put5 W' (w.heap.size + 1) 0 g0 g1 g2 g3 g4) := by
  have hR := h.lt
  have qq : ∀ b, b ≠ w.heap.size + 1 → b ≠ w.heap.size → (put5 W' (w.heap.size + 1) 0 g0 g1 g2 g3 g4).heap[b]? = W.heap[b]? := fun b h1 h2 => (put5_other h1).trans (hW b h2)
  have hz' : (put5 W' (w.heap.size + 1) 0 g0 g1 g2 g3 g4).heap.size = W.heap.size := put5_size.trans hz
  have hB2 : Below w.heap.size W (put5 W' (w.heap.size + 1) 0 g0 g1 g2 g3 g4) := put5_below hB (by omega)
  have hn' : Near R w (put5 W' (w.heap.size + 1) 0 g0 g1 g2 g3 g4) := ⟨by rw [hB2.os]; exact hn.os, by rw [hB2.tape]; exact hn.tape, by rw [hB2.output]; exact hn.output, by rw [hz']; exact hn.size, fun b hb hne => (qq b (by omega) (by omega)).trans (hn.block b hb hne)⟩
  refine ⟨hn', p', t, _, _, _, _, _, hp, h.keep hn' ((qq R (by omega) (by omega)).trans hb), rfl, hk.keep (fun b hb => ?_) (fun b hb => hb.elim .inl (fun h => .inr ⟨by omega, by rw [hz']; exact h.2⟩))⟩
  exact hb.elim (fun h => by have := hS b h; exact qq b (by omega) (by omega)) (fun h => qq b (by omega) (by omega))

/-- l5Spoil at d levels. -/
def SpoilTSaid (d : Nat) : Prop := ∀ (m R : Nat) (ao : Option Addr) (L cap p : Nat) (S : Nat → Prop) (t : T m) (c0 c1 c2 c3 c4 : Value) (w : World), d + 2 ≤ m → depT m t d → TreeIn S w m t c0 c1 c2 c3 c4 → (∀ b, S b → b < w.heap.size ∧ b ≠ R) → Dr w R ao L cap p → p + 10 * d ≤ 900000 →
  Calls Tryz.prog 26 #[.pointer (some ⟨R, 0, none⟩), .agg #[c0, c1, c2, c3, c4]] w (SpoilPostT m S w R ao L cap p (10 * d))

theorem kids_newsT {S : Nat → Prop} {w : World} {m : Nat} {l : List (T m)} {ao : Option Addr} {n c : Nat} (hl : l.length = n) (h : RowIn S w (TreeIn S w m) l (.slice ao n c)) :
    ∃ xs : List Value, xs.length = n * 5 ∧ (∀ u ∈ xs, u.oneCell' = true) ∧ (∀ w', Same S w w' → 0 < n → ∃ ad, ao = some ad ∧ ∀ j u, xs[j]? = some u → w'.cell? (ad.add j) = some u) ∧
      ∀ j (h : j < l.length), ∃ c0 c1 c2 c3 c4, (xs[j * 5]? = some c0 ∧ xs[j * 5 + 1]? = some c1 ∧ xs[j * 5 + 2]? = some c2 ∧ xs[j * 5 + 3]? = some c3 ∧ xs[j * 5 + 4]? = some c4) ∧ TreeIn S w m l[j] c0 c1 c2 c3 c4 := by
  subst hl
  obtain ⟨ao', cap', he, -, hc⟩ := h
  by_cases hne : l = []
  · subst hne
    refine ⟨[], by simp, fun u hu => ?_, fun _ _ h => ?_, fun j hj => ?_⟩
    · cases hu
    · exact absurd h (by simp)
    · exact absurd hj (by simp)
  obtain ⟨b, off, hb, hS, hcell⟩ := hc hne
  have hao : ao = ao' := by simpa using congrArg (fun v => match v with | Value.slice a _ _ => a | _ => none) he
  have hall : ∀ j, j < l.length * 5 → ∃ u, w.cell? ⟨b, off + j, none⟩ = some u ∧ u.oneCell' = true := fun j hj => by
    obtain ⟨c0, c1, c2, c3, c4, e0, e1, e2, e3, e4, hk⟩ := hcell (j / 5) (by omega)
    obtain ⟨_, _, _, _, _, _, _, _, _, rfl, rfl, rfl, rfl, rfl⟩ := hk.shape
    have h3 : j % 5 = 0 ∨ j % 5 = 1 ∨ j % 5 = 2 ∨ j % 5 = 3 ∨ j % 5 = 4 := by omega
    rcases h3 with h3 | h3 | h3 | h3 | h3
    · rw [show off + j = off + j / 5 * 5 by omega]; exact ⟨_, e0, rfl⟩
    · rw [show off + j = off + j / 5 * 5 + 1 by omega]; exact ⟨_, e1, rfl⟩
    · rw [show off + j = off + j / 5 * 5 + 2 by omega]; exact ⟨_, e2, rfl⟩
    · rw [show off + j = off + j / 5 * 5 + 3 by omega]; exact ⟨_, e3, rfl⟩
    · rw [show off + j = off + j / 5 * 5 + 4 by omega]; exact ⟨_, e4, rfl⟩
  have hx : ∀ j u, ((List.range (l.length * 5)).map fun j => (w.cell? ⟨b, off + j, none⟩).getD (.slice none 0 0))[j]? = some u → j < l.length * 5 ∧ w.cell? ⟨b, off + j, none⟩ = some u := fun j u hu => by
    rw [List.getElem?_map] at hu
    by_cases hj : j < l.length * 5
    · rw [List.getElem?_range hj] at hu
      obtain ⟨v, hv, -⟩ := hall j hj
      refine ⟨hj, ?_⟩
      simp only [Option.map_some, hv, Option.getD_some] at hu
      rw [hv]; exact hu
    · rw [List.getElem?_eq_none (by simp; omega)] at hu; cases hu
  have hx2 : ∀ j u, j < l.length * 5 → w.cell? ⟨b, off + j, none⟩ = some u → ((List.range (l.length * 5)).map fun j => (w.cell? ⟨b, off + j, none⟩).getD (.slice none 0 0))[j]? = some u := fun j u hj hu => by
    rw [List.getElem?_map, List.getElem?_range hj]
    simp [hu]
  refine ⟨(List.range (l.length * 5)).map fun j => (w.cell? ⟨b, off + j, none⟩).getD (.slice none 0 0), by simp, fun u hu => ?_, fun w' hs _ => ⟨⟨b, off, none⟩, hao.trans hb, fun j u hu => ?_⟩, fun j hj => ?_⟩
  · obtain ⟨j, hj, hju⟩ := List.mem_iff_getElem.1 hu
    obtain ⟨hj3, hcu⟩ := hx j u (by rw [List.getElem?_eq_getElem hj, hju])
    obtain ⟨v, hv, h1⟩ := hall j hj3
    rw [hcu] at hv
    cases hv; exact h1
  · rw [Addr.add_lit]
    exact (hs.cell (p := ⟨b, off + j, none⟩) hS).trans (hx j u hu).2
  · obtain ⟨c0, c1, c2, c3, c4, e0, e1, e2, e3, e4, hk⟩ := hcell j hj
    exact ⟨c0, c1, c2, c3, c4, ⟨hx2 _ _ (by omega) e0, hx2 _ _ (by omega) (by rw [← Nat.add_assoc]; exact e1), hx2 _ _ (by omega) (by rw [← Nat.add_assoc]; exact e2), hx2 _ _ (by omega) (by rw [← Nat.add_assoc]; exact e3), hx2 _ _ (by omega) (by rw [← Nat.add_assoc]; exact e4)⟩, hk⟩

theorem kids_moreT {S S8 : Nat → Prop} {w w8 : World} {m kl M : Nat} {l : List (T m)} {t : T m} {xs : List Value} {c0 c1 c2 c3 c4 v : Value} {e : TypeId} (hl : l.length = kl) (hxl : xs.length = kl * 5)
    (hk : ∀ j (h : j < l.length), ∃ c0 c1 c2 c3 c4, (xs[j * 5]? = some c0 ∧ xs[j * 5 + 1]? = some c1 ∧ xs[j * 5 + 2]? = some c2 ∧ xs[j * 5 + 3]? = some c3 ∧ xs[j * 5 + 4]? = some c4) ∧ TreeIn S w m l[j] c0 c1 c2 c3 c4) (hs : Same S w w8) (hSS : ∀ b, S b → S8 b)
    (ht : TreeIn S8 w8 m t c0 c1 c2 c3 c4) (hown : w8.ownsRow M e 5 v (kl + 1) (xs ++ [c0, c1, c2, c3, c4])) (hle : kl ≤ 1000) (hv : ∀ g, v.ownBlock = some g → S8 g) : RowIn S8 w8 (TreeIn S8 w8 m) (l ++ [t]) v := by
  subst hl
  refine row_of_owns (M := M) (e := e) (xs := xs ++ [c0, c1, c2, c3, c4]) (by simpa using hown) (by simp; omega) hv fun j hj => ?_
  rcases Nat.lt_or_ge j l.length with hlt | hge
  · obtain ⟨d0, d1, d2, d3, d4, ⟨e0, e1, e2, e3, e4⟩, hd⟩ := hk j hlt
    have up : ∀ i u, i < l.length * 5 → xs[i]? = some u → (xs ++ [c0, c1, c2, c3, c4])[i]? = some u := fun i u hi hu => by rw [List.getElem?_append_left (by omega)]; exact hu
    refine ⟨d0, d1, d2, d3, d4, ⟨up _ _ (by omega) e0, up _ _ (by omega) e1, up _ _ (by omega) e2, up _ _ (by omega) e3, up _ _ (by omega) e4⟩, ?_⟩
    rw [List.getElem_append_left hlt]; exact hd.keep hs hSS
  · have hj' : j = l.length := by simp at hj; omega
    subst hj'
    have up : ∀ o u, [c0, c1, c2, c3, c4][o]? = some u → (xs ++ [c0, c1, c2, c3, c4])[l.length * 5 + o]? = some u := fun o u hu => by
      rw [List.getElem?_append_right (by omega), hxl, Nat.add_sub_cancel_left]; exact hu
    refine ⟨c0, c1, c2, c3, c4, ⟨up 0 _ rfl, up 1 _ rfl, up 2 _ rfl, up 3 _ rfl, up 4 _ rfl⟩, ?_⟩
    rw [List.getElem_append_right (Nat.le_refl _)]; simpa using ht

theorem put5_far {w : World} {g o j : Nat} {a0 a1 a2 a3 a4 : Value} (h : j < o ∨ o + 5 ≤ j) : (put5 w g o a0 a1 a2 a3 a4).cell? ⟨g, j, none⟩ = w.cell? ⟨g, j, none⟩ := by
  have ne : ∀ i, i ≠ j → (⟨g, i, none⟩ : Addr) ≠ ⟨g, j, none⟩ := fun i hi e => hi (congrArg Addr.off e)
  unfold put5
  rw [World.cell?_setCell_other (h := ne _ (by omega)), World.cell?_setCell_other (h := ne _ (by omega)), World.cell?_setCell_other (h := ne _ (by omega)), World.cell?_setCell_other (h := ne _ (by omega)), World.cell?_setCell_other (h := ne _ (by omega))]

theorem put5_near {w : World} {g o : Nat} {a0 a1 a2 a3 a4 b0 b1 b2 b3 b4 : Value} (h0 : w.cell? ⟨g, o, none⟩ = some b0) (h1 : w.cell? ⟨g, o + 1, none⟩ = some b1) (h2 : w.cell? ⟨g, o + 2, none⟩ = some b2) (h3 : w.cell? ⟨g, o + 3, none⟩ = some b3) (h4 : w.cell? ⟨g, o + 4, none⟩ = some b4) :
    (put5 w g o a0 a1 a2 a3 a4).cell? ⟨g, o, none⟩ = some a0 ∧ (put5 w g o a0 a1 a2 a3 a4).cell? ⟨g, o + 1, none⟩ = some a1 ∧ (put5 w g o a0 a1 a2 a3 a4).cell? ⟨g, o + 2, none⟩ = some a2 ∧ (put5 w g o a0 a1 a2 a3 a4).cell? ⟨g, o + 3, none⟩ = some a3 ∧ (put5 w g o a0 a1 a2 a3 a4).cell? ⟨g, o + 4, none⟩ = some a4 := by
  have ne : ∀ i j, i ≠ j → (⟨g, i, none⟩ : Addr) ≠ ⟨g, j, none⟩ := fun i j hi e => hi (congrArg Addr.off e)
  have ot : ∀ (W : World) (i j : Nat) (v : Value), i ≠ j → (W.setCell ⟨g, i, none⟩ v).cell? ⟨g, j, none⟩ = W.cell? ⟨g, j, none⟩ := fun W i j v h => World.cell?_setCell_other _ _ _ _ (ne i j h)
  unfold put5
  refine ⟨?_, ?_, ?_, ?_, ?_⟩
  · rw [ot _ _ _ _ (by omega), ot _ _ _ _ (by omega), ot _ _ _ _ (by omega), ot _ _ _ _ (by omega)]; exact World.cell?_setCell_same _ _ _ h0
  · rw [ot _ _ _ _ (by omega), ot _ _ _ _ (by omega), ot _ _ _ _ (by omega)]; exact World.cell?_setCell_same _ _ _ ((ot _ _ _ _ (by omega)).trans h1)
  · rw [ot _ _ _ _ (by omega), ot _ _ _ _ (by omega)]; exact World.cell?_setCell_same _ _ _ ((ot _ _ _ _ (by omega)).trans ((ot _ _ _ _ (by omega)).trans h2))
  · rw [ot _ _ _ _ (by omega)]; exact World.cell?_setCell_same _ _ _ ((ot _ _ _ _ (by omega)).trans ((ot _ _ _ _ (by omega)).trans ((ot _ _ _ _ (by omega)).trans h3)))
  · exact World.cell?_setCell_same _ _ _ ((ot _ _ _ _ (by omega)).trans ((ot _ _ _ _ (by omega)).trans ((ot _ _ _ _ (by omega)).trans ((ot _ _ _ _ (by omega)).trans h4))))

theorem kids_putT {S S8 U : Nat → Prop} {w w8 : World} {m kl M i g cap : Nat} {l : List (T m)} {t : T m} {xs : List Value} {c0 c1 c2 c3 c4 : Value} {e : TypeId} (hl : l.length = kl)
    (hk : ∀ j (h : j < l.length), ∃ c0 c1 c2 c3 c4, (xs[j * 5]? = some c0 ∧ xs[j * 5 + 1]? = some c1 ∧ xs[j * 5 + 2]? = some c2 ∧ xs[j * 5 + 3]? = some c3 ∧ xs[j * 5 + 4]? = some c4) ∧ TreeIn S w m l[j] c0 c1 c2 c3 c4) (hs : Same S w w8) (hSg : ¬ S g) (hSS : ∀ b, S b → S8 b)
    (ht : TreeIn U w8 m t c0 c1 c2 c3 c4) (hUg : ¬ U g) (hU : ∀ b, U b → S8 b) (hown : w8.ownsRow M e 5 (.slice (some ⟨g, 0, none⟩) kl cap) kl xs) (hle : kl ≤ 1000) (hg : S8 g) (hi : i < kl) :
    RowIn S8 (put5 w8 g (i * 5) c0 c1 c2 c3 c4) (TreeIn S8 (put5 w8 g (i * 5) c0 c1 c2 c3 c4) m) (l.set i t) (.slice (some ⟨g, 0, none⟩) kl cap) := by
  subst hl
  have hc : ∀ j x, xs[j]? = some x → w8.cell? ⟨g, 0 + j, none⟩ = some x := fun j x hx => by
    have := hown.cells (g := g) rfl j x hx
    rwa [Addr.add_lit] at this
  have ho : ∀ b, b ≠ g → (put5 w8 g (i * 5) c0 c1 c2 c3 c4).heap[b]? = w8.heap[b]? := fun b hb => put5_other hb
  refine ⟨some ⟨g, 0, none⟩, cap, by simp, by simp; unfold maxLen; omega, fun _ => ⟨g, 0, rfl, hg, fun j hj => ?_⟩⟩
  rw [List.length_set] at hj
  obtain ⟨d0, d1, d2, d3, d4, ⟨e0, e1, e2, e3, e4⟩, hd⟩ := hk j hj
  have h0 := hc _ _ e0
  have h1 := hc _ _ e1
  have h2 := hc _ _ e2
  have h3 := hc _ _ e3
  have h4 := hc _ _ e4
  rw [Nat.zero_add] at h0 h1 h2 h3 h4 ⊢
  by_cases hij : i = j
  · subst hij
    obtain ⟨p0, p1, p2, p3, p4⟩ := put5_near (a0 := c0) (a1 := c1) (a2 := c2) (a3 := c3) (a4 := c4) h0 h1 h2 h3 h4
    refine ⟨c0, c1, c2, c3, c4, p0, p1, p2, p3, p4, ?_⟩
    rw [List.getElem_set_self]
    exact ht.keep (fun b hb => ho b (fun e => hUg (e ▸ hb))) hU
  · refine ⟨d0, d1, d2, d3, d4, (put5_far (by omega)).trans h0, (put5_far (by omega)).trans h1, (put5_far (by omega)).trans h2, (put5_far (by omega)).trans h3, (put5_far (by omega)).trans h4, ?_⟩
    rw [List.getElem_set_ne hij]
    exact hd.keep (fun b hb => (ho b (fun e => hSg (e ▸ hb))).trans (hs b hb)) hSS

end Go.Proofs.YtpalkdcgbbbmeaaGreatDoor
