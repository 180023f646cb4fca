/-
  Several texts in one, in their order.
-/
import Derived.Test.YthcdeahobjhkbaaGreatDoorB13
import Derived.Test.YthcdeahobjhkbaaGreatDoorDec
import Derived.Deep.RegionLaw
import Derived.Deep.Cut
import Derived.Deep.CutRange
import Derived.Lib.Hide
import Derived.WalkSmall
import Derived.LoopTactic
import Derived.Test.YthcdeahobjhkbaaGreatDoorB14

/-
  What the specification draws: l5SpoilKind.
-/
namespace Go.Proofs.YthcdeahobjhkbaaGreatDoor
open Go.RowKit

/-- The way out, one cell of the first new block turned. -/
theorem sp_exit2 {m R L cap p p' q o : Nat} {S : Nat → Prop} {ao : Option Addr} {w W : World} {k : K m} {g0 g1 g2 x : Value} (h : Dr w R ao L cap p) (hS : ∀ b, S b → b < w.heap.size) (hn : Near R w W) (hb : W.heap[R]? = some (.cells #[.slice ao L cap, .int .i64 (p' : Int)] 70 (0, 0))) (hp : p' ≤ p + q)
    (hk : KindIn (fun b => S b ∨ (w.heap.size + 2 ≤ b ∧ b < W.heap.size)) W m k g0 g1 g2) :
    SpoilPost m S w R ao L cap p q (.returned (.agg #[g0, g1, g2])) (put3 (W.setCell ⟨w.heap.size, o, none⟩ x) (w.heap.size + 1) 0 g0 g1 g2) := by
  have hR := h.lt
  have qq : ∀ b, b ≠ w.heap.size → (W.setCell ⟨w.heap.size, o, none⟩ x).heap[b]? = W.heap[b]? := fun b hb => Below.heap_setCell _ _ _ _ hb
  have hz : (W.setCell ⟨w.heap.size, o, none⟩ x).heap.size = W.heap.size := by simp
  refine sp_exit h hS ⟨hn.os, hn.tape, hn.output, by rw [hz]; exact hn.size, fun b hb hne => (qq b (by omega)).trans (hn.block b hb hne)⟩ ((qq R (by omega)).trans hb) hp (hk.keep (fun b hb => qq b ?_) (fun b hb => by rw [hz]; exact hb))
  exact hb.elim (fun h => by have := hS b h; omega) (fun h => by omega)

theorem kids_more {S S8 : Nat → Prop} {w w8 : World} {m kl M : Nat} {l : List (K m)} {t : K m} {xs : List Value} {c0 c1 c2 v : Value} {e : TypeId} (hl : l.length = kl) (hxl : xs.length = kl * 3)
    (hk : ∀ j (h : j < l.length), ∃ c0 c1 c2, (xs[j * 3]? = some c0 ∧ xs[j * 3 + 1]? = some c1 ∧ xs[j * 3 + 2]? = some c2) ∧ KindIn S w m l[j] c0 c1 c2) (hs : Same S w w8) (hSS : ∀ b, S b → S8 b)
    (ht : KindIn S8 w8 m t c0 c1 c2) (hown : w8.ownsRow M e 3 v (kl + 1) (xs ++ [c0, c1, c2])) (hle : kl ≤ 1000) (hv : ∀ g, v.ownBlock = some g → S8 g) : RowIn3 S8 w8 (KindIn S8 w8 m) (l ++ [t]) v := by
  subst hl
  refine row3_of_owns (M := M) (e := e) (xs := xs ++ [c0, c1, c2]) (by simpa using hown) (by simp; omega) hv fun j hj => ?_
  rcases Nat.lt_or_ge j l.length with hlt | hge
  · obtain ⟨d0, d1, d2, ⟨e0, e1, e2⟩, hd⟩ := hk j hlt
    refine ⟨d0, d1, d2, ⟨?_, ?_, ?_⟩, ?_⟩
    · rw [List.getElem?_append_left (by omega)]; exact e0
    · rw [List.getElem?_append_left (by omega)]; exact e1
    · rw [List.getElem?_append_left (by omega)]; exact e2
    · rw [List.getElem_append_left hlt]; exact hd.keep hs hSS
  · have hj' : j = l.length := by simp at hj; omega
    subst hj'
    refine ⟨c0, c1, c2, ⟨?_, ?_, ?_⟩, ?_⟩
    · rw [List.getElem?_append_right (by omega)]; simp [hxl]
    · rw [List.getElem?_append_right (by omega)]; simp [hxl, Nat.add_sub_cancel_left]
    · rw [List.getElem?_append_right (by omega)]; simp [hxl, Nat.add_sub_cancel_left]
    · rw [List.getElem_append_right (Nat.le_refl _)]; simpa using ht

theorem put3_far {w : World} {g o j : Nat} {a0 a1 a2 : Value} (h : j < o ∨ o + 3 ≤ j) : (put3 w g o a0 a1 a2).cell? ⟨g, j, none⟩ = w.cell? ⟨g, j, none⟩ := by
  have ne : ∀ i, i ≠ j → (⟨g, i, none⟩ : Addr) ≠ ⟨g, j, none⟩ := fun i hi e => hi (congrArg Addr.off e)
  unfold put3
  rw [World.cell?_setCell_other (h := ne _ (by omega)), World.cell?_setCell_other (h := ne _ (by omega)), World.cell?_setCell_other (h := ne _ (by omega))]

theorem put3_near {w : World} {g o : Nat} {a0 a1 a2 b0 b1 b2 : Value} (h0 : w.cell? ⟨g, o, none⟩ = some b0) (h1 : w.cell? ⟨g, o + 1, none⟩ = some b1) (h2 : w.cell? ⟨g, o + 2, none⟩ = some b2) :
    (put3 w g o a0 a1 a2).cell? ⟨g, o, none⟩ = some a0 ∧ (put3 w g o a0 a1 a2).cell? ⟨g, o + 1, none⟩ = some a1 ∧ (put3 w g o a0 a1 a2).cell? ⟨g, o + 2, none⟩ = some a2 := by
  have ne : ∀ i j, i ≠ j → (⟨g, i, none⟩ : Addr) ≠ ⟨g, j, none⟩ := fun i j hi e => hi (congrArg Addr.off e)
  unfold put3
  refine ⟨?_, ?_, ?_⟩
  · rw [World.cell?_setCell_other _ _ _ _ (ne _ _ (by omega)), World.cell?_setCell_other _ _ _ _ (ne _ _ (by omega))]; exact World.cell?_setCell_same _ _ _ h0
  · rw [World.cell?_setCell_other _ _ _ _ (ne _ _ (by omega))]
    exact World.cell?_setCell_same _ _ _ ((World.cell?_setCell_other _ _ _ _ (ne o (o + 1) (by omega))).trans h1)
  · exact World.cell?_setCell_same _ _ _ ((World.cell?_setCell_other _ _ _ _ (ne (o + 1) (o + 2) (by omega))).trans ((World.cell?_setCell_other _ _ _ _ (ne o (o + 2) (by omega))).trans h2))

theorem kids_put {S S8 U : Nat → Prop} {w w8 : World} {m kl M i g cap : Nat} {l : List (K m)} {t : K m} {xs : List Value} {c0 c1 c2 : Value} {e : TypeId} (hl : l.length = kl)
    (hk : ∀ j (h : j < l.length), ∃ c0 c1 c2, (xs[j * 3]? = some c0 ∧ xs[j * 3 + 1]? = some c1 ∧ xs[j * 3 + 2]? = some c2) ∧ KindIn S w m l[j] c0 c1 c2) (hs : Same S w w8) (hSg : ¬ S g) (hSS : ∀ b, S b → S8 b)
    (ht : KindIn U w8 m t c0 c1 c2) (hUg : ¬ U g) (hU : ∀ b, U b → S8 b) (hown : w8.ownsRow M e 3 (.slice (some ⟨g, 0, none⟩) kl cap) kl xs) (hle : kl ≤ 1000) (hg : S8 g) (hi : i < kl) :
    RowIn3 S8 (put3 w8 g (i * 3) c0 c1 c2) (KindIn S8 (put3 w8 g (i * 3) c0 c1 c2) m) (l.set i t) (.slice (some ⟨g, 0, none⟩) kl cap) := by
  subst hl
  have hc : ∀ j x, xs[j]? = some x → w8.cell? ⟨g, 0 + j, none⟩ = some x := fun j x hx => by
    have := hown.cells (g := g) rfl j x hx
    rwa [Addr.add_lit] at this
  have ho : ∀ b, b ≠ g → (put3 w8 g (i * 3) c0 c1 c2).heap[b]? = w8.heap[b]? := fun b hb => put3_other hb
  refine ⟨some ⟨g, 0, none⟩, cap, by simp, by simp; unfold maxLen; omega, fun _ => ⟨g, 0, rfl, hg, fun j hj => ?_⟩⟩
  rw [List.length_set] at hj
  obtain ⟨d0, d1, d2, ⟨e0, e1, e2⟩, hd⟩ := hk j hj
  have h0 := hc _ _ e0
  have h1 := hc _ _ e1
  have h2 := hc _ _ e2
  rw [Nat.zero_add] at h0 h1 h2 ⊢
  rcases Nat.lt_trichotomy i j with hij | rfl | hij
  · refine ⟨d0, d1, d2, (put3_far (by omega)).trans h0, (put3_far (by omega)).trans h1, (put3_far (by omega)).trans h2, ?_⟩
    rw [List.getElem_set_ne (by omega)]
    exact hd.keep (fun b hb => (ho b (fun e => hSg (e ▸ hb))).trans (hs b hb)) hSS
  · obtain ⟨p0, p1, p2⟩ := put3_near (a0 := c0) (a1 := c1) (a2 := c2) h0 h1 h2
    refine ⟨c0, c1, c2, p0, p1, p2, ?_⟩
    rw [List.getElem_set_self]
    exact ht.keep (fun b hb => ho b (fun e => hUg (e ▸ hb))) hU
  · refine ⟨d0, d1, d2, (put3_far (by omega)).trans h0, (put3_far (by omega)).trans h1, (put3_far (by omega)).trans h2, ?_⟩
    rw [List.getElem_set_ne (by omega)]
    exact hd.keep (fun b hb => (ho b (fun e => hSg (e ▸ hb))).trans (hs b hb)) hSS

set_option maxRecDepth 20000 in
set_option maxHeartbeats 8000000 in
theorem spoil_step (d : Nat) (hn : SpoilSaid d) : SpoilSaid (d + 1) := by
  intro m R ao L cap p S k c0 c1 c2 w hm hdk hk hS h hp
  obtain ⟨m, rfl⟩ : ∃ m', m = m' + 1 := ⟨m - 1, by omega⟩
  obtain ⟨-, hnl, hns, hkl, hdks⟩ := hdk
  obtain ⟨rfl, hwf, h3, h4⟩ := hk
  obtain ⟨na, nc, rfl, -⟩ := id h3
  obtain ⟨ka, kc, rfl, -, -⟩ := id h4
  generalize hs : Kd.sort k = s at *
  clear hs
  have hR := h.lt
  have HD0 : Hid (Dr w R ao L cap p) := h
  have HNm := hidF h3
  have HKd := hidF h4
  have HNs := hidF hns
  have HDk : Hid (∀ x, x ∈ Kd.kids k → depK m x d) := fun x hx => by simpa using hdks x hx
  have HN : Hid (SpoilSaid d) := hn
  have HSS : Hid (∀ b, S b → b < w.heap.size) := fun b hb => (hS b hb).1
  obtain ⟨W2, hW2⟩ : ∃ W2, W2 = (w.alloc (.cells #[.int .i64 s, .slice na (Kd.names k).length nc, .slice ka (Kd.kids k).length kc] 26)).alloc (.cells #[.int .i64 0, .slice none 0 0, .slice none 0 0] 26) := ⟨_, rfl⟩
  have hz2 : W2.heap.size = w.heap.size + 2 := by rw [hW2]; simp
  have hb2 : Below w.heap.size w W2 := by rw [hW2]; exact ((Below.refl _ _).alloc (Nat.le_refl _) _).alloc (by simp) _
  have hboxX : W2.heap[w.heap.size]? = some (.cells #[.int .i64 s, .slice na (Kd.names k).length nc, .slice ka (Kd.kids k).length kc] 26 (0, 0)) := by rw [hW2, Below.heap_alloc _ _ _ (by simp)]; exact heap_alloc_new _ _
  have hzero : W2.heap[w.heap.size + 1]? = some (.cells #[.int .i64 0, .slice none 0 0, .slice none 0 0] 26 (0, 0)) := by
    have := heap_alloc_new (w.alloc (.cells #[.int .i64 s, .slice na (Kd.names k).length nc, .slice ka (Kd.kids k).length kc] 26)) (.cells #[.int .i64 0, .slice none 0 0, .slice none 0 0] 26)
    rw [hW2]; simpa using this
  have HW : Hid (∀ u, Near R W2 u → Near R w u ∧ u.heap[w.heap.size]? = some (.cells #[.int .i64 s, .slice na (Kd.names k).length nc, .slice ka (Kd.kids k).length kc] 26 (0, 0)) ∧ u.heap[w.heap.size + 1]? = some (.cells #[.int .i64 0, .slice none 0 0, .slice none 0 0] 26 (0, 0)) ∧ Same S w u) := fun u hu =>
    ⟨(Near.of_below hb2).trans hu, (hu.block _ (by omega) (by omega)).trans hboxX, (hu.block _ (by omega) (by omega)).trans hzero, fun b hb => by
      have := hS b hb
      rw [hu.block b (by omega) this.2]; exact hb2.block b this.1⟩
  have hDW := h.same hb2
  have x2 : W2.cell? ⟨w.heap.size, 2, none⟩ = some (.slice ka (Kd.kids k).length kc) := by simp [World.cell?, hboxX]
  clear h h3 h4 hns hdks hn hb2 hboxX hzero
  generalize hkl0 : (Kd.kids k).length = kl at *
  generalize hnl0 : (Kd.names k).length = nl at *
  have HLn : Hid ((Kd.kids k).length = kl ∧ (Kd.names k).length = nl) := ⟨hkl0, hnl0⟩
  clear hkl0 hnl0
  rw [hW2] at x2
  rcases Nat.eq_zero_or_pos kl with hk0 | hk0
  case' inl =>
    subst hk0
    have HU : Hid (Near R W2 W2 ∧ Dr W2 R ao L cap p) := ⟨Near.refl _ _, hDW⟩
    obtain ⟨p1, hp1, HU⟩ : ∃ p1, p1 ≤ p + 1 ∧ Hid (Near R W2 W2 ∧ Dr W2 R ao L cap p1) := ⟨p, by omega, HU⟩
    go_enter Tryz.func15, Tryz.ntmps15
    go_wp2_with fail
    rw [← hW2]
    obtain ⟨u, hu⟩ : ∃ u, u = W2 := ⟨_, rfl⟩
    have HU : Hid (Near R W2 u ∧ Dr u R ao L cap p1) := by rw [hu]; exact HU
    rw [← hu]
    clear hu hDW hW2 x2
    obtain ⟨kl, hkz⟩ : ∃ kl : Nat, kl = 0 := ⟨0, rfl⟩
    have HW : Hid (∀ u, Near R W2 u → Near R w u ∧ u.heap[w.heap.size]? = some (.cells #[.int .i64 s, .slice na nl nc, .slice ka kl kc] 26 (0, 0)) ∧ u.heap[w.heap.size + 1]? = some (.cells #[.int .i64 0, .slice none 0 0, .slice none 0 0] 26 (0, 0)) ∧ Same S w u) := by rw [hkz]; exact HW
    have HKd : Hid (RowIn3 S w (KindIn S w m) (Kd.kids k) (.slice ka kl kc)) := by rw [hkz]; exact HKd
    have HLn : Hid ((Kd.kids k).length = kl ∧ (Kd.names k).length = nl) := by rw [hkz]; exact HLn
    have hkl : kl ≤ 1000 := by omega
    clear hkz
  case' inr =>
    have hd0 : (0 : Int) < (kl : Int) := by omega
    have HPk : Hid (Calls Tryz.prog 13 #[.pointer (some ⟨R, 0, none⟩), .int .i64 3] W2 (PickPost W2 R ao L cap p 3)) := pick_any W2 R ao L cap p 3 hDW (by omega) (by omega) (by omega)
    go_enter Tryz.func15, Tryz.ntmps15
    go_wp2_with fail
    rw [← hW2]
    refine HPk.out.mono ?_
    rintro e u ⟨y, rfl, hy, hnu, hDu, -⟩
    have HU : Hid (Near R W2 u ∧ Dr u R ao L cap (p + 1)) := ⟨hnu, hDu⟩
    clear HPk hDW hW2 x2
    by_cases hy0 : y = 0
    case neg =>
      have hy1 : (0 : Int) < (y : Int) := by omega
      obtain ⟨q1, q2, q3, q4⟩ := HW.out u hnu
      have hzu := hnu.size
      have y2 : u.cell? ⟨w.heap.size, 2, none⟩ = some (.slice ka kl kc) := by simp [World.cell?, q2]
      have yE : (u.alloc (.cells #[] 26)).cell? ⟨w.heap.size, 2, none⟩ = some (.slice ka kl kc) := (World.cell?_of_block (Below.heap_alloc _ _ _ (by show w.heap.size < _; omega))).trans (by simp [World.cell?, q2])
      obtain ⟨xs, hxl, hx1, hxn, hxk⟩ := kids_news HLn.out.1 HKd.out
      have HXN : Hid (xs.length = kl * 3 ∧ (∀ u ∈ xs, u.oneCell' = true) ∧ (0 < kl → ∃ ad, ka = some ad ∧ ∀ j x, xs[j]? = some x → (u.alloc (.cells #[] 26)).cell? (ad.add j) = some x)) :=
        ⟨hxl, hx1, hxn _ (fun b hb => (Below.heap_alloc _ _ _ (by have := HSS.out b hb; omega)).trans (q4 b hb))⟩
      have HXK := hidF hxk
      obtain ⟨ik0, hi0, hz0, hz1, hzb⟩ := info_parts Tryz.info_kindD
      have HIK : Hid (_ ∧ _ ∧ _ ∧ _) := ⟨hi0, hz0, hz1, hzb⟩
      have HQ : Hid (Near R w u ∧ u.heap[w.heap.size]? = some (.cells #[.int .i64 s, .slice na nl nc, .slice ka kl kc] 26 (0, 0)) ∧ u.heap[w.heap.size + 1]? = some (.cells #[.int .i64 0, .slice none 0 0, .slice none 0 0] 26 (0, 0)) ∧ Same S w u ∧ Dr u R ao L cap (p + 1)) := ⟨q1, q2, q3, q4, hDu⟩
      clear q1 q2 q3 q4 hDu hnu hxl hx1 hxn hxk hi0 hz0 hz1 hzb HU
      go_wp2_with (at_builtin; refine wpList_copy _ rfl (.tmp 18) (.tmp 20) 24 rfl u.heap.size 26 ik0 _ 3 56 Tryz.underlying24 HIK.out.1 HIK.out.2.1 HIK.out.2.2.1 HIK.out.2.2.2 rfl (by decide) u.heap.size rfl (heap_alloc_new u _) (Nat.le_refl _) ka kl kc xs rfl HXN.out.1 HXN.out.2.2 HXN.out.2.1 (by unfold maxLen; omega) (by omega) (u.heap.size + 1) (by simp) ?_)
      intro g1 cap1 w6 hown1 hgrow1 hat1 hlt1
      have hz6 := hgrow1.size
      rw [World.size_alloc] at hz6
      have hG1 : ∀ b, b < u.heap.size → w6.heap[b]? = u.heap[b]? := fun b hb => (hgrow1.block b (by simp; omega) (by simp; omega)).trans (Below.heap_alloc _ _ _ hb)
      obtain ⟨q1, q2, q3, q4, hDu⟩ := HQ.out
      have hzw := q1.size
      have hn6 : Near R w w6 := ⟨hgrow1.os.trans q1.os, hgrow1.tape.trans q1.tape, hgrow1.output.trans q1.output, by omega, fun b hb hne => (hG1 b (by omega)).trans (q1.block b hb hne)⟩
      have hD6 : Dr w6 R ao L cap (p + 1) := HD0.out.keep hn6 ((hG1 R (by omega)).trans hDu.box)
      have HPk : Hid (Calls Tryz.prog 13 #[.pointer (some ⟨R, 0, none⟩), .int .i64 (kl : Int)] w6 (PickPost w6 R ao L cap (p + 1) kl)) := pick_any w6 R ao L cap (p + 1) kl hD6 (by omega) (by omega) (by omega)
      have HO1 := hidF hown1
      have HG1 : Hid (Near R w w6 ∧ (∀ b, b < u.heap.size → w6.heap[b]? = u.heap[b]?)) := ⟨hn6, hG1⟩
      have hg1 : u.heap.size ≤ g1 := by omega
      clear hown1 hgrow1 hG1 q1 q2 q3 q4 hDu hn6 hD6 yE y2 HXN hat1
      go_wp2_with fail
      refine HPk.out.mono ?_
      rintro e w7 ⟨i, rfl, hi, hn7, hD7, -⟩
      have hz7 := hn7.size
      have hO7 : w7.ownsRow u.heap.size 26 3 (.slice (some ⟨g1, 0, none⟩) kl cap1) kl xs := r1_keep HO1.out fun g hg => by
        have := r1_lt HO1.out g hg
        exact hn7.block g (by omega) (by omega)
      have hik : i < (Kd.kids k).length := by rw [HLn.out.1]; exact hi
      obtain ⟨d0, d1, d2, ⟨e0, e1, e2⟩, hkd⟩ := HXK.out i hik
      obtain ⟨v0, va, vl, vc, ua, ul, uc, rfl, rfl, rfl⟩ := hkd.shape
      have hc7 : ∀ j x, xs[j]? = some x → w7.cell? ⟨g1, j, none⟩ = some x := fun j x hx => by
        have := hO7.cells (g := g1) rfl j x hx
        rw [Addr.add_lit] at this
        simpa using this
      have z0 := hc7 _ _ e0
      have z1 := hc7 _ _ e1
      have z2 := hc7 _ _ e2
      have HG7 : Hid (Near R w w7 ∧ (∀ b, b < u.heap.size → b ≠ R → w7.heap[b]? = u.heap[b]?) ∧ Dr w7 R ao L cap (p + 1 + 1)) := ⟨HG1.out.1.trans hn7, fun b hb hne => (hn7.block b (by omega) hne).trans (HG1.out.2 b hb), hD7⟩
      have HO7 := hidF hO7
      have hsame7 : Same S w w7 := fun b hb => (HG7.out.2.1 b (by have := (hS b hb).1; omega) (hS b hb).2).trans (HQ.out.2.2.2.1 b hb)
      have HC : Hid (Calls Tryz.prog 15 #[.pointer (some ⟨R, 0, none⟩), .agg #[.int .i64 v0, .slice va vl vc, .slice ua ul uc]] w7 (SpoilPost m S w7 R ao L cap (p + 1 + 1) (50 * d))) :=
        HN.out m R ao L cap (p + 1 + 1) S ((Kd.kids k)[i]'hik) _ _ _ w7 (by omega) (HDk.out _ (List.getElem_mem hik)) (hkd.keep hsame7 (fun _ h => h)) (fun b hb => ⟨by have := (hS b hb).1; omega, (hS b hb).2⟩) hD7 (by omega)
      have hii : (i : Int) < (kl : Int) := by omega
      clear HPk hn7 hD7 hO7 HO1 HG1 hc7 hkd hsame7
      go_wp2_with fail
      refine HC.out.mono ?_
      rintro e w8 ⟨hn8, p8, k8, c0, c1, c2, hp8, hD8, rfl, hk8⟩
      obtain ⟨n0, ya, yl, yc, za, zl, zc, rfl, rfl, rfl⟩ := hk8.shape
      have hz8 := hn8.size
      have hO8 : w8.ownsRow u.heap.size 26 3 (.slice (some ⟨g1, 0, none⟩) kl cap1) kl xs := r1_keep HO7.out fun g hg => by
        have := r1_lt HO7.out g hg
        exact hn8.block g (by omega) (by omega)
      have hc8 : ∀ j x, xs[j]? = some x → w8.cell? ⟨g1, j, none⟩ = some x := fun j x hx => by
        have := hO8.cells (g := g1) rfl j x hx
        rw [Addr.add_lit] at this
        simpa using this
      have t0 := hc8 _ _ e0
      have t1 := hc8 _ _ e1
      have t2 := hc8 _ _ e2
      have hfr : ∀ o, w8.frozen? ⟨g1, o, none⟩ = false := fun o => by
        rcases hO8.2 with ⟨hv, -⟩ | ⟨g, cap, cur, hv, -, hgc, -⟩
        · cases hv
        · cases hv; simp [World.frozen?, hgc]
      have tf0 := hfr (i * 3)
      have tf1 := hfr (i * 3 + 1)
      have tf2 := hfr (i * 3 + 2)
      obtain ⟨hn7, hG7, hD7⟩ := HG7.out
      obtain ⟨q1, q2, q3, q4, hDu⟩ := HQ.out
      have hfar : ∀ b, b < u.heap.size → b ≠ R → w8.heap[b]? = u.heap[b]? := fun b hb hne => (hn8.block b (by omega) hne).trans (hG7 b hb hne)
      have q2' := (hfar w.heap.size (by omega) (by omega)).trans q2
      have q3' := (hfar (w.heap.size + 1) (by omega) (by omega)).trans q3
      have y0 : w8.cell? ⟨w.heap.size, 0, none⟩ = some (.int .i64 s) := by simp [World.cell?, q2']
      have y1 : w8.cell? ⟨w.heap.size, 1, none⟩ = some (.slice na nl nc) := by simp [World.cell?, q2']
      have y2 : w8.cell? ⟨w.heap.size, 2, none⟩ = some (.slice ka kl kc) := by simp [World.cell?, q2']
      have yf : w8.frozen? ⟨w.heap.size, 2, none⟩ = false := by simp [World.frozen?, q2']
      obtain ⟨⟨r0, r1, r2⟩, f0, f1, f2⟩ := zeroD_cells q3'
      have HP : Hid (SpoilPost (m + 1) S w R ao L cap p (50 * (d + 1)) (.returned (.agg #[.int .i64 s, .slice na nl nc, .slice (some ⟨g1, 0, none⟩) kl cap1])) (put3 ((put3 w8 g1 (i * 3) (.int .i64 n0) (.slice ya yl yc) (.slice za zl zc)).setCell ⟨w.heap.size, 2, none⟩ (.slice (some ⟨g1, 0, none⟩) kl cap1)) (w.heap.size + 1) 0 (.int .i64 s) (.slice na nl nc) (.slice (some ⟨g1, 0, none⟩) kl cap1))) := by
        have hg7 := (r1_lt HO7.out g1 rfl).2
        have hsame : Same S w w8 := fun b hb => (hfar b (by have := (hS b hb).1; omega) (hS b hb).2).trans (q4 b hb)
        have qq : ∀ b, b ≠ g1 → (put3 w8 g1 (i * 3) (.int .i64 n0) (.slice ya yl yc) (.slice za zl zc)).heap[b]? = w8.heap[b]? := fun b hb => put3_other hb
        have hzp : (put3 w8 g1 (i * 3) (.int .i64 n0) (.slice ya yl yc) (.slice za zl zc)).heap.size = w8.heap.size := put3_size
        have hnw := hn7.trans hn8
        refine sp_exit2 (m := m + 1) (k := (⟨s, Kd.names k, (Kd.kids k).set i k8⟩ : Kd (K m))) HD0.out HSS.out ⟨hnw.os, hnw.tape, hnw.output, by rw [hzp]; exact hnw.size, fun b hb hne => (qq b (by omega)).trans (hnw.block b hb hne)⟩ ((qq R (by omega)).trans hD8.box) (by omega) ⟨rfl, hwf, ?_, ?_⟩
        · have := HNm.out.keep (w' := put3 w8 g1 (i * 3) (.int .i64 n0) (.slice ya yl yc) (.slice za zl zc)) (fun b hb => (qq b (by have := (hS b hb).1; omega)).trans (hsame b hb)) (S' := fun b => S b ∨ (w.heap.size + 2 ≤ b ∧ b < (put3 w8 g1 (i * 3) (.int .i64 n0) (.slice ya yl yc) (.slice za zl zc)).heap.size)) (fun b hb => .inl hb)
          simpa only [HLn.out.2] using this
        · exact kids_put HLn.out.1 HXK.out hsame (fun hb => by have := (hS _ hb).1; omega) (fun b hb => .inl hb) hk8 (fun hb => hb.elim (fun h => by have := (hS _ h).1; omega) (fun h => by omega)) (fun b hb => hb.imp id (fun h => ⟨by omega, by rw [hzp]; exact h.2⟩)) hO8 hkl (.inr ⟨by omega, by rw [hzp]; omega⟩) hi
      clear q1 q2 q3 q4 hDu q2' q3' hfar hO8 hc8 hfr hn7 hG7 hD7 HQ HO7 HG7 HXK HIK HC hk8 hD8 hn8
      go_wp2_with fail
      refine bodyPost_ret (v := .agg #[.int .i64 s, .slice na nl nc, .slice (some ⟨g1, 0, none⟩) kl cap1]) (by simp [results, Tryz.results15, go_sem, r0, r1, r2]) rfl ?_
      exact HP.out
    case' pos =>
      subst hy0
      obtain ⟨p1, hp1, HU⟩ : ∃ p1, p1 ≤ p + 1 ∧ Hid (Near R W2 u ∧ Dr u R ao L cap p1) := ⟨p + 1, by omega, HU⟩
      clear hnu hDu
      go_wp2_with fail
      clear hd0 hy hk0
  all_goals
    have HPk : Hid (Calls Tryz.prog 13 #[.pointer (some ⟨R, 0, none⟩), .int .i64 5] u (PickPost u R ao L cap p1 5)) := pick_any u R ao L cap p1 5 HU.out.2 (by omega) (by omega) (by omega)
    refine HPk.out.mono ?_
    rintro e w5 ⟨v, rfl, hv, hn5, hD5, -⟩
    have hn25 := HU.out.1.trans hn5
    have hz5 := hn25.size
    clear HPk hn5
    have hcase : v = 0 ∨ v = 1 ∨ v = 2 ∨ v = 3 ∨ v = 4 := by omega
    rcases hcase with rfl | rfl | rfl | rfl | rfl
    · have HPk : Hid (Calls Tryz.prog 13 #[.pointer (some ⟨R, 0, none⟩), .int .i64 8] w5 (PickPost w5 R ao L cap (p1 + 1) 8)) := pick_any w5 R ao L cap (p1 + 1) 8 hD5 (by omega) (by omega) (by omega)
      go_wp2_with fail
      refine HPk.out.mono ?_
      rintro e w6 ⟨z, rfl, hz, hn6, hD6, -⟩
      obtain ⟨q1, q2, q3, q4⟩ := HW.out w6 (hn25.trans hn6)
      have y0 : w6.cell? ⟨w.heap.size, 0, none⟩ = some (.int .i64 s) := by simp [World.cell?, q2]
      have y1 : w6.cell? ⟨w.heap.size, 1, none⟩ = some (.slice na nl nc) := by simp [World.cell?, q2]
      have y2 : w6.cell? ⟨w.heap.size, 2, none⟩ = some (.slice ka kl kc) := by simp [World.cell?, q2]
      have yf : w6.frozen? ⟨w.heap.size, 0, none⟩ = false := by simp [World.frozen?, q2]
      obtain ⟨⟨r0, r1, r2⟩, f0, f1, f2⟩ := zeroD_cells q3
      have hz6 := hn6.size
      have HP : Hid (SpoilPost (m + 1) S w R ao L cap p (50 * (d + 1)) (.returned (.agg #[.int .i64 (z : Int), .slice na nl nc, .slice ka kl kc])) (put3 (w6.setCell ⟨w.heap.size, 0, none⟩ (.int .i64 (z : Int))) (w.heap.size + 1) 0 (.int .i64 (z : Int)) (.slice na nl nc) (.slice ka kl kc))) := by
        have hsame : Same S w (w6.setCell ⟨w.heap.size, 0, none⟩ (.int .i64 (z : Int))) := fun b hb => (Below.heap_setCell _ _ _ _ (by have := HSS.out b hb; show b ≠ w.heap.size; omega)).trans (q4 b hb)
        refine sp_exit (m := m + 1) (k := (⟨(z : Int), Kd.names k, Kd.kids k⟩ : Kd (K m))) HD0.out HSS.out ⟨q1.os, q1.tape, q1.output, by simpa using q1.size, fun b hb hne => (Below.heap_setCell _ _ _ _ (by show b ≠ w.heap.size; omega)).trans (q1.block b hb hne)⟩ ((Below.heap_setCell _ _ _ _ (by show R ≠ w.heap.size; omega)).trans hD6.box) (by omega) ⟨rfl, wf_small z (by omega), ?_, ?_⟩
        · have := HNm.out.keep hsame (S' := fun b => S b ∨ (w.heap.size + 2 ≤ b ∧ b < (w6.setCell ⟨w.heap.size, 0, none⟩ (.int .i64 (z : Int))).heap.size)) (fun b hb => .inl hb)
          simpa only [HLn.out.2] using this
        · have := HKd.out.keepK hsame (S' := fun b => S b ∨ (w.heap.size + 2 ≤ b ∧ b < (w6.setCell ⟨w.heap.size, 0, none⟩ (.int .i64 (z : Int))).heap.size)) (fun b hb => .inl hb)
          simpa only [HLn.out.1] using this
      clear HPk q1 q2 q3 q4 hn6 hD6 hn25 hD5
      go_wp2_with fail
      refine bodyPost_ret (v := .agg #[.int .i64 (z : Int), .slice na nl nc, .slice ka kl kc]) (by simp [results, Tryz.results15, go_sem, r0, r1, r2]) rfl ?_
      exact HP.out
    · obtain ⟨q1, q2, q3, q4⟩ := HW.out w5 hn25
      have yE : (w5.alloc (.cells #[] 9)).cell? ⟨w.heap.size, 1, none⟩ = some (.slice na nl nc) := (World.cell?_of_block (Below.heap_alloc _ _ _ (by show w.heap.size < _; omega))).trans (by simp [World.cell?, q2])
      have HXN : Hid (_ ∧ _ ∧ _) := strs_news (w' := w5.alloc (.cells #[] 9)) HLn.out.2 HNm.out (fun b hb => (Below.heap_alloc _ _ _ (by have := HSS.out b hb; omega)).trans (q4 b hb))
      obtain ⟨is0, hi0, hy0, hy1, hyb⟩ := info_parts Tryz.info_strD
      have HIS : Hid (_ ∧ _ ∧ _ ∧ _) := ⟨hi0, hy0, hy1, hyb⟩
      have HQ : Hid (Near R w w5 ∧ w5.heap[w.heap.size]? = some (.cells #[.int .i64 s, .slice na nl nc, .slice ka kl kc] 26 (0, 0)) ∧ w5.heap[w.heap.size + 1]? = some (.cells #[.int .i64 0, .slice none 0 0, .slice none 0 0] 26 (0, 0)) ∧ Same S w w5 ∧ Dr w5 R ao L cap (p1 + 1)) := ⟨q1, q2, q3, q4, hD5⟩
      clear q1 q2 q3 q4 hD5 hn25 hi0 hy0 hy1 hyb HU
      go_wp2_with (at_builtin; refine wpList_copy _ rfl (.tmp 63) (.tmp 65) 23 rfl w5.heap.size 9 is0 _ 1 16 Tryz.underlying23 HIS.out.1 HIS.out.2.1 HIS.out.2.2.1 HIS.out.2.2.2 rfl (by decide) w5.heap.size rfl (heap_alloc_new w5 _) (Nat.le_refl _) na nl nc ((Kd.names k).map .string) rfl HXN.out.1 HXN.out.2.2 HXN.out.2.1 (by unfold maxLen; omega) (by omega) (w5.heap.size + 1) (by simp) ?_)
      intro g1 cap1 w6 hown1 hgrow1 hat1 hlt1
      have hz6 := hgrow1.size
      rw [World.size_alloc] at hz6
      have hG1 : ∀ b, b < w5.heap.size → w6.heap[b]? = w5.heap[b]? := fun b hb => (hgrow1.block b (by simp; omega) (by simp; omega)).trans (Below.heap_alloc _ _ _ hb)
      obtain ⟨q1, q2, q3, q4, hD5⟩ := HQ.out
      have hz0 := q1.size
      have hn6 : Near R w w6 := ⟨hgrow1.os.trans q1.os, hgrow1.tape.trans q1.tape, hgrow1.output.trans q1.output, by omega, fun b hb hne => (hG1 b (by omega)).trans (q1.block b hb hne)⟩
      have hD6 : Dr w6 R ao L cap (p1 + 1) := HD0.out.keep hn6 ((hG1 R (by omega)).trans hD5.box)
      obtain ⟨W7, hW7⟩ : ∃ W7, W7 = w6.alloc (.cells #[.string ⟨#[97]⟩, .string ⟨#[122]⟩, .string ⟨#[65]⟩] 9) := ⟨_, rfl⟩
      have hb7 : Below w6.heap.size w6 W7 := by rw [hW7]; exact (Below.refl _ _).alloc (Nat.le_refl _) _
      have hz7 : W7.heap.size = w6.heap.size + 1 := by rw [hW7]; simp
      have hnew : W7.heap[w6.heap.size]? = some (.cells #[.string ⟨#[97]⟩, .string ⟨#[122]⟩, .string ⟨#[65]⟩] 9 (0, 0)) := by rw [hW7]; exact heap_alloc_new _ _
      have HOf : Hid (Calls Tryz.prog 28 #[.pointer (some ⟨R, 0, none⟩), .slice (some ⟨w6.heap.size, 0, none⟩) 3 3] W7 fun e w' => ∃ x : ByteArray, e = .returned (.string x) ∧ x.size ≤ 10000 ∧ Near R W7 w' ∧ Dr w' R ao L cap (p1 + 1 + 1)) := by
        refine of_any W7 R ao L cap (p1 + 1) (hD6.same hb7) (by omega) w6.heap.size 0 3 3 (by omega) (by omega) (by omega) fun j hj => ?_
        have hj3 : j = 0 ∨ j = 1 ∨ j = 2 := by omega
        rcases hj3 with rfl | rfl | rfl
        · exact ⟨⟨#[97]⟩, by decide, by simp [World.cell?, hnew]⟩
        · exact ⟨⟨#[122]⟩, by decide, by simp [World.cell?, hnew]⟩
        · exact ⟨⟨#[65]⟩, by decide, by simp [World.cell?, hnew]⟩
      have HO1 := hidF hown1
      have HG1 : Hid (Near R w w6 ∧ (∀ b, b < w5.heap.size → w6.heap[b]? = w5.heap[b]?) ∧ Below w6.heap.size w6 W7) := ⟨hn6, hG1, hb7⟩
      have hg1 : w5.heap.size ≤ g1 := by omega
      clear hown1 hgrow1 hG1 q1 q2 q3 q4 hD5 hn6 hD6 hb7 hnew
      go_wp2_with fail
      rw [← hW7]
      clear hW7
      refine HOf.out.mono ?_
      rintro e w8 ⟨x, rfl, hxs, hn8, hD8⟩
      have hz8 := hn8.size
      have HO8 : Hid (w8.ownsRow w5.heap.size 9 1 (.slice (some ⟨g1, 0, none⟩) nl cap1) nl ((Kd.names k).map .string)) := r1_keep HO1.out fun g hg => by
        have := r1_lt HO1.out g hg
        exact (hn8.block g (by omega) (by omega)).trans (HG1.out.2.2.block g this.2)
      have HG8 : Hid (Near R w w8 ∧ (∀ b, b < w5.heap.size → b ≠ R → w8.heap[b]? = w5.heap[b]?) ∧ Dr w8 R ao L cap (p1 + 1 + 1)) := ⟨(HG1.out.1.trans (Near.of_below HG1.out.2.2)).trans hn8, fun b hb hne => (hn8.block b (by omega) hne).trans ((HG1.out.2.2.block b (by omega)).trans (HG1.out.2.1 b hb)), hD8⟩
      clear HOf HO1 HG1 hn8 hD8
      go_wp2_with (at_builtin; refine wpList_append_lies _ rfl (.tmp 66) (.tmp 70) 23 rfl w5.heap.size 9 is0 _ 1 16 Tryz.underlying23 HIS.out.1 HIS.out.2.1 HIS.out.2.2.1 HIS.out.2.2.2 rfl (by decide) (.slice (some ⟨g1, 0, none⟩) nl cap1) nl ((Kd.names k).map .string) rfl (HO8.out.alloc _) ⟨w8.heap.size, 0, none⟩ 1 1 [.string x] rfl rfl (World.news_of_block (heap_alloc_new w8 _)) (by simp [Value.oneCell']) (by decide) (by unfold maxLen; omega) (by omega) (by simp; omega) (w8.heap.size + 1) (by simp) ?_)
      intro g2 cap2 w9 hown2 hgrow2 hat2 hlt2
      have hz9 := hgrow2.size
      rw [World.size_alloc] at hz9
      obtain ⟨hn8, hG8, hD8⟩ := HG8.out
      have hfar : ∀ b, b < w5.heap.size → w9.heap[b]? = w8.heap[b]? := fun b hb => (hgrow2.block b (by simp; omega) (by simp [Value.ownBlock]; omega)).trans (Below.heap_alloc _ _ _ (by omega))
      obtain ⟨q1, q2, q3, q4, hD5⟩ := HQ.out
      have q2' := (hfar w.heap.size (by omega)).trans ((hG8 _ (by omega) (by omega)).trans q2)
      have q3' := (hfar (w.heap.size + 1) (by omega)).trans ((hG8 _ (by omega) (by omega)).trans q3)
      have y0 : w9.cell? ⟨w.heap.size, 0, none⟩ = some (.int .i64 s) := by simp [World.cell?, q2']
      have y1 : w9.cell? ⟨w.heap.size, 1, none⟩ = some (.slice na nl nc) := by simp [World.cell?, q2']
      have y2 : w9.cell? ⟨w.heap.size, 2, none⟩ = some (.slice ka kl kc) := by simp [World.cell?, q2']
      have yf : w9.frozen? ⟨w.heap.size, 1, none⟩ = false := by simp [World.frozen?, q2']
      obtain ⟨⟨r0, r1, r2⟩, f0, f1, f2⟩ := zeroD_cells q3'
      have HP : Hid (SpoilPost (m + 1) S w R ao L cap p (50 * (d + 1)) (.returned (.agg #[.int .i64 s, .slice (some ⟨g2, 0, none⟩) (nl + 1) cap2, .slice ka kl kc])) (put3 (w9.setCell ⟨w.heap.size, 1, none⟩ (.slice (some ⟨g2, 0, none⟩) (nl + 1) cap2)) (w.heap.size + 1) 0 (.int .i64 s) (.slice (some ⟨g2, 0, none⟩) (nl + 1) cap2) (.slice ka kl kc))) := by
        have hsame : Same S w w9 := fun b hb => (hfar b (by have := (hS b hb).1; omega)).trans ((hG8 b (by have := (hS b hb).1; omega) (hS b hb).2).trans (q4 b hb))
        refine sp_exit2 (m := m + 1) (k := (⟨s, Kd.names k ++ [x], Kd.kids k⟩ : Kd (K m))) HD0.out HSS.out ⟨hgrow2.os.trans hn8.os, hgrow2.tape.trans hn8.tape, hgrow2.output.trans hn8.output, by omega, fun b hb hne => (hfar b (by omega)).trans (hn8.block b hb hne)⟩ ((hfar R (by omega)).trans hD8.box) (by omega) ⟨rfl, hwf, ?_, ?_⟩
        · refine strs_of_ownsK (M := w5.heap.size) (e := 9) (by simpa [HLn.out.2] using hown2) (by simp [HLn.out.2]; omega) (fun y hy => ?_) (fun g hg => .inr ?_)
          · rcases List.mem_append.1 hy with hy | hy
            · exact HNs.out y hy
            · rw [List.mem_singleton] at hy; subst hy; exact hxs
          · have hg : g2 = g := by simpa [Value.ownBlock] using hg
            simp only [Value.ownBlock, Option.some.injEq] at hat2
            omega
        · have := HKd.out.keepK hsame (S' := fun b => S b ∨ (w.heap.size + 2 ≤ b ∧ b < w9.heap.size)) (fun b hb => .inl hb)
          simpa only [HLn.out.1] using this
      clear q1 q2 q3 q4 hD5 q2' q3' hfar hown2 hgrow2 hat2 HQ HO8 HG8 HXN HIS hn8 hG8 hD8
      go_wp2_with fail
      refine bodyPost_ret (v := .agg #[.int .i64 s, .slice (some ⟨g2, 0, none⟩) (nl + 1) cap2, .slice ka kl kc]) (by simp [results, Tryz.results15, go_sem, r0, r1, r2]) rfl ?_
      exact HP.out
    · obtain ⟨q1, q2, q3, q4⟩ := HW.out w5 hn25
      obtain ⟨m2, rfl⟩ : ∃ m2, m = m2 + 1 := ⟨m - 1, by omega⟩
      have yE : (w5.alloc (.cells #[] 26)).cell? ⟨w.heap.size, 2, none⟩ = some (.slice ka kl kc) := (World.cell?_of_block (Below.heap_alloc _ _ _ (by show w.heap.size < _; omega))).trans (by simp [World.cell?, q2])
      obtain ⟨xs, hxl, hx1, hxn, hxk⟩ := kids_news HLn.out.1 HKd.out
      have HXN : Hid (xs.length = kl * 3 ∧ (∀ u ∈ xs, u.oneCell' = true) ∧ (0 < kl → ∃ ad, ka = some ad ∧ ∀ j u, xs[j]? = some u → (w5.alloc (.cells #[] 26)).cell? (ad.add j) = some u)) :=
        ⟨hxl, hx1, hxn _ (fun b hb => (Below.heap_alloc _ _ _ (by have := HSS.out b hb; omega)).trans (q4 b hb))⟩
      have HXK := hidF hxk
      obtain ⟨ik0, hi0, hy0, hy1, hyb⟩ := info_parts Tryz.info_kindD
      have HIK : Hid (_ ∧ _ ∧ _ ∧ _) := ⟨hi0, hy0, hy1, hyb⟩
      have HQ : Hid (Near R w w5 ∧ w5.heap[w.heap.size]? = some (.cells #[.int .i64 s, .slice na nl nc, .slice ka kl kc] 26 (0, 0)) ∧ w5.heap[w.heap.size + 1]? = some (.cells #[.int .i64 0, .slice none 0 0, .slice none 0 0] 26 (0, 0)) ∧ Same S w w5 ∧ Dr w5 R ao L cap (p1 + 1)) := ⟨q1, q2, q3, q4, hD5⟩
      clear q1 q2 q3 q4 hD5 hn25 hxl hx1 hxn hxk hi0 hy0 hy1 hyb HU
      go_wp2_with (at_builtin; refine wpList_copy _ rfl (.tmp 75) (.tmp 77) 24 rfl w5.heap.size 26 ik0 _ 3 56 Tryz.underlying24 HIK.out.1 HIK.out.2.1 HIK.out.2.2.1 HIK.out.2.2.2 rfl (by decide) w5.heap.size rfl (heap_alloc_new w5 _) (Nat.le_refl _) ka kl kc xs rfl HXN.out.1 HXN.out.2.2 HXN.out.2.1 (by unfold maxLen; omega) (by omega) (w5.heap.size + 1) (by simp) ?_)
      intro g1 cap1 w6 hown1 hgrow1 hat1 hlt1
      have hz6 := hgrow1.size
      rw [World.size_alloc] at hz6
      have HO1 := hidF hown1
      have HG1 : Hid (∀ b, b < w5.heap.size → w6.heap[b]? = w5.heap[b]?) := fun b hb => (hgrow1.block b (by simp; omega) (by simp; omega)).trans (Below.heap_alloc _ _ _ hb)
      have HS1 : Hid (w6.os = w5.os ∧ w6.tape = w5.tape ∧ w6.output = w5.output) := ⟨hgrow1.os, hgrow1.tape, hgrow1.output⟩
      have hg1 : w5.heap.size ≤ g1 := by omega
      clear hown1 hgrow1
      go_wp2_with (at_builtin; refine wpList_append_lies _ rfl (.tmp 78) (.tmp 80) 24 rfl w5.heap.size 26 ik0 _ 3 56 Tryz.underlying24 HIK.out.1 HIK.out.2.1 HIK.out.2.2.1 HIK.out.2.2.2 rfl (by decide) (.slice (some ⟨g1, 0, none⟩) kl cap1) kl xs rfl (HO1.out.alloc _) ⟨w6.heap.size, 0, none⟩ 1 1 [.int .i64 1, .slice none 0 0, .slice none 0 0] rfl rfl (World.news_of_block (heap_alloc_new w6 _)) (by simp [Value.oneCell']) (by decide) (by unfold maxLen; omega) (by omega) (by simp; omega) (w6.heap.size + 1) (by simp) ?_)
      intro g2 cap2 w8 hown2 hgrow2 hat2 hlt2
      have hz8 := hgrow2.size
      rw [World.size_alloc] at hz8
      have hfar : ∀ b, b < w5.heap.size → w8.heap[b]? = w5.heap[b]? := fun b hb => ((hgrow2.block b (by simp; omega) (by simp [Value.ownBlock]; omega)).trans (Below.heap_alloc _ _ _ (by omega))).trans (HG1.out b hb)
      obtain ⟨q1, q2, q3, q4, hD5⟩ := HQ.out
      have q2' := (hfar w.heap.size (by omega)).trans q2
      have q3' := (hfar (w.heap.size + 1) (by omega)).trans q3
      have y0 : w8.cell? ⟨w.heap.size, 0, none⟩ = some (.int .i64 s) := by simp [World.cell?, q2']
      have y1 : w8.cell? ⟨w.heap.size, 1, none⟩ = some (.slice na nl nc) := by simp [World.cell?, q2']
      have y2 : w8.cell? ⟨w.heap.size, 2, none⟩ = some (.slice ka kl kc) := by simp [World.cell?, q2']
      have yf : w8.frozen? ⟨w.heap.size, 2, none⟩ = false := by simp [World.frozen?, q2']
      obtain ⟨⟨r0, r1, r2⟩, f0, f1, f2⟩ := zeroD_cells q3'
      have HP : Hid (SpoilPost (m2 + 1 + 1) S w R ao L cap p (50 * (d + 1)) (.returned (.agg #[.int .i64 s, .slice na nl nc, .slice (some ⟨g2, 0, none⟩) (kl + 1) cap2])) (put3 (w8.setCell ⟨w.heap.size, 2, none⟩ (.slice (some ⟨g2, 0, none⟩) (kl + 1) cap2)) (w.heap.size + 1) 0 (.int .i64 s) (.slice na nl nc) (.slice (some ⟨g2, 0, none⟩) (kl + 1) cap2))) := by
        have hz0 := q1.size
        have hsame : Same S w w8 := fun b hb => (hfar b (by have := HSS.out b hb; omega)).trans (q4 b hb)
        refine sp_exit2 (m := m2 + 1 + 1) (k := (⟨s, Kd.names k, Kd.kids k ++ [numK m2]⟩ : Kd (K (m2 + 1)))) HD0.out HSS.out ⟨hgrow2.os.trans (HS1.out.1.trans q1.os), hgrow2.tape.trans (HS1.out.2.1.trans q1.tape), hgrow2.output.trans (HS1.out.2.2.trans q1.output), by omega, fun b hb hne => (hfar b (by omega)).trans (q1.block b hb hne)⟩ ((hfar R (by omega)).trans hD5.box) (by omega) ⟨rfl, hwf, ?_, ?_⟩
        · have := HNm.out.keep hsame (S' := fun b => S b ∨ (w.heap.size + 2 ≤ b ∧ b < w8.heap.size)) (fun b hb => .inl hb)
          simpa only [HLn.out.2] using this
        · refine kids_more (t := numK m2) HLn.out.1 HXN.out.1 HXK.out hsame (fun b hb => .inl hb) (leafD_in _ _ m2 1 rfl) hown2 hkl (fun g hg => .inr ?_)
          have hg : g2 = g := by simpa [Value.ownBlock] using hg
          simp only [Value.ownBlock, Option.some.injEq] at hat2
          omega
      clear q1 q2 q3 q4 hD5 q2' q3' hfar hown2 hgrow2 hat2 HQ HO1 HG1 HS1 HXN HXK HIK
      go_wp2_with fail
      refine bodyPost_ret (v := .agg #[.int .i64 s, .slice na nl nc, .slice (some ⟨g2, 0, none⟩) (kl + 1) cap2]) (by simp [results, Tryz.results15, go_sem, r0, r1, r2]) rfl ?_
      exact HP.out
    · obtain ⟨m2, rfl⟩ : ∃ m2, m = m2 + 1 := ⟨m - 1, by omega⟩
      obtain ⟨q1, q2, q3, -⟩ := HW.out w5 hn25
      have y0 : w5.cell? ⟨w.heap.size, 0, none⟩ = some (.int .i64 s) := by simp [World.cell?, q2]
      have y1 : w5.cell? ⟨w.heap.size, 1, none⟩ = some (.slice na nl nc) := by simp [World.cell?, q2]
      have y2 : w5.cell? ⟨w.heap.size, 2, none⟩ = some (.slice ka kl kc) := by simp [World.cell?, q2]
      have yf : ∀ o, w5.frozen? ⟨w.heap.size, o, none⟩ = false := fun o => by simp [World.frozen?, q2]
      have yf0 := yf 0
      have yf1 := yf 1
      have yf2 := yf 2
      obtain ⟨Wf, hWf⟩ : ∃ Wf, Wf = put3 w5 w.heap.size 0 (.int .i64 5) (.slice none 0 0) (.slice none 0 0) := ⟨_, rfl⟩
      have hzf : Wf.heap.size = w5.heap.size := by rw [hWf]; exact put3_size
      have hqf : ∀ b, b ≠ w.heap.size → Wf.heap[b]? = w5.heap[b]? := fun b hb => by rw [hWf]; exact put3_other hb
      have hboxf : Wf.heap[w.heap.size]? = some (.cells #[.int .i64 5, .slice none 0 0, .slice none 0 0] 26 (0, 0)) := by rw [hWf]; simp [put3, World.setCell, Array.getElem?_modify, q2]
      have hnf : Near R w Wf := ⟨by rw [hWf]; exact q1.os, by rw [hWf]; exact q1.tape, by rw [hWf]; exact q1.output, by rw [hzf]; exact q1.size, fun b hb hne => (hqf b (by omega)).trans (q1.block b hb hne)⟩
      have hDf : Dr Wf R ao L cap (p1 + 1) := HD0.out.keep hnf ((hqf R (by omega)).trans hD5.box)
      have HF : Hid (Near R w Wf ∧ Wf.heap[w.heap.size + 1]? = some (.cells #[.int .i64 0, .slice none 0 0, .slice none 0 0] 26 (0, 0))) := ⟨hnf, (hqf _ (by omega)).trans q3⟩
      have hG0 : Hid (GrowK R w.heap.size (m2 + 1) Wf Wf 5 [] [] (.slice none 0 0) (.slice none 0 0) ∧ Dr Wf R ao L cap (p1 + 1)) := ⟨GrowK.start hboxf, hDf⟩
      clear q1 q2 q3 hqf hboxf hnf hDf hn25 hD5 yf HU
      go_wp2_with fail
      rw [show (((w5.setCell ⟨w.heap.size, 0, none⟩ (.int .i64 5)).setCell ⟨w.heap.size, 1, none⟩ (.slice none 0 0)).setCell ⟨w.heap.size, 2, none⟩ (.slice none 0 0)) = Wf from hWf.symm]
      clear hWf y0 y1 y2 yf0 yf1 yf2
      go_loopw [7] (fun iv wr => ∃ (i p' : Nat) (ns : List ByteArray) (ks : List (K (m2 + 1))) (na : Option Addr) (nc : Nat) (ka : Option Addr) (kc : Nat), i ≤ 40 ∧ iv = .int .i64 i ∧ ns.length = i ∧ ks.length = i ∧ GrowK R w.heap.size (m2 + 1) Wf wr 5 ns ks (.slice na i nc) (.slice ka i kc) ∧ Dr wr R ao L cap p' ∧ p' ≤ p1 + 1 + i) (fun iv _ => 40 - (intOf iv).toNat)
      case atStart => exact ⟨0, p1 + 1, [], [], none, 0, none, 0, by omega, rfl, rfl, rfl, hG0.out.1, hG0.out.2, by omega⟩
      case round =>
        obtain ⟨i, p', ns, ks, na', nc', ka', kc', hi40, rfl, hnl', hkl', hG, hD, hp'⟩ := hrel
        have HPk : Hid (Calls Tryz.prog 13 #[.pointer (some ⟨R, 0, none⟩), .int .i64 2] wr (PickPost wr R ao L cap p' 2)) := pick_any wr R ao L cap p' 2 hD (by omega) (by omega) (by omega)
        have HG := hidF hG
        have HL : Hid (ns.length = i ∧ ks.length = i) := ⟨hnl', hkl'⟩
        clear hG hD hnl' hkl' hG0
        go_wp2_with fail
        refine HPk.out.mono ?_
        rintro e w6 ⟨z, rfl, hz, hn6, hD6, -⟩
        have HG6 : Hid (GrowK R w.heap.size (m2 + 1) Wf w6 5 ns ks (.slice na' i nc') (.slice ka' i kc')) := HG.out.keep (by omega) (by omega) hn6
        have HD6 := hidF hD6
        have hzr := HG6.out.near.size
        have x0 : w6.cell? ⟨w.heap.size, 0, none⟩ = some (.int .i64 5) := by simp [World.cell?, HG6.out.box]
        have x1 : w6.cell? ⟨w.heap.size, 1, none⟩ = some (.slice na' i nc') := by simp [World.cell?, HG6.out.box]
        have x2 : w6.cell? ⟨w.heap.size, 2, none⟩ = some (.slice ka' i kc') := by simp [World.cell?, HG6.out.box]
        clear HPk hn6 hD6 HG
        by_cases hgo : i < 39 + z
        case neg =>
          have hgi : ¬ (i : Int) < 39 + (z : Int) := by omega
          obtain ⟨⟨r0, r1, r2⟩, f0, f1, f2⟩ := zeroD_cells ((HG6.out.near.block (w.heap.size + 1) (by omega) (by omega) (by omega)).trans HF.out.2)
          have HP : Hid (SpoilPost (m2 + 1 + 1) S w R ao L cap p (50 * (d + 1)) (.returned (.agg #[.int .i64 5, .slice na' i nc', .slice ka' i kc'])) (put3 w6 (w.heap.size + 1) 0 (.int .i64 5) (.slice na' i nc') (.slice ka' i kc'))) := by
            have hkd := HG6.out.kind (B := w.heap.size + 2) (W := w6) rfl (fun _ _ => rfl) (Nat.le_refl _) (by rw [HL.out.1]; omega) (by rw [HL.out.2]; omega) (by omega)
            exact sp_exit HD0.out HSS.out (HG6.out.near.out HF.out.1 (Nat.le_refl _)) HD6.out.box (by omega) (hkd.keep (fun _ _ => rfl) (fun b hb => .inr hb))
          clear HG6 HD6 HF hgo
          go_wp2_with fail
          refine bodyPost_ret (v := .agg #[.int .i64 5, .slice na' i nc', .slice ka' i kc']) (by simp [results, Tryz.results15, go_sem, r0, r1, r2]) rfl ?_
          exact HP.out
        have hgi : (i : Int) < 39 + (z : Int) := by omega
        have HDec : Hid (∀ W : World, Calls Tryz.prog 29 #[.int .i64 (100 + (i : Int))] W fun e w' => ∃ sd : ByteArray, e = .returned (.string sd) ∧ sd.size ≤ 21 ∧ Below W.heap.size W w') := fun W =>
          (l6Dec_any (100 + (i : Int)) W (by omega) (by omega)).mono fun e w' ⟨h1, h2⟩ => ⟨_, h1, by
            rw [bs_size]
            have := Lib.itoa_length_le (100 + (i : Int)) (by omega) (by omega)
            omega, h2⟩
        have HO6 : Hid (w6.ownsRow Wf.heap.size 9 1 (.slice na' i nc') i (ns.map .string)) := by
          have := HG6.out.names
          rw [HL.out.1] at this; exact this
        obtain ⟨is0, hi0, hy0, hy1, hyb⟩ := info_parts Tryz.info_strD
        have HIS : Hid (_ ∧ _ ∧ _ ∧ _) := ⟨hi0, hy0, hy1, hyb⟩
        have hw100 : IntKind.i64.wrap (100 + (i : Int)) = 100 + (i : Int) := by rw [IntKind.wrap_i64]; omega
        have hXw6 : w.heap.size < w6.heap.size := by omega
        clear hi0 hy0 hy1 hyb x0 x2
        go_upto_region 24 with fail
        go_cut [7] from 86 to 107 (fun iv wx => iv = .int .i64 i ∧ ∃ (xn : ByteArray) (g cap' : Nat), GrowK R w.heap.size (m2 + 1) Wf wx 5 (ns ++ [xn]) ks (.slice (some ⟨g, 0, none⟩) (i + 1) cap') (.slice ka' i kc') ∧ Dr wx R ao L cap (p' + 1))
        case first =>
          go_region_law (first
            | (refine step_append_lies _ (by rfl) (.tmp 94) (.tmp 99) 23 (by rfl) Wf.heap.size 9 is0 _ 1 16 Tryz.underlying23 HIS.out.1 HIS.out.2.1 HIS.out.2.2.1 HIS.out.2.2.2 rfl (by decide) (.slice na' i nc') i (ns.map .string) (by rfl) (hox _) ⟨w7.heap.size, 0, none⟩ 1 1 [.string (⟨#[110]⟩ ++ sd)] (by rfl) rfl (World.news_of_block (heap_alloc_new w7 _)) (by simp [Value.oneCell']) (by decide) (by unfold maxLen; omega) (by omega) (by simp; omega) (w7.heap.size + 1) (by simp) ?_; intro g cap' w8 hown hgrow hat hlt8; have hb8 := (((hgrow.block w.heap.size (by simp; omega) (fun e => by have := r1_lt HO6.out _ e.symm; omega)).trans (Below.heap_alloc _ _ _ (by omega))).trans (hb7.block _ (by simpa using hXw6))).trans HG6.out.box; have x1'' : w8.cell? ⟨w.heap.size, 1, none⟩ = some (.slice na' i nc') := (by simp [World.cell?, hb8]); have xf'' : w8.frozen? ⟨w.heap.size, 1, none⟩ = false := (by simp [World.frozen?, hb8]))
            | (go_simp; go_at_call 29; refine (HDec.out _).mono ?_; rintro e w7 ⟨sd, rfl, hsd, hb7⟩; have hsum : ¬ 9223372036854775807 < 1 + sd.size := (by omega); have hsz7 : w6.heap.size ≤ w7.heap.size := hb7.size; have hox := fun o => owns_onG (R := R) (M := Wf.heap.size) (W := w6.drew) HO6.out.drew (by omega) (Near.of_below hb7) o; have x1' : w7.cell? ⟨w.heap.size, 1, none⟩ = some (.slice na' i nc') := (World.cell?_of_block (hb7.block w.heap.size (by simpa using hXw6))).trans x1; have x1a : (w7.alloc (.cells #[.string (⟨#[110]⟩ ++ sd)] 9)).cell? ⟨w.heap.size, 1, none⟩ = some (.slice na' i nc') := (World.cell?_of_block (Below.heap_alloc _ _ _ (by show w.heap.size < _; omega))).trans x1'))
          all_goals
            have hM := GrowK.name (W := w7) (Wa := w7.alloc (.cells #[.string (⟨#[110]⟩ ++ sd)] 9)) (one := .cells #[.string (⟨#[110]⟩ ++ sd)] 9) (x := ⟨#[110]⟩ ++ sd) (g := g) (cap := cap') (HG6.out.keep (by omega) (by omega) (((Near.refl R w6).drew).trans (Near.of_below hb7))) (by omega) rfl ⟨rfl, rfl, rfl⟩ (by rw [ByteArray.size_append]; have : (⟨#[110]⟩ : ByteArray).size = 1 := rfl; omega) (by rw [HL.out.1]; exact hown) hgrow hat
            rw [HL.out.1] at hM
            have HM := hidF hM
            have HDn : Hid (Dr (w8.setCell ⟨w.heap.size, 1, none⟩ (.slice (some ⟨g, 0, none⟩) (i + 1) cap')) R ao L cap (p' + 1)) := by
              refine HD0.out.keep (hM.near.out HF.out.1 (Nat.le_refl _)) ?_
              rw [Below.heap_setCell _ _ _ _ (by show R ≠ w.heap.size; omega), blk_afterG (b := R) (W := w6.drew) (w2 := w7) (o := .cells #[.string (⟨#[110]⟩ ++ sd)] 9) HO6.out.drew (by omega) (by omega) hgrow, hb7.block R (by simp; omega)]
              exact HD6.out.box
            clear hM hown hgrow hat hlt8 hb8 hb7 x1'' xf'' x1' x1a hox
            go_wp2_with fail
            go_meet
            exact ⟨rfl, _, _, _, HM.out, HDn.out⟩
        case rest =>
          obtain ⟨rfl, xn, g, cap', hM, hDc⟩ := hcut
          have hzc := hM.near.size
          have x2 : wc.cell? ⟨w.heap.size, 2, none⟩ = some (.slice ka' i kc') := by simp [World.cell?, hM.box]
          obtain ⟨xs, hxs, hkk⟩ := hM.kids
          have HKK := hidF hkk
          have HX : Hid (wc.ownsRow Wf.heap.size 26 3 (.slice ka' i kc') i xs) := by
            rw [HL.out.2] at hxs; exact hxs
          have HM : Hid (GrowK R w.heap.size (m2 + 1) Wf wc 5 (ns ++ [xn]) ks (.slice (some ⟨g, 0, none⟩) (i + 1) cap') (.slice ka' i kc') ∧ Dr wc R ao L cap (p' + 1)) := ⟨hM, hDc⟩
          obtain ⟨ik0, hi0, hy0, hy1, hyb⟩ := info_parts Tryz.info_kindD
          have HIK : Hid (_ ∧ _ ∧ _ ∧ _) := ⟨hi0, hy0, hy1, hyb⟩
          clear hi0 hy0 hy1 hyb hxs hkk hM hDc x1 HO6 HG6 HD6 HDec
          go_wp2_with (at_builtin; refine wpList_append_lies _ rfl (.tmp 103) (.tmp 105) 24 rfl Wf.heap.size 26 ik0 _ 3 56 Tryz.underlying24 HIK.out.1 HIK.out.2.1 HIK.out.2.2.1 HIK.out.2.2.2 rfl (by decide) (.slice ka' i kc') i xs rfl (HX.out.alloc _) ⟨wc.heap.size, 0, none⟩ 1 1 [.int .i64 1, .slice none 0 0, .slice none 0 0] rfl rfl (World.news_of_block (heap_alloc_new wc _)) (by simp [Value.oneCell']) (by decide) (by unfold maxLen; omega) (by omega) (by simp; omega) (wc.heap.size + 1) (by simp) ?_; intro g2 cap2 w9 hown2 hgrow2 hat2 hlt2; refine Hid.out ?_)
          refine Lib.hid ?_
          have hF := GrowK.kid (n := m2 + 1) (W := wc) (W1 := wc) (Wa := wc.alloc (.cells #[.int .i64 1, .slice none 0 0, .slice none 0 0] 26)) (one := .cells #[.int .i64 1, .slice none 0 0, .slice none 0 0] 26) (g := g2) (cap := cap2) (xs := xs) (t := numK m2)
            HM.out.1 (by omega) (by omega) (by omega) (Near.refl _ _) (leafD_in _ _ m2 1 rfl) rfl ⟨rfl, rfl, rfl⟩ (by rw [HL.out.2]; exact HX.out) HKK.out (by rw [HL.out.2]; exact hown2) hgrow2 hat2
          rw [HL.out.2] at hF
          have hb9 := ((hgrow2.block w.heap.size (by simp; omega) (fun e => by have := r1_lt HX.out _ e.symm; omega)).trans (Below.heap_alloc _ _ _ (by omega))).trans HM.out.1.box
          have x2'' : w9.cell? ⟨w.heap.size, 2, none⟩ = some (.slice ka' i kc') := (by simp [World.cell?, hb9])
          have xf'' : w9.frozen? ⟨w.heap.size, 2, none⟩ = false := (by simp [World.frozen?, hb9])
          have HFn := hidF hF
          have HDn : Hid (Dr (w9.setCell ⟨w.heap.size, 2, none⟩ (.slice (some ⟨g2, 0, none⟩) (i + 1) cap2)) R ao L cap (p' + 1)) := by
            refine HD0.out.keep (hF.near.out HF.out.1 (Nat.le_refl _)) ?_
            rw [Below.heap_setCell _ _ _ _ (by show R ≠ w.heap.size; omega), blk_afterG (b := R) (W := wc) (w2 := wc) (o := .cells #[.int .i64 1, .slice none 0 0, .slice none 0 0] 26) HX.out (by omega) (by omega) hgrow2]
            exact HM.out.2.box
          clear hF hown2 hgrow2 hat2 hlt2 hb9 HM HX HKK
          go_wp2_with fail
          go_roundw
          case rel => exact ⟨i + 1, p' + 1, ns ++ [xn], ks ++ [numK m2], some ⟨g, 0, none⟩, cap', some ⟨g2, 0, none⟩, cap2, by omega, by go_num, by simp [HL.out.1], by simp [HL.out.2], HFn.out, HDn.out, by omega⟩
          case measure => simp [intOf]; omega
    · obtain ⟨q1, q2, q3, -⟩ := HW.out w5 hn25
      have y0 : w5.cell? ⟨w.heap.size, 0, none⟩ = some (.int .i64 s) := by simp [World.cell?, q2]
      have y1 : w5.cell? ⟨w.heap.size, 1, none⟩ = some (.slice na nl nc) := by simp [World.cell?, q2]
      have y2 : w5.cell? ⟨w.heap.size, 2, none⟩ = some (.slice ka kl kc) := by simp [World.cell?, q2]
      have yf : ∀ o, w5.frozen? ⟨w.heap.size, o, none⟩ = false := fun o => by simp [World.frozen?, q2]
      have yf0 := yf 0
      have yf1 := yf 1
      have yf2 := yf 2
      obtain ⟨Wf, hWf⟩ : ∃ Wf, Wf = put3 w5 w.heap.size 0 (.int .i64 3) (.slice none 0 0) (.slice none 0 0) := ⟨_, rfl⟩
      have hzf : Wf.heap.size = w5.heap.size := by rw [hWf]; exact put3_size
      have hqf : ∀ b, b ≠ w.heap.size → Wf.heap[b]? = w5.heap[b]? := fun b hb => by rw [hWf]; exact put3_other hb
      have hboxf : Wf.heap[w.heap.size]? = some (.cells #[.int .i64 3, .slice none 0 0, .slice none 0 0] 26 (0, 0)) := by rw [hWf]; simp [put3, World.setCell, Array.getElem?_modify, q2]
      have hnf : Near R w Wf := ⟨by rw [hWf]; exact q1.os, by rw [hWf]; exact q1.tape, by rw [hWf]; exact q1.output, by rw [hzf]; exact q1.size, fun b hb hne => (hqf b (by omega)).trans (q1.block b hb hne)⟩
      have hDf : Dr Wf R ao L cap (p1 + 1) := HD0.out.keep hnf ((hqf R (by omega)).trans hD5.box)
      have HF : Hid (Near R w Wf ∧ Wf.heap[w.heap.size + 1]? = some (.cells #[.int .i64 0, .slice none 0 0, .slice none 0 0] 26 (0, 0)) ∧ Wf.heap[w.heap.size]? = some (.cells #[.int .i64 3, .slice none 0 0, .slice none 0 0] 26 (0, 0))) := ⟨hnf, (hqf _ (by omega)).trans q3, hboxf⟩
      have HPk : Hid (Calls Tryz.prog 13 #[.pointer (some ⟨R, 0, none⟩), .int .i64 2] Wf (PickPost Wf R ao L cap (p1 + 1) 2)) := pick_any Wf R ao L cap (p1 + 1) 2 hDf (by omega) (by omega) (by omega)
      clear q1 q2 q3 hqf hboxf hnf hDf hn25 hD5 yf HU
      go_wp2_with fail
      rw [show (((w5.setCell ⟨w.heap.size, 0, none⟩ (.int .i64 3)).setCell ⟨w.heap.size, 1, none⟩ (.slice none 0 0)).setCell ⟨w.heap.size, 2, none⟩ (.slice none 0 0)) = Wf from hWf.symm]
      clear hWf y0 y1 y2 yf0 yf1 yf2
      refine HPk.out.mono ?_
      rintro e w6 ⟨z, rfl, hz, hn6, hD6, -⟩
      have hz6 := hn6.size
      have H6 : Hid (ChainK R w.heap.size w6 w6 0 ∧ Dr w6 R ao L cap (p1 + 2)) := ⟨ChainK.start ((hn6.block _ (by omega) (by omega)).trans HF.out.2.2), hD6⟩
      have HF6 : Hid (Near R w w6 ∧ w6.heap[w.heap.size + 1]? = some (.cells #[.int .i64 0, .slice none 0 0, .slice none 0 0] 26 (0, 0))) := ⟨HF.out.1.trans hn6, (hn6.block _ (by omega) (by omega)).trans HF.out.2.1⟩
      have hz5z : Hid ((5 : Int) + (z : Int) = ((5 + z : Nat) : Int)) := by show _ = _; omega
      clear HPk hn6 hD6 HF
      go_wp2_with fail
      go_loopw [8] (fun nv wr => ∃ (j : Nat), j ≤ 5 + z ∧ nv = .int .i64 j ∧ ChainK R w.heap.size w6 wr (5 + z - j) ∧ wr.heap[R]? = w6.heap[R]?) (fun nv _ => (intOf nv).toNat)
      case atStart => exact ⟨5 + z, Nat.le_refl _, by rw [← hz5z.out], by rw [Nat.sub_self]; exact H6.out.1, rfl⟩
      case round =>
        obtain ⟨j, hj, rfl, hC, hRR⟩ := hrel
        obtain ⟨so, kv, hC1, hbox, hch⟩ := hC
        obtain ⟨va, vl, vc, rfl⟩ : ∃ va vl vc, kv = .slice va vl vc := by
          obtain ⟨kk, hkk⟩ := hch (5 + z - j + 1) (Nat.le_refl _)
          obtain ⟨-, -, -, -, a, b, c, -, -, h⟩ := hkk.shape
          exact ⟨a, b, c, h⟩
        have hzr := hC1.size
        have x0 : wr.cell? ⟨w.heap.size, 0, none⟩ = some (.int .i64 so) := by simp [World.cell?, hbox]
        have x1 : wr.cell? ⟨w.heap.size, 1, none⟩ = some (.slice none 0 0) := by simp [World.cell?, hbox]
        have x2 : wr.cell? ⟨w.heap.size, 2, none⟩ = some (.slice va vl vc) := by simp [World.cell?, hbox]
        have xf : ∀ o, wr.frozen? ⟨w.heap.size, o, none⟩ = false := fun o => by simp [World.frozen?, hbox]
        have xf0 := xf 0
        have xf1 := xf 1
        have xf2 := xf 2
        have HC : Hid (ChainK R w.heap.size w6 wr (5 + z - j)) := ⟨so, .slice va vl vc, hC1, hbox, hch⟩
        have HR6 : Hid (Dr wr R ao L cap (p1 + 2)) := HD0.out.keep (hC1.out HF6.out.1 (Nat.le_refl _)) (hRR.trans H6.out.2.box)
        clear hC1 hbox hch xf
        rcases Nat.eq_zero_or_pos j with hj0 | hj0
        · subst hj0
          obtain ⟨⟨r0, r1, r2⟩, f0, f1, f2⟩ := zeroD_cells (by
            obtain ⟨-, -, h1, -, -⟩ := HC.out
            exact (h1.block (w.heap.size + 1) (by omega) (by omega) (by omega)).trans HF6.out.2)
          have HP : Hid (SpoilPost (m + 1) S w R ao L cap p (50 * (d + 1)) (.returned (.agg #[.int .i64 so, .slice none 0 0, .slice va vl vc])) (put3 wr (w.heap.size + 1) 0 (.int .i64 so) (.slice none 0 0) (.slice va vl vc))) := by
            obtain ⟨so', kv', h1, h2, h3⟩ := HC.out
            have hx0 : wr.cell? ⟨w.heap.size, 0, none⟩ = some (.int .i64 so') := by simp [World.cell?, h2]
            have hx2 : wr.cell? ⟨w.heap.size, 2, none⟩ = some kv' := by simp [World.cell?, h2]
            have e0 : so = so' := by rw [x0] at hx0; simpa using hx0
            have e2 : Value.slice va vl vc = kv' := by rw [x2] at hx2; simpa using hx2
            subst e0 e2
            obtain ⟨kk, hkk⟩ := h3 (m + 1) (by omega)
            exact sp_exit HD0.out HSS.out (h1.out HF6.out.1 (Nat.le_refl _)) HR6.out.box (by omega) (hkk.keep (fun _ _ => rfl) (fun b hb => .inr ⟨by omega, hb.2⟩))
          clear HC HR6 HF6 H6
          go_wp2_with fail
          refine bodyPost_ret (v := .agg #[.int .i64 so, .slice none 0 0, .slice va vl vc]) (by simp [results, Tryz.results15, go_sem, r0, r1, r2]) rfl ?_
          exact HP.out
        · have hji : (0 : Int) < (j : Int) := by omega
          have hwj : IntKind.i64.wrap ((j : Int) - 1) = ((j - 1 : Nat) : Int) := by rw [IntKind.wrap_i64]; omega
          have hXr : w.heap.size < wr.heap.size := by omega
          have HMore : Hid (∀ (t : Int) (A : Obj), (Lit.int .i64 t).wf = true → ChainK R w.heap.size w6 (((((wr.setCell ⟨w.heap.size, 0, none⟩ (.int .i64 t)).setCell ⟨w.heap.size, 1, none⟩ (.slice none 0 0)).setCell ⟨w.heap.size, 2, none⟩ (.slice (some ⟨wr.heap.size + 1, 0, none⟩) 1 1)).alloc A).alloc (.cells #[.int .i64 so, .slice none 0 0, .slice va vl vc] 26)) (5 + z - (j - 1)) ∧
              ChainK R w.heap.size w6 (((((wr.setCell ⟨w.heap.size, 0, none⟩ (.int .i64 t)).setCell ⟨w.heap.size, 1, none⟩ (.slice none 0 0)).setCell ⟨w.heap.size, 2, none⟩ (.slice (some ⟨wr.heap.size, 0, none⟩) 1 1)).alloc (.cells #[.int .i64 so, .slice none 0 0, .slice va vl vc] 26)).alloc A) (5 + z - (j - 1))) := fun t A ht => by
            obtain ⟨so', kv', h1, h2, h3⟩ := HC.out
            have hx0 : wr.cell? ⟨w.heap.size, 0, none⟩ = some (.int .i64 so') := by simp [World.cell?, h2]
            have hx2 : wr.cell? ⟨w.heap.size, 2, none⟩ = some kv' := by simp [World.cell?, h2]
            have e0 : so = so' := by rw [x0] at hx0; simpa using hx0
            have e2 : Value.slice va vl vc = kv' := by rw [x2] at hx2; simpa using hx2
            subst e0 e2
            rw [show 5 + z - (j - 1) = 5 + z - j + 1 by omega]
            exact chain_orders h1 h3 (by omega) ht h2 A
          have HRn : Hid (∀ g (A B : Obj), (((((wr.setCell ⟨w.heap.size, 0, none⟩ g).setCell ⟨w.heap.size, 1, none⟩ (.slice none 0 0)).setCell ⟨w.heap.size, 2, none⟩ (.slice (some ⟨wr.heap.size + 1, 0, none⟩) 1 1)).alloc A).alloc B).drew.heap[R]? = w6.heap[R]? ∧ (((((wr.setCell ⟨w.heap.size, 0, none⟩ g).setCell ⟨w.heap.size, 1, none⟩ (.slice none 0 0)).setCell ⟨w.heap.size, 2, none⟩ (.slice (some ⟨wr.heap.size, 0, none⟩) 1 1)).alloc A).alloc B).drew.heap[R]? = w6.heap[R]?) := fun g A B => by
            have hRw : R < wr.heap.size := by omega
            have hdr : ∀ W : World, W.drew.heap = W.heap := fun _ => rfl
            constructor <;> rw [hdr, Below.heap_alloc _ _ _ (by simp; omega), Below.heap_alloc _ _ _ (by simpa using hRw), Below.heap_setCell _ _ _ _ (by show R ≠ w.heap.size; omega), Below.heap_setCell _ _ _ _ (by show R ≠ w.heap.size; omega), Below.heap_setCell _ _ _ _ (by show R ≠ w.heap.size; omega)] <;> exact hRR
          have hpar : j % 2 = 0 ∨ j % 2 = 1 := by omega
          clear HC HR6 HF6 H6 hRR
          rcases hpar with hpar | hpar
          · have e2 : (j : Int) % 2 = 0 := by omega
            have e2' : (j : Int).tmod 2 = 0 := by rw [Int.tmod_eq_emod_of_nonneg (by omega)]; exact e2
            clear hpar
            go_wp2_with fail
            go_region
            all_goals
              go_wp2_with fail
              refine ⟨⟨j - 1, by omega, rfl, ?_, ?_⟩, by simp [intOf]; omega⟩
              · first
                | with_reducible exact (HMore.out 4 (.cells #[.int .i64 4, .int .i64 6] 3) rfl).1.drew
                | with_reducible exact (HMore.out 4 (.cells #[.int .i64 4, .int .i64 6] 3) rfl).2.drew
              · first
                | with_reducible exact (HRn.out _ _ _).1
                | with_reducible exact (HRn.out _ _ _).2
          · have e2 : (j : Int) % 2 = 1 := by omega
            have e2' : (j : Int).tmod 2 = 1 := by rw [Int.tmod_eq_emod_of_nonneg (by omega)]; exact e2
            clear hpar
            go_wp2_with fail
            go_region
            all_goals
              go_wp2_with fail
              refine ⟨⟨j - 1, by omega, rfl, ?_, ?_⟩, by simp [intOf]; omega⟩
              · first
                | with_reducible exact (HMore.out 6 (.cells #[.int .i64 4, .int .i64 6] 3) rfl).1.drew
                | with_reducible exact (HMore.out 6 (.cells #[.int .i64 4, .int .i64 6] 3) rfl).2.drew
              · first
                | with_reducible exact (HRn.out _ _ _).1
                | with_reducible exact (HRn.out _ _ _).2

end Go.Proofs.YthcdeahobjhkbaaGreatDoor

/-
  What the specification draws: l5AnyKind.
-/
namespace Go.Proofs.YthcdeahobjhkbaaGreatDoor
open Go.RowKit

theorem spoil_any : ∀ d, SpoilSaid d := by
  intro d
  induction d with
  | zero =>
    intro m R ao L cap p S k c0 c1 c2 w hm hdk
    obtain ⟨m, rfl⟩ : ∃ m', m = m' + 1 := ⟨m - 1, by omega⟩
    exact absurd hdk.1 (by omega)
  | succ d ih => exact spoil_step d ih

end Go.Proofs.YthcdeahobjhkbaaGreatDoor

/-
  What the specification draws: l6Open, DrawKindFirst.
-/
namespace Go.Proofs.YthcdeahobjhkbaaGreatDoor
open Go.RowKit

/-- The bytes of a code. -/
def CodeIn (S : Nat → Prop) (w : World) (ao : Option Addr) (L cap : Nat) : Prop :=
  L ≤ cap ∧ cap ≤ maxLen ∧ (0 < L → ∃ b off, ao = some ⟨b, off, none⟩ ∧ S b ∧ ∀ j, j < L → ∃ u : Nat, u ≤ 255 ∧ w.cell? ⟨b, off + j, none⟩ = some (.int .u8 (u : Int)))

theorem dr_new {S : Nat → Prop} {w : World} {ao : Option Addr} {L L' cap : Nat} (h : CodeIn S w ao L cap) (hS : ∀ b, S b → b < w.heap.size) (hl : L' ≤ L) (hl2 : L' ≤ 2000) :
    Dr (w.alloc (.cells #[.slice ao L' cap, .int .i64 0] 70)) w.heap.size ao L' cap 0 := by
  refine ⟨heap_alloc_new _ _, hl2, fun h0 => ?_⟩
  obtain ⟨b, off, ha, hb, hc⟩ := h.2.2 (by omega)
  have := hS b hb
  refine ⟨b, off, ha, by omega, fun j hj => ?_⟩
  obtain ⟨u, hu, hcell⟩ := hc j (by omega)
  exact ⟨u, hu, (World.cell?_of_block (Below.heap_alloc _ _ _ (by show b < _; omega))).trans hcell⟩

set_option maxRecDepth 20000 in
set_option maxHeartbeats 4000000 in
theorem l6Open_any (S : Nat → Prop) (w : World) (ao : Option Addr) (L cap : Nat) (h : CodeIn S w ao L cap) (hS : ∀ b, S b → b < w.heap.size) :
    Calls Tryz.prog 11 #[.slice ao L cap] w fun e w' => Below w.heap.size w w' ∧ ∃ R, e = .returned (.pointer (some ⟨R, 0, none⟩)) ∧ w.heap.size ≤ R ∧ ∃ L', Dr w' R ao L' cap 0 := by
  by_cases hL : 2000 < L
  · have hLi : (2000 : Int) < (L : Int) := by omega
    have hci : ¬ (cap : Int) < 2000 := by have := h.1; omega
    have hcap := h.1
    have HC : Hid (CodeIn S w ao L cap) := h
    clear h
    go_enter Tryz.func11, Tryz.ntmps11
    go_wp2_with fail
    go_ret
    exact ⟨(Below.refl _ _).alloc (Nat.le_refl _) _, w.heap.size, ⟨rfl, Nat.le_refl _, 2000, dr_new HC.out hS (by omega) (by omega)⟩⟩
  · have hLi : ¬ (2000 : Int) < (L : Int) := by omega
    have HC : Hid (CodeIn S w ao L cap) := h
    clear h
    go_enter Tryz.func11, Tryz.ntmps11
    go_wp2_with fail
    go_ret
    exact ⟨(Below.refl _ _).alloc (Nat.le_refl _) _, w.heap.size, ⟨rfl, Nat.le_refl _, L, dr_new HC.out hS (Nat.le_refl _) (by omega)⟩⟩

theorem near_new {R : Nat} {w w1 w' : World} (hb : Below w.heap.size w w1) (hR : w.heap.size ≤ R) (hn : Near R w1 w') : Below w.heap.size w w' :=
  ⟨hn.os.trans hb.os, hn.tape.trans hb.tape, hn.output.trans hb.output, by have := hb.size; have := hn.size; omega, fun b hbl => (hn.block b (by have := hb.size; omega) (by omega)).trans (hb.block b hbl)⟩

end Go.Proofs.YthcdeahobjhkbaaGreatDoor
