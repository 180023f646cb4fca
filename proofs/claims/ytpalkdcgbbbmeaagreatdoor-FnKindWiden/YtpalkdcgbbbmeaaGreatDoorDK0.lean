/-
  What the specification draws: schemas of so many levels; l5Names; ways out.
-/
import Derived.Test.YtpalkdcgbbbmeaaGreatDoorDRd
import Derived.Test.YtpalkdcgbbbmeaaGreatDoorKGrow
namespace Go.Proofs.YtpalkdcgbbbmeaaGreatDoor
open Go.RowKit

/-- A schema has at most d levels, and is not broad. -/
def depK : (m : Nat) → K m → Nat → Prop
  | 0, _, _ => False
  | m + 1, t, d => 1 ≤ d ∧ (Kd.names t).length ≤ 1000 ∧ (∀ s, s ∈ Kd.names t → s.size ≤ 10000) ∧ (Kd.kids t).length ≤ 1000 ∧ ∀ k, k ∈ Kd.kids t → depK m k (d - 1)

theorem depK.mono : ∀ {m : Nat} {k : K m} {d e : Nat}, depK m k d → d ≤ e → depK m k e := by
  intro m
  induction m with
  | zero => intro k d e h; exact h.elim
  | succ m ih =>
    intro k d e h hde
    exact ⟨Nat.le_trans h.1 hde, h.2.1, h.2.2.1, h.2.2.2.1, fun x hx => ih (h.2.2.2.2 x hx) (by omega)⟩

theorem depK.leaf (m : Nat) (x : Int) (d : Nat) : depK (m + 1) (⟨x, [], []⟩ : Kd (K m)) (d + 1) := ⟨by omega, by simp, fun s h => (by cases h), by simp, fun k h => (by cases h)⟩
theorem depK.one {m : Nat} {x : Int} {d : Nat} {k : K m} (h : depK m k d) : depK (m + 1) (⟨x, [], [k]⟩ : Kd (K m)) (d + 1) := ⟨by omega, by simp, fun s h => (by cases h), by simp, fun y hy => (by have e : y = k := (by simpa using hy); rw [e]; simpa using h)⟩

/-- How often l5Kind picks at most. -/
def pk : Nat → Nat
  | 0 => 0
  | d + 1 => 9 + 8 * pk d

/-- What drawing a schema makes. -/
def DKPost (m d : Nat) (w : World) (R : Nat) (ao : Option Addr) (L cap p q : Nat) (e : Ending) (w' : World) : Prop :=
  Near R w w' ∧ ∃ (p' : Nat) (k : K m) (c0 c1 c2 : Value), p' ≤ p + q ∧ Dr w' R ao L cap p' ∧ e = .returned (.agg #[c0, c1, c2]) ∧ KindIn (fun b => w.heap.size ≤ b ∧ b < w'.heap.size) w' m k c0 c1 c2 ∧ depK m k d

theorem dk_exit {m d R L cap p p' q : Nat} {ao : Option Addr} {w W : World} {k : K m} {g0 g1 g2 : Value} (h : Dr w R ao L cap p) (hn : Near R w W) (hb : W.heap[R]? = some (.cells #[.slice ao L cap, .int .i64 (p' : Int)] 105 (0, 0))) (hp : p' ≤ p + q) (hk : KindIn (fun b => w.heap.size + 1 ≤ b ∧ b < W.heap.size) W m k g0 g1 g2) (hd : depK m k d) :
    DKPost m d w R ao L cap p q (.returned (.agg #[g0, g1, g2])) (put3 W w.heap.size 0 g0 g1 g2) := by
  have hR := h.lt
  have qq : ∀ b, b ≠ w.heap.size → (put3 W w.heap.size 0 g0 g1 g2).heap[b]? = W.heap[b]? := fun b h => put3_other h
  have hz : (put3 W w.heap.size 0 g0 g1 g2).heap.size = W.heap.size := put3_size
  have hn' : Near R w (put3 W w.heap.size 0 g0 g1 g2) := ⟨hn.os, hn.tape, hn.output, by rw [hz]; exact hn.size, fun b hb hne => (qq b (by omega)).trans (hn.block b hb hne)⟩
  exact ⟨hn', p', k, _, _, _, hp, h.keep hn' ((qq R (by omega)).trans hb), rfl, hk.keep (fun b hb => qq b (by omega)) (fun b hb => ⟨by omega, by rw [hz]; exact hb.2⟩), hd⟩

theorem DKPost.alloc {m d R L cap p q : Nat} {ao : Option Addr} {w w' : World} {e : Ending} (h : DKPost m d w R ao L cap p q e w') (o : Obj) : DKPost m d w R ao L cap p q e (w'.alloc o) := by
  obtain ⟨hn, p', k, c0, c1, c2, hp, hD, he, hk, hd⟩ := h
  have hb : Below w'.heap.size w' (w'.alloc o) := (Below.refl _ _).alloc (Nat.le_refl _) _
  exact ⟨hn.trans (Near.of_below hb), p', k, c0, c1, c2, hp, hD.same hb, he, hk.keep (fun b hb' => hb.block b hb'.2) (fun b hb' => ⟨hb'.1, by simp; omega⟩), hd⟩

theorem zeroD_cells {w : World} {N : Nat} (h : w.heap[N]? = some (.cells #[.int .i64 0, .slice none 0 0, .slice none 0 0] 26 (0, 0))) :
    (w.cell? ⟨N, 0, none⟩ = some (.int .i64 0) ∧ w.cell? ⟨N, 1, none⟩ = some (.slice none 0 0) ∧ w.cell? ⟨N, 2, none⟩ = some (.slice none 0 0)) ∧
      w.frozen? ⟨N, 0, none⟩ = false ∧ w.frozen? ⟨N, 1, none⟩ = false ∧ w.frozen? ⟨N, 2, none⟩ = false := by
  refine ⟨⟨?_, ?_, ?_⟩, ?_, ?_, ?_⟩ <;> simp [World.cell?, World.frozen?, h]

theorem leafD_in (S : Nat → Prop) (w : World) (m : Nat) (x : Int) (hx : (Lit.int .i64 x).wf = true) : KindIn S w (m + 1) (⟨x, [], []⟩ : Kd (K m)) (.int .i64 x) (.slice none 0 0) (.slice none 0 0) :=
  ⟨rfl, hx, ⟨none, 0, rfl, by simp [maxLen], fun s h => (by cases h), fun h => absurd rfl h⟩, ⟨none, 0, rfl, by simp [maxLen], fun h => absurd rfl h⟩⟩

theorem oneD_in {S : Nat → Prop} {w : World} {m : Nat} {x : Int} {t : K m} {b c : Nat} {c0 c1 c2 : Value} (hx : (Lit.int .i64 x).wf = true) (hb : S b) (h0 : w.cell? ⟨b, 0, none⟩ = some c0) (h1 : w.cell? ⟨b, 1, none⟩ = some c1) (h2 : w.cell? ⟨b, 2, none⟩ = some c2) (ht : KindIn S w m t c0 c1 c2) :
    KindIn S w (m + 1) (⟨x, [], [t]⟩ : Kd (K m)) (.int .i64 x) (.slice none 0 0) (.slice (some ⟨b, 0, none⟩) 1 c) := by
  refine ⟨rfl, hx, ⟨none, 0, rfl, by simp [maxLen], fun s h => (by cases h), fun h => absurd rfl h⟩, ⟨some ⟨b, 0, none⟩, c, rfl, by simp [maxLen], fun _ => ⟨b, 0, rfl, hb, fun i hi => ?_⟩⟩⟩
  have : i = 0 := by simpa using hi
  subst this
  exact ⟨c0, c1, c2, by simpa using h0, by simpa using h1, by simpa using h2, ht⟩

set_option maxRecDepth 20000 in
set_option maxHeartbeats 400000 in
theorem l5Names_any (w : World) : Calls Tryz.prog 90 #[] w fun e w' => e = .returned (.slice (some ⟨w.heap.size, 0, none⟩) 8 8) ∧ w'.heap.size = w.heap.size + 1 ∧ Below w.heap.size w w' ∧
    ∀ j, j < 8 → ∃ s : ByteArray, s.size ≤ 100 ∧ w'.cell? ⟨w.heap.size, j, none⟩ = some (.string s) := by
  go_enter Tryz.func90, Tryz.ntmps90
  go_wp2_with fail
  go_ret
  refine ⟨rfl, by simp, (Below.refl _ _).alloc (Nat.le_refl _) _, fun j hj => ?_⟩
  have : j = 0 ∨ j = 1 ∨ j = 2 ∨ j = 3 ∨ j = 4 ∨ j = 5 ∨ j = 6 ∨ j = 7 := by omega
  rcases this with rfl | rfl | rfl | rfl | rfl | rfl | rfl | rfl
  · exact ⟨⟨#[97]⟩, by decide, by simp [go_sem]⟩
  · exact ⟨⟨#[98]⟩, by decide, by simp [go_sem]⟩
  · exact ⟨⟨#[105, 100]⟩, by decide, by simp [go_sem]⟩
  · exact ⟨⟨#[108, 105, 115, 116]⟩, by decide, by simp [go_sem]⟩
  · exact ⟨⟨#[110]⟩, by decide, by simp [go_sem]⟩
  · exact ⟨⟨#[115, 117, 109]⟩, by decide, by simp [go_sem]⟩
  · exact ⟨⟨#[116, 97, 103]⟩, by decide, by simp [go_sem]⟩
  · exact ⟨⟨#[119, 104, 111]⟩, by decide, by simp [go_sem]⟩

end Go.Proofs.YtpalkdcgbbbmeaaGreatDoor
