/-
  Several texts in one, in their order.
-/
import Derived.Test.YtdijbjhmjamagaaGreatDoorDRd
import Derived.Test.YtdijbjhmjamagaaGreatDoorB7

/-
  What the specification draws: schemas of so many levels; l5Names; ways out.
-/
namespace Go.Proofs.YtdijbjhmjamagaaGreatDoor
open Go.RowKit

/-- A schema has at most d levels, and is not broad. -/
def depK : (m : Nat) → K m → Nat → Prop
  | 0, _, _ => False
  | m + 1, t, d => 1 ≤ d ∧ (Kd.names t).length ≤ 1000 ∧ (∀ s, s ∈ Kd.names t → s.size ≤ 10000) ∧ (Kd.kids t).length ≤ 1000 ∧ ∀ k, k ∈ Kd.kids t → depK m k (d - 1)

theorem depK.mono : ∀ {m : Nat} {k : K m} {d e : Nat}, depK m k d → d ≤ e → depK m k e := by
  intro m
  induction m with
  | zero => intro k d e h; exact h.elim
  | succ m ih =>
    intro k d e h hde
    exact ⟨Nat.le_trans h.1 hde, h.2.1, h.2.2.1, h.2.2.2.1, fun x hx => ih (h.2.2.2.2 x hx) (by omega)⟩

theorem depK.leaf (m : Nat) (x : Int) (d : Nat) : depK (m + 1) (⟨x, [], []⟩ : Kd (K m)) (d + 1) := ⟨by omega, by simp, fun s h => (by cases h), by simp, fun k h => (by cases h)⟩
theorem depK.one {m : Nat} {x : Int} {d : Nat} {k : K m} (h : depK m k d) : depK (m + 1) (⟨x, [], [k]⟩ : Kd (K m)) (d + 1) := ⟨by omega, by simp, fun s h => (by cases h), by simp, fun y hy => (by have e : y = k := (by simpa using hy); rw [e]; simpa using h)⟩

/-- What drawing a schema makes. -/
def DKPost (m d : Nat) (w : World) (R : Nat) (ao : Option Addr) (L cap p q : Nat) (e : Ending) (w' : World) : Prop :=
  Near R w w' ∧ ∃ (p' : Nat) (k : K m) (c0 c1 c2 : Value), p' ≤ p + q ∧ Dr w' R ao L cap p' ∧ e = .returned (.agg #[c0, c1, c2]) ∧ KindIn (fun b => w.heap.size ≤ b ∧ b < w'.heap.size) w' m k c0 c1 c2 ∧ depK m k d

theorem DKPost.alloc {m d R L cap p q : Nat} {ao : Option Addr} {w w' : World} {e : Ending} (h : DKPost m d w R ao L cap p q e w') (o : Obj) : DKPost m d w R ao L cap p q e (w'.alloc o) := by
  obtain ⟨hn, p', k, c0, c1, c2, hp, hD, he, hk, hd⟩ := h
  have hb : Below w'.heap.size w' (w'.alloc o) := (Below.refl _ _).alloc (Nat.le_refl _) _
  exact ⟨hn.trans (Near.of_below hb), p', k, c0, c1, c2, hp, hD.same hb, he, hk.keep (fun b hb' => hb.block b hb'.2) (fun b hb' => ⟨hb'.1, by simp; omega⟩), hd⟩

theorem leafD_in (S : Nat → Prop) (w : World) (m : Nat) (x : Int) (hx : (Lit.int .i64 x).wf = true) : KindIn S w (m + 1) (⟨x, [], []⟩ : Kd (K m)) (.int .i64 x) (.slice none 0 0) (.slice none 0 0) :=
  ⟨rfl, hx, ⟨none, 0, rfl, by simp [maxLen], fun s h => (by cases h), fun h => absurd rfl h⟩, ⟨none, 0, rfl, by simp [maxLen], fun h => absurd rfl h⟩⟩

theorem oneD_in {S : Nat → Prop} {w : World} {m : Nat} {x : Int} {t : K m} {b c : Nat} {c0 c1 c2 : Value} (hx : (Lit.int .i64 x).wf = true) (hb : S b) (h0 : w.cell? ⟨b, 0, none⟩ = some c0) (h1 : w.cell? ⟨b, 1, none⟩ = some c1) (h2 : w.cell? ⟨b, 2, none⟩ = some c2) (ht : KindIn S w m t c0 c1 c2) :
    KindIn S w (m + 1) (⟨x, [], [t]⟩ : Kd (K m)) (.int .i64 x) (.slice none 0 0) (.slice (some ⟨b, 0, none⟩) 1 c) := by
  refine ⟨rfl, hx, ⟨none, 0, rfl, by simp [maxLen], fun s h => (by cases h), fun h => absurd rfl h⟩, ⟨some ⟨b, 0, none⟩, c, rfl, by simp [maxLen], fun _ => ⟨b, 0, rfl, hb, fun i hi => ?_⟩⟩⟩
  have : i = 0 := by simpa using hi
  subst this
  exact ⟨c0, c1, c2, by simpa using h0, by simpa using h1, by simpa using h2, ht⟩

end Go.Proofs.YtdijbjhmjamagaaGreatDoor

/-
  A schema of m levels as one of m + 1; a kid that was there already is gathered.
-/
namespace Go.Proofs.YtdijbjhmjamagaaGreatDoor
open Go.RowKit

/-- A schema of at most n levels is one of at most n + 1. -/
def upK : (n : Nat) → K n → K (n + 1)
  | 0, t => Empty.elim t
  | n + 1, t => (⟨Kd.sort t, Kd.names t, (Kd.kids t).map (upK n)⟩ : Kd (K (n + 1)))

theorem KindIn.up {S : Nat → Prop} {w : World} : ∀ {n : Nat} {t : K n} {c0 c1 c2 : Value}, KindIn S w n t c0 c1 c2 → KindIn S w (n + 1) (upK n t) c0 c1 c2 := by
  intro n
  induction n with
  | zero => intro t; cases t
  | succ n ih =>
    intro t c0 c1 c2 h
    obtain ⟨h0, hwf, h1, ao, cap, rfl, hl, hc⟩ := h
    have e : (Kd.kids (upK (n + 1) t)).length = (Kd.kids t).length := List.length_map ..
    refine ⟨h0, hwf, h1, ao, cap, by rw [e], by rw [e]; exact hl, fun hne => ?_⟩
    obtain ⟨b, off, ha, hb, hcell⟩ := hc (fun h => hne (by show (Kd.kids t).map (upK n) = []; rw [h]; rfl))
    refine ⟨b, off, ha, hb, fun i hi => ?_⟩
    obtain ⟨d0, d1, d2, e0, e1, e2, hk⟩ := hcell i (by rw [← e]; exact hi)
    refine ⟨d0, d1, d2, e0, e1, e2, ?_⟩
    have : (Kd.kids (upK (n + 1) t))[i] = upK n ((Kd.kids t)[i]'(by rw [← e]; exact hi)) := List.getElem_map ..
    rw [this]
    exact ih hk

theorem depK.up : ∀ {n : Nat} {t : K n} {d : Nat}, depK n t d → depK (n + 1) (upK n t) d := by
  intro n
  induction n with
  | zero => intro t; cases t
  | succ n ih =>
    intro t d h
    refine ⟨h.1, h.2.1, h.2.2.1, by show ((Kd.kids t).map (upK n)).length ≤ 1000; rw [List.length_map]; exact h.2.2.2.1, fun k hk => ?_⟩
    have hk' : k ∈ (Kd.kids t).map (upK n) := hk
    obtain ⟨x, hx, rfl⟩ := List.mem_map.1 hk'
    exact ih (h.2.2.2.2 x hx)

/-- One kid more, whose blocks are no row's. -/
theorem GrowK.kidF {R X n : Nat} {w W W1 Wa W2 : World} {so : Int} {ns : List ByteArray} {ks : List (K n)} {nv kv : Value} {t : K n} {c0 c1 c2 : Value} {one : Obj} {g cap : Nat} (h0 : GrowK R X n w W so ns ks nv kv) (hRX : R ≠ X) (hXw : X < w.heap.size) (hRw : R < w.heap.size)
    (hn : Near R W W1) (ht : KindIn (Fr w.heap.size nv kv W1.heap.size) W1 n t c0 c1 c2)
    (ha : Wa.heap = W1.heap.push one) (ho : Wa.os = W1.os ∧ Wa.tape = W1.tape ∧ Wa.output = W1.output) {xs : List Value}
    (hxs : W.ownsRow w.heap.size 26 3 kv ks.length xs) (hk : ∀ j (h : j < ks.length), ∃ c0 c1 c2, (xs[j * 3]? = some c0 ∧ xs[j * 3 + 1]? = some c1 ∧ xs[j * 3 + 2]? = some c2) ∧ KindIn (Fr w.heap.size nv kv W.heap.size) W n ks[j] c0 c1 c2)
    (hown : W2.ownsRow w.heap.size 26 3 (.slice (some ⟨g, 0, none⟩) (ks.length + 1) cap) (ks.length + 1) (xs ++ [c0, c1, c2])) (hgrow : Wa.grownBy W2 kv.ownBlock) (hat : kv.ownBlock = some g ∨ g = W1.heap.size + 1) :
    GrowK R X n w (W2.setCell ⟨X, 2, none⟩ (.slice (some ⟨g, 0, none⟩) (ks.length + 1) cap)) so ns (ks ++ [t]) nv (.slice (some ⟨g, 0, none⟩) (ks.length + 1) cap) := by
  have hX := h0.lt
  have hws := h0.near.size
  have hz1 := hn.size
  have hz : W2.heap.size ≥ W1.heap.size + 1 := by have := hgrow.size; rw [ha] at this; simp at this; omega
  have hnl := r1_lt h0.names
  have hkl := r1_lt hxs
  have hgl := r1_lt hown g rfl
  have q1 : ∀ b, b < W1.heap.size → kv.ownBlock ≠ some b → W2.heap[b]? = W1.heap[b]? := fun b hb hne => by
    rw [hgrow.block b (by rw [ha]; simp; omega) (fun e => hne e.symm), ha, Array.getElem?_push_lt hb, Array.getElem?_eq_getElem hb]
  have q : ∀ b, b < W.heap.size → b ≠ R → kv.ownBlock ≠ some b → W2.heap[b]? = W.heap[b]? := fun b hb hR hne => by
    rw [q1 b (by omega) hne, hn.block b hb hR]
  have qs : ∀ b, b ≠ X → (W2.setCell ⟨X, 2, none⟩ (.slice (some ⟨g, 0, none⟩) (ks.length + 1) cap)).heap[b]? = W2.heap[b]? := fun b hb => Below.heap_setCell _ _ _ _ hb
  have hsz : (W2.setCell ⟨X, 2, none⟩ (.slice (some ⟨g, 0, none⟩) (ks.length + 1) cap)).heap.size = W2.heap.size := by simp
  have hXn : kv.ownBlock ≠ some X := fun e => by have := hkl X e; omega
  have hbox2 := (q X hX (by omega) hXn).trans h0.box
  have hxl : xs.length = ks.length * 3 := hxs.1
  refine ⟨⟨?_, ?_, ?_, by rw [hsz]; have := h0.near.size; omega, fun b hb hne hneX => ?_⟩, ?_, r1_keep h0.names fun g' hg' => ?_, h0.short, ⟨xs ++ [c0, c1, c2], ?_, fun j hj => ?_⟩, fun b hb => ?_⟩
  · show W2.os = w.os
    rw [hgrow.os, ho.1]; exact hn.os.trans h0.near.os
  · show W2.tape = w.tape
    rw [hgrow.tape, ho.2.1]; exact hn.tape.trans h0.near.tape
  · show W2.output = w.output
    rw [hgrow.output, ho.2.2]; exact hn.output.trans h0.near.output
  · have hs := h0.near.size
    rw [qs b hneX, q b (by omega) hne (fun e => by have := hkl b e; omega)]
    exact h0.near.block b hb hne hneX
  · simp [World.setCell, Array.getElem?_modify, hbox2]
  · have := hnl g' hg'
    rw [qs g' (by omega), q g' this.2 (by omega) (h0.apart g' hg')]
  · rw [List.length_append, List.length_singleton]
    exact r1_keep hown fun g' hg' => qs g' (by have := r1_lt hown g' hg'; omega)
  · have hfar : ∀ b, kv.ownBlock ≠ some b → b < W1.heap.size → (Value.slice (some ⟨g, 0, none⟩) (ks.length + 1) cap).ownBlock ≠ some b := by
      intro b h1 h2 e
      have e : g = b := by simpa [Value.ownBlock] using e
      rcases hat with h3 | h3
      · exact h1 (by rw [h3, e])
      · omega
    by_cases hjk : j < ks.length
    · obtain ⟨d0, d1, d2, ⟨e0, e1, e2⟩, hd⟩ := hk j hjk
      have hlift : ∀ o v, o < 3 → xs[j * 3 + o]? = some v → (xs ++ [c0, c1, c2])[j * 3 + o]? = some v := fun o v ho h => by
        rw [List.getElem?_append_left (by omega)]; exact h
      refine ⟨d0, d1, d2, ⟨hlift 0 _ (by omega) e0, hlift 1 _ (by omega) e1, hlift 2 _ (by omega) e2⟩, ?_⟩
      rw [List.getElem_append_left hjk]
      refine hd.keep (fun b hb => ?_) (fun b hb => ⟨hb.1, by rw [hsz]; have := hb.2.1; omega, hb.2.2.1, hfar b hb.2.2.2 (by have := hb.2.1; omega)⟩)
      rw [qs b (by have := hb.1; omega), q b hb.2.1 (by have := hb.1; omega) hb.2.2.2]
    · have hj' : j = ks.length := by simp at hj; omega
      subst hj'
      have hget : ∀ o v, o < 3 → [c0, c1, c2][o]? = some v → (xs ++ [c0, c1, c2])[ks.length * 3 + o]? = some v := fun o v ho h => by
        rw [List.getElem?_append_right (by omega), hxl, Nat.add_sub_cancel_left]; exact h
      refine ⟨c0, c1, c2, ⟨hget 0 _ (by omega) rfl, hget 1 _ (by omega) rfl, hget 2 _ (by omega) rfl⟩, ?_⟩
      have : (ks ++ [t])[ks.length] = t := by simp
      rw [this]
      refine ht.keep (fun b hb => ?_) (fun b hb => ⟨hb.1, by rw [hsz]; have := hb.2.1; omega, hb.2.2.1, hfar b hb.2.2.2 hb.2.1⟩)
      rw [qs b (by have := hb.1; omega), q1 b hb.2.1 hb.2.2.2]
  · intro e
    have e : g = b := by simpa [Value.ownBlock] using e
    subst e
    rcases hat with h1 | h1
    · exact h0.apart g hb h1
    · have := hnl g hb; omega

end Go.Proofs.YtdijbjhmjamagaaGreatDoor
