/-
  Several texts in one, in their order.
-/
import Derived.Test.YtlinplghgamgbaaGreatDoorScan2
import Derived.Test.YtlinplghgamgbaaGreatDoorB1
import Derived.Test.YtlinplghgamgbaaGreatDoorRow1

/-
  What the program's reader of a form gathers: names and kids in rows of its own.
-/
namespace Go.Proofs.YtlinplghgamgbaaGreatDoor
open Go.RowKit

/-- Blocks that are new, and none of the two rows'. -/
def Fr (M : Nat) (nv kv : Value) (H b : Nat) : Prop := M ≤ b ∧ b < H ∧ nv.ownBlock ≠ some b ∧ kv.ownBlock ≠ some b

/-- What is gathered so far. -/
structure RForm (R n : Nat) (w wr : World) (ns : List ByteArray) (ks : List (K n)) (nv kv : Value) : Prop where
  near : Near R w wr
  names : wr.ownsRow w.heap.size 9 1 nv ns.length (ns.map .string)
  short : ∀ s, s ∈ ns → s.size ≤ 10000
  kids : ∃ xs, wr.ownsRow w.heap.size 70 3 kv ks.length xs ∧ ∀ j (h : j < ks.length), ∃ c0 c1 c2, (xs[j * 3]? = some c0 ∧ xs[j * 3 + 1]? = some c1 ∧ xs[j * 3 + 2]? = some c2) ∧ KindIn (Fr w.heap.size nv kv wr.heap.size) wr n ks[j] c0 c1 c2
  apart : ∀ b, nv.ownBlock = some b → kv.ownBlock ≠ some b

theorem RForm.start (R n : Nat) (w wr : World) (h : Near R w wr) : RForm R n w wr [] [] (.slice none 0 0) (.slice none 0 0) :=
  ⟨h, World.ownsRow_nil _ _ _ _, fun _ h => (by cases h), ⟨[], World.ownsRow_nil _ _ _ _, fun j h => absurd h (Nat.not_lt_zero _)⟩, fun b hb => by cases hb⟩

theorem RForm.keep {R n : Nat} {w wr W : World} {ns : List ByteArray} {ks : List (K n)} {nv kv : Value} (h : RForm R n w wr ns ks nv kv) (hR : R < w.heap.size) (hn : Near R wr W) : RForm R n w W ns ks nv kv := by
  have hs : ∀ b, w.heap.size ≤ b → b < wr.heap.size → W.heap[b]? = wr.heap[b]? := fun b h1 h2 => hn.block b h2 (by omega)
  obtain ⟨xs, hx, hk⟩ := h.kids
  refine ⟨h.near.trans hn, r1_keep h.names fun g hg => ?_, h.short, ⟨xs, r1_keep hx fun g hg => ?_, fun j hj => ?_⟩, h.apart⟩
  · have := r1_lt h.names g hg
    exact hs g this.1 this.2
  · have := r1_lt hx g hg
    exact hs g this.1 this.2
  · obtain ⟨c0, c1, c2, hc, ht⟩ := hk j hj
    exact ⟨c0, c1, c2, hc, ht.keep (fun b hb => hs b hb.1 hb.2.1) (fun b hb => ⟨hb.1, Nat.lt_of_lt_of_le hb.2.1 hn.size, hb.2.2⟩)⟩

/-- One name more. -/
theorem RForm.name {R n : Nat} {w W Wa W2 : World} {ns : List ByteArray} {ks : List (K n)} {nv kv : Value} {x : ByteArray} {one : Obj} {g cap : Nat} (h : RForm R n w W ns ks nv kv)
    (ha : Wa.heap = W.heap.push one) (ho : Wa.os = W.os ∧ Wa.tape = W.tape ∧ Wa.output = W.output) (hx : x.size ≤ 10000)
    (hown : W2.ownsRow w.heap.size 9 1 (.slice (some ⟨g, 0, none⟩) (ns.length + 1) cap) (ns.length + 1) (ns.map .string ++ [.string x])) (hgrow : Wa.grownBy W2 nv.ownBlock) (hat : nv.ownBlock = some g ∨ g = W.heap.size + 1) :
    RForm R n w W2 (ns ++ [x]) ks (.slice (some ⟨g, 0, none⟩) (ns.length + 1) cap) kv ∧ (∀ b, b < w.heap.size → W2.heap[b]? = W.heap[b]?) ∧ W.heap.size ≤ W2.heap.size := by
  have hz : W2.heap.size ≥ W.heap.size + 1 := by have := hgrow.size; rw [ha] at this; simp at this; omega
  have hnl := r1_lt h.names
  have hgl := r1_lt hown g rfl
  have hws := h.near.size
  have q : ∀ b, b < W.heap.size → nv.ownBlock ≠ some b → W2.heap[b]? = W.heap[b]? := fun b hb hne => by
    rw [hgrow.block b (by rw [ha]; simp; omega) (fun e => hne e.symm), ha, Array.getElem?_push_lt hb, Array.getElem?_eq_getElem hb]
  obtain ⟨xs, hxs, hk⟩ := h.kids
  have hkl := r1_lt hxs
  refine ⟨⟨⟨?_, ?_, ?_, by omega, fun b hb hne => ?_⟩, ?_, ?_, ⟨xs, r1_keep hxs fun g' hg' => ?_, fun j hj => ?_⟩, fun b hb => ?_⟩, fun b hb => q b (by omega) (fun e => by have := hnl b e; omega), by omega⟩
  · rw [hgrow.os, ho.1]; exact h.near.os
  · rw [hgrow.tape, ho.2.1]; exact h.near.tape
  · rw [hgrow.output, ho.2.2]; exact h.near.output
  · rw [q b (by omega) (fun e => by have := hnl b e; omega)]
    exact h.near.block b hb hne
  · rw [List.length_append, List.length_singleton, List.map_append, List.map_singleton]
    exact hown
  · intro s hs
    rcases List.mem_append.1 hs with hs | hs
    · exact h.short s hs
    · rw [List.mem_singleton] at hs; subst hs; exact hx
  · have := hkl g' hg'
    exact q g' this.2 (fun e => h.apart g' e hg')
  · obtain ⟨c0, c1, c2, hc, ht⟩ := hk j hj
    refine ⟨c0, c1, c2, hc, ht.keep (fun b hb => ?_) (fun b hb => ?_)⟩
    · exact q b hb.2.1 hb.2.2.1
    · refine ⟨hb.1, by have := hb.2.1; omega, ?_, hb.2.2.2⟩
      intro e
      have e : g = b := by simpa [Value.ownBlock] using e
      rcases hat with h1 | h1
      · exact hb.2.2.1 (by rw [h1, e])
      · have := hb.2.1; omega
  · have hb : g = b := by simpa [Value.ownBlock] using hb
    subst hb
    rcases hat with h1 | h1
    · exact h.apart g h1
    · intro e; have := hkl g e; omega

/-- One kid more. -/
theorem RForm.kid {R n : Nat} {w W W1 Wa W2 : World} {ns : List ByteArray} {ks : List (K n)} {nv kv : Value} {t : K n} {c0 c1 c2 : Value} {one : Obj} {g cap : Nat} (h0 : RForm R n w W ns ks nv kv) (hR : R < w.heap.size)
    (hn : Near R W W1) (ht : KindIn (fun b => W.heap.size ≤ b ∧ b < W1.heap.size) W1 n t c0 c1 c2)
    (ha : Wa.heap = W1.heap.push one) (ho : Wa.os = W1.os ∧ Wa.tape = W1.tape ∧ Wa.output = W1.output) {xs : List Value}
    (hxs : W.ownsRow w.heap.size 70 3 kv ks.length xs) (hk : ∀ j (h : j < ks.length), ∃ c0 c1 c2, (xs[j * 3]? = some c0 ∧ xs[j * 3 + 1]? = some c1 ∧ xs[j * 3 + 2]? = some c2) ∧ KindIn (Fr w.heap.size nv kv W.heap.size) W n ks[j] c0 c1 c2)
    (hown : W2.ownsRow w.heap.size 70 3 (.slice (some ⟨g, 0, none⟩) (ks.length + 1) cap) (ks.length + 1) (xs ++ [c0, c1, c2])) (hgrow : Wa.grownBy W2 kv.ownBlock) (hat : kv.ownBlock = some g ∨ g = W1.heap.size + 1) :
    RForm R n w W2 ns (ks ++ [t]) nv (.slice (some ⟨g, 0, none⟩) (ks.length + 1) cap) ∧ (∀ b, b < w.heap.size → W2.heap[b]? = W1.heap[b]?) ∧ W1.heap.size ≤ W2.heap.size := by
  have hz1 := hn.size
  have hws := h0.near.size
  have hz : W2.heap.size ≥ W1.heap.size + 1 := by have := hgrow.size; rw [ha] at this; simp at this; omega
  have hnl := r1_lt h0.names
  have hkl := r1_lt hxs
  have hgl := r1_lt hown g rfl
  have q1 : ∀ b, b < W1.heap.size → kv.ownBlock ≠ some b → W2.heap[b]? = W1.heap[b]? := fun b hb hne => by
    rw [hgrow.block b (by rw [ha]; simp; omega) (fun e => hne e.symm), ha, Array.getElem?_push_lt hb, Array.getElem?_eq_getElem hb]
  have q : ∀ b, b < W.heap.size → b ≠ R → kv.ownBlock ≠ some b → W2.heap[b]? = W.heap[b]? := fun b hb hR hne => by
    rw [q1 b (by omega) hne, hn.block b hb hR]
  have hxl : xs.length = ks.length * 3 := hxs.1
  refine ⟨⟨⟨?_, ?_, ?_, by omega, fun b hb hne => ?_⟩, r1_keep h0.names fun g' hg' => ?_, h0.short, ⟨xs ++ [c0, c1, c2], ?_, fun j hj => ?_⟩, fun b hb => ?_⟩, fun b hb => q1 b (by omega) (fun e => by have := hkl b e; omega), by omega⟩
  · rw [hgrow.os, ho.1]; exact hn.os.trans h0.near.os
  · rw [hgrow.tape, ho.2.1]; exact hn.tape.trans h0.near.tape
  · rw [hgrow.output, ho.2.2]; exact hn.output.trans h0.near.output
  · rw [q b (by omega) hne (fun e => by have := hkl b e; omega)]
    exact h0.near.block b hb hne
  · have := hnl g' hg'
    exact q g' this.2 (by omega) (h0.apart g' hg')
  · rw [List.length_append, List.length_singleton]
    exact hown
  · have hfar : ∀ b, kv.ownBlock ≠ some b → b < W1.heap.size → (Value.slice (some ⟨g, 0, none⟩) (ks.length + 1) cap).ownBlock ≠ some b := by
      intro b h1 h2 e
      have e : g = b := by simpa [Value.ownBlock] using e
      rcases hat with h3 | h3
      · exact h1 (by rw [h3, e])
      · omega
    by_cases hjk : j < ks.length
    · obtain ⟨d0, d1, d2, ⟨e0, e1, e2⟩, hd⟩ := hk j hjk
      have hlift : ∀ o v, o < 3 → xs[j * 3 + o]? = some v → (xs ++ [c0, c1, c2])[j * 3 + o]? = some v := fun o v ho h => by
        rw [List.getElem?_append_left (by omega)]; exact h
      refine ⟨d0, d1, d2, ⟨hlift 0 _ (by omega) e0, hlift 1 _ (by omega) e1, hlift 2 _ (by omega) e2⟩, ?_⟩
      rw [List.getElem_append_left hjk]
      refine hd.keep (fun b hb => ?_) (fun b hb => ⟨hb.1, by have := hb.2.1; omega, hb.2.2.1, hfar b hb.2.2.2 (by have := hb.2.1; omega)⟩)
      exact q b hb.2.1 (by have := hb.1; omega) hb.2.2.2
    · have hj' : j = ks.length := by simp at hj; omega
      subst hj'
      have hget : ∀ o v, o < 3 → [c0, c1, c2][o]? = some v → (xs ++ [c0, c1, c2])[ks.length * 3 + o]? = some v := fun o v ho h => by
        rw [List.getElem?_append_right (by omega), hxl, Nat.add_sub_cancel_left]; exact h
      refine ⟨c0, c1, c2, ⟨hget 0 _ (by omega) rfl, hget 1 _ (by omega) rfl, hget 2 _ (by omega) rfl⟩, ?_⟩
      have : (ks ++ [t])[ks.length] = t := by simp
      rw [this]
      refine ht.keep (fun b hb => ?_) (fun b hb => ⟨by omega, by omega, fun e => by have := hnl b e; omega, hfar b (fun e => by have := hkl b e; omega) hb.2⟩)
      exact q1 b hb.2 (fun e => by have := hkl b e; omega)
  · intro e
    have e : g = b := by simpa [Value.ownBlock] using e
    subst e
    rcases hat with h1 | h1
    · exact h0.apart g hb h1
    · have := hnl g hb; omega

/-- What was gathered, as rows. -/
theorem strs_of_ownsK {S : Nat → Prop} {w : World} {M : Nat} {e : TypeId} {v : Value} {l : List ByteArray} (h : w.ownsRow M e 1 v l.length (l.map .string)) (hl : l.length ≤ 20000) (hs : ∀ s, s ∈ l → s.size ≤ 10000) (hS : ∀ g, v.ownBlock = some g → S g) : StrsIn S w l v := by
  have hm : ∀ s, s ∈ l → s.size ≤ maxLen := fun s h => by have := hs s h; unfold maxLen; omega
  have hlm : l.length ≤ maxLen := by unfold maxLen; omega
  rcases id h.2 with ⟨rfl, h0⟩ | ⟨g, cap, cur, rfl, hbg, hg, hnc, hcm, hcs, htake⟩
  · exact ⟨none, 0, by rw [h0], hlm, hm, fun hne => absurd (List.eq_nil_of_length_eq_zero h0) hne⟩
  · refine ⟨_, _, rfl, hlm, hm, fun _ => ⟨g, 0, rfl, hS g rfl, fun i hi => ?_⟩⟩
    have := h.cells (g := g) rfl i (.string l[i]) (by simp [hi])
    rw [Addr.add_lit] at this
    simpa using this

theorem row3_of_owns {S : Nat → Prop} {n : Nat} {w : World} {M : Nat} {e : TypeId} {v : Value} {l : List (K n)} {xs : List Value} (h : w.ownsRow M e 3 v l.length xs) (hl : l.length ≤ 20000) (hS : ∀ g, v.ownBlock = some g → S g)
    (hk : ∀ j (h : j < l.length), ∃ c0 c1 c2, (xs[j * 3]? = some c0 ∧ xs[j * 3 + 1]? = some c1 ∧ xs[j * 3 + 2]? = some c2) ∧ KindIn S w n l[j] c0 c1 c2) : RowIn3 S w (KindIn S w n) l v := by
  have hlm : l.length ≤ maxLen := by unfold maxLen; omega
  rcases id h.2 with ⟨rfl, h0⟩ | ⟨g, cap, cur, rfl, hbg, hg, hnc, hcm, hcs, htake⟩
  · exact ⟨none, 0, by rw [h0], hlm, fun hne => absurd (List.eq_nil_of_length_eq_zero h0) hne⟩
  · refine ⟨_, _, rfl, hlm, fun _ => ⟨g, 0, rfl, hS g rfl, fun i hi => ?_⟩⟩
    obtain ⟨c0, c1, c2, ⟨e0, e1, e2⟩, ht⟩ := hk i hi
    have hc : ∀ j u, xs[j]? = some u → w.cell? ⟨g, 0 + j, none⟩ = some u := fun j u hu => by
      have := h.cells (g := g) rfl j u hu
      rwa [Addr.add_lit] at this
    exact ⟨c0, c1, c2, hc _ _ e0, hc _ _ e1, hc _ _ e2, ht⟩

theorem RForm.rows {R n : Nat} {w wr : World} {ns : List ByteArray} {ks : List (K n)} {nv kv : Value} (h : RForm R n w wr ns ks nv kv) (hl : ns.length ≤ 20000) (hk : ks.length ≤ 20000) :
    StrsIn (fun b => w.heap.size ≤ b ∧ b < wr.heap.size) wr ns nv ∧ RowIn3 (fun b => w.heap.size ≤ b ∧ b < wr.heap.size) wr (KindIn (fun b => w.heap.size ≤ b ∧ b < wr.heap.size) wr n) ks kv := by
  obtain ⟨xs, hxs, hkk⟩ := h.kids
  refine ⟨strs_of_ownsK h.names hl h.short fun g hg => r1_lt h.names g hg, row3_of_owns hxs hk (fun g hg => r1_lt hxs g hg) fun j hj => ?_⟩
  obtain ⟨c0, c1, c2, hd, hdt⟩ := hkk j hj
  exact ⟨c0, c1, c2, hd, hdt.keep (fun _ _ => rfl) (fun b hb => ⟨hb.1, hb.2.1⟩)⟩

end Go.Proofs.YtlinplghgamgbaaGreatDoor

/-
  What the specification's reader gathers of a form of schemas: a schema in a block of its own, names and kids in rows of its own.
-/
namespace Go.Proofs.YtlinplghgamgbaaGreatDoor
open Go.RowKit

/-- What is gathered so far. -/
structure ManyK (R X n : Nat) (w wr : World) (so : Int) (ns : List ByteArray) (ks : List (K n)) (nv kv : Value) : Prop where
  near : Near R w wr
  box : wr.heap[X]? = some (.cells #[.int .i64 so, nv, kv] 70 (0, 0))
  names : wr.ownsRow (X + 1) 9 1 nv ns.length (ns.map .string)
  short : ∀ s, s ∈ ns → s.size ≤ 10000
  kids : ∃ xs, wr.ownsRow (X + 1) 70 3 kv ks.length xs ∧ ∀ j (h : j < ks.length), ∃ c0 c1 c2, (xs[j * 3]? = some c0 ∧ xs[j * 3 + 1]? = some c1 ∧ xs[j * 3 + 2]? = some c2) ∧ KindIn (Fr (X + 1) nv kv wr.heap.size) wr n ks[j] c0 c1 c2
  apart : ∀ b, nv.ownBlock = some b → kv.ownBlock ≠ some b

theorem ManyK.lt {R X n : Nat} {w wr : World} {so : Int} {ns : List ByteArray} {ks : List (K n)} {nv kv : Value} (h : ManyK R X n w wr so ns ks nv kv) : X < wr.heap.size := (Array.getElem?_eq_some_iff.1 h.box).1

theorem ManyK.keep {R X n : Nat} {w wr W : World} {so : Int} {ns : List ByteArray} {ks : List (K n)} {nv kv : Value} (h : ManyK R X n w wr so ns ks nv kv) (hRX : R < X) (hn : Near R wr W) : ManyK R X n w W so ns ks nv kv := by
  have hX := h.lt
  have hs : ∀ b, X ≤ b → b < wr.heap.size → W.heap[b]? = wr.heap[b]? := fun b h1 h2 => hn.block b h2 (by omega)
  obtain ⟨xs, hx, hk⟩ := h.kids
  refine ⟨h.near.trans hn, by rw [hs X (Nat.le_refl _) hX]; exact h.box, r1_keep h.names fun g hg => ?_, h.short, ⟨xs, r1_keep hx fun g hg => ?_, fun j hj => ?_⟩, h.apart⟩
  · have := r1_lt h.names g hg
    exact hs g (by omega) this.2
  · have := r1_lt hx g hg
    exact hs g (by omega) this.2
  · obtain ⟨c0, c1, c2, hc, ht⟩ := hk j hj
    refine ⟨c0, c1, c2, hc, ht.keep (fun b hb => hs b ?_ hb.2.1) (fun b hb => ⟨hb.1, Nat.lt_of_lt_of_le hb.2.1 hn.size, hb.2.2⟩)⟩
    have := hb.1
    omega

/-- One name more. -/
theorem ManyK.name {R X n : Nat} {w W Wa W2 : World} {so : Int} {ns : List ByteArray} {ks : List (K n)} {nv kv : Value} {x : ByteArray} {one : Obj} {g cap : Nat} (h : ManyK R X n w W so ns ks nv kv) (hw : w.heap.size ≤ X)
    (ha : Wa.heap = W.heap.push one) (ho : Wa.os = W.os ∧ Wa.tape = W.tape ∧ Wa.output = W.output) (hx : x.size ≤ 10000)
    (hown : W2.ownsRow (X + 1) 9 1 (.slice (some ⟨g, 0, none⟩) (ns.length + 1) cap) (ns.length + 1) (ns.map .string ++ [.string x])) (hgrow : Wa.grownBy W2 nv.ownBlock) (hat : nv.ownBlock = some g ∨ g = W.heap.size + 1) :
    ManyK R X n w (W2.setCell ⟨X, 1, none⟩ (.slice (some ⟨g, 0, none⟩) (ns.length + 1) cap)) so (ns ++ [x]) ks (.slice (some ⟨g, 0, none⟩) (ns.length + 1) cap) kv := by
  have hX := h.lt
  have hz : W2.heap.size ≥ W.heap.size + 1 := by have := hgrow.size; rw [ha] at this; simp at this; omega
  have hnl := r1_lt h.names
  have hgl := r1_lt hown g rfl
  have q : ∀ b, b < W.heap.size → nv.ownBlock ≠ some b → W2.heap[b]? = W.heap[b]? := fun b hb hne => by
    rw [hgrow.block b (by rw [ha]; simp; omega) (fun e => hne e.symm), ha, Array.getElem?_push_lt hb, Array.getElem?_eq_getElem hb]
  have qs : ∀ b, b ≠ X → (W2.setCell ⟨X, 1, none⟩ (.slice (some ⟨g, 0, none⟩) (ns.length + 1) cap)).heap[b]? = W2.heap[b]? := fun b hb => Below.heap_setCell _ _ _ _ hb
  have hsz : (W2.setCell ⟨X, 1, none⟩ (.slice (some ⟨g, 0, none⟩) (ns.length + 1) cap)).heap.size = W2.heap.size := by simp
  have hXn : nv.ownBlock ≠ some X := fun e => by have := hnl X e; omega
  have hbox2 := (q X hX hXn).trans h.box
  obtain ⟨xs, hxs, hk⟩ := h.kids
  have hkl := r1_lt hxs
  refine ⟨⟨?_, ?_, ?_, by rw [hsz]; have := h.near.size; omega, fun b hb hne => ?_⟩, ?_, ?_, ?_, ⟨xs, r1_keep hxs fun g' hg' => ?_, fun j hj => ?_⟩, fun b hb => ?_⟩
  · show W2.os = w.os
    rw [hgrow.os, ho.1]; exact h.near.os
  · show W2.tape = w.tape
    rw [hgrow.tape, ho.2.1]; exact h.near.tape
  · show W2.output = w.output
    rw [hgrow.output, ho.2.2]; exact h.near.output
  · have hs := h.near.size
    rw [qs b (by omega), q b (by omega) (fun e => by have := hnl b e; omega)]
    exact h.near.block b hb hne
  · simp [World.setCell, Array.getElem?_modify, hbox2]
  · rw [List.length_append, List.length_singleton, List.map_append, List.map_singleton]
    exact r1_keep hown fun g' hg' => qs g' (by have := r1_lt hown g' hg'; omega)
  · intro s hs
    rcases List.mem_append.1 hs with hs | hs
    · exact h.short s hs
    · rw [List.mem_singleton] at hs; subst hs; exact hx
  · have := hkl g' hg'
    rw [qs g' (by omega), q g' this.2 (fun e => h.apart g' e hg')]
  · obtain ⟨c0, c1, c2, hc, ht⟩ := hk j hj
    refine ⟨c0, c1, c2, hc, ht.keep (fun b hb => ?_) (fun b hb => ?_)⟩
    · rw [qs b (by have := hb.1; omega), q b hb.2.1 hb.2.2.1]
    · refine ⟨hb.1, by rw [hsz]; have := hb.2.1; omega, ?_, hb.2.2.2⟩
      intro e
      have e : g = b := by simpa [Value.ownBlock] using e
      rcases hat with h1 | h1
      · exact hb.2.2.1 (by rw [h1, e])
      · have := hb.2.1; omega
  · have hb : g = b := by simpa [Value.ownBlock] using hb
    subst hb
    rcases hat with h1 | h1
    · exact h.apart g h1
    · intro e; have := hkl g e; omega

/-- One kid more. -/
theorem ManyK.kid {R X n : Nat} {w W W1 Wa W2 : World} {so : Int} {ns : List ByteArray} {ks : List (K n)} {nv kv : Value} {t : K n} {c0 c1 c2 : Value} {one : Obj} {g cap : Nat} (h0 : ManyK R X n w W so ns ks nv kv) (hRX : R < X) (hw : w.heap.size ≤ X)
    (hn : Near R W W1) (ht : KindIn (fun b => W.heap.size ≤ b ∧ b < W1.heap.size) W1 n t c0 c1 c2)
    (ha : Wa.heap = W1.heap.push one) (ho : Wa.os = W1.os ∧ Wa.tape = W1.tape ∧ Wa.output = W1.output) {xs : List Value}
    (hxs : W.ownsRow (X + 1) 70 3 kv ks.length xs) (hk : ∀ j (h : j < ks.length), ∃ c0 c1 c2, (xs[j * 3]? = some c0 ∧ xs[j * 3 + 1]? = some c1 ∧ xs[j * 3 + 2]? = some c2) ∧ KindIn (Fr (X + 1) nv kv W.heap.size) W n ks[j] c0 c1 c2)
    (hown : W2.ownsRow (X + 1) 70 3 (.slice (some ⟨g, 0, none⟩) (ks.length + 1) cap) (ks.length + 1) (xs ++ [c0, c1, c2])) (hgrow : Wa.grownBy W2 kv.ownBlock) (hat : kv.ownBlock = some g ∨ g = W1.heap.size + 1) :
    ManyK R X n w (W2.setCell ⟨X, 2, none⟩ (.slice (some ⟨g, 0, none⟩) (ks.length + 1) cap)) so ns (ks ++ [t]) nv (.slice (some ⟨g, 0, none⟩) (ks.length + 1) cap) := by
  have hX := h0.lt
  have hz1 := hn.size
  have hz : W2.heap.size ≥ W1.heap.size + 1 := by have := hgrow.size; rw [ha] at this; simp at this; omega
  have hnl := r1_lt h0.names
  have hkl := r1_lt hxs
  have hgl := r1_lt hown g rfl
  have q1 : ∀ b, b < W1.heap.size → kv.ownBlock ≠ some b → W2.heap[b]? = W1.heap[b]? := fun b hb hne => by
    rw [hgrow.block b (by rw [ha]; simp; omega) (fun e => hne e.symm), ha, Array.getElem?_push_lt hb, Array.getElem?_eq_getElem hb]
  have q : ∀ b, b < W.heap.size → b ≠ R → kv.ownBlock ≠ some b → W2.heap[b]? = W.heap[b]? := fun b hb hR hne => by
    rw [q1 b (by omega) hne, hn.block b hb hR]
  have qs : ∀ b, b ≠ X → (W2.setCell ⟨X, 2, none⟩ (.slice (some ⟨g, 0, none⟩) (ks.length + 1) cap)).heap[b]? = W2.heap[b]? := fun b hb => Below.heap_setCell _ _ _ _ hb
  have hsz : (W2.setCell ⟨X, 2, none⟩ (.slice (some ⟨g, 0, none⟩) (ks.length + 1) cap)).heap.size = W2.heap.size := by simp
  have hXn : kv.ownBlock ≠ some X := fun e => by have := hkl X e; omega
  have hbox2 := (q X hX (by omega) hXn).trans h0.box
  have hxl : xs.length = ks.length * 3 := hxs.1
  refine ⟨⟨?_, ?_, ?_, by rw [hsz]; have := h0.near.size; omega, fun b hb hne => ?_⟩, ?_, r1_keep h0.names fun g' hg' => ?_, h0.short, ⟨xs ++ [c0, c1, c2], ?_, fun j hj => ?_⟩, fun b hb => ?_⟩
  · show W2.os = w.os
    rw [hgrow.os, ho.1]; exact hn.os.trans h0.near.os
  · show W2.tape = w.tape
    rw [hgrow.tape, ho.2.1]; exact hn.tape.trans h0.near.tape
  · show W2.output = w.output
    rw [hgrow.output, ho.2.2]; exact hn.output.trans h0.near.output
  · have hs := h0.near.size
    rw [qs b (by omega), q b (by omega) hne (fun e => by have := hkl b e; omega)]
    exact h0.near.block b hb hne
  · simp [World.setCell, Array.getElem?_modify, hbox2]
  · have := hnl g' hg'
    rw [qs g' (by omega), q g' this.2 (by omega) (h0.apart g' hg')]
  · rw [List.length_append, List.length_singleton]
    exact r1_keep hown fun g' hg' => qs g' (by have := r1_lt hown g' hg'; omega)
  · have hfar : ∀ b, kv.ownBlock ≠ some b → b < W1.heap.size → (Value.slice (some ⟨g, 0, none⟩) (ks.length + 1) cap).ownBlock ≠ some b := by
      intro b h1 h2 e
      have e : g = b := by simpa [Value.ownBlock] using e
      rcases hat with h3 | h3
      · exact h1 (by rw [h3, e])
      · omega
    by_cases hjk : j < ks.length
    · obtain ⟨d0, d1, d2, ⟨e0, e1, e2⟩, hd⟩ := hk j hjk
      have hlift : ∀ o v, o < 3 → xs[j * 3 + o]? = some v → (xs ++ [c0, c1, c2])[j * 3 + o]? = some v := fun o v ho h => by
        rw [List.getElem?_append_left (by omega)]; exact h
      refine ⟨d0, d1, d2, ⟨hlift 0 _ (by omega) e0, hlift 1 _ (by omega) e1, hlift 2 _ (by omega) e2⟩, ?_⟩
      rw [List.getElem_append_left hjk]
      refine hd.keep (fun b hb => ?_) (fun b hb => ⟨hb.1, by rw [hsz]; have := hb.2.1; omega, hb.2.2.1, hfar b hb.2.2.2 (by have := hb.2.1; omega)⟩)
      rw [qs b (by have := hb.1; omega), q b hb.2.1 (by have := hb.1; omega) hb.2.2.2]
    · have hj' : j = ks.length := by simp at hj; omega
      subst hj'
      have hget : ∀ o v, o < 3 → [c0, c1, c2][o]? = some v → (xs ++ [c0, c1, c2])[ks.length * 3 + o]? = some v := fun o v ho h => by
        rw [List.getElem?_append_right (by omega), hxl, Nat.add_sub_cancel_left]; exact h
      refine ⟨c0, c1, c2, ⟨hget 0 _ (by omega) rfl, hget 1 _ (by omega) rfl, hget 2 _ (by omega) rfl⟩, ?_⟩
      have : (ks ++ [t])[ks.length] = t := by simp
      rw [this]
      refine ht.keep (fun b hb => ?_) (fun b hb => ⟨by omega, by rw [hsz]; omega, fun e => by have := hnl b e; omega, hfar b (fun e => by have := hkl b e; omega) hb.2⟩)
      rw [qs b (by omega), q1 b hb.2 (fun e => by have := hkl b e; omega)]
  · intro e
    have e : g = b := by simpa [Value.ownBlock] using e
    subst e
    rcases hat with h1 | h1
    · exact h0.apart g hb h1
    · have := hnl g hb; omega

end Go.Proofs.YtlinplghgamgbaaGreatDoor
