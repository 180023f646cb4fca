/-
  The specification's l3Widen: what the walk over forms leans on.
-/
import Derived.Test.YtpalkdcgbbbmeaaGreatDoorKZ3
import Derived.Test.YtpalkdcgbbbmeaaGreatDoorKSF0
namespace Go.Proofs.YtpalkdcgbbbmeaaGreatDoor
open Go.RowKit

/-- One kid more, its memory somewhere apart. -/
theorem Many.kidF {R X n : Nat} {w W W1 Wa W2 : World} {so : Int} {ns : List ByteArray} {ks : List (T n)} {nv kv : Value} {t : T n} {c0 c1 c2 c3 c4 : Value} {one : Obj} {g cap : Nat} (h0 : Many R X n w W so ns ks nv kv) (hRX : R < X) (hw : w.heap.size ≤ X)
    (hn : Near R W W1) (ht : TreeIn (Far (X + 1) nv kv W1.heap.size) W1 n t c0 c1 c2 c3 c4)
    (ha : Wa.heap = W1.heap.push one) (ho : Wa.os = W1.os ∧ Wa.tape = W1.tape ∧ Wa.output = W1.output) {xs : List Value}
    (hxs : W.ownsRow (X + 1) 29 5 kv ks.length xs) (hk : ∀ j (h : j < ks.length), ∃ c0 c1 c2 c3 c4, (xs[j * 5]? = some c0 ∧ xs[j * 5 + 1]? = some c1 ∧ xs[j * 5 + 2]? = some c2 ∧ xs[j * 5 + 3]? = some c3 ∧ xs[j * 5 + 4]? = some c4) ∧ TreeIn (Far (X + 1) nv kv W.heap.size) W n ks[j] c0 c1 c2 c3 c4)
    (hown : W2.ownsRow (X + 1) 29 5 (.slice (some ⟨g, 0, none⟩) (ks.length + 1) cap) (ks.length + 1) (xs ++ [c0, c1, c2, c3, c4])) (hgrow : Wa.grownBy W2 kv.ownBlock) (hat : kv.ownBlock = some g ∨ g = W1.heap.size + 1) :
    Many R X n w (W2.setCell ⟨X, 4, none⟩ (.slice (some ⟨g, 0, none⟩) (ks.length + 1) cap)) so ns (ks ++ [t]) nv (.slice (some ⟨g, 0, none⟩) (ks.length + 1) cap) := by
  have hX := h0.lt
  have hz1 := hn.size
  have hz : W2.heap.size ≥ W1.heap.size + 1 := by have := hgrow.size; rw [ha] at this; simp at this; omega
  have hnl := owns_lt h0.names
  have hkl := owns_lt hxs
  have hgl := owns_lt hown g rfl
  have q1 : ∀ b, b < W1.heap.size → kv.ownBlock ≠ some b → W2.heap[b]? = W1.heap[b]? := fun b hb hne => by
    rw [hgrow.block b (by rw [ha]; simp; omega) (fun e => hne e.symm), ha, Array.getElem?_push_lt hb, Array.getElem?_eq_getElem hb]
  have q : ∀ b, b < W.heap.size → b ≠ R → kv.ownBlock ≠ some b → W2.heap[b]? = W.heap[b]? := fun b hb hR hne => by
    rw [q1 b (by omega) hne, hn.block b hb hR]
  have qs : ∀ b, b ≠ X → (W2.setCell ⟨X, 4, none⟩ (.slice (some ⟨g, 0, none⟩) (ks.length + 1) cap)).heap[b]? = W2.heap[b]? := fun b hb => Below.heap_setCell _ _ _ _ hb
  have hsz : (W2.setCell ⟨X, 4, none⟩ (.slice (some ⟨g, 0, none⟩) (ks.length + 1) cap)).heap.size = W2.heap.size := by simp
  have hXn : kv.ownBlock ≠ some X := fun e => by have := hkl X e; omega
  have hbox2 := (q X hX (by omega) hXn).trans h0.box
  have hxl : xs.length = ks.length * 5 := hxs.1
  refine ⟨⟨?_, ?_, ?_, by rw [hsz]; have := h0.near.size; omega, fun b hb hne => ?_⟩, ?_, owns_keep h0.names fun g' hg' => ?_, h0.short, ⟨xs ++ [c0, c1, c2, c3, c4], ?_, fun j hj => ?_⟩, fun b hb => ?_⟩
  · show W2.os = w.os
    rw [hgrow.os, ho.1]; exact hn.os.trans h0.near.os
  · show W2.tape = w.tape
    rw [hgrow.tape, ho.2.1]; exact hn.tape.trans h0.near.tape
  · show W2.output = w.output
    rw [hgrow.output, ho.2.2]; exact hn.output.trans h0.near.output
  · have hs := h0.near.size
    rw [qs b (by omega), q b (by omega) hne (fun e => by have := hkl b e; omega)]
    exact h0.near.block b hb hne
  · simp [World.setCell, Array.getElem?_modify, hbox2]
  · have := hnl g' hg'
    rw [qs g' (by omega), q g' this.2 (by omega) (h0.apart g' hg')]
  · rw [List.length_append, List.length_singleton]
    exact owns_keep hown fun g' hg' => qs g' (by have := owns_lt hown g' hg'; omega)
  · have hfar : ∀ b, kv.ownBlock ≠ some b → b < W1.heap.size → (Value.slice (some ⟨g, 0, none⟩) (ks.length + 1) cap).ownBlock ≠ some b := by
      intro b h1 h2 e
      have e : g = b := by simpa [Value.ownBlock] using e
      rcases hat with h3 | h3
      · exact h1 (by rw [h3, e])
      · omega
    by_cases hjk : j < ks.length
    · obtain ⟨d0, d1, d2, d3, d4, ⟨e0, e1, e2, e3, e4⟩, hd⟩ := hk j hjk
      have hlift : ∀ o v, o < 5 → xs[j * 5 + o]? = some v → (xs ++ [c0, c1, c2, c3, c4])[j * 5 + o]? = some v := fun o v ho h => by
        rw [List.getElem?_append_left (by omega)]; exact h
      refine ⟨d0, d1, d2, d3, d4, ⟨hlift 0 _ (by omega) e0, hlift 1 _ (by omega) e1, hlift 2 _ (by omega) e2, hlift 3 _ (by omega) e3, hlift 4 _ (by omega) e4⟩, ?_⟩
      rw [List.getElem_append_left hjk]
      refine hd.keep (fun b hb => ?_) (fun b hb => ⟨hb.1, by rw [hsz]; have := hb.2.1; omega, hb.2.2.1, hfar b hb.2.2.2 (by have := hb.2.1; omega)⟩)
      rw [qs b (by have := hb.1; omega), q b hb.2.1 (by have := hb.1; omega) hb.2.2.2]
    · have hj' : j = ks.length := by simp at hj; omega
      subst hj'
      have hget : ∀ o v, o < 5 → [c0, c1, c2, c3, c4][o]? = some v → (xs ++ [c0, c1, c2, c3, c4])[ks.length * 5 + o]? = some v := fun o v ho h => by
        rw [List.getElem?_append_right (by omega), hxl, Nat.add_sub_cancel_left]; exact h
      refine ⟨c0, c1, c2, c3, c4, ⟨hget 0 _ (by omega) rfl, hget 1 _ (by omega) rfl, hget 2 _ (by omega) rfl, hget 3 _ (by omega) rfl, hget 4 _ (by omega) rfl⟩, ?_⟩
      have : (ks ++ [t])[ks.length] = t := by simp
      rw [this]
      refine ht.keep (fun b hb => ?_) (fun b hb => ⟨hb.1, by rw [hsz]; have := hb.2.1; omega, hb.2.2.1, hfar b hb.2.2.2 hb.2.1⟩)
      rw [qs b (by have := hb.1; omega), q1 b hb.2.1 hb.2.2.2]
  · intro e
    have e : g = b := by simpa [Value.ownBlock] using e
    subst e
    rcases hat with h1 | h1
    · exact h0.apart g hb h1
    · have := hnl g hb; omega

theorem none_in (m : Nat) (y : K m) (S : Nat → Prop) (w : World) : TreeIn S w m (noneT m y) (.int .i64 6) (.int .i64 0) (.string ⟨#[]⟩) (.slice none 0 0) (.slice none 0 0) := by
  cases m with
  | zero => exact Empty.elim (show Empty from y)
  | succ m =>
    exact ⟨rfl, rfl, rfl, (by show (ByteArray.empty).size ≤ maxLen; simp [maxLen]), (by rfl : (Lit.int .i64 6).wf = true), (by rfl : (Lit.int .i64 0).wf = true), ⟨none, 0, rfl, (by show ([] : List ByteArray).length ≤ maxLen; simp), fun s h => (by cases h), fun h => absurd rfl h⟩, ⟨none, 0, rfl, (by show ([] : List (T m)).length ≤ maxLen; simp), fun h => absurd rfl h⟩⟩

theorem cells5 {w : World} {N : Nat} {c0 c1 c2 c3 c4 : Value} {ty : TypeId} (h : w.heap[N]? = some (.cells #[c0, c1, c2, c3, c4] ty (0, 0))) :
    (w.cell? ⟨N, 0, none⟩ = some c0 ∧ w.cell? ⟨N, 1, none⟩ = some c1 ∧ w.cell? ⟨N, 2, none⟩ = some c2 ∧ w.cell? ⟨N, 3, none⟩ = some c3 ∧ w.cell? ⟨N, 4, none⟩ = some c4) ∧
      w.frozen? ⟨N, 0, none⟩ = false ∧ w.frozen? ⟨N, 1, none⟩ = false ∧ w.frozen? ⟨N, 2, none⟩ = false ∧ w.frozen? ⟨N, 3, none⟩ = false ∧ w.frozen? ⟨N, 4, none⟩ = false := by
  refine ⟨⟨?_, ?_, ?_, ?_, ?_⟩, ?_, ?_, ?_, ?_, ?_⟩ <;> simp [World.cell?, World.frozen?, h]

theorem put5_block {w : World} {N : Nat} {c0 c1 c2 c3 c4 d0 d1 d2 d3 d4 : Value} {ty : TypeId} (h : w.heap[N]? = some (.cells #[c0, c1, c2, c3, c4] ty (0, 0))) : (put5 w N 0 d0 d1 d2 d3 d4).heap[N]? = some (.cells #[d0, d1, d2, d3, d4] ty (0, 0)) := by
  unfold put5
  simp [World.setCell, Array.getElem?_modify, h]

/-- What the kid is behind q names of the first form. -/
def KidIs (m n p : Nat) (la : List ByteArray) (ka : List (K n)) (kt : List (T p)) (s : ByteArray) (y : K m) (q : Nat) (tk : T m) : Prop :=
  ((∀ r (h : r < la.length), r < q → la[r] ≠ s) ∧ tk = noneT m y) ∨ ∃ r, ∃ (_ : r < q) (h1 : r < la.length) (h2 : r < ka.length) (h3 : r < kt.length), la[r] = s ∧ tk = widT m y n ka[r] p kt[r]

theorem KidIs.hit {m n p : Nat} {la : List ByteArray} {ka : List (K n)} {kt : List (T p)} {s : ByteArray} {y : K m} {q : Nat} (h1 : q < la.length) (h2 : q < ka.length) (h3 : q < kt.length) (e : la[q] = s) : KidIs m n p la ka kt s y (q + 1) (widT m y n ka[q] p kt[q]) :=
  .inr ⟨q, by omega, h1, h2, h3, e, rfl⟩

theorem KidIs.miss {m n p : Nat} {la : List ByteArray} {ka : List (K n)} {kt : List (T p)} {s : ByteArray} {y : K m} {q : Nat} {tk : T m} (h : KidIs m n p la ka kt s y q tk) (h1 : q < la.length) (e : la[q] ≠ s) : KidIs m n p la ka kt s y (q + 1) tk := by
  rcases h with ⟨h, rfl⟩ | ⟨r, hr, h1, h2, h3, e, rfl⟩
  · refine .inl ⟨fun r hr hq => ?_, rfl⟩
    by_cases hrq : r < q
    · exact h r hr hrq
    · have : r = q := by omega
      subst this; exact e
  · exact .inr ⟨r, by omega, h1, h2, h3, e, rfl⟩

end Go.Proofs.YtpalkdcgbbbmeaaGreatDoor
