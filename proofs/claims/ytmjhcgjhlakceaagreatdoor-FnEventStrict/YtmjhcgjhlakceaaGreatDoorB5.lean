/-
  Several texts in one, in their order.
-/
import Derived.Test.YtmjhcgjhlakceaaGreatDoorB1
import Derived.Deep.AppendLies

namespace Go.Proofs.YtmjhcgjhlakceaaGreatDoor
open Go.RowKit
def Row1 {α : Type} (S : Nat -> Prop) (w : World) (R : α -> Value -> Prop) (l : List α) (v : Value) : Prop :=
 ∃ (ao : Option Addr) (cap : Nat), v = .slice ao l.length cap /\ l.length <= maxLen /\
  (l ≠ [] -> ∃ b off, ao = some ⟨b, off, none⟩ /\ S b /\ ∀ i (h : i < l.length), ∃ c, w.cell? ⟨b, off + i, none⟩ = some c /\ R l[i] c)
theorem Row1.keep {α : Type} {S S' : Nat -> Prop} {w w' : World} {R R' : α -> Value -> Prop} {l : List α} {v : Value} (h : Row1 S w R l v) (hb : Same S w w') (hS : ∀ b, S b -> S' b)
  (hR : ∀ x c, x ∈ l -> R x c -> R' x c) : Row1 S' w' R' l v := by
 obtain ⟨ao, cap, hv, hl, hc⟩ := h
 refine ⟨ao, cap, hv, hl, fun hne => ?_⟩
 obtain ⟨b, off, ha, hB, hcell⟩ := hc hne
 refine ⟨b, off, ha, hS b hB, fun i hi => ?_⟩
 obtain ⟨c, h0, hr⟩ := hcell i hi
 exact ⟨c, (hb.cell (p := ⟨b, off + i, none⟩) hB).trans h0, hR _ _ (List.getElem_mem hi) hr⟩
theorem row1_of_owns {α : Type} {S : Nat -> Prop} {w : World} {base : Nat} {e : TypeId} {v : Value} {l : List α} {xs : List Value} {R : α -> Value -> Prop} (h : w.ownsRow base e 1 v l.length xs) (hl : l.length <= maxLen)
  (hS : ∀ g, v.ownBlock = some g -> S g) (hR : ∀ i (hi : i < l.length) (hx : i < xs.length), R l[i] xs[i]) : Row1 S w R l v := by
 have hlen : xs.length = l.length := by simpa using h.1
 rcases h.2 with ⟨rfl, h0⟩ | ⟨g, cap, cur, rfl, hbg, hg, hnc, hcm, hcs, htake⟩
 ·exact ⟨none, 0, by rw [h0], hl, fun hne => absurd (List.eq_nil_of_length_eq_zero h0) hne⟩
 ·refine ⟨_, _, rfl, hl, fun _ => ⟨g, 0, rfl, hS g rfl, fun i hi => ⟨xs[i]'(by omega), ?_, hR i hi (by omega)⟩⟩⟩
  have := h.cells (g := g) rfl i (xs[i]'(by omega)) (by simp)
  rw [Addr.add_lit] at this
  exact this
theorem r1_lt {w : World} {M : Nat} {e : TypeId} {z : Nat} {v : Value} {k : Nat} {xs : List Value} (h : w.ownsRow M e z v k xs) (b : Nat) (hb : v.ownBlock = some b) : M <= b /\ b < w.heap.size := by
 rcases h.2 with ⟨rfl, h0⟩ | ⟨g, cap, cur, rfl, hbg, hg, hnc, hcm, hcs, htake⟩
 ·cases hb
 ·have : g = b := by simpa [Value.ownBlock] using hb
  subst this
  exact ⟨hbg, (Array.getElem?_eq_some_iff.1 hg).1⟩
theorem r1_shape {w : World} {M : Nat} {e : TypeId} {z : Nat} {v : Value} {k : Nat} {xs : List Value} (h : w.ownsRow M e z v k xs) : ∃ a c, v = .slice a k c := by
 rcases h.2 with ⟨rfl, h0⟩ | ⟨g, cap, cur, rfl, hbg, hg, hnc, hcm, hcs, htake⟩
 ·exact ⟨_, _, by rw [h0]⟩
 ·exact ⟨_, _, rfl⟩
theorem r1_keep {w w' : World} {M : Nat} {e : TypeId} {z : Nat} {v : Value} {k : Nat} {xs : List Value} (h : w.ownsRow M e z v k xs) (hs : ∀ g, v.ownBlock = some g -> w'.heap[g]? = w.heap[g]?) : w'.ownsRow M e z v k xs := by
 obtain ⟨h1, h2⟩ := h
 refine ⟨h1, ?_⟩
 rcases h2 with h2 | ⟨g, cap, cur, rfl, hg, hh, r⟩
 ·exact .inl h2
 ·exact .inr ⟨g, cap, cur, rfl, hg, by rw [hs g rfl]; exact hh, r⟩
end Go.Proofs.YtmjhcgjhlakceaaGreatDoor

namespace Go.Proofs.YtmjhcgjhlakceaaGreatDoor
open Go.RowKit
def Far (M : Nat) (nv kv : Value) (H b : Nat) : Prop := M <= b /\ b < H /\ nv.ownBlock ≠ some b /\ kv.ownBlock ≠ some b
structure Many (R X n : Nat) (w wr : World) (so : Int) (ns : List ByteArray) (ks : List (T n)) (nv kv : Value) : Prop where
 near : Near R w wr
 box : wr.heap[X]? = some (.cells #[.int .i64 so, .int .i64 0, .string ByteArray.empty, nv, kv] 27 (0, 0))
 names : wr.ownsRow (X + 1) 9 1 nv ns.length (ns.map .string)
 short : ∀ s, s ∈ ns -> s.size <= 10000
 kids : ∃ xs, wr.ownsRow (X + 1) 27 5 kv ks.length xs /\ ∀ j (h : j < ks.length), ∃ c0 c1 c2 c3 c4, (xs[j * 5]? = some c0 /\ xs[j * 5 + 1]? = some c1 /\ xs[j * 5 + 2]? = some c2 /\ xs[j * 5 + 3]? = some c3 /\ xs[j * 5 + 4]? = some c4) /\ TreeIn (Far (X + 1) nv kv wr.heap.size) wr n ks[j] c0 c1 c2 c3 c4
 apart : ∀ b, nv.ownBlock = some b -> kv.ownBlock ≠ some b
theorem owns_lt {w : World} {M : Nat} {e : TypeId} {z : Nat} {v : Value} {k : Nat} {xs : List Value} (h : w.ownsRow M e z v k xs) (b : Nat) (hb : v.ownBlock = some b) : M <= b /\ b < w.heap.size := by
 rcases h.2 with ⟨rfl, h0⟩ | ⟨g, cap, cur, rfl, hbg, hg, hnc, hcm, hcs, htake⟩
 ·cases hb
 ·have : g = b := by simpa [Value.ownBlock] using hb
  subst this
  exact ⟨hbg, (Array.getElem?_eq_some_iff.1 hg).1⟩
theorem owns_shape {w : World} {M : Nat} {e : TypeId} {z : Nat} {v : Value} {k : Nat} {xs : List Value} (h : w.ownsRow M e z v k xs) : ∃ a c, v = .slice a k c := by
 rcases h.2 with ⟨rfl, h0⟩ | ⟨g, cap, cur, rfl, hbg, hg, hnc, hcm, hcs, htake⟩
 ·exact ⟨_, _, by rw [h0]⟩
 ·exact ⟨_, _, rfl⟩
theorem owns_keep {w w' : World} {M : Nat} {e : TypeId} {z : Nat} {v : Value} {k : Nat} {xs : List Value} (h : w.ownsRow M e z v k xs) (hs : ∀ g, v.ownBlock = some g -> w'.heap[g]? = w.heap[g]?) : w'.ownsRow M e z v k xs := by
 obtain ⟨h1, h2⟩ := h
 refine ⟨h1, ?_⟩
 rcases h2 with h2 | ⟨g, cap, cur, rfl, hg, hh, r⟩
 ·exact .inl h2
 ·exact .inr ⟨g, cap, cur, rfl, hg, by rw [hs g rfl]; exact hh, r⟩
theorem Many.lt {R X n : Nat} {w wr : World} {so : Int} {ns : List ByteArray} {ks : List (T n)} {nv kv : Value} (h : Many R X n w wr so ns ks nv kv) : X < wr.heap.size := (Array.getElem?_eq_some_iff.1 h.box).1
theorem Many.keep {R X n : Nat} {w wr W : World} {so : Int} {ns : List ByteArray} {ks : List (T n)} {nv kv : Value} (h : Many R X n w wr so ns ks nv kv) (hRX : R < X) (hn : Near R wr W) : Many R X n w W so ns ks nv kv := by
 have hX := h.lt
 have hs : ∀ b, X <= b -> b < wr.heap.size -> W.heap[b]? = wr.heap[b]? := fun b h1 h2 => hn.block b h2 (by omega)
 obtain ⟨xs, hx, hk⟩ := h.kids
 refine ⟨h.near.trans hn, by rw [hs X (Nat.le_refl _) hX]; exact h.box, owns_keep h.names fun g hg => ?_, h.short, ⟨xs, owns_keep hx fun g hg => ?_, fun j hj => ?_⟩, h.apart⟩
 ·have := owns_lt h.names g hg
  exact hs g (by omega) this.2
 ·have := owns_lt hx g hg
  exact hs g (by omega) this.2
 ·obtain ⟨c0, c1, c2, c3, c4, hc, ht⟩ := hk j hj
  refine ⟨c0, c1, c2, c3, c4, hc, ht.keep (fun b hb => hs b ?_ hb.2.1) (fun b hb => ⟨hb.1, Nat.lt_of_lt_of_le hb.2.1 hn.size, hb.2.2⟩)⟩
  have := hb.1
  omega
theorem Many.name {R X n : Nat} {w W Wa W2 : World} {so : Int} {ns : List ByteArray} {ks : List (T n)} {nv kv : Value} {x : ByteArray} {one : Obj} {g cap : Nat} (h : Many R X n w W so ns ks nv kv) (hw : w.heap.size <= X)
  (ha : Wa.heap = W.heap.push one) (ho : Wa.os = W.os /\ Wa.tape = W.tape /\ Wa.output = W.output) (hx : x.size <= 10000)
  (hown : W2.ownsRow (X + 1) 9 1 (.slice (some ⟨g, 0, none⟩) (ns.length + 1) cap) (ns.length + 1) (ns.map .string ++ [.string x])) (hgrow : Wa.grownBy W2 nv.ownBlock) (hat : nv.ownBlock = some g ∨ g = W.heap.size + 1) :
  Many R X n w (W2.setCell ⟨X, 3, none⟩ (.slice (some ⟨g, 0, none⟩) (ns.length + 1) cap)) so (ns ++ [x]) ks (.slice (some ⟨g, 0, none⟩) (ns.length + 1) cap) kv := by
 have hX := h.lt
 have hz : W2.heap.size ≥ W.heap.size + 1 := by have := hgrow.size; rw [ha] at this; simp at this; omega
 have hnl := owns_lt h.names
 have hgl := owns_lt hown g rfl
 have q : ∀ b, b < W.heap.size -> nv.ownBlock ≠ some b -> W2.heap[b]? = W.heap[b]? := fun b hb hne => by
  rw [hgrow.block b (by rw [ha]; simp; omega) (fun e => hne e.symm), ha, Array.getElem?_push_lt hb, Array.getElem?_eq_getElem hb]
 have qs : ∀ b, b ≠ X -> (W2.setCell ⟨X, 3, none⟩ (.slice (some ⟨g, 0, none⟩) (ns.length + 1) cap)).heap[b]? = W2.heap[b]? := fun b hb => Below.heap_setCell _ _ _ _ hb
 have hsz : (W2.setCell ⟨X, 3, none⟩ (.slice (some ⟨g, 0, none⟩) (ns.length + 1) cap)).heap.size = W2.heap.size := by simp
 have hXn : nv.ownBlock ≠ some X := fun e => by have := hnl X e; omega
 have hbox2 := (q X hX hXn).trans h.box
 obtain ⟨xs, hxs, hk⟩ := h.kids
 have hkl := owns_lt hxs
 refine ⟨⟨?_, ?_, ?_, by rw [hsz]; have := h.near.size; omega, fun b hb hne => ?_⟩, ?_, ?_, ?_, ⟨xs, owns_keep hxs fun g' hg' => ?_, fun j hj => ?_⟩, fun b hb => ?_⟩
 ·show W2.os = w.os
  rw [hgrow.os, ho.1]; exact h.near.os
 ·show W2.tape = w.tape
  rw [hgrow.tape, ho.2.1]; exact h.near.tape
 ·show W2.output = w.output
  rw [hgrow.output, ho.2.2]; exact h.near.output
 ·have hs := h.near.size
  rw [qs b (by omega), q b (by omega) (fun e => by have := hnl b e; omega)]
  exact h.near.block b hb hne
 ·simp [World.setCell, Array.getElem?_modify, hbox2]
 ·rw [List.length_append, List.length_singleton, List.map_append, List.map_singleton]
  exact owns_keep hown fun g' hg' => qs g' (by have := owns_lt hown g' hg'; omega)
 ·intro s hs
  rcases List.mem_append.1 hs with hs | hs
  ·exact h.short s hs
  ·rw [List.mem_singleton] at hs; subst hs; exact hx
 ·have := hkl g' hg'
  rw [qs g' (by omega), q g' this.2 (fun e => h.apart g' e hg')]
 ·obtain ⟨c0, c1, c2, c3, c4, hc, ht⟩ := hk j hj
  refine ⟨c0, c1, c2, c3, c4, hc, ht.keep (fun b hb => ?_) (fun b hb => ?_)⟩
  ·rw [qs b (by have := hb.1; omega), q b hb.2.1 hb.2.2.1]
  ·refine ⟨hb.1, by rw [hsz]; have := hb.2.1; omega, ?_, hb.2.2.2⟩
   intro e
   have e : g = b := by simpa [Value.ownBlock] using e
   rcases hat with h1 | h1
   ·exact hb.2.2.1 (by rw [h1, e])
   ·have := hb.2.1; omega
 ·have hb : g = b := by simpa [Value.ownBlock] using hb
  subst hb
  rcases hat with h1 | h1
  ·exact h.apart g h1
  ·intro e; have := hkl g e; omega
theorem Many.kid {R X n : Nat} {w W W1 Wa W2 : World} {so : Int} {ns : List ByteArray} {ks : List (T n)} {nv kv : Value} {t : T n} {c0 c1 c2 c3 c4 : Value} {one : Obj} {g cap : Nat} (h0 : Many R X n w W so ns ks nv kv) (hRX : R < X) (hw : w.heap.size <= X)
  (hn : Near R W W1) (ht : TreeIn (fun b => W.heap.size <= b /\ b < W1.heap.size) W1 n t c0 c1 c2 c3 c4)
  (ha : Wa.heap = W1.heap.push one) (ho : Wa.os = W1.os /\ Wa.tape = W1.tape /\ Wa.output = W1.output) {xs : List Value}
  (hxs : W.ownsRow (X + 1) 27 5 kv ks.length xs) (hk : ∀ j (h : j < ks.length), ∃ c0 c1 c2 c3 c4, (xs[j * 5]? = some c0 /\ xs[j * 5 + 1]? = some c1 /\ xs[j * 5 + 2]? = some c2 /\ xs[j * 5 + 3]? = some c3 /\ xs[j * 5 + 4]? = some c4) /\ TreeIn (Far (X + 1) nv kv W.heap.size) W n ks[j] c0 c1 c2 c3 c4)
  (hown : W2.ownsRow (X + 1) 27 5 (.slice (some ⟨g, 0, none⟩) (ks.length + 1) cap) (ks.length + 1) (xs ++ [c0, c1, c2, c3, c4])) (hgrow : Wa.grownBy W2 kv.ownBlock) (hat : kv.ownBlock = some g ∨ g = W1.heap.size + 1) :
  Many R X n w (W2.setCell ⟨X, 4, none⟩ (.slice (some ⟨g, 0, none⟩) (ks.length + 1) cap)) so ns (ks ++ [t]) nv (.slice (some ⟨g, 0, none⟩) (ks.length + 1) cap) := by
 have hX := h0.lt
 have hz1 := hn.size
 have hz : W2.heap.size ≥ W1.heap.size + 1 := by have := hgrow.size; rw [ha] at this; simp at this; omega
 have hnl := owns_lt h0.names
 have hkl := owns_lt hxs
 have hgl := owns_lt hown g rfl
 have q1 : ∀ b, b < W1.heap.size -> kv.ownBlock ≠ some b -> W2.heap[b]? = W1.heap[b]? := fun b hb hne => by
  rw [hgrow.block b (by rw [ha]; simp; omega) (fun e => hne e.symm), ha, Array.getElem?_push_lt hb, Array.getElem?_eq_getElem hb]
 have q : ∀ b, b < W.heap.size -> b ≠ R -> kv.ownBlock ≠ some b -> W2.heap[b]? = W.heap[b]? := fun b hb hR hne => by
  rw [q1 b (by omega) hne, hn.block b hb hR]
 have qs : ∀ b, b ≠ X -> (W2.setCell ⟨X, 4, none⟩ (.slice (some ⟨g, 0, none⟩) (ks.length + 1) cap)).heap[b]? = W2.heap[b]? := fun b hb => Below.heap_setCell _ _ _ _ hb
 have hsz : (W2.setCell ⟨X, 4, none⟩ (.slice (some ⟨g, 0, none⟩) (ks.length + 1) cap)).heap.size = W2.heap.size := by simp
 have hXn : kv.ownBlock ≠ some X := fun e => by have := hkl X e; omega
 have hbox2 := (q X hX (by omega) hXn).trans h0.box
 have hxl : xs.length = ks.length * 5 := hxs.1
 refine ⟨⟨?_, ?_, ?_, by rw [hsz]; have := h0.near.size; omega, fun b hb hne => ?_⟩, ?_, owns_keep h0.names fun g' hg' => ?_, h0.short, ⟨xs ++ [c0, c1, c2, c3, c4], ?_, fun j hj => ?_⟩, fun b hb => ?_⟩
 ·show W2.os = w.os
  rw [hgrow.os, ho.1]; exact hn.os.trans h0.near.os
 ·show W2.tape = w.tape
  rw [hgrow.tape, ho.2.1]; exact hn.tape.trans h0.near.tape
 ·show W2.output = w.output
  rw [hgrow.output, ho.2.2]; exact hn.output.trans h0.near.output
 ·have hs := h0.near.size
  rw [qs b (by omega), q b (by omega) hne (fun e => by have := hkl b e; omega)]
  exact h0.near.block b hb hne
 ·simp [World.setCell, Array.getElem?_modify, hbox2]
 ·have := hnl g' hg'
  rw [qs g' (by omega), q g' this.2 (by omega) (h0.apart g' hg')]
 ·rw [List.length_append, List.length_singleton]
  exact owns_keep hown fun g' hg' => qs g' (by have := owns_lt hown g' hg'; omega)
 ·have hfar : ∀ b, kv.ownBlock ≠ some b -> b < W1.heap.size -> (Value.slice (some ⟨g, 0, none⟩) (ks.length + 1) cap).ownBlock ≠ some b := by
   intro b h1 h2 e
   have e : g = b := by simpa [Value.ownBlock] using e
   rcases hat with h3 | h3
   ·exact h1 (by rw [h3, e])
   ·omega
  by_cases hjk : j < ks.length
  ·obtain ⟨d0, d1, d2, d3, d4, ⟨e0, e1, e2, e3, e4⟩, hd⟩ := hk j hjk
   have hlift : ∀ o v, o < 5 -> xs[j * 5 + o]? = some v -> (xs ++ [c0, c1, c2, c3, c4])[j * 5 + o]? = some v := fun o v ho h => by
    rw [List.getElem?_append_left (by omega)]; exact h
   refine ⟨d0, d1, d2, d3, d4, ⟨hlift 0 _ (by omega) e0, hlift 1 _ (by omega) e1, hlift 2 _ (by omega) e2, hlift 3 _ (by omega) e3, hlift 4 _ (by omega) e4⟩, ?_⟩
   rw [List.getElem_append_left hjk]
   refine hd.keep (fun b hb => ?_) (fun b hb => ⟨hb.1, by rw [hsz]; have := hb.2.1; omega, hb.2.2.1, hfar b hb.2.2.2 (by have := hb.2.1; omega)⟩)
   rw [qs b (by have := hb.1; omega), q b hb.2.1 (by have := hb.1; omega) hb.2.2.2]
  ·have hj' : j = ks.length := by simp at hj; omega
   subst hj'
   have hget : ∀ o v, o < 5 -> [c0, c1, c2, c3, c4][o]? = some v -> (xs ++ [c0, c1, c2, c3, c4])[ks.length * 5 + o]? = some v := fun o v ho h => by
    rw [List.getElem?_append_right (by omega), hxl, Nat.add_sub_cancel_left]; exact h
   refine ⟨c0, c1, c2, c3, c4, ⟨hget 0 _ (by omega) rfl, hget 1 _ (by omega) rfl, hget 2 _ (by omega) rfl, hget 3 _ (by omega) rfl, hget 4 _ (by omega) rfl⟩, ?_⟩
   have : (ks ++ [t])[ks.length] = t := by simp
   rw [this]
   refine ht.keep (fun b hb => ?_) (fun b hb => ⟨by omega, by rw [hsz]; omega, fun e => by have := hnl b e; omega, hfar b (fun e => by have := hkl b e; omega) hb.2⟩)
   rw [qs b (by omega), q1 b hb.2 (fun e => by have := hkl b e; omega)]
 ·intro e
  have e : g = b := by simpa [Value.ownBlock] using e
  subst e
  rcases hat with h1 | h1
  ·exact h0.apart g hb h1
  ·have := hnl g hb; omega
end Go.Proofs.YtmjhcgjhlakceaaGreatDoor

namespace Go.Proofs.YtmjhcgjhlakceaaGreatDoor
open Go.RowKit
theorem strs_of_owns {S : Nat -> Prop} {w : World} {M : Nat} {e : TypeId} {v : Value} {l : List ByteArray} (h : w.ownsRow M e 1 v l.length (l.map .string)) (hl : l.length <= 20000) (hs : ∀ s, s ∈ l -> s.size <= 10000) (hS : ∀ g, v.ownBlock = some g -> S g) : StrsIn S w l v := by
 have hm : ∀ s, s ∈ l -> s.size <= maxLen := fun s h => by have := hs s h; unfold maxLen; omega
 have hlm : l.length <= maxLen := by unfold maxLen; omega
 rcases id h.2 with ⟨rfl, h0⟩ | ⟨g, cap, cur, rfl, hbg, hg, hnc, hcm, hcs, htake⟩
 ·exact ⟨none, 0, by rw [h0], hlm, hm, fun hne => absurd (List.eq_nil_of_length_eq_zero h0) hne⟩
 ·refine ⟨_, _, rfl, hlm, hm, fun _ => ⟨g, 0, rfl, hS g rfl, fun i hi => ?_⟩⟩
  have := h.cells (g := g) rfl i (.string l[i]) (by simp [hi])
  rw [Addr.add_lit] at this
  simpa using this
theorem row_of_owns {S : Nat -> Prop} {n : Nat} {w : World} {M : Nat} {e : TypeId} {v : Value} {l : List (T n)} {xs : List Value} (h : w.ownsRow M e 5 v l.length xs) (hl : l.length <= 20000) (hS : ∀ g, v.ownBlock = some g -> S g)
  (hk : ∀ j (h : j < l.length), ∃ c0 c1 c2 c3 c4, (xs[j * 5]? = some c0 /\ xs[j * 5 + 1]? = some c1 /\ xs[j * 5 + 2]? = some c2 /\ xs[j * 5 + 3]? = some c3 /\ xs[j * 5 + 4]? = some c4) /\ TreeIn S w n l[j] c0 c1 c2 c3 c4) : RowIn S w (TreeIn S w n) l v := by
 have hlm : l.length <= maxLen := by unfold maxLen; omega
 rcases id h.2 with ⟨rfl, h0⟩ | ⟨g, cap, cur, rfl, hbg, hg, hnc, hcm, hcs, htake⟩
 ·exact ⟨none, 0, by rw [h0], hlm, fun hne => absurd (List.eq_nil_of_length_eq_zero h0) hne⟩
 ·refine ⟨_, _, rfl, hlm, fun _ => ⟨g, 0, rfl, hS g rfl, fun i hi => ?_⟩⟩
  obtain ⟨c0, c1, c2, c3, c4, ⟨e0, e1, e2, e3, e4⟩, ht⟩ := hk i hi
  have hc : ∀ j u, xs[j]? = some u -> w.cell? ⟨g, 0 + j, none⟩ = some u := fun j u hu => by
   have := h.cells (g := g) rfl j u hu
   rwa [Addr.add_lit] at this
  exact ⟨c0, c1, c2, c3, c4, hc _ _ e0, hc _ _ e1, hc _ _ e2, hc _ _ e3, hc _ _ e4, ht⟩
end Go.Proofs.YtmjhcgjhlakceaaGreatDoor
