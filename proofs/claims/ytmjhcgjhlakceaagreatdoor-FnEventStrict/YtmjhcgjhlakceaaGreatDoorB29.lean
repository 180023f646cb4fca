/-
  Several texts in one, in their order.
-/
import Derived.Test.YtmjhcgjhlakceaaGreatDoorB13
import Derived.Test.YtmjhcgjhlakceaaGreatDoorB15
import Derived.Test.YtmjhcgjhlakceaaGreatDoorB6
import Derived.Test.YtmjhcgjhlakceaaGreatDoorB5
import Derived.Lib.AppendIntMem
import Derived.Lib.Hide
import Derived.WalkSmall
import Derived.LoopTactic

namespace Go.Proofs.YtmjhcgjhlakceaaGreatDoor
open Go.RowKit
structure RTree (R n : Nat) (w wr : World) (ns : List ByteArray) (ks : List (T n)) (nv kv : Value) : Prop where
 near : Near R w wr
 names : wr.ownsRow w.heap.size 9 1 nv ns.length (ns.map .string)
 short : ∀ s, s ∈ ns -> s.size <= 10000
 kids : ∃ xs, wr.ownsRow w.heap.size 110 1 kv ks.length xs /\ ∀ j (h : j < ks.length), ∃ c, xs[j]? = some c /\ InnerT (Fr w.heap.size nv kv wr.heap.size) wr n ks[j] c
 apart : ∀ b, nv.ownBlock = some b -> kv.ownBlock ≠ some b
theorem RTree.start (R n : Nat) (w wr : World) (h : Near R w wr) : RTree R n w wr [] [] (.slice none 0 0) (.slice none 0 0) :=
 ⟨h, World.ownsRow_nil _ _ _ _, fun _ h => (by cases h), ⟨[], World.ownsRow_nil _ _ _ _, fun j h => absurd h (Nat.not_lt_zero _)⟩, fun b hb => by cases hb⟩
theorem RTree.keep {R n : Nat} {w wr W : World} {ns : List ByteArray} {ks : List (T n)} {nv kv : Value} (h : RTree R n w wr ns ks nv kv) (hR : R < w.heap.size) (hn : Near R wr W) : RTree R n w W ns ks nv kv := by
 have hs : ∀ b, w.heap.size <= b -> b < wr.heap.size -> W.heap[b]? = wr.heap[b]? := fun b h1 h2 => hn.block b h2 (by omega)
 obtain ⟨xs, hx, hk⟩ := h.kids
 refine ⟨h.near.trans hn, r1_keep h.names fun g hg => ?_, h.short, ⟨xs, r1_keep hx fun g hg => ?_, fun j hj => ?_⟩, h.apart⟩
 ·have := r1_lt h.names g hg
  exact hs g this.1 this.2
 ·have := r1_lt hx g hg
  exact hs g this.1 this.2
 ·obtain ⟨c, hc, ht⟩ := hk j hj
  exact ⟨c, hc, ht.keep (fun b hb => hs b hb.1 hb.2.1) (fun b hb => ⟨hb.1, Nat.lt_of_lt_of_le hb.2.1 hn.size, hb.2.2⟩)⟩
theorem RTree.name {R n : Nat} {w W Wa W2 : World} {ns : List ByteArray} {ks : List (T n)} {nv kv : Value} {x : ByteArray} {one : Obj} {g cap : Nat} (h : RTree R n w W ns ks nv kv)
  (ha : Wa.heap = W.heap.push one) (ho : Wa.os = W.os /\ Wa.tape = W.tape /\ Wa.output = W.output) (hx : x.size <= 10000)
  (hown : W2.ownsRow w.heap.size 9 1 (.slice (some ⟨g, 0, none⟩) (ns.length + 1) cap) (ns.length + 1) (ns.map .string ++ [.string x])) (hgrow : Wa.grownBy W2 nv.ownBlock) (hat : nv.ownBlock = some g ∨ g = W.heap.size + 1) :
  RTree R n w W2 (ns ++ [x]) ks (.slice (some ⟨g, 0, none⟩) (ns.length + 1) cap) kv /\ (∀ b, b < w.heap.size -> W2.heap[b]? = W.heap[b]?) /\ W.heap.size <= W2.heap.size := by
 have hz : W2.heap.size ≥ W.heap.size + 1 := by have := hgrow.size; rw [ha] at this; simp at this; omega
 have hnl := r1_lt h.names
 have hgl := r1_lt hown g rfl
 have hws := h.near.size
 have q : ∀ b, b < W.heap.size -> nv.ownBlock ≠ some b -> W2.heap[b]? = W.heap[b]? := fun b hb hne => by
  rw [hgrow.block b (by rw [ha]; simp; omega) (fun e => hne e.symm), ha, Array.getElem?_push_lt hb, Array.getElem?_eq_getElem hb]
 obtain ⟨xs, hxs, hk⟩ := h.kids
 have hkl := r1_lt hxs
 refine ⟨⟨⟨?_, ?_, ?_, by omega, fun b hb hne => ?_⟩, ?_, ?_, ⟨xs, r1_keep hxs fun g' hg' => ?_, fun j hj => ?_⟩, fun b hb => ?_⟩, fun b hb => q b (by omega) (fun e => by have := hnl b e; omega), by omega⟩
 ·rw [hgrow.os, ho.1]; exact h.near.os
 ·rw [hgrow.tape, ho.2.1]; exact h.near.tape
 ·rw [hgrow.output, ho.2.2]; exact h.near.output
 ·rw [q b (by omega) (fun e => by have := hnl b e; omega)]
  exact h.near.block b hb hne
 ·rw [List.length_append, List.length_singleton, List.map_append, List.map_singleton]
  exact hown
 ·intro s hs
  rcases List.mem_append.1 hs with hs | hs
  ·exact h.short s hs
  ·rw [List.mem_singleton] at hs; subst hs; exact hx
 ·have := hkl g' hg'
  exact q g' this.2 (fun e => h.apart g' e hg')
 ·obtain ⟨c, hc, ht⟩ := hk j hj
  refine ⟨c, hc, ht.keep (fun b hb => ?_) (fun b hb => ?_)⟩
  ·exact q b hb.2.1 hb.2.2.1
  ·refine ⟨hb.1, by have := hb.2.1; omega, ?_, hb.2.2.2⟩
   intro e
   have e : g = b := by simpa [Value.ownBlock] using e
   rcases hat with h1 | h1
   ·exact hb.2.2.1 (by rw [h1, e])
   ·have := hb.2.1; omega
 ·have hb : g = b := by simpa [Value.ownBlock] using hb
  subst hb
  rcases hat with h1 | h1
  ·exact h.apart g h1
  ·intro e; have := hkl g e; omega
theorem RTree.kid {R n : Nat} {w W W1 Wa W2 : World} {ns : List ByteArray} {ks : List (T n)} {nv kv : Value} {t : T n} {c : Value} {one : Obj} {g cap : Nat} (h0 : RTree R n w W ns ks nv kv) (hR : R < w.heap.size)
  (hn : Near R W W1) (ht : InnerT (fun b => W.heap.size <= b /\ b < W1.heap.size) W1 n t c)
  (ha : Wa.heap = W1.heap.push one) (ho : Wa.os = W1.os /\ Wa.tape = W1.tape /\ Wa.output = W1.output) {xs : List Value}
  (hxs : W.ownsRow w.heap.size 110 1 kv ks.length xs) (hk : ∀ j (h : j < ks.length), ∃ c, xs[j]? = some c /\ InnerT (Fr w.heap.size nv kv W.heap.size) W n ks[j] c)
  (hown : W2.ownsRow w.heap.size 110 1 (.slice (some ⟨g, 0, none⟩) (ks.length + 1) cap) (ks.length + 1) (xs ++ [c])) (hgrow : Wa.grownBy W2 kv.ownBlock) (hat : kv.ownBlock = some g ∨ g = W1.heap.size + 1) :
  RTree R n w W2 ns (ks ++ [t]) nv (.slice (some ⟨g, 0, none⟩) (ks.length + 1) cap) /\ (∀ b, b < w.heap.size -> W2.heap[b]? = W1.heap[b]?) /\ W1.heap.size <= W2.heap.size := by
 have hz1 := hn.size
 have hws := h0.near.size
 have hz : W2.heap.size ≥ W1.heap.size + 1 := by have := hgrow.size; rw [ha] at this; simp at this; omega
 have hnl := r1_lt h0.names
 have hkl := r1_lt hxs
 have hgl := r1_lt hown g rfl
 have q1 : ∀ b, b < W1.heap.size -> kv.ownBlock ≠ some b -> W2.heap[b]? = W1.heap[b]? := fun b hb hne => by
  rw [hgrow.block b (by rw [ha]; simp; omega) (fun e => hne e.symm), ha, Array.getElem?_push_lt hb, Array.getElem?_eq_getElem hb]
 have q : ∀ b, b < W.heap.size -> b ≠ R -> kv.ownBlock ≠ some b -> W2.heap[b]? = W.heap[b]? := fun b hb hR hne => by
  rw [q1 b (by omega) hne, hn.block b hb hR]
 have hxl : xs.length = ks.length * 1 := hxs.1
 refine ⟨⟨⟨?_, ?_, ?_, by omega, fun b hb hne => ?_⟩, r1_keep h0.names fun g' hg' => ?_, h0.short, ⟨xs ++ [c], ?_, fun j hj => ?_⟩, fun b hb => ?_⟩, fun b hb => q1 b (by omega) (fun e => by have := hkl b e; omega), by omega⟩
 ·rw [hgrow.os, ho.1]; exact hn.os.trans h0.near.os
 ·rw [hgrow.tape, ho.2.1]; exact hn.tape.trans h0.near.tape
 ·rw [hgrow.output, ho.2.2]; exact hn.output.trans h0.near.output
 ·rw [q b (by omega) hne (fun e => by have := hkl b e; omega)]
  exact h0.near.block b hb hne
 ·have := hnl g' hg'
  exact q g' this.2 (by omega) (h0.apart g' hg')
 ·rw [List.length_append, List.length_singleton]
  exact hown
 ·have hfar : ∀ b, kv.ownBlock ≠ some b -> b < W1.heap.size -> (Value.slice (some ⟨g, 0, none⟩) (ks.length + 1) cap).ownBlock ≠ some b := by
   intro b h1 h2 e
   have e : g = b := by simpa [Value.ownBlock] using e
   rcases hat with h3 | h3
   ·exact h1 (by rw [h3, e])
   ·omega
  by_cases hjk : j < ks.length
  ·obtain ⟨d, e0, hd⟩ := hk j hjk
   refine ⟨d, by rw [List.getElem?_append_left (by omega)]; exact e0, ?_⟩
   rw [List.getElem_append_left hjk]
   refine hd.keep (fun b hb => ?_) (fun b hb => ⟨hb.1, by have := hb.2.1; omega, hb.2.2.1, hfar b hb.2.2.2 (by have := hb.2.1; omega)⟩)
   exact q b hb.2.1 (by have := hb.1; omega) hb.2.2.2
  ·have hj' : j = ks.length := by simp at hj; omega
   subst hj'
   refine ⟨c, by rw [List.getElem?_append_right (by omega)]; simp [hxl], ?_⟩
   have : (ks ++ [t])[ks.length] = t := by simp
   rw [this]
   refine ht.keep (fun b hb => ?_) (fun b hb => ⟨by omega, by omega, fun e => by have := hnl b e; omega, hfar b (fun e => by have := hkl b e; omega) hb.2⟩)
   exact q1 b hb.2 (fun e => by have := hkl b e; omega)
 ·intro e
  have e : g = b := by simpa [Value.ownBlock] using e
  subst e
  rcases hat with h1 | h1
  ·exact h0.apart g hb h1
  ·have := hnl g hb; omega
theorem RTree.rows {R n : Nat} {w wr : World} {ns : List ByteArray} {ks : List (T n)} {nv kv : Value} (h : RTree R n w wr ns ks nv kv) (hl : ns.length <= 20000) (hk : ks.length <= 20000) :
  StrsIn (fun b => w.heap.size <= b /\ b < wr.heap.size) wr ns nv /\ Row1 (fun b => w.heap.size <= b /\ b < wr.heap.size) wr (InnerT (fun b => w.heap.size <= b /\ b < wr.heap.size) wr n) ks kv := by
 obtain ⟨xs, hxs, hkk⟩ := h.kids
 refine ⟨strs_of_ownsK h.names hl h.short fun g hg => r1_lt h.names g hg, row1_of_owns hxs (by unfold maxLen; omega) (fun g hg => r1_lt hxs g hg) fun j hj hx => ?_⟩
 obtain ⟨c, hd, hdt⟩ := hkk j hj
 have : xs[j] = c := by rw [List.getElem?_eq_getElem hx] at hd; exact Option.some.inj hd
 rw [this]
 exact hdt.keep (fun _ _ => rfl) (fun b hb => ⟨hb.1, hb.2.1⟩)
def LaidU (B : Nat) (w : World) : Prop :=
 Lib.TabBelow Tryz.prog B w "internal/strconv.uint64pow10" .u64 Lib.pow10Tab /\ (∃ tp p, ∀ w', Below B w w' -> w'.var? Tryz.prog "strconv.ErrSyntax" = some #[.iface tp p]) /\
  (∃ tp p, ∀ w', Below B w w' -> w'.var? Tryz.prog "strconv.ErrRange" = some #[.iface tp p])
theorem LaidU.step {B : Nat} {w w' : World} (h : LaidU B w) (hb : Below B w w') : LaidU B w' := by
 obtain ⟨h1, ⟨t1, p1, h2⟩, t2, p2, h3⟩ := h
 exact ⟨fun w2 k => h1 w2 (hb.trans k), ⟨t1, p1, fun w2 k => h2 w2 (hb.trans k)⟩, t2, p2, fun w2 k => h3 w2 (hb.trans k)⟩
theorem LaidU.near {B R : Nat} {w w' : World} (h : LaidU B w) (hn : Near R w w') (hB : B <= R) (hR : R < w.heap.size) : LaidU B w' := h.step (hn.below hB (by omega))
def methV (R : Nat) (c : UInt8) : Value :=
 if digC c = true ∨ c = 45 then .func (.func 68) #[.pointer (some ⟨R, 0, none⟩)] #[]
 else if c = 34 then .func (.func 71) #[.pointer (some ⟨R, 0, none⟩)] #[]
 else if c = 121 ∨ c = 110 then .func (.func 69) #[.pointer (some ⟨R, 0, none⟩)] #[]
 else if c = 91 then .func (.func 72) #[.pointer (some ⟨R, 0, none⟩)] #[]
 else if c = 123 then .func (.func 73) #[.pointer (some ⟨R, 0, none⟩)] #[]
 else if c = 126 ∨ c = 63 then .func (.func 70) #[.pointer (some ⟨R, 0, none⟩)] #[]
 else .nilFunc
def Meth (w : World) (R : Nat) : Prop := ∀ c : UInt8, w.cell? ⟨R, 2 + c.toNat, none⟩ = some (methV R c)
theorem Meth.scan {w w' : World} {R q : Nat} (h : Meth w R) (hs : Scan R w w' q) : Meth w' R := fun c => (hs.cells (2 + c.toNat) (by omega)).trans (h c)
def TRPost (R : Nat) (s : ByteArray) (i m : Nat) (w : World) (e : Ending) (w' : World) : Prop :=
 (∃ (t : T m) (q : Nat) (v : Value), parseU m (s.data.toList.drop i) = some (t, s.data.toList.drop q) /\ i < q /\ q <= s.size /\ e = .returned v /\ InnerT (fun b => w.heap.size <= b /\ b < w'.heap.size) w' m t v /\ Scan R w w' q) ∨
  (parseU m (s.data.toList.drop i) = none /\ e = .panicked refusal /\ Near R w w')
def TRSaid (m : Nat) : Prop := ∀ (B R : Nat) (s : ByteArray) (i : Nat) (w : World), LaidU B w -> B <= R -> Sc w R s i -> Meth w R -> i <= s.size -> s.size <= 10000 -> s.size - i < m ->
 Calls Tryz.prog 105 #[.pointer (some ⟨R, 0, none⟩)] w (TRPost R s i m w)
end Go.Proofs.YtmjhcgjhlakceaaGreatDoor

namespace Go.Proofs.YtmjhcgjhlakceaaGreatDoor
open Go.RowKit
def formR {α : Type} (f : List UInt8 -> Option (α × List UInt8)) (k : Nat) (ns : List ByteArray) (acc : List α) (s1 : List UInt8) : Option (List ByteArray × List α × List UInt8) :=
 match untilP 58 s1 with
 | none => none
 | some (w, s2) =>
  match f (s2.drop 1) with
  | none => none
  | some (t, r) => formQ f k (ns ++ [bs w]) (acc ++ [t]) r
theorem formQ_end {α : Type} {f : List UInt8 -> Option (α × List UInt8)} {k : Nat} {ns : List ByteArray} {acc : List α} {s r : List UInt8} (h : eatP [125] s = some r) : formQ f (k + 1) ns acc s = some (ns, acc, r) := by
 rw [formQ, h]
theorem formQ_first {α : Type} {f : List UInt8 -> Option (α × List UInt8)} {k : Nat} {ns : List ByteArray} {acc : List α} {s : List UInt8} (h : eatP [125] s = none) (h0 : ns.length = 0) : formQ f (k + 1) ns acc s = formR f k ns acc s := by
 rw [formQ, h]; simp only [h0, if_true]; rfl
theorem formQ_next {α : Type} {f : List UInt8 -> Option (α × List UInt8)} {k : Nat} {ns : List ByteArray} {acc : List α} {s s1 : List UInt8} (h : eatP [125] s = none) (h0 : ¬ ns.length = 0) (h1 : eatP [44] s = some s1) : formQ f (k + 1) ns acc s = formR f k ns acc s1 := by
 rw [formQ, h]; simp only [if_neg h0, h1]; rfl
theorem formQ_stop {α : Type} {f : List UInt8 -> Option (α × List UInt8)} {k : Nat} {ns : List ByteArray} {acc : List α} {s : List UInt8} (h : eatP [125] s = none) (h0 : ¬ ns.length = 0) (h1 : eatP [44] s = none) : formQ f (k + 1) ns acc s = none := by
 rw [formQ, h]; simp only [if_neg h0, h1]
theorem formR_no {α : Type} {f : List UInt8 -> Option (α × List UInt8)} {k : Nat} {ns : List ByteArray} {acc : List α} {s : List UInt8} (h : untilP 58 s = none) : formR f k ns acc s = none := by
 rw [formR, h]
theorem formR_bad {α : Type} {f : List UInt8 -> Option (α × List UInt8)} {k : Nat} {ns : List ByteArray} {acc : List α} {s w s2 : List UInt8} (h : untilP 58 s = some (w, s2)) (h1 : f (s2.drop 1) = none) : formR f k ns acc s = none := by
 rw [formR, h]; simp only [h1]
theorem formR_yes {α : Type} {f : List UInt8 -> Option (α × List UInt8)} {k : Nat} {ns : List ByteArray} {acc : List α} {s w s2 r : List UInt8} {t : α} (h : untilP 58 s = some (w, s2)) (h1 : f (s2.drop 1) = some (t, r)) : formR f k ns acc s = formQ f k (ns ++ [bs w]) (acc ++ [t]) r := by
 rw [formR, h]; simp only [h1]
theorem Scan.same {R : Nat} {a b c : World} {q : Nat} (h : Scan R a b q) (hn : Near R a c) (hb : c.heap[R]? = b.heap[R]?) : Scan R a c q :=
 ⟨hn, fun o ho => (World.cell?_of_block (w := b) (w' := c) (a := ⟨R, o, none⟩) hb).trans (h.cells o ho), (World.cell?_of_block (w := b) (w' := c) (a := ⟨R, 1, none⟩) hb).trans h.at1, fun o => by
  have := h.fz o
  simp only [World.frozen?, hb] at this ⊢
  exact this⟩
def atS (w : World) (R : Nat) : Nat := match w.cell? ⟨R, 1, none⟩ with | some (.int _ n) => n.toNat | _ => 0
theorem Scan.atS {R : Nat} {a b : World} {q : Nat} (h : Scan R a b q) : atS b R = q := by
 unfold Go.Proofs.YtmjhcgjhlakceaaGreatDoor.atS; rw [h.at1]; simp
theorem Tryz.info_strQ : (Tryz.prog.info? 9).map (fun i => (i.zero, i.size, i.bytes)) = some (some (.string ⟨#[]⟩), 1, 16) := by kernel_rfl
end Go.Proofs.YtmjhcgjhlakceaaGreatDoor

namespace Go.Proofs.YtmjhcgjhlakceaaGreatDoor
open Go.RowKit
theorem pu_num {m : Nat} {l : List UInt8} (h : digC (l.headD 0) = true ∨ l.headD 0 = 45) : (numOf (numW l) = none -> parseU (m + 1) l = none) /\ (∀ v, numOf (numW l) = some v -> parseU (m + 1) l = some ((⟨1, v, ByteArray.empty, [], []⟩ : Nd (T m)), l.drop (numW l).length)) := by
 refine ⟨fun h1 => ?_, fun v h1 => ?_⟩ <;> rw [parseU, if_pos h, h1] <;> rfl
theorem pu_quoted {m : Nat} {l : List UInt8} (h : l.headD 0 = 34) : (untilP 34 (l.drop 1) = none -> parseU (m + 1) l = none) /\ (∀ x r, untilP 34 (l.drop 1) = some (x, r) -> parseU (m + 1) l = some ((⟨2, 0, bs x, [], []⟩ : Nd (T m)), r.drop 1)) := by
 refine ⟨fun h1 => ?_, fun x r h1 => ?_⟩ <;> rw [parseU, if_neg (by rw [h]; decide), if_pos h, h1] <;> rfl
theorem pu_yes {m : Nat} {l r : List UInt8} (h : l.headD 0 = 121 ∨ l.headD 0 = 110) (h1 : eatP [121, 101, 115] l = some r) : parseU (m + 1) l = some ((⟨3, 1, ByteArray.empty, [], []⟩ : Nd (T m)), r) := by
 rw [parseU, if_neg (by rcases h with h | h <;> rw [h] <;> decide), if_neg (by rcases h with h | h <;> rw [h] <;> decide), if_pos h, h1]; rfl
theorem pu_no {m : Nat} {l : List UInt8} (h : l.headD 0 = 121 ∨ l.headD 0 = 110) (h1 : eatP [121, 101, 115] l = none) : (eatP [110, 111] l = none -> parseU (m + 1) l = none) /\ (∀ r, eatP [110, 111] l = some r -> parseU (m + 1) l = some ((⟨3, 0, ByteArray.empty, [], []⟩ : Nd (T m)), r)) := by
 refine ⟨fun h2 => ?_, fun r h2 => ?_⟩ <;> rw [parseU, if_neg (by rcases h with h | h <;> rw [h] <;> decide), if_neg (by rcases h with h | h <;> rw [h] <;> decide), if_pos h, h1] <;> simp only [h2] <;> rfl
theorem pu_list {m : Nat} {l : List UInt8} (h : l.headD 0 = 91) : (listQ (parseU m) ((l.drop 1).length + 1) [] (l.drop 1) = none -> parseU (m + 1) l = none) /\ (∀ ks r, listQ (parseU m) ((l.drop 1).length + 1) [] (l.drop 1) = some (ks, r) -> parseU (m + 1) l = some ((⟨4, 0, ByteArray.empty, [], ks⟩ : Nd (T m)), r)) := by
 refine ⟨fun h1 => ?_, fun ks r h1 => ?_⟩ <;> rw [parseU, if_neg (by rw [h]; decide), if_neg (by rw [h]; decide), if_neg (by rw [h]; decide), if_pos h, h1] <;> rfl
theorem pu_form {m : Nat} {l : List UInt8} (h : l.headD 0 = 123) : (formQ (parseU m) ((l.drop 1).length + 1) [] [] (l.drop 1) = none -> parseU (m + 1) l = none) /\ (∀ ns ks r, formQ (parseU m) ((l.drop 1).length + 1) [] [] (l.drop 1) = some (ns, ks, r) -> parseU (m + 1) l = some ((⟨5, 0, ByteArray.empty, ns, ks⟩ : Nd (T m)), r)) := by
 refine ⟨fun h1 => ?_, fun ns ks r h1 => ?_⟩ <;> rw [parseU, if_neg (by rw [h]; decide), if_neg (by rw [h]; decide), if_neg (by rw [h]; decide), if_neg (by rw [h]; decide), if_pos h, h1] <;> rfl
theorem pu_none {m : Nat} {l : List UInt8} (h : l.headD 0 = 126) : parseU (m + 1) l = some ((⟨6, 0, ByteArray.empty, [], []⟩ : Nd (T m)), l.drop 1) := by
 rw [parseU, if_neg (by rw [h]; decide), if_neg (by rw [h]; decide), if_neg (by rw [h]; decide), if_neg (by rw [h]; decide), if_neg (by rw [h]; decide), if_pos h]; rfl
theorem pu_some {m : Nat} {l : List UInt8} (h : l.headD 0 = 63) : (parseU m (l.drop 1) = none -> parseU (m + 1) l = none) /\ (∀ t r, parseU m (l.drop 1) = some (t, r) -> parseU (m + 1) l = some ((⟨6, 0, ByteArray.empty, [], [t]⟩ : Nd (T m)), r)) := by
 refine ⟨fun h1 => ?_, fun t r h1 => ?_⟩ <;> rw [parseU, if_neg (by rw [h]; decide), if_neg (by rw [h]; decide), if_neg (by rw [h]; decide), if_neg (by rw [h]; decide), if_neg (by rw [h]; decide), if_neg (by rw [h]; decide), if_pos h, h1] <;> rfl
theorem pu_else {m : Nat} {l : List UInt8} (h1 : ¬ (digC (l.headD 0) = true ∨ l.headD 0 = 45)) (h2 : ¬ l.headD 0 = 34) (h3 : ¬ (l.headD 0 = 121 ∨ l.headD 0 = 110)) (h4 : ¬ l.headD 0 = 91) (h5 : ¬ l.headD 0 = 123) (h6 : ¬ (l.headD 0 = 126 ∨ l.headD 0 = 63)) : parseU (m + 1) l = none := by
 rw [parseU, if_neg h1, if_neg h2, if_neg h3, if_neg h4, if_neg h5, if_neg (fun e => h6 (.inl e)), if_neg (fun e => h6 (.inr e))]
theorem head_eat {l : List UInt8} {c : UInt8} (h : l.headD 0 = c) (hc : c ≠ 0) : eatP [c] l = some (l.drop 1) := by
 conv => lhs; rw [headU_eq h hc]
 exact eatP_one_cons _ _
set_option maxRecDepth 20000 in
set_option maxHeartbeats 1000000 in
theorem quotedI_any (m R : Nat) (s : ByteArray) (i : Nat) (w : World) (h : Sc w R s i) (hi : i <= s.size) (hs : s.size <= 10000) (hc : (s.data.toList.drop i).headD 0 = 34) :
  Calls Tryz.prog 71 #[.pointer (some ⟨R, 0, none⟩)] w (TRPost R s i (m + 1) w) := by
 have HP : Hid (_ /\ _) := pu_quoted (m := m) hc
 have HE : Hid (eatP [34] (s.data.toList.drop i) = some ((s.data.toList.drop i).drop 1)) := head_eat hc (by decide)
 have HW : Hid (Calls Tryz.prog 76 #[.pointer (some ⟨R, 0, none⟩), .string ⟨#[34]⟩] w _) := want_any w R s ⟨#[34]⟩ i h hs (by decide) hi
 have HSc : Hid (Sc w R s i) := h
 clear h hc
 go_enter Tryz.func71, Tryz.ntmps71
 go_wp2_with fail
 refine HW.out.mono ?_
 rintro e w1 (⟨h1, rfl, h2, h3⟩ | ⟨h1, rfl, h2⟩)
 case inr =>
  have h1 : eatP [34] (s.data.toList.drop i) = none := h1
  rw [HE.out] at h1; cases h1
 have h2 : Scan R w w1 (i + 1) := h2
 have h3 : i + 1 <= s.size := h3
 have HS1 : Hid (Scan R w w1 (i + 1)) := h2
 have HU : Hid (Calls Tryz.prog 78 #[.pointer (some ⟨R, 0, none⟩), .int .u8 34] w1 (UntilPost 34 w1 R s (i + 1))) := until_any 34 w1 R s (i + 1) (h2.sc HSc.out) hs h3
 clear h1 h2 HW
 go_wp2_with fail
 refine HU.out.mono ?_
 rintro e w2 (⟨x, u1, rfl, u2, u3⟩ | ⟨u1, rfl, u2⟩)
 case inr => exact ⟨rfl, .inr ⟨HP.out.1 (by rw [List.drop_drop]; exact u1), rfl, HS1.out.near.trans u2⟩⟩
 have HS2 : Hid (Scan R w w2 (i + 1 + x.length)) := HS1.out.trans u2
 have HW2 : Hid (Calls Tryz.prog 76 #[.pointer (some ⟨R, 0, none⟩), .string ⟨#[34]⟩] w2 _) := want_any w2 R s ⟨#[34]⟩ (i + 1 + x.length) (HS2.out.sc HSc.out) hs (by decide) (by omega)
 have HU1 : Hid (untilP 34 (s.data.toList.drop (i + 1)) = some (x, s.data.toList.drop (i + 1 + x.length))) := u1
 clear u1 u2 HU HS1
 go_wp2_with fail
 refine HW2.out.mono ?_
 rintro e w3 (⟨v1, rfl, v2, v3⟩ | ⟨v1, rfl, v2⟩)
 case inr =>
  have v1 : eatP [34] (s.data.toList.drop (i + 1 + x.length)) = none := v1
  obtain ⟨r', e1, -⟩ := untilP_some HU1.out
  rw [e1, eatP_one_cons] at v1
  cases v1
 have v2 : Scan R w2 w3 (i + 1 + x.length + 1) := v2
 have v3 : i + 1 + x.length + 1 <= s.size := v3
 have HF : Hid (TRPost R s i (m + 1) w (.returned (.iface 134 (.string (bs x)))) w3) := by
  refine .inl ⟨(⟨2, 0, bs x, [], []⟩ : Nd (T m)), i + 1 + x.length + 1, _, ?_, by omega, v3, rfl, .inr (.inl ⟨rfl, rfl⟩), HS2.out.trans v2⟩
  have := HP.out.2 x (s.data.toList.drop (i + 1 + x.length)) (by rw [List.drop_drop]; exact HU1.out)
  rw [this, List.drop_drop]; rfl
 clear v1 v2 v3 HW2 HU1 HS2
 go_wp2_with fail
 go_ret
 exact HF.out
set_option maxRecDepth 20000 in
set_option maxHeartbeats 1000000 in
theorem flagI_any (m R : Nat) (s : ByteArray) (i : Nat) (w : World) (h : Sc w R s i) (hi : i <= s.size) (hs : s.size <= 10000) (hc : (s.data.toList.drop i).headD 0 = 121 ∨ (s.data.toList.drop i).headD 0 = 110) :
  Calls Tryz.prog 69 #[.pointer (some ⟨R, 0, none⟩)] w (TRPost R s i (m + 1) w) := by
 have HCc : Hid ((s.data.toList.drop i).headD 0 = 121 ∨ (s.data.toList.drop i).headD 0 = 110) := hc
 have HW : Hid (Calls Tryz.prog 104 #[.pointer (some ⟨R, 0, none⟩), .string ⟨#[121, 101, 115]⟩] w _) := skip_any w R s ⟨#[121, 101, 115]⟩ i h hs (by decide) hi
 have HSc : Hid (Sc w R s i) := h
 clear h hc
 go_enter Tryz.func69, Tryz.ntmps69
 go_wp2_with fail
 refine HW.out.mono ?_
 rintro e w1 (⟨h1, rfl, h2, h3⟩ | ⟨h1, rfl, h2⟩)
 ·have h1 : eatP [121, 101, 115] (s.data.toList.drop i) = some (s.data.toList.drop (i + 3)) := h1
  have h2 : Scan R w w1 (i + 3) := h2
  have h3 : i + 3 <= s.size := h3
  have HF : Hid (TRPost R s i (m + 1) w (.returned (.iface 131 (.bool true))) w1) :=
   .inl ⟨_, i + 3, _, pu_yes HCc.out h1, by omega, h3, rfl, .inr (.inr (.inl ⟨rfl, rfl⟩)), h2⟩
  clear h1 h2 h3 HW
  go_wp2_with fail
  go_ret
  exact HF.out
 ·have h1 : eatP [121, 101, 115] (s.data.toList.drop i) = none := h1
  have HP : Hid (_ /\ _) := pu_no (m := m) HCc.out h1
  have HS1 : Hid (Scan R w w1 i) := h2
  have HW2 : Hid (Calls Tryz.prog 76 #[.pointer (some ⟨R, 0, none⟩), .string ⟨#[110, 111]⟩] w1 _) := want_any w1 R s ⟨#[110, 111]⟩ i (h2.sc HSc.out) hs (by decide) hi
  clear h1 h2 HW
  go_wp2_with fail
  refine HW2.out.mono ?_
  rintro e w2 (⟨v1, rfl, v2, v3⟩ | ⟨v1, rfl, v2⟩)
  case inr => exact ⟨rfl, .inr ⟨HP.out.1 v1, rfl, HS1.out.near.trans v2⟩⟩
  have v2 : Scan R w1 w2 (i + 2) := v2
  have v3 : i + 2 <= s.size := v3
  have HF : Hid (TRPost R s i (m + 1) w (.returned (.iface 131 (.bool false))) w2) :=
   .inl ⟨_, i + 2, _, HP.out.2 _ v1, by omega, v3, rfl, .inr (.inr (.inl ⟨rfl, rfl⟩)), HS1.out.trans v2⟩
  clear v1 v2 v3 HW2 HS1
  go_wp2_with fail
  go_ret
  exact HF.out
set_option maxRecDepth 20000 in
set_option maxHeartbeats 1000000 in
theorem maybeI_any (m : Nat) (hm : TRSaid m) (B R : Nat) (s : ByteArray) (i : Nat) (w : World) (hL : LaidU B w) (hBR : B <= R) (h : Sc w R s i) (hM : Meth w R) (hi : i <= s.size) (hs : s.size <= 10000) (hlt : s.size - i <= m) (hc : (s.data.toList.drop i).headD 0 = 126 ∨ (s.data.toList.drop i).headD 0 = 63) :
  Calls Tryz.prog 70 #[.pointer (some ⟨R, 0, none⟩)] w (TRPost R s i (m + 1) w) := by
 have hR := h.lt
 have HW : Hid (Calls Tryz.prog 104 #[.pointer (some ⟨R, 0, none⟩), .string ⟨#[126]⟩] w _) := skip_any w R s ⟨#[126]⟩ i h hs (by decide) hi
 have HSc : Hid (Sc w R s i) := h
 have HLM : Hid (LaidU B w /\ Meth w R /\ TRSaid m) := ⟨hL, hM, hm⟩
 have HCc : Hid ((s.data.toList.drop i).headD 0 = 126 ∨ (s.data.toList.drop i).headD 0 = 63) := hc
 clear h hL hM hm hc
 go_enter Tryz.func70, Tryz.ntmps70
 go_wp2_with fail
 refine HW.out.mono ?_
 rintro e w1 (⟨h1, rfl, h2, h3⟩ | ⟨h1, rfl, h2⟩)
 ·have h1 : eatP [126] (s.data.toList.drop i) = some (s.data.toList.drop (i + 1)) := h1
  have h2 : Scan R w w1 (i + 1) := h2
  have h3 : i + 1 <= s.size := h3
  have HF : Hid (TRPost R s i (m + 1) w (.returned (.iface 133 (.slice none 0 0))) w1) := by
   have hh : (s.data.toList.drop i).headD 0 = 126 := by rw [eatP_some h1]; rfl
   refine .inl ⟨(⟨6, 0, ByteArray.empty, [], []⟩ : Nd (T m)), i + 1, _, ?_, by omega, h3, rfl, .inr (.inr (.inr (.inr (.inr ⟨rfl, _, rfl, none, 0, rfl, by simp [maxLen], fun h => absurd rfl h⟩)))), h2⟩
   rw [pu_none hh, List.drop_drop]; rfl
  clear h1 h2 h3 HW
  go_wp2_with fail
  go_ret
  exact HF.out
 ·have h1 : eatP [126] (s.data.toList.drop i) = none := h1
  have hh : (s.data.toList.drop i).headD 0 = 63 := by
   rcases HCc.out with h | h
   ·rw [head_eat h (by decide)] at h1; cases h1
   ·exact h
  have HP : Hid (_ /\ _) := pu_some (m := m) hh
  have HE : Hid (eatP [63] (s.data.toList.drop i) = some ((s.data.toList.drop i).drop 1)) := head_eat hh (by decide)
  have HS1 : Hid (Scan R w w1 i) := h2
  have HW2 : Hid (Calls Tryz.prog 76 #[.pointer (some ⟨R, 0, none⟩), .string ⟨#[63]⟩] w1 _) := want_any w1 R s ⟨#[63]⟩ i (h2.sc HSc.out) hs (by decide) hi
  clear h1 h2 HW hh
  go_wp2_with fail
  refine HW2.out.mono ?_
  rintro e w2 (⟨v1, rfl, v2, v3⟩ | ⟨v1, rfl, v2⟩)
  case inr =>
   have v1 : eatP [63] (s.data.toList.drop i) = none := v1
   rw [HE.out] at v1; cases v1
  have v2 : Scan R w1 w2 (i + 1) := v2
  have v3 : i + 1 <= s.size := v3
  have hS2 := HS1.out.trans v2
  have HS2 : Hid (Scan R w w2 (i + 1)) := hS2
  have HK : Hid (Calls Tryz.prog 105 #[.pointer (some ⟨R, 0, none⟩)] w2 (TRPost R s (i + 1) m w2)) := HLM.out.2.2 B R s (i + 1) w2 (HLM.out.1.near hS2.near hBR hR) hBR (hS2.sc HSc.out) (HLM.out.2.1.scan hS2) v3 hs (by omega)
  clear v1 v2 HW2 HS1 hS2 HE
  go_wp2_with fail
  refine HK.out.mono ?_
  rintro e w3 (⟨t, q, v, y1, y2, y3, rfl, y4, y5⟩ | ⟨y1, rfl, y2⟩)
  case inr => exact ⟨rfl, .inr ⟨HP.out.1 (by rw [List.drop_drop]; exact y1), rfl, HS2.out.near.trans y2⟩⟩
  obtain ⟨u, x, rfl⟩ := id y4.iface
  have hz2 := HS2.out.near.size
  have hz3 := y5.near.size
  have HF : Hid (TRPost R s i (m + 1) w (.returned (.iface 133 (.slice (some ⟨w3.heap.size, 0, none⟩) 1 1))) (w3.alloc (.cells #[.iface u x] 110))) := by
   have hbx : Below w3.heap.size w3 (w3.alloc (.cells #[.iface u x] 110)) := (Below.refl _ _).alloc (Nat.le_refl _) _
   refine .inl ⟨_, q, _, HP.out.2 t _ (by rw [List.drop_drop]; exact y1), by omega, y3, rfl, .inr (.inr (.inr (.inr (.inr ⟨rfl, _, rfl, some ⟨w3.heap.size, 0, none⟩, 1, rfl, by simp [maxLen], fun _ => ⟨w3.heap.size, 0, rfl, ⟨by omega, by simp⟩, fun j hj => ?_⟩⟩)))), (HS2.out.trans y5).below hbx (by omega)⟩
   have : j = 0 := by simpa using hj
   subst this
   exact ⟨.iface u x, by simp [go_sem], y4.keep (fun b hb => Below.heap_alloc _ _ _ hb.2) (fun b hb => ⟨by omega, by simp; omega⟩)⟩
  clear y1 y4 y5 HK HS2
  go_wp2_with fail
  go_ret
  exact HF.out
end Go.Proofs.YtmjhcgjhlakceaaGreatDoor

namespace Go.Proofs.YtmjhcgjhlakceaaGreatDoor
open Go.RowKit
theorem Tryz.info_anyQ : (Tryz.prog.info? 110).map (fun i => (i.zero, i.size, i.bytes)) = some (some .nilIface, 1, 16) := by kernel_rfl
def listR {α : Type} (f : List UInt8 -> Option (α × List UInt8)) (k : Nat) (acc : List α) (s1 : List UInt8) : Option (List α × List UInt8) :=
 match f s1 with
 | none => none
 | some (t, r) => listQ f k (acc ++ [t]) r
theorem listQ_end {α : Type} {f : List UInt8 -> Option (α × List UInt8)} {k : Nat} {acc : List α} {s r : List UInt8} (h : eatP [93] s = some r) : listQ f (k + 1) acc s = some (acc, r) := by
 rw [listQ, h]
theorem listQ_first {α : Type} {f : List UInt8 -> Option (α × List UInt8)} {k : Nat} {acc : List α} {s : List UInt8} (h : eatP [93] s = none) (h0 : acc.length = 0) : listQ f (k + 1) acc s = listR f k acc s := by
 rw [listQ, h]; simp only [h0, if_true]; rfl
theorem listQ_next {α : Type} {f : List UInt8 -> Option (α × List UInt8)} {k : Nat} {acc : List α} {s s1 : List UInt8} (h : eatP [93] s = none) (h0 : ¬ acc.length = 0) (h1 : eatP [44] s = some s1) : listQ f (k + 1) acc s = listR f k acc s1 := by
 rw [listQ, h]; simp only [if_neg h0, h1]; rfl
theorem listQ_stop {α : Type} {f : List UInt8 -> Option (α × List UInt8)} {k : Nat} {acc : List α} {s : List UInt8} (h : eatP [93] s = none) (h0 : ¬ acc.length = 0) (h1 : eatP [44] s = none) : listQ f (k + 1) acc s = none := by
 rw [listQ, h]; simp only [if_neg h0, h1]
theorem listR_bad {α : Type} {f : List UInt8 -> Option (α × List UInt8)} {k : Nat} {acc : List α} {s : List UInt8} (h1 : f s = none) : listR f k acc s = none := by
 rw [listR, h1]
theorem listR_yes {α : Type} {f : List UInt8 -> Option (α × List UInt8)} {k : Nat} {acc : List α} {s r : List UInt8} {t : α} (h1 : f s = some (t, r)) : listR f k acc s = listQ f k (acc ++ [t]) r := by
 rw [listR, h1]
def listOfT (m : Nat) (s : ByteArray) (i : Nat) : Option (List (T m) × List UInt8) := listQ (parseU m) ((s.data.toList.drop (i + 1)).length + 1) [] (s.data.toList.drop (i + 1))
set_option maxRecDepth 100000 in
set_option maxHeartbeats 4000000 in
theorem listI_any (m : Nat) (hm : TRSaid m) (B R : Nat) (s : ByteArray) (i : Nat) (w : World) (hL : LaidU B w) (hBR : B <= R) (h : Sc w R s i) (hMe : Meth w R) (hi : i <= s.size) (hs : s.size <= 10000) (hlt : s.size - i <= m) (hc : (s.data.toList.drop i).headD 0 = 91) :
  Calls Tryz.prog 72 #[.pointer (some ⟨R, 0, none⟩)] w (TRPost R s i (m + 1) w) := by
 have HW : Hid (Calls Tryz.prog 76 #[.pointer (some ⟨R, 0, none⟩), .string ⟨#[91]⟩] w _) := want_any w R s ⟨#[91]⟩ i h hs (by decide) hi
 have hR := h.lt
 have HM : Hid (TRSaid m /\ LaidU B w /\ Meth w R) := ⟨hm, hL, hMe⟩
 have HSc0 : Hid (Sc w R s i) := h
 have HPu : Hid ((listOfT m s i = none -> parseU (m + 1) (s.data.toList.drop i) = none) /\ (∀ ks r, listOfT m s i = some (ks, r) -> parseU (m + 1) (s.data.toList.drop i) = some ((⟨4, 0, ByteArray.empty, [], ks⟩ : Nd (T m)), r))) := by
  have := pu_list (m := m) hc
  rw [List.drop_drop] at this
  exact this
 have HE : Hid (eatP [91] (s.data.toList.drop i) = some ((s.data.toList.drop i).drop 1)) := head_eat hc (by decide)
 clear h hm hL hMe hc
 go_enter Tryz.func72, Tryz.ntmps72
 go_wp2_with fail
 refine HW.out.mono ?_
 rintro e w1 (⟨h1, rfl, h2, h3⟩ | ⟨h1, rfl, h2⟩)
 case inr =>
  have h1 : eatP [91] (s.data.toList.drop i) = none := h1
  rw [HE.out] at h1; cases h1
 have h2 : Scan R w w1 (i + 1) := h2
 have h3 : i + 1 <= s.size := h3
 clear h1 HW
 go_wp2_with fail
 go_loopw [3] (fun kv wr => ∃ (ks : List (T m)) (j fuel ln : Nat) (ka : Option Addr) (kc : Nat), ks.length = ln /\ ln <= j /\ kv = .slice ka ln kc /\ RTree R m w wr [] ks (.slice none 0 0) (.slice ka ln kc) /\ Scan R w wr j /\ i < j /\ j <= s.size /\
   listQ (parseU m) (fuel + 1) ks (s.data.toList.drop j) = listOfT m s i /\ s.size - j <= fuel) (fun _ wr => s.size - atS wr R)
 case atStart => exact ⟨[], i + 1, (s.data.toList.drop (i + 1)).length, 0, none, 0, rfl, by omega, rfl, RTree.start R m w w1 h2.near, h2, by omega, h3, rfl, by simp⟩
 case round =>
  obtain ⟨ks, j, fuel, ln, ka, kc, hkl, hlj, rfl, hF, hS, hij, hj, hG, hfu⟩ := hrel
  have HN : Hid (ks.length = ln) := hkl
  have HF : Hid (RTree R m w wr [] ks (.slice none 0 0) (.slice ka ln kc)) := hF
  have HS : Hid (Scan R w wr j) := hS
  have HG : Hid (listQ (parseU m) (fuel + 1) ks (s.data.toList.drop j) = listOfT m s i) := hG
  have HA : Hid (atS wr R = j) := hS.atS
  have HC : Hid (Calls Tryz.prog 104 #[.pointer (some ⟨R, 0, none⟩), .string ⟨#[93]⟩] wr _) := skip_any wr R s ⟨#[93]⟩ j (hS.sc HSc0.out) hs (by decide) hj
  clear hkl hF hS hG h2 h3
  go_wp2_with fail
  refine HC.out.mono ?_
  rintro e w1 (⟨p1, rfl, p2, p3⟩ | ⟨p1, rfl, p2⟩)
  ·have HP : Hid (TRPost R s i (m + 1) w (.returned (.iface 135 (.slice ka ln kc))) w1) := by
    have p2 : Scan R wr w1 (j + 1) := p2
    have p3 : j + 1 <= s.size := p3
    have hF1 := HF.out.keep hR p2.near
    obtain ⟨-, r2⟩ := hF1.rows (by simp) (by rw [HN.out]; omega)
    exact .inl ⟨_, j + 1, _, HPu.out.2 ks _ (by rw [<- HG.out]; exact listQ_end p1), by omega, p3, rfl, .inr (.inr (.inr (.inl ⟨rfl, _, rfl, r2⟩))), HS.out.trans p2⟩
   clear p1 p2 p3 HC HF HS HG
   go_wp2_with fail
   go_ret
   exact HP.out
  ·have p1 : eatP [93] (s.data.toList.drop j) = none := p1
   have HF0 : Hid (RTree R m w w1 [] ks (.slice none 0 0) (.slice ka ln kc)) := HF.out.keep hR p2.near
   have hS0 : Hid (Scan R w w1 j) := HS.out.trans p2
   clear HF HS HC p2
   have HNo : Hid (∀ W, listOfT m s i = none -> Near R w W -> TRPost R s i (m + 1) w (.panicked refusal) W) := fun W h1 h2 => .inr ⟨HPu.out.1 h1, rfl, h2⟩
   rcases Nat.eq_zero_or_pos ln with h0 | h0
   case' inl =>
    obtain ⟨j1, hj1⟩ : ∃ j1, j1 = j := ⟨_, rfl⟩
    have HQ : Hid (listR (parseU m) fuel ks (s.data.toList.drop j1) = listOfT m s i) := by
     show _ = _
     rw [hj1, <- HG.out]; exact (listQ_first p1 (by rw [HN.out]; exact h0)).symm
    have HS1 : Hid (Scan R w w1 j1) := by rw [hj1]; exact hS0
    have hj1s : j1 <= s.size := by omega
    have hjj : j <= j1 := by omega
    have hd : (0 < ln) = False := eq_false (by omega)
    clear h0 hS0 HG hj1 p1
    go_wp2_with fail
    clear hd
   case' inr =>
    have HC : Hid (Calls Tryz.prog 76 #[.pointer (some ⟨R, 0, none⟩), .string ⟨#[44]⟩] w1 _) := want_any w1 R s ⟨#[44]⟩ j (hS0.out.sc HSc0.out) hs (by decide) hj
    have hd : 0 < ln := h0
    go_wp2_with fail
    refine HC.out.mono ?_
    rintro e w1 (⟨q1, rfl, q2, q3⟩ | ⟨q1, rfl, q2⟩)
    case inr =>
     refine ⟨rfl, HNo.out w1 ?_ (hS0.out.near.trans q2)⟩
     rw [<- HG.out]; exact listQ_stop p1 (by rw [HN.out]; omega) q1
    obtain ⟨j1, hj1⟩ : ∃ j1, j1 = j + 1 := ⟨_, rfl⟩
    have q2 : Scan R _ w1 (j + 1) := q2
    have q3 : j + 1 <= s.size := q3
    have HQ : Hid (listR (parseU m) fuel ks (s.data.toList.drop j1) = listOfT m s i) := by
     show _ = _
     rw [hj1, <- HG.out]; exact (listQ_next p1 (by rw [HN.out]; omega) q1).symm
    have HS1 : Hid (Scan R w w1 j1) := by rw [hj1]; exact hS0.out.trans q2
    have hj1s : j1 <= s.size := by omega
    have hjj : j <= j1 := by omega
    have HF1 := HF0.out.keep hR q2.near
    clear HF0
    have HF0 : Hid (RTree R m w w1 [] ks (.slice none 0 0) (.slice ka ln kc)) := HF1
    clear HF1 hS0 HG hj1 p1 q1 q2 q3 h0 HC
    go_wp2_with fail
    clear hd
   all_goals
    have HK : Hid (Calls Tryz.prog 105 #[.pointer (some ⟨R, 0, none⟩)] w1 (TRPost R s j1 m w1)) := HM.out.1 B R s _ w1 (HM.out.2.1.near HS1.out.near hBR hR) hBR (HS1.out.sc HSc0.out) (HM.out.2.2.scan HS1.out) hj1s hs (by omega)
    obtain ⟨xs, hxs4, hkk⟩ := HF0.out.kids
    have HKK : Hid (∀ q (h : q < ks.length), _) := hkk
    have HOK : Hid (w1.ownsRow w.heap.size 110 1 (.slice ka ln kc) ln xs) := by
     rw [HN.out] at hxs4; exact hxs4
    clear hxs4 hkk
    refine HK.out.mono ?_
    rintro e w5 (⟨t, q, c, y1, y2, y3, rfl, y4, y5⟩ | ⟨y1, rfl, y2⟩)
    case inr => exact ⟨rfl, HNo.out w5 (by rw [<- HQ.out]; exact listR_bad y1) (HS1.out.near.trans y2)⟩
    obtain ⟨zt, zx, rfl⟩ := id y4.iface
    have hz5 := y5.near.size
    have hz4 := HF0.out.near.size
    have HO5 : Hid (w5.ownsRow w.heap.size 110 1 (.slice ka ln kc) ln xs) := r1_keep HOK.out (fun g' hg' => by
     have := r1_lt HOK.out g' hg'
     exact y5.near.block g' this.2 (by omega))
    have HY : Hid (InnerT (fun b => w1.heap.size <= b /\ b < w5.heap.size) w5 m t (.iface zt zx) /\ Scan R w1 w5 q) := ⟨y4, y5⟩
    have HG6 : Hid (listQ (parseU m) fuel (ks ++ [t]) (s.data.toList.drop q) = listOfT m s i) := by
     show _ = _
     rw [<- HQ.out]
     exact (listR_yes y1).symm
    obtain ⟨ik0, hi0, hy0, hy1, hyb⟩ := info_parts Tryz.info_anyQ
    have HIK : Hid (_ /\ _ /\ _ /\ _) := ⟨hi0, hy0, hy1, hyb⟩
    clear hi0 hy0 hy1 hyb y1 y4 y5 HK HQ
    go_wp2_with (at_builtin; refine wpList_append_lies _ rfl (.tmp 20) (.tmp 23) 135 rfl w.heap.size 110 ik0 _ 1 16 Tryz.underlying135 HIK.out.1 HIK.out.2.1 HIK.out.2.2.1 HIK.out.2.2.2 rfl (by decide) (.slice ka ln kc) ln xs rfl (HO5.out.alloc _) ⟨w5.heap.size, 0, none⟩ 1 1 [.iface zt zx] rfl rfl (World.news_of_block (heap_alloc_new w5 _)) (by simp [Value.oneCell']) (by decide) (by unfold maxLen; omega) (by omega) (by simp; omega) (w5.heap.size + 1) (by simp) ?_; intro g2 cap2 w6 hown6 hgrow6 hat6 hlt6; refine Hid.out ?_)
    refine Lib.hid ?_
    obtain ⟨hF6, hb6, hz6⟩ := HF0.out.kid (W1 := w5) (Wa := w5.alloc (.cells #[.iface zt zx] 110)) (one := .cells #[.iface zt zx] 110) (g := g2) (cap := cap2) hR HY.out.2.near HY.out.1 rfl ⟨rfl, rfl, rfl⟩ (by rw [HN.out]; exact HOK.out) HKK.out (by rw [HN.out]; exact hown6) hgrow6 hat6
    rw [HN.out] at hF6
    have HF6 : Hid (RTree R m w w6 [] (ks ++ [t]) (.slice none 0 0) (.slice (some ⟨g2, 0, none⟩) (ln + 1) cap2)) := hF6
    have HS6 : Hid (Scan R w w6 q) := (HS1.out.trans HY.out.2).same hF6.near (hb6 R hR)
    obtain ⟨f', rfl⟩ : ∃ f', fuel = f' + 1 := ⟨fuel - 1, by omega⟩
    clear hF6 hb6 hz6 hown6 hgrow6 hat6 hlt6 HO5 HOK HKK HF0 HS1 HY
    go_wp2_with fail
    go_roundw
    case rel => exact ⟨ks ++ [t], q, f', ln + 1, some ⟨g2, 0, none⟩, cap2, by simp [HN.out], by omega, rfl, HF6.out, HS6.out, by omega, y3, HG6.out, by omega⟩
    case measure => rw [HS6.out.atS, HA.out]; omega
def formOfT (m : Nat) (s : ByteArray) (i : Nat) : Option (List ByteArray × List (T m) × List UInt8) := formQ (parseU m) ((s.data.toList.drop (i + 1)).length + 1) [] [] (s.data.toList.drop (i + 1))
def FTPost (R : Nat) (s : ByteArray) (i m : Nat) (w : World) (e : Ending) (w' : World) : Prop :=
 (∃ (ns : List ByteArray) (ks : List (T m)) (q : Nat) (na : Option Addr) (nc : Nat) (ka : Option Addr) (kc ln : Nat), eatP [123] (s.data.toList.drop i) = some (s.data.toList.drop (i + 1)) /\ formOfT m s i = some (ns, ks, s.data.toList.drop q) /\ i < q /\ q <= s.size /\ ln <= 10000 /\
  e = .returned (.tuple #[.slice na ln nc, .slice ka ln kc]) /\ StrsIn (fun b => w.heap.size <= b /\ b < w'.heap.size) w' ns (.slice na ln nc) /\
  Row1 (fun b => w.heap.size <= b /\ b < w'.heap.size) w' (InnerT (fun b => w.heap.size <= b /\ b < w'.heap.size) w' m) ks (.slice ka ln kc) /\ Scan R w w' q) ∨
  ((eatP [123] (s.data.toList.drop i) = none ∨ (eatP [123] (s.data.toList.drop i) = some (s.data.toList.drop (i + 1)) /\ formOfT m s i = none)) /\ e = .panicked refusal /\ Near R w w')
set_option maxRecDepth 100000 in
set_option maxHeartbeats 4000000 in
theorem readFormT_any (m : Nat) (hm : TRSaid m) (B R : Nat) (s : ByteArray) (i : Nat) (w : World) (hL : LaidU B w) (hBR : B <= R) (h : Sc w R s i) (hMe : Meth w R) (hi : i <= s.size) (hs : s.size <= 10000) (hlt : s.size - i <= m) :
  Calls Tryz.prog 106 #[.pointer (some ⟨R, 0, none⟩), .func (.func 105) #[.pointer (some ⟨R, 0, none⟩)] #[]] w (FTPost R s i m w) := by
 have HW : Hid (Calls Tryz.prog 76 #[.pointer (some ⟨R, 0, none⟩), .string ⟨#[123]⟩] w _) := want_any w R s ⟨#[123]⟩ i h hs (by decide) hi
 have hR := h.lt
 have HM : Hid (TRSaid m /\ LaidU B w /\ Meth w R) := ⟨hm, hL, hMe⟩
 have HSc0 : Hid (Sc w R s i) := h
 clear h hm hL hMe
 go_enter Tryz.func106, Tryz.ntmps106
 go_wp2_with fail
 refine HW.out.mono ?_
 rintro e w1 (⟨h1, rfl, h2, h3⟩ | ⟨h1, rfl, h2⟩)
 case inr => exact ⟨rfl, .inr ⟨.inl h1, rfl, h2⟩⟩
 have HE : Hid (eatP [123] (s.data.toList.drop i) = some (s.data.toList.drop (i + 1))) := h1
 have h2 : Scan R w w1 (i + 1) := h2
 have h3 : i + 1 <= s.size := h3
 clear h1 HW
 go_wp2_with fail
 go_loopw [4, 5] (fun nv kv wr => ∃ (ns : List ByteArray) (ks : List (T m)) (j fuel ln : Nat) (na : Option Addr) (nc : Nat) (ka : Option Addr) (kc : Nat), ns.length = ln /\ ks.length = ln /\ ln <= j /\ nv = .slice na ln nc /\ kv = .slice ka ln kc /\ RTree R m w wr ns ks (.slice na ln nc) (.slice ka ln kc) /\ Scan R w wr j /\ i < j /\ j <= s.size /\
   formQ (parseU m) (fuel + 1) ns ks (s.data.toList.drop j) = formOfT m s i /\ s.size - j <= fuel) (fun _ _ wr => s.size - atS wr R)
 case atStart => exact ⟨[], [], i + 1, (s.data.toList.drop (i + 1)).length, 0, none, 0, none, 0, rfl, rfl, by omega, rfl, rfl, RTree.start R m w w1 h2.near, h2, by omega, h3, rfl, by simp⟩
 case round =>
  obtain ⟨ns, ks, j, fuel, ln, na, nc, ka, kc, hnl, hkl, hlj, rfl, rfl, hF, hS, hij, hj, hG, hfu⟩ := hrel
  have HN : Hid (ns.length = ln /\ ks.length = ln) := ⟨hnl, hkl⟩
  have HF : Hid (RTree R m w wr ns ks (.slice na ln nc) (.slice ka ln kc)) := hF
  have HS : Hid (Scan R w wr j) := hS
  have HG : Hid (formQ (parseU m) (fuel + 1) ns ks (s.data.toList.drop j) = formOfT m s i) := hG
  have HA : Hid (atS wr R = j) := hS.atS
  have HC : Hid (Calls Tryz.prog 104 #[.pointer (some ⟨R, 0, none⟩), .string ⟨#[125]⟩] wr _) := skip_any wr R s ⟨#[125]⟩ j (hS.sc HSc0.out) hs (by decide) hj
  clear hnl hkl hF hS hG h2 h3
  go_wp2_with fail
  refine HC.out.mono ?_
  rintro e w1 (⟨p1, rfl, p2, p3⟩ | ⟨p1, rfl, p2⟩)
  ·have HP : Hid (FTPost R s i m w (.returned (.tuple #[.slice na ln nc, .slice ka ln kc])) w1) := by
    have p2 : Scan R wr w1 (j + 1) := p2
    have p3 : j + 1 <= s.size := p3
    have hF1 := HF.out.keep hR p2.near
    obtain ⟨r1, r2⟩ := hF1.rows (by rw [HN.out.1]; omega) (by rw [HN.out.2]; omega)
    exact .inl ⟨ns, ks, j + 1, na, nc, ka, kc, ln, HE.out, by rw [<- HG.out]; exact formQ_end p1, by omega, p3, by omega, rfl, r1, r2, HS.out.trans p2⟩
   clear p1 p2 p3 HC HF HS HG
   go_wp2_with fail
   go_ret2
   exact HP.out
  ·have p1 : eatP [125] (s.data.toList.drop j) = none := p1
   have HF0 : Hid (RTree R m w w1 ns ks (.slice na ln nc) (.slice ka ln kc)) := HF.out.keep hR p2.near
   have hS0 : Hid (Scan R w w1 j) := HS.out.trans p2
   clear HF HS HC p2
   have HNo : Hid (∀ W, formOfT m s i = none -> Near R w W -> FTPost R s i m w (.panicked refusal) W) := fun W h1 h2 => .inr ⟨.inr ⟨HE.out, h1⟩, rfl, h2⟩
   rcases Nat.eq_zero_or_pos ln with h0 | h0
   case' inl =>
    obtain ⟨j1, hj1⟩ : ∃ j1, j1 = j := ⟨_, rfl⟩
    have HQ : Hid (formR (parseU m) fuel ns ks (s.data.toList.drop j1) = formOfT m s i) := by
     show _ = _
     rw [hj1, <- HG.out]; exact (formQ_first p1 (by rw [HN.out.1]; exact h0)).symm
    have HS1 : Hid (Scan R w w1 j1) := by rw [hj1]; exact hS0
    have hj1s : j1 <= s.size := by omega
    have hjj : j <= j1 := by omega
    have hd : (0 < ln) = False := eq_false (by omega)
    clear h0 hS0 HG hj1 p1
    go_wp2_with fail
    clear hd
   case' inr =>
    have HC : Hid (Calls Tryz.prog 76 #[.pointer (some ⟨R, 0, none⟩), .string ⟨#[44]⟩] w1 _) := want_any w1 R s ⟨#[44]⟩ j (hS0.out.sc HSc0.out) hs (by decide) hj
    have hd : 0 < ln := h0
    go_wp2_with fail
    refine HC.out.mono ?_
    rintro e w1 (⟨q1, rfl, q2, q3⟩ | ⟨q1, rfl, q2⟩)
    case inr =>
     refine ⟨rfl, HNo.out w1 ?_ (hS0.out.near.trans q2)⟩
     rw [<- HG.out]; exact formQ_stop p1 (by rw [HN.out.1]; omega) q1
    obtain ⟨j1, hj1⟩ : ∃ j1, j1 = j + 1 := ⟨_, rfl⟩
    have q2 : Scan R _ w1 (j + 1) := q2
    have q3 : j + 1 <= s.size := q3
    have HQ : Hid (formR (parseU m) fuel ns ks (s.data.toList.drop j1) = formOfT m s i) := by
     show _ = _
     rw [hj1, <- HG.out]; exact (formQ_next p1 (by rw [HN.out.1]; omega) q1).symm
    have HS1 : Hid (Scan R w w1 j1) := by rw [hj1]; exact hS0.out.trans q2
    have hj1s : j1 <= s.size := by omega
    have hjj : j <= j1 := by omega
    have HF1 := HF0.out.keep hR q2.near
    clear HF0
    have HF0 : Hid (RTree R m w w1 ns ks (.slice na ln nc) (.slice ka ln kc)) := HF1
    clear HF1 hS0 HG hj1 p1 q1 q2 q3 h0 HC
    go_wp2_with fail
    clear hd
   all_goals
    have HU : Hid (Calls Tryz.prog 78 #[.pointer (some ⟨R, 0, none⟩), .int .u8 58] w1 (UntilPost 58 w1 R s j1)) := until_any 58 w1 R s j1 (HS1.out.sc HSc0.out) hs hj1s
    refine HU.out.mono ?_
    rintro e w2 (⟨x, u1, rfl, u2, u3⟩ | ⟨u1, rfl, u2⟩)
    case inr => exact ⟨rfl, HNo.out w2 (by rw [<- HQ.out]; exact formR_no u1) (HS1.out.near.trans u2)⟩
    have u2 : Scan R w1 w2 (j1 + x.length) := u2
    have hxs : (bs x).size <= 10000 := by rw [bs_size]; omega
    have HF2 : Hid (RTree R m w w2 ns ks (.slice na ln nc) (.slice ka ln kc)) := HF0.out.keep hR u2.near
    have HS2 : Hid (Scan R w w2 (j1 + x.length)) := HS1.out.trans u2
    have HU1 : Hid (untilP 58 (s.data.toList.drop j1) = some (x, s.data.toList.drop (j1 + x.length))) := u1
    have HO : Hid (w2.ownsRow w.heap.size 9 1 (.slice na ln nc) ln (ns.map .string)) := by
     have := HF2.out.names
     rw [HN.out.1] at this; exact this
    have hz2 := HF2.out.near.size
    obtain ⟨is0, hi0, hy0, hy1, hyb⟩ := info_parts Tryz.info_strQ
    have HIS : Hid (_ /\ _ /\ _ /\ _) := ⟨hi0, hy0, hy1, hyb⟩
    clear hi0 hy0 hy1 hyb u1 u2 HF0 HS1 HU
    go_wp2_with (at_builtin; refine wpList_append_lies _ rfl (.tmp 16) (.tmp 19) 24 rfl w.heap.size 9 is0 _ 1 16 Tryz.underlying24 HIS.out.1 HIS.out.2.1 HIS.out.2.2.1 HIS.out.2.2.2 rfl (by decide) (.slice na ln nc) ln (ns.map .string) rfl (HO.out.alloc _) ⟨w2.heap.size, 0, none⟩ 1 1 [.string (bs x)] rfl rfl (World.news_of_block (heap_alloc_new w2 _)) (by simp [Value.oneCell']) (by decide) (by unfold maxLen; omega) (by omega) (by simp; omega) (w2.heap.size + 1) (by simp) ?_; intro g cap w3 hown3 hgrow3 hat3 hlt3; refine Hid.out ?_)
    refine Lib.hid ?_
    obtain ⟨hF3, hb3, hz3⟩ := HF2.out.name (Wa := w2.alloc (.cells #[.string (bs x)] 9)) (one := .cells #[.string (bs x)] 9) (x := bs x) (g := g) (cap := cap) rfl ⟨rfl, rfl, rfl⟩ hxs (by rw [HN.out.1]; exact hown3) hgrow3 hat3
    rw [HN.out.1] at hF3
    have HF3 : Hid (RTree R m w w3 (ns ++ [bs x]) ks (.slice (some ⟨g, 0, none⟩) (ln + 1) cap) (.slice ka ln kc)) := hF3
    have HS3 : Hid (Scan R w w3 (j1 + x.length)) := HS2.out.same hF3.near (hb3 R hR)
    have HW3 : Hid (Calls Tryz.prog 76 #[.pointer (some ⟨R, 0, none⟩), .string ⟨#[58]⟩] w3 _) := want_any w3 R s ⟨#[58]⟩ (j1 + x.length) (HS3.out.sc HSc0.out) hs (by decide) (by omega)
    clear hF3 hb3 hz3 hown3 hgrow3 hat3 hlt3 HO HF2 HS2
    go_wp2_with fail
    refine HW3.out.mono ?_
    rintro e w4 (⟨v1, rfl, v2, v3⟩ | ⟨v1, rfl, v2⟩)
    case inr =>
     have v1 : eatP [58] (s.data.toList.drop (j1 + x.length)) = none := v1
     obtain ⟨r', e1, -⟩ := untilP_some HU1.out
     rw [e1, eatP_one_cons] at v1
     cases v1
    have v2 : Scan R w3 w4 (j1 + x.length + 1) := v2
    have v3 : j1 + x.length + 1 <= s.size := v3
    have hF4 := HF3.out.keep hR v2.near
    have HF4 : Hid (RTree R m w w4 (ns ++ [bs x]) ks (.slice (some ⟨g, 0, none⟩) (ln + 1) cap) (.slice ka ln kc)) := hF4
    have HS4 : Hid (Scan R w w4 (j1 + x.length + 1)) := HS3.out.trans v2
    have HK : Hid (Calls Tryz.prog 105 #[.pointer (some ⟨R, 0, none⟩)] w4 (TRPost R s (j1 + x.length + 1) m w4)) := HM.out.1 B R s _ w4 (HM.out.2.1.near HS4.out.near hBR hR) hBR (HS4.out.sc HSc0.out) (HM.out.2.2.scan HS4.out) v3 hs (by omega)
    obtain ⟨xs, hxs4, hkk⟩ := hF4.kids
    have HKK : Hid (∀ q (h : q < ks.length), _) := hkk
    have HOK : Hid (w4.ownsRow w.heap.size 110 1 (.slice ka ln kc) ln xs) := by
     rw [HN.out.2] at hxs4; exact hxs4
    clear v1 v2 hF4 hxs4 hkk HF3 HS3 HW3
    go_wp2_with fail
    refine HK.out.mono ?_
    rintro e w5 (⟨t, q, c, y1, y2, y3, rfl, y4, y5⟩ | ⟨y1, rfl, y2⟩)
    case inr =>
     refine ⟨rfl, HNo.out w5 ?_ (HS4.out.near.trans y2)⟩
     rw [<- HQ.out]
     refine formR_bad HU1.out ?_
     rw [List.drop_drop]; exact y1
    obtain ⟨zt, zx, rfl⟩ := id y4.iface
    have hz5 := y5.near.size
    have hz4 := HF4.out.near.size
    have HO5 : Hid (w5.ownsRow w.heap.size 110 1 (.slice ka ln kc) ln xs) := r1_keep HOK.out (fun g' hg' => by
     have := r1_lt HOK.out g' hg'
     exact y5.near.block g' this.2 (by omega))
    have HY : Hid (InnerT (fun b => w4.heap.size <= b /\ b < w5.heap.size) w5 m t (.iface zt zx) /\ Scan R w4 w5 q) := ⟨y4, y5⟩
    have HG6 : Hid (formQ (parseU m) fuel (ns ++ [bs x]) (ks ++ [t]) (s.data.toList.drop q) = formOfT m s i) := by
     show _ = _
     rw [<- HQ.out]
     refine (formR_yes HU1.out ?_).symm
     rw [List.drop_drop]; exact y1
    obtain ⟨ik0, hi0, hy0, hy1, hyb⟩ := info_parts Tryz.info_anyQ
    have HIK : Hid (_ /\ _ /\ _ /\ _) := ⟨hi0, hy0, hy1, hyb⟩
    clear hi0 hy0 hy1 hyb y1 y4 y5 HK HQ HU1
    go_wp2_with (at_builtin; refine wpList_append_lies _ rfl (.tmp 23) (.tmp 26) 132 rfl w.heap.size 110 ik0 _ 1 16 Tryz.underlying132 HIK.out.1 HIK.out.2.1 HIK.out.2.2.1 HIK.out.2.2.2 rfl (by decide) (.slice ka ln kc) ln xs rfl (HO5.out.alloc _) ⟨w5.heap.size, 0, none⟩ 1 1 [.iface zt zx] rfl rfl (World.news_of_block (heap_alloc_new w5 _)) (by simp [Value.oneCell']) (by decide) (by unfold maxLen; omega) (by omega) (by simp; omega) (w5.heap.size + 1) (by simp) ?_; intro g2 cap2 w6 hown6 hgrow6 hat6 hlt6; refine Hid.out ?_)
    refine Lib.hid ?_
    obtain ⟨hF6, hb6, hz6⟩ := HF4.out.kid (W1 := w5) (Wa := w5.alloc (.cells #[.iface zt zx] 110)) (one := .cells #[.iface zt zx] 110) (g := g2) (cap := cap2) hR HY.out.2.near HY.out.1 rfl ⟨rfl, rfl, rfl⟩ (by rw [HN.out.2]; exact HOK.out) HKK.out (by rw [HN.out.2]; exact hown6) hgrow6 hat6
    rw [HN.out.2] at hF6
    have HF6 : Hid (RTree R m w w6 (ns ++ [bs x]) (ks ++ [t]) (.slice (some ⟨g, 0, none⟩) (ln + 1) cap) (.slice (some ⟨g2, 0, none⟩) (ln + 1) cap2)) := hF6
    have HS6 : Hid (Scan R w w6 q) := (HS4.out.trans HY.out.2).same hF6.near (hb6 R hR)
    obtain ⟨f', rfl⟩ : ∃ f', fuel = f' + 1 := ⟨fuel - 1, by omega⟩
    clear hF6 hb6 hz6 hown6 hgrow6 hat6 hlt6 HO5 HOK HKK HF4 HS4 HY
    go_wp2_with fail
    go_roundw
    case rel => exact ⟨ns ++ [bs x], ks ++ [t], q, f', ln + 1, some ⟨g, 0, none⟩, cap, some ⟨g2, 0, none⟩, cap2, by simp [HN.out.1], by simp [HN.out.2], by omega, rfl, rfl, HF6.out, HS6.out, by omega, y3, HG6.out, by omega⟩
    case measure => rw [HS6.out.atS, HA.out]; omega
set_option maxRecDepth 100000 in
set_option maxHeartbeats 1000000 in
theorem formI_any (m : Nat) (hm : TRSaid m) (B R : Nat) (s : ByteArray) (i : Nat) (w : World) (hL : LaidU B w) (hBR : B <= R) (h : Sc w R s i) (hMe : Meth w R) (hi : i <= s.size) (hs : s.size <= 10000) (hlt : s.size - i <= m) (hc : (s.data.toList.drop i).headD 0 = 123) :
  Calls Tryz.prog 73 #[.pointer (some ⟨R, 0, none⟩)] w (TRPost R s i (m + 1) w) := by
 have HPu : Hid ((formOfT m s i = none -> parseU (m + 1) (s.data.toList.drop i) = none) /\ (∀ ns ks r, formOfT m s i = some (ns, ks, r) -> parseU (m + 1) (s.data.toList.drop i) = some ((⟨5, 0, ByteArray.empty, ns, ks⟩ : Nd (T m)), r))) := by
  have := pu_form (m := m) hc
  rw [List.drop_drop] at this
  exact this
 have HE : Hid (eatP [123] (s.data.toList.drop i) = some ((s.data.toList.drop i).drop 1)) := head_eat hc (by decide)
 have HC : Hid (Calls Tryz.prog 106 _ _ _) := readFormT_any m hm B R s i w hL hBR h hMe hi hs hlt
 have hmf : ∀ (fn : Fn) (first cap : Array Value) (w : World), (Instr.makeFunc fn first cap).run Tryz.prog w = .ok (.func fn first cap) w := fun _ _ _ _ => rfl
 clear h hm hL hMe hc
 go_enter Tryz.func73, Tryz.ntmps73
 go_wp2_with fail
 refine HC.out.mono ?_
 rintro e w1 (⟨ns, ks, q, na, nc, ka, kc, ln, -, y1, y2, y3, -, rfl, y4, y5, y6⟩ | ⟨y1, rfl, y2⟩)
 case inr =>
  refine ⟨rfl, .inr ⟨?_, rfl, y2⟩⟩
  rcases y1 with y1 | ⟨-, y1⟩
  ·rw [HE.out] at y1; cases y1
  ·exact HPu.out.1 y1
 have HF : Hid (TRPost R s i (m + 1) w (.returned (.iface 140 (.agg #[.slice na ln nc, .slice ka ln kc]))) w1) :=
  .inl ⟨_, q, _, HPu.out.2 ns ks _ y1, y2, y3, rfl, .inr (.inr (.inr (.inr (.inl ⟨rfl, _, _, rfl, y4, y5⟩)))), y6⟩
 clear y1 y4 y5 y6 HC
 go_wp2_with fail
 go_ret
 exact HF.out
end Go.Proofs.YtmjhcgjhlakceaaGreatDoor
