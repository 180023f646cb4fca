/-
  Several texts in one, in their order.
-/
import Derived.Test.YtpnnbdejneoccaaGreatDoorScan2
import Derived.Test.YtpnnbdejneoccaaGreatDoorB17
import Derived.Test.YtpnnbdejneoccaaGreatDoorTMade
import Derived.Test.YtpnnbdejneoccaaGreatDoorB11
import Derived.Test.YtpnnbdejneoccaaGreatDoorB2
import Derived.Lib.AppendIntMem

/-
  What the program's reader of a list or a form of trees gathers: names and kids in rows of its own; its contract.
-/
namespace Go.Proofs.YtpnnbdejneoccaaGreatDoor
open Go.RowKit

/-- What is gathered so far. -/
structure RTree (R n : Nat) (w wr : World) (ns : List ByteArray) (ks : List (T n)) (nv kv : Value) : Prop where
  near : Near R w wr
  names : wr.ownsRow w.heap.size 9 1 nv ns.length (ns.map .string)
  short : ∀ s, s ∈ ns → s.size ≤ 10000
  kids : ∃ xs, wr.ownsRow w.heap.size 67 1 kv ks.length xs ∧ ∀ j (h : j < ks.length), ∃ c, xs[j]? = some c ∧ InnerT (Fr w.heap.size nv kv wr.heap.size) wr n ks[j] c
  apart : ∀ b, nv.ownBlock = some b → kv.ownBlock ≠ some b

theorem RTree.start (R n : Nat) (w wr : World) (h : Near R w wr) : RTree R n w wr [] [] (.slice none 0 0) (.slice none 0 0) :=
  ⟨h, World.ownsRow_nil _ _ _ _, fun _ h => (by cases h), ⟨[], World.ownsRow_nil _ _ _ _, fun j h => absurd h (Nat.not_lt_zero _)⟩, fun b hb => by cases hb⟩

theorem RTree.keep {R n : Nat} {w wr W : World} {ns : List ByteArray} {ks : List (T n)} {nv kv : Value} (h : RTree R n w wr ns ks nv kv) (hR : R < w.heap.size) (hn : Near R wr W) : RTree R n w W ns ks nv kv := by
  have hs : ∀ b, w.heap.size ≤ b → b < wr.heap.size → W.heap[b]? = wr.heap[b]? := fun b h1 h2 => hn.block b h2 (by omega)
  obtain ⟨xs, hx, hk⟩ := h.kids
  refine ⟨h.near.trans hn, r1_keep h.names fun g hg => ?_, h.short, ⟨xs, r1_keep hx fun g hg => ?_, fun j hj => ?_⟩, h.apart⟩
  · have := r1_lt h.names g hg
    exact hs g this.1 this.2
  · have := r1_lt hx g hg
    exact hs g this.1 this.2
  · obtain ⟨c, hc, ht⟩ := hk j hj
    exact ⟨c, hc, ht.keep (fun b hb => hs b hb.1 hb.2.1) (fun b hb => ⟨hb.1, Nat.lt_of_lt_of_le hb.2.1 hn.size, hb.2.2⟩)⟩

/-- One name more. -/
theorem RTree.name {R n : Nat} {w W Wa W2 : World} {ns : List ByteArray} {ks : List (T n)} {nv kv : Value} {x : ByteArray} {one : Obj} {g cap : Nat} (h : RTree R n w W ns ks nv kv)
    (ha : Wa.heap = W.heap.push one) (ho : Wa.os = W.os ∧ Wa.tape = W.tape ∧ Wa.output = W.output) (hx : x.size ≤ 10000)
    (hown : W2.ownsRow w.heap.size 9 1 (.slice (some ⟨g, 0, none⟩) (ns.length + 1) cap) (ns.length + 1) (ns.map .string ++ [.string x])) (hgrow : Wa.grownBy W2 nv.ownBlock) (hat : nv.ownBlock = some g ∨ g = W.heap.size + 1) :
    RTree R n w W2 (ns ++ [x]) ks (.slice (some ⟨g, 0, none⟩) (ns.length + 1) cap) kv ∧ (∀ b, b < w.heap.size → W2.heap[b]? = W.heap[b]?) ∧ W.heap.size ≤ W2.heap.size := by
  have hz : W2.heap.size ≥ W.heap.size + 1 := by have := hgrow.size; rw [ha] at this; simp at this; omega
  have hnl := r1_lt h.names
  have hgl := r1_lt hown g rfl
  have hws := h.near.size
  have q : ∀ b, b < W.heap.size → nv.ownBlock ≠ some b → W2.heap[b]? = W.heap[b]? := fun b hb hne => by
    rw [hgrow.block b (by rw [ha]; simp; omega) (fun e => hne e.symm), ha, Array.getElem?_push_lt hb, Array.getElem?_eq_getElem hb]
  obtain ⟨xs, hxs, hk⟩ := h.kids
  have hkl := r1_lt hxs
  refine ⟨⟨⟨?_, ?_, ?_, by omega, fun b hb hne => ?_⟩, ?_, ?_, ⟨xs, r1_keep hxs fun g' hg' => ?_, fun j hj => ?_⟩, fun b hb => ?_⟩, fun b hb => q b (by omega) (fun e => by have := hnl b e; omega), by omega⟩
  · rw [hgrow.os, ho.1]; exact h.near.os
  · rw [hgrow.tape, ho.2.1]; exact h.near.tape
  · rw [hgrow.output, ho.2.2]; exact h.near.output
  · rw [q b (by omega) (fun e => by have := hnl b e; omega)]
    exact h.near.block b hb hne
  · rw [List.length_append, List.length_singleton, List.map_append, List.map_singleton]
    exact hown
  · intro s hs
    rcases List.mem_append.1 hs with hs | hs
    · exact h.short s hs
    · rw [List.mem_singleton] at hs; subst hs; exact hx
  · have := hkl g' hg'
    exact q g' this.2 (fun e => h.apart g' e hg')
  · obtain ⟨c, hc, ht⟩ := hk j hj
    refine ⟨c, hc, ht.keep (fun b hb => ?_) (fun b hb => ?_)⟩
    · exact q b hb.2.1 hb.2.2.1
    · refine ⟨hb.1, by have := hb.2.1; omega, ?_, hb.2.2.2⟩
      intro e
      have e : g = b := by simpa [Value.ownBlock] using e
      rcases hat with h1 | h1
      · exact hb.2.2.1 (by rw [h1, e])
      · have := hb.2.1; omega
  · have hb : g = b := by simpa [Value.ownBlock] using hb
    subst hb
    rcases hat with h1 | h1
    · exact h.apart g h1
    · intro e; have := hkl g e; omega

/-- One kid more. -/
theorem RTree.kid {R n : Nat} {w W W1 Wa W2 : World} {ns : List ByteArray} {ks : List (T n)} {nv kv : Value} {t : T n} {c : Value} {one : Obj} {g cap : Nat} (h0 : RTree R n w W ns ks nv kv) (hR : R < w.heap.size)
    (hn : Near R W W1) (ht : InnerT (fun b => W.heap.size ≤ b ∧ b < W1.heap.size) W1 n t c)
    (ha : Wa.heap = W1.heap.push one) (ho : Wa.os = W1.os ∧ Wa.tape = W1.tape ∧ Wa.output = W1.output) {xs : List Value}
    (hxs : W.ownsRow w.heap.size 67 1 kv ks.length xs) (hk : ∀ j (h : j < ks.length), ∃ c, xs[j]? = some c ∧ InnerT (Fr w.heap.size nv kv W.heap.size) W n ks[j] c)
    (hown : W2.ownsRow w.heap.size 67 1 (.slice (some ⟨g, 0, none⟩) (ks.length + 1) cap) (ks.length + 1) (xs ++ [c])) (hgrow : Wa.grownBy W2 kv.ownBlock) (hat : kv.ownBlock = some g ∨ g = W1.heap.size + 1) :
    RTree R n w W2 ns (ks ++ [t]) nv (.slice (some ⟨g, 0, none⟩) (ks.length + 1) cap) ∧ (∀ b, b < w.heap.size → W2.heap[b]? = W1.heap[b]?) ∧ W1.heap.size ≤ W2.heap.size := by
  have hz1 := hn.size
  have hws := h0.near.size
  have hz : W2.heap.size ≥ W1.heap.size + 1 := by have := hgrow.size; rw [ha] at this; simp at this; omega
  have hnl := r1_lt h0.names
  have hkl := r1_lt hxs
  have hgl := r1_lt hown g rfl
  have q1 : ∀ b, b < W1.heap.size → kv.ownBlock ≠ some b → W2.heap[b]? = W1.heap[b]? := fun b hb hne => by
    rw [hgrow.block b (by rw [ha]; simp; omega) (fun e => hne e.symm), ha, Array.getElem?_push_lt hb, Array.getElem?_eq_getElem hb]
  have q : ∀ b, b < W.heap.size → b ≠ R → kv.ownBlock ≠ some b → W2.heap[b]? = W.heap[b]? := fun b hb hR hne => by
    rw [q1 b (by omega) hne, hn.block b hb hR]
  have hxl : xs.length = ks.length * 1 := hxs.1
  refine ⟨⟨⟨?_, ?_, ?_, by omega, fun b hb hne => ?_⟩, r1_keep h0.names fun g' hg' => ?_, h0.short, ⟨xs ++ [c], ?_, fun j hj => ?_⟩, fun b hb => ?_⟩, fun b hb => q1 b (by omega) (fun e => by have := hkl b e; omega), by omega⟩
  · rw [hgrow.os, ho.1]; exact hn.os.trans h0.near.os
  · rw [hgrow.tape, ho.2.1]; exact hn.tape.trans h0.near.tape
  · rw [hgrow.output, ho.2.2]; exact hn.output.trans h0.near.output
  · rw [q b (by omega) hne (fun e => by have := hkl b e; omega)]
    exact h0.near.block b hb hne
  · have := hnl g' hg'
    exact q g' this.2 (by omega) (h0.apart g' hg')
  · rw [List.length_append, List.length_singleton]
    exact hown
  · have hfar : ∀ b, kv.ownBlock ≠ some b → b < W1.heap.size → (Value.slice (some ⟨g, 0, none⟩) (ks.length + 1) cap).ownBlock ≠ some b := by
      intro b h1 h2 e
      have e : g = b := by simpa [Value.ownBlock] using e
      rcases hat with h3 | h3
      · exact h1 (by rw [h3, e])
      · omega
    by_cases hjk : j < ks.length
    · obtain ⟨d, e0, hd⟩ := hk j hjk
      refine ⟨d, by rw [List.getElem?_append_left (by omega)]; exact e0, ?_⟩
      rw [List.getElem_append_left hjk]
      refine hd.keep (fun b hb => ?_) (fun b hb => ⟨hb.1, by have := hb.2.1; omega, hb.2.2.1, hfar b hb.2.2.2 (by have := hb.2.1; omega)⟩)
      exact q b hb.2.1 (by have := hb.1; omega) hb.2.2.2
    · have hj' : j = ks.length := by simp at hj; omega
      subst hj'
      refine ⟨c, by rw [List.getElem?_append_right (by omega)]; simp [hxl], ?_⟩
      have : (ks ++ [t])[ks.length] = t := by simp
      rw [this]
      refine ht.keep (fun b hb => ?_) (fun b hb => ⟨by omega, by omega, fun e => by have := hnl b e; omega, hfar b (fun e => by have := hkl b e; omega) hb.2⟩)
      exact q1 b hb.2 (fun e => by have := hkl b e; omega)
  · intro e
    have e : g = b := by simpa [Value.ownBlock] using e
    subst e
    rcases hat with h1 | h1
    · exact h0.apart g hb h1
    · have := hnl g hb; omega

/-- What was gathered, as rows. -/
theorem RTree.rows {R n : Nat} {w wr : World} {ns : List ByteArray} {ks : List (T n)} {nv kv : Value} (h : RTree R n w wr ns ks nv kv) (hl : ns.length ≤ 20000) (hk : ks.length ≤ 20000) :
    StrsIn (fun b => w.heap.size ≤ b ∧ b < wr.heap.size) wr ns nv ∧ Row1 (fun b => w.heap.size ≤ b ∧ b < wr.heap.size) wr (InnerT (fun b => w.heap.size ≤ b ∧ b < wr.heap.size) wr n) ks kv := by
  obtain ⟨xs, hxs, hkk⟩ := h.kids
  refine ⟨strs_of_ownsK h.names hl h.short fun g hg => r1_lt h.names g hg, row1_of_owns hxs (by unfold maxLen; omega) (fun g hg => r1_lt hxs g hg) fun j hj hx => ?_⟩
  obtain ⟨c, hd, hdt⟩ := hkk j hj
  have : xs[j] = c := by rw [List.getElem?_eq_getElem hx] at hd; exact Option.some.inj hd
  rw [this]
  exact hdt.keep (fun _ _ => rfl) (fun b hb => ⟨hb.1, hb.2.1⟩)

/-- The library's table of tens and its two errors lie below B. -/
def LaidU (B : Nat) (w : World) : Prop :=
  Lib.TabBelow Tryz.prog B w "internal/strconv.uint64pow10" .u64 Lib.pow10Tab ∧ (∃ tp p, ∀ w', Below B w w' → w'.var? Tryz.prog "strconv.ErrSyntax" = some #[.iface tp p]) ∧
    (∃ tp p, ∀ w', Below B w w' → w'.var? Tryz.prog "strconv.ErrRange" = some #[.iface tp p])

theorem LaidU.step {B : Nat} {w w' : World} (h : LaidU B w) (hb : Below B w w') : LaidU B w' := by
  obtain ⟨h1, ⟨t1, p1, h2⟩, t2, p2, h3⟩ := h
  exact ⟨fun w2 k => h1 w2 (hb.trans k), ⟨t1, p1, fun w2 k => h2 w2 (hb.trans k)⟩, t2, p2, fun w2 k => h3 w2 (hb.trans k)⟩

theorem LaidU.near {B R : Nat} {w w' : World} (h : LaidU B w) (hn : Near R w w') (hB : B ≤ R) (hR : R < w.heap.size) : LaidU B w' := h.step (hn.below hB (by omega))

/-- Which method reads a tree that begins with this byte. -/
def methV (R : Nat) (c : UInt8) : Value :=
  if digC c = true ∨ c = 45 then .func (.func 28) #[.pointer (some ⟨R, 0, none⟩)] #[]
  else if c = 34 then .func (.func 31) #[.pointer (some ⟨R, 0, none⟩)] #[]
  else if c = 121 ∨ c = 110 then .func (.func 29) #[.pointer (some ⟨R, 0, none⟩)] #[]
  else if c = 91 then .func (.func 32) #[.pointer (some ⟨R, 0, none⟩)] #[]
  else if c = 123 then .func (.func 33) #[.pointer (some ⟨R, 0, none⟩)] #[]
  else if c = 126 ∨ c = 63 then .func (.func 30) #[.pointer (some ⟨R, 0, none⟩)] #[]
  else .nilFunc

/-- The reader's table. -/
def Meth (w : World) (R : Nat) : Prop := ∀ c : UInt8, w.cell? ⟨R, 2 + c.toNat, none⟩ = some (methV R c)

theorem Meth.scan {w w' : World} {R q : Nat} (h : Meth w R) (hs : Scan R w w' q) : Meth w' R := fun c => (hs.cells (2 + c.toNat) (by omega)).trans (h c)

/-- What the reader of a tree makes. -/
def TRPost (R : Nat) (s : ByteArray) (i m : Nat) (w : World) (e : Ending) (w' : World) : Prop :=
  (∃ (t : T m) (q : Nat) (v : Value), parseU m (s.data.toList.drop i) = some (t, s.data.toList.drop q) ∧ i < q ∧ q ≤ s.size ∧ e = .returned v ∧ InnerT (fun b => w.heap.size ≤ b ∧ b < w'.heap.size) w' m t v ∧ Scan R w w' q) ∨
    (parseU m (s.data.toList.drop i) = none ∧ e = .panicked refusal ∧ Near R w w')

/-- The reader of trees, of at most m levels. -/
def TRSaid (m : Nat) : Prop := ∀ (B R : Nat) (s : ByteArray) (i : Nat) (w : World), LaidU B w → B ≤ R → Sc w R s i → Meth w R → i ≤ s.size → s.size ≤ 10000 → s.size - i < m →
  Calls Tryz.prog 56 #[.pointer (some ⟨R, 0, none⟩)] w (TRPost R s i m w)

end Go.Proofs.YtpnnbdejneoccaaGreatDoor

/-
  The program's reader of trees: texts, yes or no, maybes.
-/
namespace Go.Proofs.YtpnnbdejneoccaaGreatDoor
open Go.RowKit

theorem pu_num {m : Nat} {l : List UInt8} (h : digC (l.headD 0) = true ∨ l.headD 0 = 45) : (numOf (numW l) = none → parseU (m + 1) l = none) ∧ (∀ v, numOf (numW l) = some v → parseU (m + 1) l = some ((⟨1, v, ByteArray.empty, [], []⟩ : Nd (T m)), l.drop (numW l).length)) := by
  refine ⟨fun h1 => ?_, fun v h1 => ?_⟩ <;> rw [parseU, if_pos h, h1] <;> rfl
theorem pu_quoted {m : Nat} {l : List UInt8} (h : l.headD 0 = 34) : (untilP 34 (l.drop 1) = none → parseU (m + 1) l = none) ∧ (∀ x r, untilP 34 (l.drop 1) = some (x, r) → parseU (m + 1) l = some ((⟨2, 0, bs x, [], []⟩ : Nd (T m)), r.drop 1)) := by
  refine ⟨fun h1 => ?_, fun x r h1 => ?_⟩ <;> rw [parseU, if_neg (by rw [h]; decide), if_pos h, h1] <;> rfl
theorem pu_yes {m : Nat} {l r : List UInt8} (h : l.headD 0 = 121 ∨ l.headD 0 = 110) (h1 : eatP [121, 101, 115] l = some r) : parseU (m + 1) l = some ((⟨3, 1, ByteArray.empty, [], []⟩ : Nd (T m)), r) := by
  rw [parseU, if_neg (by rcases h with h | h <;> rw [h] <;> decide), if_neg (by rcases h with h | h <;> rw [h] <;> decide), if_pos h, h1]; rfl
theorem pu_no {m : Nat} {l : List UInt8} (h : l.headD 0 = 121 ∨ l.headD 0 = 110) (h1 : eatP [121, 101, 115] l = none) : (eatP [110, 111] l = none → parseU (m + 1) l = none) ∧ (∀ r, eatP [110, 111] l = some r → parseU (m + 1) l = some ((⟨3, 0, ByteArray.empty, [], []⟩ : Nd (T m)), r)) := by
  refine ⟨fun h2 => ?_, fun r h2 => ?_⟩ <;> rw [parseU, if_neg (by rcases h with h | h <;> rw [h] <;> decide), if_neg (by rcases h with h | h <;> rw [h] <;> decide), if_pos h, h1] <;> simp only [h2] <;> rfl
theorem pu_list {m : Nat} {l : List UInt8} (h : l.headD 0 = 91) : (listQ (parseU m) ((l.drop 1).length + 1) [] (l.drop 1) = none → parseU (m + 1) l = none) ∧ (∀ ks r, listQ (parseU m) ((l.drop 1).length + 1) [] (l.drop 1) = some (ks, r) → parseU (m + 1) l = some ((⟨4, 0, ByteArray.empty, [], ks⟩ : Nd (T m)), r)) := by
  refine ⟨fun h1 => ?_, fun ks r h1 => ?_⟩ <;> rw [parseU, if_neg (by rw [h]; decide), if_neg (by rw [h]; decide), if_neg (by rw [h]; decide), if_pos h, h1] <;> rfl
theorem pu_form {m : Nat} {l : List UInt8} (h : l.headD 0 = 123) : (formQ (parseU m) ((l.drop 1).length + 1) [] [] (l.drop 1) = none → parseU (m + 1) l = none) ∧ (∀ ns ks r, formQ (parseU m) ((l.drop 1).length + 1) [] [] (l.drop 1) = some (ns, ks, r) → parseU (m + 1) l = some ((⟨5, 0, ByteArray.empty, ns, ks⟩ : Nd (T m)), r)) := by
  refine ⟨fun h1 => ?_, fun ns ks r h1 => ?_⟩ <;> rw [parseU, if_neg (by rw [h]; decide), if_neg (by rw [h]; decide), if_neg (by rw [h]; decide), if_neg (by rw [h]; decide), if_pos h, h1] <;> rfl
theorem pu_none {m : Nat} {l : List UInt8} (h : l.headD 0 = 126) : parseU (m + 1) l = some ((⟨6, 0, ByteArray.empty, [], []⟩ : Nd (T m)), l.drop 1) := by
  rw [parseU, if_neg (by rw [h]; decide), if_neg (by rw [h]; decide), if_neg (by rw [h]; decide), if_neg (by rw [h]; decide), if_neg (by rw [h]; decide), if_pos h]; rfl
theorem pu_some {m : Nat} {l : List UInt8} (h : l.headD 0 = 63) : (parseU m (l.drop 1) = none → parseU (m + 1) l = none) ∧ (∀ t r, parseU m (l.drop 1) = some (t, r) → parseU (m + 1) l = some ((⟨6, 0, ByteArray.empty, [], [t]⟩ : Nd (T m)), r)) := by
  refine ⟨fun h1 => ?_, fun t r h1 => ?_⟩ <;> rw [parseU, if_neg (by rw [h]; decide), if_neg (by rw [h]; decide), if_neg (by rw [h]; decide), if_neg (by rw [h]; decide), if_neg (by rw [h]; decide), if_neg (by rw [h]; decide), if_pos h, h1] <;> rfl
theorem pu_else {m : Nat} {l : List UInt8} (h1 : ¬ (digC (l.headD 0) = true ∨ l.headD 0 = 45)) (h2 : ¬ l.headD 0 = 34) (h3 : ¬ (l.headD 0 = 121 ∨ l.headD 0 = 110)) (h4 : ¬ l.headD 0 = 91) (h5 : ¬ l.headD 0 = 123) (h6 : ¬ (l.headD 0 = 126 ∨ l.headD 0 = 63)) : parseU (m + 1) l = none := by
  rw [parseU, if_neg h1, if_neg h2, if_neg h3, if_neg h4, if_neg h5, if_neg (fun e => h6 (.inl e)), if_neg (fun e => h6 (.inr e))]

theorem head_eat {l : List UInt8} {c : UInt8} (h : l.headD 0 = c) (hc : c ≠ 0) : eatP [c] l = some (l.drop 1) := by
  conv => lhs; rw [headU_eq h hc]
  exact eatP_one_cons _ _

set_option maxRecDepth 20000 in
set_option maxHeartbeats 1000000 in
theorem quotedI_any (m R : Nat) (s : ByteArray) (i : Nat) (w : World) (h : Sc w R s i) (hi : i ≤ s.size) (hs : s.size ≤ 10000) (hc : (s.data.toList.drop i).headD 0 = 34) :
    Calls Tryz.prog 31 #[.pointer (some ⟨R, 0, none⟩)] w (TRPost R s i (m + 1) w) := by
  have HP : Hid (_ ∧ _) := pu_quoted (m := m) hc
  have HE : Hid (eatP [34] (s.data.toList.drop i) = some ((s.data.toList.drop i).drop 1)) := head_eat hc (by decide)
  have HW : Hid (Calls Tryz.prog 36 #[.pointer (some ⟨R, 0, none⟩), .string ⟨#[34]⟩] w _) := want_any w R s ⟨#[34]⟩ i h hs (by decide) hi
  have HSc : Hid (Sc w R s i) := h
  clear h hc
  go_enter Tryz.func31, Tryz.ntmps31
  go_wp2_with fail
  refine HW.out.mono ?_
  rintro e w1 (⟨h1, rfl, h2, h3⟩ | ⟨h1, rfl, h2⟩)
  case inr =>
    have h1 : eatP [34] (s.data.toList.drop i) = none := h1
    rw [HE.out] at h1; cases h1
  have h2 : Scan R w w1 (i + 1) := h2
  have h3 : i + 1 ≤ s.size := h3
  have HS1 : Hid (Scan R w w1 (i + 1)) := h2
  have HU : Hid (Calls Tryz.prog 38 #[.pointer (some ⟨R, 0, none⟩), .int .u8 34] w1 (UntilPost 34 w1 R s (i + 1))) := until_any 34 w1 R s (i + 1) (h2.sc HSc.out) hs h3
  clear h1 h2 HW
  go_wp2_with fail
  refine HU.out.mono ?_
  rintro e w2 (⟨x, u1, rfl, u2, u3⟩ | ⟨u1, rfl, u2⟩)
  case inr => exact ⟨rfl, .inr ⟨HP.out.1 (by rw [List.drop_drop]; exact u1), rfl, HS1.out.near.trans u2⟩⟩
  have HS2 : Hid (Scan R w w2 (i + 1 + x.length)) := HS1.out.trans u2
  have HW2 : Hid (Calls Tryz.prog 36 #[.pointer (some ⟨R, 0, none⟩), .string ⟨#[34]⟩] w2 _) := want_any w2 R s ⟨#[34]⟩ (i + 1 + x.length) (HS2.out.sc HSc.out) hs (by decide) (by omega)
  have HU1 : Hid (untilP 34 (s.data.toList.drop (i + 1)) = some (x, s.data.toList.drop (i + 1 + x.length))) := u1
  clear u1 u2 HU HS1
  go_wp2_with fail
  refine HW2.out.mono ?_
  rintro e w3 (⟨v1, rfl, v2, v3⟩ | ⟨v1, rfl, v2⟩)
  case inr =>
    have v1 : eatP [34] (s.data.toList.drop (i + 1 + x.length)) = none := v1
    obtain ⟨r', e1, -⟩ := untilP_some HU1.out
    rw [e1, eatP_one_cons] at v1
    cases v1
  have v2 : Scan R w2 w3 (i + 1 + x.length + 1) := v2
  have v3 : i + 1 + x.length + 1 ≤ s.size := v3
  have HF : Hid (TRPost R s i (m + 1) w (.returned (.iface 82 (.string (bs x)))) w3) := by
    refine .inl ⟨(⟨2, 0, bs x, [], []⟩ : Nd (T m)), i + 1 + x.length + 1, _, ?_, by omega, v3, rfl, .inr (.inl ⟨rfl, rfl⟩), HS2.out.trans v2⟩
    have := HP.out.2 x (s.data.toList.drop (i + 1 + x.length)) (by rw [List.drop_drop]; exact HU1.out)
    rw [this, List.drop_drop]; rfl
  clear v1 v2 v3 HW2 HU1 HS2
  go_wp2_with fail
  go_ret
  exact HF.out

set_option maxRecDepth 20000 in
set_option maxHeartbeats 1000000 in
theorem flagI_any (m R : Nat) (s : ByteArray) (i : Nat) (w : World) (h : Sc w R s i) (hi : i ≤ s.size) (hs : s.size ≤ 10000) (hc : (s.data.toList.drop i).headD 0 = 121 ∨ (s.data.toList.drop i).headD 0 = 110) :
    Calls Tryz.prog 29 #[.pointer (some ⟨R, 0, none⟩)] w (TRPost R s i (m + 1) w) := by
  have HCc : Hid ((s.data.toList.drop i).headD 0 = 121 ∨ (s.data.toList.drop i).headD 0 = 110) := hc
  have HW : Hid (Calls Tryz.prog 54 #[.pointer (some ⟨R, 0, none⟩), .string ⟨#[121, 101, 115]⟩] w _) := skip_any w R s ⟨#[121, 101, 115]⟩ i h hs (by decide) hi
  have HSc : Hid (Sc w R s i) := h
  clear h hc
  go_enter Tryz.func29, Tryz.ntmps29
  go_wp2_with fail
  refine HW.out.mono ?_
  rintro e w1 (⟨h1, rfl, h2, h3⟩ | ⟨h1, rfl, h2⟩)
  · have h1 : eatP [121, 101, 115] (s.data.toList.drop i) = some (s.data.toList.drop (i + 3)) := h1
    have h2 : Scan R w w1 (i + 3) := h2
    have h3 : i + 3 ≤ s.size := h3
    have HF : Hid (TRPost R s i (m + 1) w (.returned (.iface 79 (.bool true))) w1) :=
      .inl ⟨_, i + 3, _, pu_yes HCc.out h1, by omega, h3, rfl, .inr (.inr (.inl ⟨rfl, rfl⟩)), h2⟩
    clear h1 h2 h3 HW
    go_wp2_with fail
    go_ret
    exact HF.out
  · have h1 : eatP [121, 101, 115] (s.data.toList.drop i) = none := h1
    have HP : Hid (_ ∧ _) := pu_no (m := m) HCc.out h1
    have HS1 : Hid (Scan R w w1 i) := h2
    have HW2 : Hid (Calls Tryz.prog 36 #[.pointer (some ⟨R, 0, none⟩), .string ⟨#[110, 111]⟩] w1 _) := want_any w1 R s ⟨#[110, 111]⟩ i (h2.sc HSc.out) hs (by decide) hi
    clear h1 h2 HW
    go_wp2_with fail
    refine HW2.out.mono ?_
    rintro e w2 (⟨v1, rfl, v2, v3⟩ | ⟨v1, rfl, v2⟩)
    case inr => exact ⟨rfl, .inr ⟨HP.out.1 v1, rfl, HS1.out.near.trans v2⟩⟩
    have v2 : Scan R w1 w2 (i + 2) := v2
    have v3 : i + 2 ≤ s.size := v3
    have HF : Hid (TRPost R s i (m + 1) w (.returned (.iface 79 (.bool false))) w2) :=
      .inl ⟨_, i + 2, _, HP.out.2 _ v1, by omega, v3, rfl, .inr (.inr (.inl ⟨rfl, rfl⟩)), HS1.out.trans v2⟩
    clear v1 v2 v3 HW2 HS1
    go_wp2_with fail
    go_ret
    exact HF.out

set_option maxRecDepth 20000 in
set_option maxHeartbeats 1000000 in
theorem maybeI_any (m : Nat) (hm : TRSaid m) (B R : Nat) (s : ByteArray) (i : Nat) (w : World) (hL : LaidU B w) (hBR : B ≤ R) (h : Sc w R s i) (hM : Meth w R) (hi : i ≤ s.size) (hs : s.size ≤ 10000) (hlt : s.size - i ≤ m) (hc : (s.data.toList.drop i).headD 0 = 126 ∨ (s.data.toList.drop i).headD 0 = 63) :
    Calls Tryz.prog 30 #[.pointer (some ⟨R, 0, none⟩)] w (TRPost R s i (m + 1) w) := by
  have hR := h.lt
  have HW : Hid (Calls Tryz.prog 54 #[.pointer (some ⟨R, 0, none⟩), .string ⟨#[126]⟩] w _) := skip_any w R s ⟨#[126]⟩ i h hs (by decide) hi
  have HSc : Hid (Sc w R s i) := h
  have HLM : Hid (LaidU B w ∧ Meth w R ∧ TRSaid m) := ⟨hL, hM, hm⟩
  have HCc : Hid ((s.data.toList.drop i).headD 0 = 126 ∨ (s.data.toList.drop i).headD 0 = 63) := hc
  clear h hL hM hm hc
  go_enter Tryz.func30, Tryz.ntmps30
  go_wp2_with fail
  refine HW.out.mono ?_
  rintro e w1 (⟨h1, rfl, h2, h3⟩ | ⟨h1, rfl, h2⟩)
  · have h1 : eatP [126] (s.data.toList.drop i) = some (s.data.toList.drop (i + 1)) := h1
    have h2 : Scan R w w1 (i + 1) := h2
    have h3 : i + 1 ≤ s.size := h3
    have HF : Hid (TRPost R s i (m + 1) w (.returned (.iface 81 (.slice none 0 0))) w1) := by
      have hh : (s.data.toList.drop i).headD 0 = 126 := by rw [eatP_some h1]; rfl
      refine .inl ⟨(⟨6, 0, ByteArray.empty, [], []⟩ : Nd (T m)), i + 1, _, ?_, by omega, h3, rfl, .inr (.inr (.inr (.inr (.inr ⟨rfl, _, rfl, none, 0, rfl, by simp [maxLen], fun h => absurd rfl h⟩)))), h2⟩
      rw [pu_none hh, List.drop_drop]; rfl
    clear h1 h2 h3 HW
    go_wp2_with fail
    go_ret
    exact HF.out
  · have h1 : eatP [126] (s.data.toList.drop i) = none := h1
    have hh : (s.data.toList.drop i).headD 0 = 63 := by
      rcases HCc.out with h | h
      · rw [head_eat h (by decide)] at h1; cases h1
      · exact h
    have HP : Hid (_ ∧ _) := pu_some (m := m) hh
    have HE : Hid (eatP [63] (s.data.toList.drop i) = some ((s.data.toList.drop i).drop 1)) := head_eat hh (by decide)
    have HS1 : Hid (Scan R w w1 i) := h2
    have HW2 : Hid (Calls Tryz.prog 36 #[.pointer (some ⟨R, 0, none⟩), .string ⟨#[63]⟩] w1 _) := want_any w1 R s ⟨#[63]⟩ i (h2.sc HSc.out) hs (by decide) hi
    clear h1 h2 HW hh
    go_wp2_with fail
    refine HW2.out.mono ?_
    rintro e w2 (⟨v1, rfl, v2, v3⟩ | ⟨v1, rfl, v2⟩)
    case inr =>
      have v1 : eatP [63] (s.data.toList.drop i) = none := v1
      rw [HE.out] at v1; cases v1
    have v2 : Scan R w1 w2 (i + 1) := v2
    have v3 : i + 1 ≤ s.size := v3
    have hS2 := HS1.out.trans v2
    have HS2 : Hid (Scan R w w2 (i + 1)) := hS2
    have HK : Hid (Calls Tryz.prog 56 #[.pointer (some ⟨R, 0, none⟩)] w2 (TRPost R s (i + 1) m w2)) := HLM.out.2.2 B R s (i + 1) w2 (HLM.out.1.near hS2.near hBR hR) hBR (hS2.sc HSc.out) (HLM.out.2.1.scan hS2) v3 hs (by omega)
    clear v1 v2 HW2 HS1 hS2 HE
    go_wp2_with fail
    refine HK.out.mono ?_
    rintro e w3 (⟨t, q, v, y1, y2, y3, rfl, y4, y5⟩ | ⟨y1, rfl, y2⟩)
    case inr => exact ⟨rfl, .inr ⟨HP.out.1 (by rw [List.drop_drop]; exact y1), rfl, HS2.out.near.trans y2⟩⟩
    obtain ⟨u, x, rfl⟩ := id y4.iface
    have hz2 := HS2.out.near.size
    have hz3 := y5.near.size
    have HF : Hid (TRPost R s i (m + 1) w (.returned (.iface 81 (.slice (some ⟨w3.heap.size, 0, none⟩) 1 1))) (w3.alloc (.cells #[.iface u x] 67))) := by
      have hbx : Below w3.heap.size w3 (w3.alloc (.cells #[.iface u x] 67)) := (Below.refl _ _).alloc (Nat.le_refl _) _
      refine .inl ⟨_, q, _, HP.out.2 t _ (by rw [List.drop_drop]; exact y1), by omega, y3, rfl, .inr (.inr (.inr (.inr (.inr ⟨rfl, _, rfl, some ⟨w3.heap.size, 0, none⟩, 1, rfl, by simp [maxLen], fun _ => ⟨w3.heap.size, 0, rfl, ⟨by omega, by simp⟩, fun j hj => ?_⟩⟩)))), (HS2.out.trans y5).below hbx (by omega)⟩
      have : j = 0 := by simpa using hj
      subst this
      exact ⟨.iface u x, by simp [go_sem], y4.keep (fun b hb => Below.heap_alloc _ _ _ hb.2) (fun b hb => ⟨by omega, by simp; omega⟩)⟩
    clear y1 y4 y5 HK HS2
    go_wp2_with fail
    go_ret
    exact HF.out

end Go.Proofs.YtpnnbdejneoccaaGreatDoor
