/-
  Several texts in one, in their order.
-/
import Derived.Test.YtdijbjhmjamagaaGreatDoorRows
import Derived.Test.YtdijbjhmjamagaaGreatDoorPlain
import Derived.WalkKit
import Derived.WalkSpells
import Derived.WalkLawsBesides
import Derived.Deep.OwnRows

/-
  Trees in memory: what it means that five cells hold a tree, all of whose memory lies below block B; and that this lasts while nothing below B is written.
-/
namespace Go.Proofs.YtdijbjhmjamagaaGreatDoor
open Go.RowKit

/-- A fact laid behind Hid, its statement read off. -/
theorem hidF {p : Prop} (h : p) : Hid p := h

/-- A slice of texts, in blocks of S. -/
def StrsIn (S : Nat → Prop) (w : World) (l : List ByteArray) (v : Value) : Prop :=
  ∃ (ao : Option Addr) (cap : Nat), v = .slice ao l.length cap ∧ l.length ≤ maxLen ∧ (∀ s, s ∈ l → s.size ≤ maxLen) ∧
    (l ≠ [] → ∃ b off, ao = some ⟨b, off, none⟩ ∧ S b ∧ ∀ i (h : i < l.length), w.cell? ⟨b, off + i, none⟩ = some (.string l[i]))

/-- A slice of things of five cells each, in blocks of S. -/
def RowIn {α : Type} (S : Nat → Prop) (w : World) (R : α → Value → Value → Value → Value → Value → Prop) (l : List α) (v : Value) : Prop :=
  ∃ (ao : Option Addr) (cap : Nat), v = .slice ao l.length cap ∧ l.length ≤ maxLen ∧
    (l ≠ [] → ∃ b off, ao = some ⟨b, off, none⟩ ∧ S b ∧ ∀ i (h : i < l.length), ∃ c0 c1 c2 c3 c4, w.cell? ⟨b, off + i * 5, none⟩ = some c0 ∧ w.cell? ⟨b, off + i * 5 + 1, none⟩ = some c1 ∧
      w.cell? ⟨b, off + i * 5 + 2, none⟩ = some c2 ∧ w.cell? ⟨b, off + i * 5 + 3, none⟩ = some c3 ∧ w.cell? ⟨b, off + i * 5 + 4, none⟩ = some c4 ∧ R l[i] c0 c1 c2 c3 c4)

/-- Five cells hold a tree, its memory in blocks of S. -/
def TreeIn (S : Nat → Prop) (w : World) : (n : Nat) → T n → Value → Value → Value → Value → Value → Prop
  | 0, _, _, _, _, _, _ => False
  | n + 1, t, c0, c1, c2, c3, c4 => c0 = .int .i64 (Nd.sort t) ∧ c1 = .int .i64 (Nd.num t) ∧ c2 = .string (Nd.text t) ∧ (Nd.text t).size ≤ maxLen ∧
      (Lit.int .i64 (Nd.sort t)).wf = true ∧ (Lit.int .i64 (Nd.num t)).wf = true ∧ StrsIn S w (Nd.names t) c3 ∧ RowIn S w (TreeIn S w n) (Nd.kids t) c4

/-- The blocks of S are as they were. -/
def Same (S : Nat → Prop) (w w' : World) : Prop := ∀ b, S b → w'.heap[b]? = w.heap[b]?

theorem Same.cell {S : Nat → Prop} {w w' : World} (h : Same S w w') {p : Addr} (hp : S p.block) : w'.cell? p = w.cell? p := World.cell?_of_block (w := w) (h p.block hp)

theorem same_below {S : Nat → Prop} {B : Nat} {w w' : World} (h : Below B w w') (hS : ∀ b, S b → b < B) : Same S w w' := fun b hb => h.block b (hS b hb)

theorem StrsIn.keep {S S' : Nat → Prop} {w w' : World} {l : List ByteArray} {v : Value} (h : StrsIn S w l v) (hb : Same S w w') (hS : ∀ b, S b → S' b) : StrsIn S' w' l v := by
  obtain ⟨ao, cap, hv, hl, hs, hc⟩ := h
  refine ⟨ao, cap, hv, hl, hs, fun hne => ?_⟩
  obtain ⟨b, off, ha, hB, hcell⟩ := hc hne
  exact ⟨b, off, ha, hS b hB, fun i hi => (hb.cell (p := ⟨b, off + i, none⟩) hB).trans (hcell i hi)⟩

theorem RowIn.keep {α : Type} {S S' : Nat → Prop} {w w' : World} {R R' : α → Value → Value → Value → Value → Value → Prop} {l : List α} {v : Value} (h : RowIn S w R l v) (hb : Same S w w') (hS : ∀ b, S b → S' b)
    (hR : ∀ x c0 c1 c2 c3 c4, x ∈ l → R x c0 c1 c2 c3 c4 → R' x c0 c1 c2 c3 c4) : RowIn S' w' R' l v := by
  obtain ⟨ao, cap, hv, hl, hc⟩ := h
  refine ⟨ao, cap, hv, hl, fun hne => ?_⟩
  obtain ⟨b, off, ha, hB, hcell⟩ := hc hne
  refine ⟨b, off, ha, hS b hB, fun i hi => ?_⟩
  obtain ⟨c0, c1, c2, c3, c4, h0, h1, h2, h3, h4, hr⟩ := hcell i hi
  exact ⟨c0, c1, c2, c3, c4, (hb.cell (p := ⟨b, off + i * 5, none⟩) hB).trans h0, (hb.cell (p := ⟨b, off + i * 5 + 1, none⟩) hB).trans h1, (hb.cell (p := ⟨b, off + i * 5 + 2, none⟩) hB).trans h2,
    (hb.cell (p := ⟨b, off + i * 5 + 3, none⟩) hB).trans h3, (hb.cell (p := ⟨b, off + i * 5 + 4, none⟩) hB).trans h4, hR _ _ _ _ _ _ (List.getElem_mem hi) hr⟩

theorem TreeIn.keep {S S' : Nat → Prop} {w w' : World} (hb : Same S w w') (hS : ∀ b, S b → S' b) : ∀ {n : Nat} {t : T n} {c0 c1 c2 c3 c4 : Value}, TreeIn S w n t c0 c1 c2 c3 c4 → TreeIn S' w' n t c0 c1 c2 c3 c4 := by
  intro n
  induction n with
  | zero => intro t c0 c1 c2 c3 c4 h; exact h.elim
  | succ n ih =>
    intro t c0 c1 c2 c3 c4 h
    obtain ⟨h0, h1, h2, hs, hw0, hw1, h3, h4⟩ := h
    exact ⟨h0, h1, h2, hs, hw0, hw1, h3.keep hb hS, h4.keep hb hS fun x _ _ _ _ _ _ hx => ih hx⟩

/-- The world behind a call that made memory: what was there is as it was. -/
theorem below_step {B : Nat} {a b c : World} (h : Below B a b) (hs : B ≤ b.heap.size) (k : Below b.heap.size b c) : Below B a c := h.trans (k.mono hs)

theorem TreeIn.shape {S : Nat → Prop} {w : World} : ∀ {n : Nat} {t : T n} {c0 c1 c2 c3 c4 : Value}, TreeIn S w n t c0 c1 c2 c3 c4 →
    ∃ (s m : Int) (x : ByteArray) (a : Option Addr) (l c : Nat) (a' : Option Addr) (l' c' : Nat), c0 = .int .i64 s ∧ c1 = .int .i64 m ∧ c2 = .string x ∧ c3 = .slice a l c ∧ c4 = .slice a' l' c' := by
  intro n
  cases n with
  | zero => intro t c0 c1 c2 c3 c4 h; exact h.elim
  | succ n =>
    intro t c0 c1 c2 c3 c4 h
    obtain ⟨h0, h1, h2, hs, hw0, hw1, ⟨ao, cap, h3, -⟩, ⟨ao', cap', h4, -⟩⟩ := h
    exact ⟨_, _, _, _, _, _, _, _, _, h0, h1, h2, h3, h4⟩

theorem rowIs_made_any (w : World) (z : Array Value) (n : Nat) (t : TypeId) : ∃ F, (w.alloc (.cells (madeCells z n) t)).rowIs w.heap.size t n F := by
  have h := World.rowIs_alloc w (madeCells z n) t (fun i => (madeCells z n).getD i undef) (fun i hi => by simp [hi])
  rw [size_madeCells] at h
  exact ⟨_, h⟩

theorem bcell {W w1 : World} (hb : Below W.heap.size W w1) : (∀ b o, b < W.heap.size → w1.cell? ⟨b, o, none⟩ = W.cell? ⟨b, o, none⟩) ∧ (∀ b o, b < W.heap.size → w1.frozen? ⟨b, o, none⟩ = W.frozen? ⟨b, o, none⟩) :=
  ⟨fun b o h => hb.cell (p := ⟨b, o, none⟩) h, fun b o h => hb.frozen (p := ⟨b, o, none⟩) h⟩

end Go.Proofs.YtdijbjhmjamagaaGreatDoor

/-
  Plain mathematics of names and texts: which bytes a text may have, which texts are names, which names ascend; when a node is ok but for its kids; when a tree is ok.
-/
namespace Go.Proofs.YtdijbjhmjamagaaGreatDoor
open Go.RowKit

def okByte (c : UInt8) : Bool := decide (32 ≤ (c.toNat : Int) ∧ (c.toNat : Int) ≤ 126 ∧ ¬ (c.toNat : Int) = 34)
def textB (s : ByteArray) : Bool := decide (s.size ≤ 60) && s.data.toList.all okByte
def nmByte (c : UInt8) : Bool := decide ((97 ≤ (c.toNat : Int) ∧ (c.toNat : Int) ≤ 122) ∨ (48 ≤ (c.toNat : Int) ∧ (c.toNat : Int) ≤ 57))
def upByte (c : UInt8) : Bool := decide (97 ≤ (c.toNat : Int) ∧ (c.toNat : Int) ≤ 122)
def nameB (s : ByteArray) : Bool := decide (1 ≤ s.size ∧ s.size ≤ 8) && upByte (s.data.toList.headD 0) && s.data.toList.all nmByte
def ltB (a b : ByteArray) : Bool := Op.bytesLess a.toList b.toList
def riseAt (l : List ByteArray) (i : Nat) : Bool := nameB (l.getD i ByteArray.empty) && (i == 0 || ltB (l.getD (i - 1) ByteArray.empty) (l.getD i ByteArray.empty))
def riseTo (l : List ByteArray) (k : Nat) : Bool := (List.range k).all (riseAt l)
def riseB (l : List ByteArray) : Bool := riseTo l l.length

theorem riseTo_succ (l : List ByteArray) (k : Nat) : riseTo l (k + 1) = (riseTo l k && riseAt l k) := by
  simp [riseTo, List.range_succ]

theorem riseTo_false (l : List ByteArray) (k : Nat) (h : k < l.length) (hf : riseAt l k = false) : riseB l = false := by
  unfold riseB riseTo
  rw [List.all_eq_false]
  exact ⟨k, List.mem_range.2 h, by simp [hf]⟩

theorem all_false_at {s : ByteArray} {p : UInt8 → Bool} (k : Nat) (h : k < s.size) (hf : p s[k] = false) : s.data.toList.all p = false := by
  rw [List.all_eq_false]
  exact ⟨s[k], by simp [ByteArray.getElem_eq_getElem_data], by simp [hf]⟩

theorem all_take_succ {s : ByteArray} {p : UInt8 → Bool} (k : Nat) (h : k < s.size) (ht : (s.data.toList.take k).all p = true) (hf : p s[k] = true) : (s.data.toList.take (k + 1)).all p = true := by
  rw [List.take_succ_eq_append_getElem (by simpa using h)]
  rw [List.all_append, ht]
  simpa [ByteArray.getElem_eq_getElem_data] using hf

theorem all_take_all {s : ByteArray} {p : UInt8 → Bool} (k : Nat) (h : s.size ≤ k) (ht : (s.data.toList.take k).all p = true) : s.data.toList.all p = true := by
  rw [List.take_of_length_le (by simpa using h)] at ht; exact ht

end Go.Proofs.YtdijbjhmjamagaaGreatDoor

/-
  Worlds that differ in one block and in new ones.
-/
namespace Go.Proofs.YtdijbjhmjamagaaGreatDoor
open Go.RowKit

/-- What was there is as it was, but for block bb. -/
structure Near (bb : Nat) (w w' : World) : Prop where
  os : w'.os = w.os
  tape : w'.tape = w.tape
  output : w'.output = w.output
  size : w.heap.size ≤ w'.heap.size
  block : ∀ k, k < w.heap.size → k ≠ bb → w'.heap[k]? = w.heap[k]?

theorem Near.refl (bb : Nat) (w : World) : Near bb w w := ⟨rfl, rfl, rfl, Nat.le_refl _, fun _ _ _ => rfl⟩
theorem Near.trans {bb : Nat} {a b c : World} (h : Near bb a b) (k : Near bb b c) : Near bb a c :=
  ⟨k.os.trans h.os, k.tape.trans h.tape, k.output.trans h.output, Nat.le_trans h.size k.size, fun i hi hne => (k.block i (Nat.lt_of_lt_of_le hi h.size) hne).trans (h.block i hi hne)⟩
theorem Near.of_below {bb : Nat} {a b : World} (h : Below a.heap.size a b) : Near bb a b := ⟨h.os, h.tape, h.output, h.size, fun k hk _ => h.block k hk⟩
theorem Near.set (bb o : Nat) (w : World) (v : Value) : Near bb w (w.setCell ⟨bb, o, none⟩ v) := ⟨rfl, rfl, rfl, by simp, fun k _ hne => Below.heap_setCell _ _ _ _ hne⟩
theorem Near.alloc (bb : Nat) (w : World) (o : Obj) : Near bb w (w.alloc o) := .of_below ((Below.refl _ _).alloc (Nat.le_refl _) o)
theorem Near.below {bb B : Nat} {a b : World} (h : Near bb a b) (h1 : B ≤ bb) (h2 : B ≤ a.heap.size) : Below B a b := ⟨h.os, h.tape, h.output, h.size, fun k hk => h.block k (by omega) (by omega)⟩

/-- The block of a counter. -/
def Prt (w : World) (pb : Nat) (p : Int) : Prop := w.heap[pb]? = some (.cells #[.int .i64 p] 3 (0, 0))

theorem Prt.cell {w : World} {pb : Nat} {p : Int} (h : Prt w pb p) : w.cell? ⟨pb, 0, none⟩ = some (.int .i64 p) := by
  unfold Prt at h; simp [World.cell?, h]
theorem Prt.free {w : World} {pb : Nat} {p : Int} (h : Prt w pb p) : w.frozen? ⟨pb, 0, none⟩ = false := by
  unfold Prt at h; simp [World.frozen?, h]
theorem Prt.lt {w : World} {pb : Nat} {p : Int} (h : Prt w pb p) : pb < w.heap.size := by
  unfold Prt at h
  exact (Array.getElem?_eq_some_iff.1 h).1
theorem Prt.set {w : World} {pb : Nat} {p : Int} (h : Prt w pb p) (q : Int) : Prt (w.setCell ⟨pb, 0, none⟩ (.int .i64 q)) pb q := by
  unfold Prt at h ⊢; simp [World.setCell, Array.getElem?_modify, h]
theorem Prt.new (w : World) (p : Int) : Prt (w.alloc (.cells #[.int .i64 p] 3)) w.heap.size p := by
  show (w.heap.push _)[w.heap.size]? = _; simp
theorem Prt.keep {w w' : World} {pb : Nat} {p : Int} (h : Prt w pb p) (hb : Below w.heap.size w w') : Prt w' pb p := (hb.block pb h.lt).trans h

theorem Near.same {pb : Nat} {S : Nat → Prop} {w w' : World} (h : Near pb w w') (hS : ∀ b, S b → b < w.heap.size ∧ b ≠ pb) : Same S w w' := fun b hb => h.block b (hS b hb).1 (hS b hb).2
theorem Near.drew {pb : Nat} {w w' : World} (h : Near pb w w') : Near pb w w'.drew := ⟨h.os, h.tape, h.output, h.size, h.block⟩
theorem Near.cell {pb b o : Nat} {w w' : World} {v : Value} (h : Near pb w w') (hc : w.cell? ⟨b, o, none⟩ = some v) (hne : b ≠ pb) : w'.cell? ⟨b, o, none⟩ = some v := by
  have hlt : b < w.heap.size := Classical.byContradiction fun hge => by
    have : w.heap[b]? = none := Array.getElem?_eq_none (by omega)
    simp [World.cell?, this] at hc
  exact (World.cell?_of_block (w := w) (w' := w') (a := ⟨b, o, none⟩) (h.block b hlt hne)).trans hc

theorem cell_lt0 {w : World} {b o : Nat} {v : Value} (h : w.cell? ⟨b, o, none⟩ = some v) : b < w.heap.size :=
  Classical.byContradiction fun hge => by
    have : w.heap[b]? = none := Array.getElem?_eq_none (by omega)
    simp [World.cell?, this] at h

/-- What a closure over a counter, a bound and a function has at hand. -/
structure Cap (w : World) (pb mb ab : Nat) (p M : Int) (F : Nat) : Prop where
  parts : Prt w pb p
  max : w.cell? ⟨mb, 0, none⟩ = some (.int .i64 M)
  acc : w.cell? ⟨ab, 0, none⟩ = some (.func (.func F) #[] #[])
  nm : mb ≠ pb
  na : ab ≠ pb

theorem Cap.keep {w w' : World} {pb mb ab : Nat} {p q M : Int} {F : Nat} (h : Cap w pb mb ab p M F) (hn : Near pb w w') (hp : Prt w' pb q) : Cap w' pb mb ab q M F :=
  ⟨hp, hn.cell h.max h.nm, hn.cell h.acc h.na, h.nm, h.na⟩

end Go.Proofs.YtdijbjhmjamagaaGreatDoor

/-
  Five cells of a block, kept from call to call; a tree kept from call to call.
-/
namespace Go.Proofs.YtdijbjhmjamagaaGreatDoor
open Go.RowKit

/-- Five cells of a block. -/
structure Box5 (w : World) (N : Nat) (a b c d e : Value) : Prop where
  c0 : w.cell? ⟨N, 0, none⟩ = some a
  c1 : w.cell? ⟨N, 1, none⟩ = some b
  c2 : w.cell? ⟨N, 2, none⟩ = some c
  c3 : w.cell? ⟨N, 3, none⟩ = some d
  c4 : w.cell? ⟨N, 4, none⟩ = some e

theorem Box5.keep {w w' : World} {N : Nat} {a b c d e : Value} (h : Box5 w N a b c d e) (hb : Below w.heap.size w w') : Box5 w' N a b c d e := by
  have hl : N < w.heap.size := by
    have h := h.c0
    exact Classical.byContradiction fun hge => by
      have : w.heap[N]? = none := Array.getElem?_eq_none (by omega)
      simp [World.cell?, this] at h
  exact ⟨(hb.cell (p := ⟨N, 0, none⟩) hl).trans h.c0, (hb.cell (p := ⟨N, 1, none⟩) hl).trans h.c1, (hb.cell (p := ⟨N, 2, none⟩) hl).trans h.c2, (hb.cell (p := ⟨N, 3, none⟩) hl).trans h.c3, (hb.cell (p := ⟨N, 4, none⟩) hl).trans h.c4⟩

theorem Box5.new (w : World) (a b c d e : Value) (t : TypeId) : Box5 (w.alloc (.cells #[a, b, c, d, e] t)) w.heap.size a b c d e :=
  ⟨by simp [go_sem], by simp [go_sem], by simp [go_sem], by simp [go_sem], by simp [go_sem]⟩

/-- A law's head: the argument in its box, and its measure. -/
theorem TreeIn.step {S : Nat → Prop} {w w' : World} {n : Nat} {t : T n} {c0 c1 c2 c3 c4 : Value} (h : TreeIn S w n t c0 c1 c2 c3 c4) (hS : ∀ b, S b → b < w.heap.size) (hb : Below w.heap.size w w') : TreeIn S w' n t c0 c1 c2 c3 c4 ∧ (∀ b, S b → b < w'.heap.size) :=
  ⟨h.keep (same_below hb hS) (fun _ h => h), fun b hb' => Nat.lt_of_lt_of_le (hS b hb') hb.size⟩

end Go.Proofs.YtdijbjhmjamagaaGreatDoor
