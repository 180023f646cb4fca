/-
  Several texts in one, in their order.
-/
import Derived.Test.YthcdeahobjhkbaaGreatDoorRows
import Derived.Test.YthcdeahobjhkbaaGreatDoorPlain
import Derived.WalkKit
import Derived.WalkSpells
import Derived.WalkLawsBesides
import Derived.Deep.OwnRows

/-
  Trees in memory: what it means that five cells hold a tree, all of whose memory lies below block B; and that this lasts while nothing below B is written.
-/
namespace Go.Proofs.YthcdeahobjhkbaaGreatDoor
open Go.RowKit

/-- A fact laid behind Hid, its statement read off. -/
theorem hidF {p : Prop} (h : p) : Hid p := h

/-- A slice of texts, in blocks of S. -/
def StrsIn (S : Nat → Prop) (w : World) (l : List ByteArray) (v : Value) : Prop :=
  ∃ (ao : Option Addr) (cap : Nat), v = .slice ao l.length cap ∧ l.length ≤ maxLen ∧ (∀ s, s ∈ l → s.size ≤ maxLen) ∧
    (l ≠ [] → ∃ b off, ao = some ⟨b, off, none⟩ ∧ S b ∧ ∀ i (h : i < l.length), w.cell? ⟨b, off + i, none⟩ = some (.string l[i]))

/-- A slice of things of five cells each, in blocks of S. -/
def RowIn {α : Type} (S : Nat → Prop) (w : World) (R : α → Value → Value → Value → Value → Value → Prop) (l : List α) (v : Value) : Prop :=
  ∃ (ao : Option Addr) (cap : Nat), v = .slice ao l.length cap ∧ l.length ≤ maxLen ∧
    (l ≠ [] → ∃ b off, ao = some ⟨b, off, none⟩ ∧ S b ∧ ∀ i (h : i < l.length), ∃ c0 c1 c2 c3 c4, w.cell? ⟨b, off + i * 5, none⟩ = some c0 ∧ w.cell? ⟨b, off + i * 5 + 1, none⟩ = some c1 ∧
      w.cell? ⟨b, off + i * 5 + 2, none⟩ = some c2 ∧ w.cell? ⟨b, off + i * 5 + 3, none⟩ = some c3 ∧ w.cell? ⟨b, off + i * 5 + 4, none⟩ = some c4 ∧ R l[i] c0 c1 c2 c3 c4)

/-- Five cells hold a tree, its memory in blocks of S. -/
def TreeIn (S : Nat → Prop) (w : World) : (n : Nat) → T n → Value → Value → Value → Value → Value → Prop
  | 0, _, _, _, _, _, _ => False
  | n + 1, t, c0, c1, c2, c3, c4 => c0 = .int .i64 (Nd.sort t) ∧ c1 = .int .i64 (Nd.num t) ∧ c2 = .string (Nd.text t) ∧ (Nd.text t).size ≤ maxLen ∧
      (Lit.int .i64 (Nd.sort t)).wf = true ∧ (Lit.int .i64 (Nd.num t)).wf = true ∧ StrsIn S w (Nd.names t) c3 ∧ RowIn S w (TreeIn S w n) (Nd.kids t) c4

/-- The blocks of S are as they were. -/
def Same (S : Nat → Prop) (w w' : World) : Prop := ∀ b, S b → w'.heap[b]? = w.heap[b]?

theorem Same.cell {S : Nat → Prop} {w w' : World} (h : Same S w w') {p : Addr} (hp : S p.block) : w'.cell? p = w.cell? p := World.cell?_of_block (w := w) (h p.block hp)

theorem same_below {S : Nat → Prop} {B : Nat} {w w' : World} (h : Below B w w') (hS : ∀ b, S b → b < B) : Same S w w' := fun b hb => h.block b (hS b hb)

theorem StrsIn.keep {S S' : Nat → Prop} {w w' : World} {l : List ByteArray} {v : Value} (h : StrsIn S w l v) (hb : Same S w w') (hS : ∀ b, S b → S' b) : StrsIn S' w' l v := by
  obtain ⟨ao, cap, hv, hl, hs, hc⟩ := h
  refine ⟨ao, cap, hv, hl, hs, fun hne => ?_⟩
  obtain ⟨b, off, ha, hB, hcell⟩ := hc hne
  exact ⟨b, off, ha, hS b hB, fun i hi => (hb.cell (p := ⟨b, off + i, none⟩) hB).trans (hcell i hi)⟩

theorem RowIn.keep {α : Type} {S S' : Nat → Prop} {w w' : World} {R R' : α → Value → Value → Value → Value → Value → Prop} {l : List α} {v : Value} (h : RowIn S w R l v) (hb : Same S w w') (hS : ∀ b, S b → S' b)
    (hR : ∀ x c0 c1 c2 c3 c4, x ∈ l → R x c0 c1 c2 c3 c4 → R' x c0 c1 c2 c3 c4) : RowIn S' w' R' l v := by
  obtain ⟨ao, cap, hv, hl, hc⟩ := h
  refine ⟨ao, cap, hv, hl, fun hne => ?_⟩
  obtain ⟨b, off, ha, hB, hcell⟩ := hc hne
  refine ⟨b, off, ha, hS b hB, fun i hi => ?_⟩
  obtain ⟨c0, c1, c2, c3, c4, h0, h1, h2, h3, h4, hr⟩ := hcell i hi
  exact ⟨c0, c1, c2, c3, c4, (hb.cell (p := ⟨b, off + i * 5, none⟩) hB).trans h0, (hb.cell (p := ⟨b, off + i * 5 + 1, none⟩) hB).trans h1, (hb.cell (p := ⟨b, off + i * 5 + 2, none⟩) hB).trans h2,
    (hb.cell (p := ⟨b, off + i * 5 + 3, none⟩) hB).trans h3, (hb.cell (p := ⟨b, off + i * 5 + 4, none⟩) hB).trans h4, hR _ _ _ _ _ _ (List.getElem_mem hi) hr⟩

theorem TreeIn.keep {S S' : Nat → Prop} {w w' : World} (hb : Same S w w') (hS : ∀ b, S b → S' b) : ∀ {n : Nat} {t : T n} {c0 c1 c2 c3 c4 : Value}, TreeIn S w n t c0 c1 c2 c3 c4 → TreeIn S' w' n t c0 c1 c2 c3 c4 := by
  intro n
  induction n with
  | zero => intro t c0 c1 c2 c3 c4 h; exact h.elim
  | succ n ih =>
    intro t c0 c1 c2 c3 c4 h
    obtain ⟨h0, h1, h2, hs, hw0, hw1, h3, h4⟩ := h
    exact ⟨h0, h1, h2, hs, hw0, hw1, h3.keep hb hS, h4.keep hb hS fun x _ _ _ _ _ _ hx => ih hx⟩

/-- The world behind a call that made memory: what was there is as it was. -/
theorem below_step {B : Nat} {a b c : World} (h : Below B a b) (hs : B ≤ b.heap.size) (k : Below b.heap.size b c) : Below B a c := h.trans (k.mono hs)

theorem TreeIn.shape {S : Nat → Prop} {w : World} : ∀ {n : Nat} {t : T n} {c0 c1 c2 c3 c4 : Value}, TreeIn S w n t c0 c1 c2 c3 c4 →
    ∃ (s m : Int) (x : ByteArray) (a : Option Addr) (l c : Nat) (a' : Option Addr) (l' c' : Nat), c0 = .int .i64 s ∧ c1 = .int .i64 m ∧ c2 = .string x ∧ c3 = .slice a l c ∧ c4 = .slice a' l' c' := by
  intro n
  cases n with
  | zero => intro t c0 c1 c2 c3 c4 h; exact h.elim
  | succ n =>
    intro t c0 c1 c2 c3 c4 h
    obtain ⟨h0, h1, h2, hs, hw0, hw1, ⟨ao, cap, h3, -⟩, ⟨ao', cap', h4, -⟩⟩ := h
    exact ⟨_, _, _, _, _, _, _, _, _, h0, h1, h2, h3, h4⟩

theorem bcell {W w1 : World} (hb : Below W.heap.size W w1) : (∀ b o, b < W.heap.size → w1.cell? ⟨b, o, none⟩ = W.cell? ⟨b, o, none⟩) ∧ (∀ b o, b < W.heap.size → w1.frozen? ⟨b, o, none⟩ = W.frozen? ⟨b, o, none⟩) :=
  ⟨fun b o h => hb.cell (p := ⟨b, o, none⟩) h, fun b o h => hb.frozen (p := ⟨b, o, none⟩) h⟩

end Go.Proofs.YthcdeahobjhkbaaGreatDoor

/-
  Worlds that differ in one block and in new ones.
-/
namespace Go.Proofs.YthcdeahobjhkbaaGreatDoor
open Go.RowKit

/-- What was there is as it was, but for block bb. -/
structure Near (bb : Nat) (w w' : World) : Prop where
  os : w'.os = w.os
  tape : w'.tape = w.tape
  output : w'.output = w.output
  size : w.heap.size ≤ w'.heap.size
  block : ∀ k, k < w.heap.size → k ≠ bb → w'.heap[k]? = w.heap[k]?

theorem Near.refl (bb : Nat) (w : World) : Near bb w w := ⟨rfl, rfl, rfl, Nat.le_refl _, fun _ _ _ => rfl⟩
theorem Near.trans {bb : Nat} {a b c : World} (h : Near bb a b) (k : Near bb b c) : Near bb a c :=
  ⟨k.os.trans h.os, k.tape.trans h.tape, k.output.trans h.output, Nat.le_trans h.size k.size, fun i hi hne => (k.block i (Nat.lt_of_lt_of_le hi h.size) hne).trans (h.block i hi hne)⟩
theorem Near.of_below {bb : Nat} {a b : World} (h : Below a.heap.size a b) : Near bb a b := ⟨h.os, h.tape, h.output, h.size, fun k hk _ => h.block k hk⟩
theorem Near.set (bb o : Nat) (w : World) (v : Value) : Near bb w (w.setCell ⟨bb, o, none⟩ v) := ⟨rfl, rfl, rfl, by simp, fun k _ hne => Below.heap_setCell _ _ _ _ hne⟩
theorem Near.alloc (bb : Nat) (w : World) (o : Obj) : Near bb w (w.alloc o) := .of_below ((Below.refl _ _).alloc (Nat.le_refl _) o)
theorem Near.below {bb B : Nat} {a b : World} (h : Near bb a b) (h1 : B ≤ bb) (h2 : B ≤ a.heap.size) : Below B a b := ⟨h.os, h.tape, h.output, h.size, fun k hk => h.block k (by omega) (by omega)⟩

/-- The block of a counter. -/
def Prt (w : World) (pb : Nat) (p : Int) : Prop := w.heap[pb]? = some (.cells #[.int .i64 p] 3 (0, 0))

theorem Prt.cell {w : World} {pb : Nat} {p : Int} (h : Prt w pb p) : w.cell? ⟨pb, 0, none⟩ = some (.int .i64 p) := by
  unfold Prt at h; simp [World.cell?, h]
theorem Prt.free {w : World} {pb : Nat} {p : Int} (h : Prt w pb p) : w.frozen? ⟨pb, 0, none⟩ = false := by
  unfold Prt at h; simp [World.frozen?, h]
theorem Prt.lt {w : World} {pb : Nat} {p : Int} (h : Prt w pb p) : pb < w.heap.size := by
  unfold Prt at h
  exact (Array.getElem?_eq_some_iff.1 h).1
theorem Prt.set {w : World} {pb : Nat} {p : Int} (h : Prt w pb p) (q : Int) : Prt (w.setCell ⟨pb, 0, none⟩ (.int .i64 q)) pb q := by
  unfold Prt at h ⊢; simp [World.setCell, Array.getElem?_modify, h]
theorem Prt.new (w : World) (p : Int) : Prt (w.alloc (.cells #[.int .i64 p] 3)) w.heap.size p := by
  show (w.heap.push _)[w.heap.size]? = _; simp
theorem Prt.keep {w w' : World} {pb : Nat} {p : Int} (h : Prt w pb p) (hb : Below w.heap.size w w') : Prt w' pb p := (hb.block pb h.lt).trans h

theorem Near.same {pb : Nat} {S : Nat → Prop} {w w' : World} (h : Near pb w w') (hS : ∀ b, S b → b < w.heap.size ∧ b ≠ pb) : Same S w w' := fun b hb => h.block b (hS b hb).1 (hS b hb).2
theorem Near.drew {pb : Nat} {w w' : World} (h : Near pb w w') : Near pb w w'.drew := ⟨h.os, h.tape, h.output, h.size, h.block⟩
theorem Near.cell {pb b o : Nat} {w w' : World} {v : Value} (h : Near pb w w') (hc : w.cell? ⟨b, o, none⟩ = some v) (hne : b ≠ pb) : w'.cell? ⟨b, o, none⟩ = some v := by
  have hlt : b < w.heap.size := Classical.byContradiction fun hge => by
    have : w.heap[b]? = none := Array.getElem?_eq_none (by omega)
    simp [World.cell?, this] at hc
  exact (World.cell?_of_block (w := w) (w' := w') (a := ⟨b, o, none⟩) (h.block b hlt hne)).trans hc

theorem cell_lt0 {w : World} {b o : Nat} {v : Value} (h : w.cell? ⟨b, o, none⟩ = some v) : b < w.heap.size :=
  Classical.byContradiction fun hge => by
    have : w.heap[b]? = none := Array.getElem?_eq_none (by omega)
    simp [World.cell?, this] at h

/-- What a closure over a counter, a bound and a function has at hand. -/
structure Cap (w : World) (pb mb ab : Nat) (p M : Int) (F : Nat) : Prop where
  parts : Prt w pb p
  max : w.cell? ⟨mb, 0, none⟩ = some (.int .i64 M)
  acc : w.cell? ⟨ab, 0, none⟩ = some (.func (.func F) #[] #[])
  nm : mb ≠ pb
  na : ab ≠ pb

theorem Cap.keep {w w' : World} {pb mb ab : Nat} {p q M : Int} {F : Nat} (h : Cap w pb mb ab p M F) (hn : Near pb w w') (hp : Prt w' pb q) : Cap w' pb mb ab q M F :=
  ⟨hp, hn.cell h.max h.nm, hn.cell h.acc h.na, h.nm, h.na⟩

end Go.Proofs.YthcdeahobjhkbaaGreatDoor

/-
  Plain mathematics of names and texts: which bytes a text may have, which texts are names, which names ascend; when a node is ok but for its kids; when a tree is ok.
-/
namespace Go.Proofs.YthcdeahobjhkbaaGreatDoor
open Go.RowKit

def okByte (c : UInt8) : Bool := decide (32 ≤ (c.toNat : Int) ∧ (c.toNat : Int) ≤ 126 ∧ ¬ (c.toNat : Int) = 34)
def textB (s : ByteArray) : Bool := decide (s.size ≤ 60) && s.data.toList.all okByte
def nmByte (c : UInt8) : Bool := decide ((97 ≤ (c.toNat : Int) ∧ (c.toNat : Int) ≤ 122) ∨ (48 ≤ (c.toNat : Int) ∧ (c.toNat : Int) ≤ 57))
def upByte (c : UInt8) : Bool := decide (97 ≤ (c.toNat : Int) ∧ (c.toNat : Int) ≤ 122)
def nameB (s : ByteArray) : Bool := decide (1 ≤ s.size ∧ s.size ≤ 8) && upByte (s.data.toList.headD 0) && s.data.toList.all nmByte
def ltB (a b : ByteArray) : Bool := Op.bytesLess a.toList b.toList
def riseAt (l : List ByteArray) (i : Nat) : Bool := nameB (l.getD i ByteArray.empty) && (i == 0 || ltB (l.getD (i - 1) ByteArray.empty) (l.getD i ByteArray.empty))
def riseTo (l : List ByteArray) (k : Nat) : Bool := (List.range k).all (riseAt l)
def riseB (l : List ByteArray) : Bool := riseTo l l.length

theorem riseTo_succ (l : List ByteArray) (k : Nat) : riseTo l (k + 1) = (riseTo l k && riseAt l k) := by
  simp [riseTo, List.range_succ]

theorem riseTo_false (l : List ByteArray) (k : Nat) (h : k < l.length) (hf : riseAt l k = false) : riseB l = false := by
  unfold riseB riseTo
  rw [List.all_eq_false]
  exact ⟨k, List.mem_range.2 h, by simp [hf]⟩

theorem all_false_at {s : ByteArray} {p : UInt8 → Bool} (k : Nat) (h : k < s.size) (hf : p s[k] = false) : s.data.toList.all p = false := by
  rw [List.all_eq_false]
  exact ⟨s[k], by simp [ByteArray.getElem_eq_getElem_data], by simp [hf]⟩

theorem all_take_succ {s : ByteArray} {p : UInt8 → Bool} (k : Nat) (h : k < s.size) (ht : (s.data.toList.take k).all p = true) (hf : p s[k] = true) : (s.data.toList.take (k + 1)).all p = true := by
  rw [List.take_succ_eq_append_getElem (by simpa using h)]
  rw [List.all_append, ht]
  simpa [ByteArray.getElem_eq_getElem_data] using hf

theorem all_take_all {s : ByteArray} {p : UInt8 → Bool} (k : Nat) (h : s.size ≤ k) (ht : (s.data.toList.take k).all p = true) : s.data.toList.all p = true := by
  rw [List.take_of_length_le (by simpa using h)] at ht; exact ht

end Go.Proofs.YthcdeahobjhkbaaGreatDoor

/-
  Plain mathematics: lists of bytes as texts; texts with a comma between; how long they are.
-/
namespace Go.Proofs.YthcdeahobjhkbaaGreatDoor
open Go.RowKit

/-- A list of bytes as a text. -/
def bs (l : List UInt8) : ByteArray := ⟨l.toArray⟩

theorem bs_append (a b : List UInt8) : bs a ++ bs b = bs (a ++ b) := by
  apply ByteArray.ext
  simp [bs]

theorem bs_size (l : List UInt8) : (bs l).size = l.length := by simp [bs, ByteArray.size]

theorem riseB_names (l : List ByteArray) (h : riseB l = true) : ∀ s, s ∈ l → s.size ≤ 8 := by
  intro s hs
  obtain ⟨i, hi, rfl⟩ := List.getElem_of_mem hs
  unfold riseB riseTo at h
  have := List.all_eq_true.1 h i (List.mem_range.2 hi)
  simp only [riseAt, Bool.and_eq_true, nameB, decide_eq_true_eq] at this
  have h2 := this.1.1.1.2
  simpa [List.getD, hi] using h2

end Go.Proofs.YthcdeahobjhkbaaGreatDoor

/-
  Plain mathematics of schemas: a schema of depth at most n, its size, its parts, when it is ok. No program stands behind this text.
-/
namespace Go.Proofs.YthcdeahobjhkbaaGreatDoor
open Go.RowKit

/-- One node of a schema, its kids of whatever make. -/
structure Kd (α : Type) where
  sort : Int
  names : List ByteArray
  kids : List α

/-- Schemas of at most n levels. -/
def K : Nat → Type
  | 0 => Empty
  | n + 1 => Kd (K n)

def cntK : (n : Nat) → K n → Nat
  | 0, _ => 0
  | n + 1, t => 1 + sumL (fun k => cntK n k) (Kd.kids t)

/-- A node is ok, but for its kids. -/
def aloneKF (s : Int) (l : List ByteArray) (kl : Nat) : Bool :=
  if s = 1 then ((l.length : Int) == 0) && ((kl : Int) == 0)
  else if s = 2 then ((l.length : Int) == 0) && ((kl : Int) == 0)
  else if s = 3 then ((l.length : Int) == 0) && ((kl : Int) == 0)
  else if s = 4 then ((l.length : Int) == 0) && ((kl : Int) == 1)
  else if s = 5 then ((l.length : Int) == (kl : Int)) && riseB l
  else if s = 6 then ((l.length : Int) == 0) && ((kl : Int) == 1)
  else false

def aloneK {α : Type} (t : Kd α) : Bool := aloneKF t.sort t.names t.kids.length

/-- All nodes of a schema are ok by themselves and it is at most so deep. -/
def goodK : (n : Nat) → K n → Int → Bool
  | 0, _, _ => false
  | n + 1, t, d => decide (d ≤ 6) && aloneK (show Kd (K n) from t) && (Kd.kids t).all (fun k => goodK n k (d + 1))

/-- A schema is ok. -/
def okK (n : Nat) (t : K n) : Bool := goodK n t 1 && decide (cntK n t ≤ 40)

theorem cntK_pos : ∀ (n : Nat) (t : K n) (d : Int), goodK n t d = true → 1 ≤ cntK n t := by
  intro n t d h
  cases n with
  | zero => simp [goodK] at h
  | succ n => simp only [cntK]; omega

/-- What l2Parts answers. -/
def partsK (n : Nat) (t : K n) (d : Int) : Int := if goodK n t d = true ∧ cntK n t ≤ 40 then (cntK n t : Int) else -1

theorem partsK_no (n : Nat) (t : K (n + 1)) (d : Int) (h : (decide (d ≤ 6) && aloneK (show Kd (K n) from t)) = false) : partsK (n + 1) t d = -1 := by
  unfold partsK; rw [if_neg]; rintro ⟨h1, -⟩; simp only [goodK, h, Bool.false_and] at h1; cases h1

theorem partsK_kid (n : Nat) (t : K (n + 1)) (d : Int) (k : Nat) (hk : k < (Kd.kids t).length) (h : partsK n (Kd.kids t)[k] (d + 1) < 0) : partsK (n + 1) t d = -1 := by
  unfold partsK; rw [if_neg]
  rintro ⟨h1, h2⟩
  simp only [goodK, Bool.and_eq_true, List.all_eq_true] at h1
  have hg := h1.2 _ (List.getElem_mem hk)
  have hc := sumL_mono (fun k => cntK n k) (Kd.kids t) _ (List.getElem_mem hk)
  simp only [cntK] at h2
  unfold partsK at h
  rw [if_pos ⟨hg, by omega⟩] at h
  omega

theorem partsK_many (n : Nat) (t : K (n + 1)) (d : Int) (k : Nat) (h : 40 < 1 + sumL (fun k => cntK n k) ((Kd.kids t).take k)) : partsK (n + 1) t d = -1 := by
  unfold partsK; rw [if_neg]
  rintro ⟨-, h2⟩
  have := sumL_append (fun k => cntK n k) ((Kd.kids t).take k) ((Kd.kids t).drop k)
  rw [List.take_append_drop] at this
  simp only [cntK] at h2
  omega

theorem partsK_yes (n : Nat) (t : K (n + 1)) (d : Int) (h : (decide (d ≤ 6) && aloneK (show Kd (K n) from t)) = true) (hall : (Kd.kids t).all (fun k => goodK n k (d + 1)) = true) (hs : 1 + sumL (fun k => cntK n k) (Kd.kids t) ≤ 40) :
    partsK (n + 1) t d = 1 + (sumL (fun k => cntK n k) (Kd.kids t) : Int) := by
  unfold partsK; rw [if_pos]
  · simp only [cntK]; omega
  · exact ⟨by simp only [goodK, h, hall, Bool.and_self], by simp only [cntK]; omega⟩

theorem partsK_get (n : Nat) (t : K n) (d : Int) (h : 0 ≤ partsK n t d) : partsK n t d = cntK n t ∧ goodK n t d = true ∧ cntK n t ≤ 40 := by
  unfold partsK at h ⊢
  by_cases hc : goodK n t d = true ∧ cntK n t ≤ 40
  · rw [if_pos hc]; exact ⟨rfl, hc⟩
  · rw [if_neg hc] at h; omega

theorem partsK_le (n : Nat) (t : K n) (d : Int) : -1 ≤ partsK n t d ∧ partsK n t d ≤ 40 := by
  unfold partsK; split <;> omega

theorem okK_eq (n : Nat) (t : K n) : decide (0 < partsK n t 1) = okK n t := by
  unfold partsK okK
  by_cases hc : goodK n t 1 = true ∧ cntK n t ≤ 40
  · rw [if_pos hc, hc.1]
    have := cntK_pos n t 1 hc.1
    simp [hc.2]; omega
  · rw [if_neg hc]
    cases hg : goodK n t 1 with
    | false => simp
    | true => simp [hg] at hc; simp; omega

theorem all_take_kidK {α : Type} {p : α → Bool} {l : List α} (k : Nat) (h : k < l.length) (ht : (l.take k).all p = true) (hf : p l[k] = true) : (l.take (k + 1)).all p = true := by
  rw [List.take_succ_eq_append_getElem h, List.all_append, ht]; simpa using hf

end Go.Proofs.YthcdeahobjhkbaaGreatDoor

/-
  Plain mathematics: the text of a schema, and how long it is.
-/
namespace Go.Proofs.YthcdeahobjhkbaaGreatDoor
open Go.RowKit

theorem okK_get {n : Nat} {t : K n} (h : okK n t = true) : goodK n t 1 = true ∧ cntK n t ≤ 40 := by
  simpa only [okK, Bool.and_eq_true, decide_eq_true_eq] using h

end Go.Proofs.YthcdeahobjhkbaaGreatDoor

/-
  Schemas in memory: what it means that three cells hold a schema, all of whose memory lies in given blocks; and that this lasts while those are not written.
-/
namespace Go.Proofs.YthcdeahobjhkbaaGreatDoor
open Go.RowKit

/-- A slice of things of three cells each, in blocks of S. -/
def RowIn3 {α : Type} (S : Nat → Prop) (w : World) (R : α → Value → Value → Value → Prop) (l : List α) (v : Value) : Prop :=
  ∃ (ao : Option Addr) (cap : Nat), v = .slice ao l.length cap ∧ l.length ≤ maxLen ∧
    (l ≠ [] → ∃ b off, ao = some ⟨b, off, none⟩ ∧ S b ∧ ∀ i (h : i < l.length), ∃ c0 c1 c2, w.cell? ⟨b, off + i * 3, none⟩ = some c0 ∧ w.cell? ⟨b, off + i * 3 + 1, none⟩ = some c1 ∧
      w.cell? ⟨b, off + i * 3 + 2, none⟩ = some c2 ∧ R l[i] c0 c1 c2)

/-- Three cells hold a schema, its memory in blocks of S. -/
def KindIn (S : Nat → Prop) (w : World) : (n : Nat) → K n → Value → Value → Value → Prop
  | 0, _, _, _, _ => False
  | n + 1, t, c0, c1, c2 => c0 = .int .i64 (Kd.sort t) ∧ (Lit.int .i64 (Kd.sort t)).wf = true ∧ StrsIn S w (Kd.names t) c1 ∧ RowIn3 S w (KindIn S w n) (Kd.kids t) c2

theorem RowIn3.keep {α : Type} {S S' : Nat → Prop} {w w' : World} {R R' : α → Value → Value → Value → Prop} {l : List α} {v : Value} (h : RowIn3 S w R l v) (hb : Same S w w') (hS : ∀ b, S b → S' b)
    (hR : ∀ x c0 c1 c2, x ∈ l → R x c0 c1 c2 → R' x c0 c1 c2) : RowIn3 S' w' R' l v := by
  obtain ⟨ao, cap, hv, hl, hc⟩ := h
  refine ⟨ao, cap, hv, hl, fun hne => ?_⟩
  obtain ⟨b, off, ha, hB, hcell⟩ := hc hne
  refine ⟨b, off, ha, hS b hB, fun i hi => ?_⟩
  obtain ⟨c0, c1, c2, h0, h1, h2, hr⟩ := hcell i hi
  exact ⟨c0, c1, c2, (hb.cell (p := ⟨b, off + i * 3, none⟩) hB).trans h0, (hb.cell (p := ⟨b, off + i * 3 + 1, none⟩) hB).trans h1, (hb.cell (p := ⟨b, off + i * 3 + 2, none⟩) hB).trans h2,
    hR _ _ _ _ (List.getElem_mem hi) hr⟩

theorem KindIn.keep {S S' : Nat → Prop} {w w' : World} (hb : Same S w w') (hS : ∀ b, S b → S' b) : ∀ {n : Nat} {t : K n} {c0 c1 c2 : Value}, KindIn S w n t c0 c1 c2 → KindIn S' w' n t c0 c1 c2 := by
  intro n
  induction n with
  | zero => intro t c0 c1 c2 h; exact h.elim
  | succ n ih =>
    intro t c0 c1 c2 h
    obtain ⟨h0, hw0, h3, h4⟩ := h
    exact ⟨h0, hw0, h3.keep hb hS, h4.keep hb hS fun x _ _ _ _ hx => ih hx⟩

theorem RowIn3.keepK {S S' : Nat → Prop} {w w' : World} {n : Nat} {l : List (K n)} {v : Value} (h : RowIn3 S w (KindIn S w n) l v) (hb : Same S w w') (hS : ∀ b, S b → S' b) : RowIn3 S' w' (KindIn S' w' n) l v :=
  h.keep hb hS fun _ _ _ _ _ hx => hx.keep hb hS

theorem KindIn.shape {S : Nat → Prop} {w : World} : ∀ {n : Nat} {t : K n} {c0 c1 c2 : Value}, KindIn S w n t c0 c1 c2 →
    ∃ (s : Int) (a : Option Addr) (l c : Nat) (a' : Option Addr) (l' c' : Nat), c0 = .int .i64 s ∧ c1 = .slice a l c ∧ c2 = .slice a' l' c' := by
  intro n
  cases n with
  | zero => intro t c0 c1 c2 h; exact h.elim
  | succ n =>
    intro t c0 c1 c2 h
    obtain ⟨h0, hw0, ⟨ao, cap, h3, -⟩, ⟨ao', cap', h4, -⟩⟩ := h
    exact ⟨_, _, _, _, _, _, _, h0, h3, h4⟩

/-- Three cells of a world, stored one behind the other. -/
def put3 (w : World) (b o : Nat) (g0 g1 g2 : Value) : World :=
  ((w.setCell ⟨b, o, none⟩ g0).setCell ⟨b, o + 1, none⟩ g1).setCell ⟨b, o + 2, none⟩ g2

theorem put3_other {w : World} {b o : Nat} {g0 g1 g2 : Value} {k : Nat} (h : k ≠ b) : (put3 w b o g0 g1 g2).heap[k]? = w.heap[k]? := by
  unfold put3
  rw [Below.heap_setCell _ _ _ _ h, Below.heap_setCell _ _ _ _ h, Below.heap_setCell _ _ _ _ h]

theorem put3_size {w : World} {b o : Nat} {g0 g1 g2 : Value} : (put3 w b o g0 g1 g2).heap.size = w.heap.size := by
  simp [put3]

theorem put3_below {B : Nat} {a w : World} {b o : Nat} {g0 g1 g2 : Value} (h : Below B a w) (hb : B ≤ b) : Below B a (put3 w b o g0 g1 g2) :=
  ((h.setCell hb g0).setCell hb g1).setCell hb g2

/-- Three cells of a block. -/
structure Box3 (w : World) (N : Nat) (a b c : Value) : Prop where
  c0 : w.cell? ⟨N, 0, none⟩ = some a
  c1 : w.cell? ⟨N, 1, none⟩ = some b
  c2 : w.cell? ⟨N, 2, none⟩ = some c

theorem Box3.keep {w w' : World} {N : Nat} {a b c : Value} (h : Box3 w N a b c) (hb : Below w.heap.size w w') : Box3 w' N a b c := by
  have hl : N < w.heap.size := by
    have h := h.c0
    exact Classical.byContradiction fun hge => by
      have : w.heap[N]? = none := Array.getElem?_eq_none (by omega)
      simp [World.cell?, this] at h
  exact ⟨(hb.cell (p := ⟨N, 0, none⟩) hl).trans h.c0, (hb.cell (p := ⟨N, 1, none⟩) hl).trans h.c1, (hb.cell (p := ⟨N, 2, none⟩) hl).trans h.c2⟩

theorem Box3.new (w : World) (a b c : Value) (t : TypeId) : Box3 (w.alloc (.cells #[a, b, c] t)) w.heap.size a b c :=
  ⟨by simp [go_sem], by simp [go_sem], by simp [go_sem]⟩

theorem KindIn.step {S : Nat → Prop} {w w' : World} {n : Nat} {t : K n} {c0 c1 c2 : Value} (h : KindIn S w n t c0 c1 c2) (hS : ∀ b, S b → b < w.heap.size) (hb : Below w.heap.size w w') : KindIn S w' n t c0 c1 c2 ∧ (∀ b, S b → b < w'.heap.size) :=
  ⟨h.keep (same_below hb hS) (fun _ h => h), fun b hb' => Nat.lt_of_lt_of_le (hS b hb') hb.size⟩

end Go.Proofs.YthcdeahobjhkbaaGreatDoor

/-
  Small facts on what a call returns.
-/
namespace Go.Proofs.YthcdeahobjhkbaaGreatDoor
open Go.RowKit

theorem ret_int {k : IntKind} {a b : Int} (h : a = b) : Ending.returned (.int k a) = .returned (.int k b) := by rw [h]
theorem str_ret {a b : ByteArray} (h : a = b) : Ending.returned (.string a) = .returned (.string b) := by rw [h]

end Go.Proofs.YthcdeahobjhkbaaGreatDoor

/-
  Five cells of a block, kept from call to call; a tree kept from call to call.
-/
namespace Go.Proofs.YthcdeahobjhkbaaGreatDoor
open Go.RowKit

/-- Five cells of a block. -/
structure Box5 (w : World) (N : Nat) (a b c d e : Value) : Prop where
  c0 : w.cell? ⟨N, 0, none⟩ = some a
  c1 : w.cell? ⟨N, 1, none⟩ = some b
  c2 : w.cell? ⟨N, 2, none⟩ = some c
  c3 : w.cell? ⟨N, 3, none⟩ = some d
  c4 : w.cell? ⟨N, 4, none⟩ = some e

theorem Box5.keep {w w' : World} {N : Nat} {a b c d e : Value} (h : Box5 w N a b c d e) (hb : Below w.heap.size w w') : Box5 w' N a b c d e := by
  have hl : N < w.heap.size := by
    have h := h.c0
    exact Classical.byContradiction fun hge => by
      have : w.heap[N]? = none := Array.getElem?_eq_none (by omega)
      simp [World.cell?, this] at h
  exact ⟨(hb.cell (p := ⟨N, 0, none⟩) hl).trans h.c0, (hb.cell (p := ⟨N, 1, none⟩) hl).trans h.c1, (hb.cell (p := ⟨N, 2, none⟩) hl).trans h.c2, (hb.cell (p := ⟨N, 3, none⟩) hl).trans h.c3, (hb.cell (p := ⟨N, 4, none⟩) hl).trans h.c4⟩

theorem Box5.new (w : World) (a b c d e : Value) (t : TypeId) : Box5 (w.alloc (.cells #[a, b, c, d, e] t)) w.heap.size a b c d e :=
  ⟨by simp [go_sem], by simp [go_sem], by simp [go_sem], by simp [go_sem], by simp [go_sem]⟩

/-- A law's head: the argument in its box, and its measure. -/
theorem TreeIn.step {S : Nat → Prop} {w w' : World} {n : Nat} {t : T n} {c0 c1 c2 c3 c4 : Value} (h : TreeIn S w n t c0 c1 c2 c3 c4) (hS : ∀ b, S b → b < w.heap.size) (hb : Below w.heap.size w w') : TreeIn S w' n t c0 c1 c2 c3 c4 ∧ (∀ b, S b → b < w'.heap.size) :=
  ⟨h.keep (same_below hb hS) (fun _ h => h), fun b hb' => Nat.lt_of_lt_of_le (hS b hb') hb.size⟩

end Go.Proofs.YthcdeahobjhkbaaGreatDoor

/-
  Plain mathematics: when a tree is of a schema; ascending names; where a name stands.
-/
namespace Go.Proofs.YthcdeahobjhkbaaGreatDoor
open Go.RowKit

/-- The order of names. -/
theorem bl_irr : ∀ x : List UInt8, Op.bytesLess x x = false := by
  intro x
  induction x with
  | nil => rfl
  | cons a r ih => simp [Op.bytesLess, ih]

theorem bl_trans : ∀ x y z : List UInt8, Op.bytesLess x y = true → Op.bytesLess y z = true → Op.bytesLess x z = true := by
  intro x
  induction x with
  | nil =>
    intro y z h1 h2
    cases y with
    | nil => simp [Op.bytesLess] at h1
    | cons b y => cases z with
      | nil => simp [Op.bytesLess] at h2
      | cons c z => rfl
  | cons a x ih =>
    intro y z h1 h2
    cases y with
    | nil => simp [Op.bytesLess] at h1
    | cons b y =>
      cases z with
      | nil => simp [Op.bytesLess] at h2
      | cons c z =>
        simp only [Op.bytesLess, Bool.or_eq_true, Bool.and_eq_true, decide_eq_true_eq, beq_iff_eq] at h1 h2 ⊢
        rcases h1 with h1 | ⟨rfl, h1⟩
        · rcases h2 with h2 | ⟨rfl, h2⟩
          · exact .inl (UInt8.lt_trans h1 h2)
          · exact .inl h1
        · rcases h2 with h2 | ⟨rfl, h2⟩
          · exact .inl h2
          · exact .inr ⟨rfl, ih y z h1 h2⟩

theorem lt_irr (a : ByteArray) : ltB a a = false := bl_irr _
theorem lt_tr {a b c : ByteArray} (h1 : ltB a b = true) (h2 : ltB b c = true) : ltB a c = true := bl_trans _ _ _ h1 h2
theorem lt_ne {a b : ByteArray} (h : ltB a b = true) : a ≠ b := fun e => by rw [e, lt_irr] at h; cases h

/-- A list whose names ascend. -/
def Asc (l : List ByteArray) : Prop := l.Pairwise (fun a b => ltB a b = true)

theorem asc_of (l : List ByteArray) (h : riseB l = true) : Asc l := by
  unfold riseB riseTo at h
  have hstep : ∀ i (h1 : i + 1 < l.length), ltB l[i] l[i + 1] = true := by
    intro i h1
    have := List.all_eq_true.1 h (i + 1) (List.mem_range.2 h1)
    simp only [riseAt, Bool.and_eq_true, Bool.or_eq_true] at this
    rcases this.2 with h2 | h2
    · simp at h2
    · simpa [List.getD, h1, show i < l.length by omega] using h2
  have key : ∀ d i (h1 : i + d + 1 < l.length), ltB l[i] l[i + d + 1] = true := by
    intro d
    induction d with
    | zero => intro i h1; exact hstep i h1
    | succ d ih => intro i h1; exact lt_tr (ih i (by omega)) (hstep (i + d + 1) h1)
  unfold Asc
  rw [List.pairwise_iff_getElem]
  intro i j hi hj hij
  obtain ⟨d, rfl⟩ : ∃ d, j = i + d + 1 := ⟨j - i - 1, by omega⟩
  exact key d i hj

theorem asc_sub : ∀ (l2 l1 : List ByteArray), Asc l1 → Asc l2 → (∀ x, x ∈ l1 → x ∈ l2) → l1.length ≤ l2.length ∧ (l1.length = l2.length → l1 = l2) := by
  intro l2
  induction l2 with
  | nil =>
    intro l1 _ _ hs
    cases l1 with
    | nil => exact ⟨Nat.le_refl _, fun _ => rfl⟩
    | cons a r => exact absurd (hs a (List.mem_cons_self ..)) (by simp)
  | cons b s ih =>
    intro l1 h1 h2 hs
    cases l1 with
    | nil => exact ⟨Nat.zero_le _, fun h => by simp at h⟩
    | cons a r =>
      have h1' := List.pairwise_cons.1 h1
      have h2' := List.pairwise_cons.1 h2
      by_cases hab : a = b
      · subst hab
        have := ih r h1'.2 h2'.2 (fun x hx => by
          rcases List.mem_cons.1 (hs x (List.mem_cons_of_mem _ hx)) with h | h
          · exact absurd h.symm (lt_ne (h1'.1 x hx))
          · exact h)
        exact ⟨by simp; omega, fun h => by rw [this.2 (by simpa using h)]⟩
      · have has : a ∈ s := by
          rcases List.mem_cons.1 (hs a (List.mem_cons_self ..)) with h | h
          · exact absurd h hab
          · exact h
        have hba := h2'.1 a has
        have := ih (a :: r) h1 h2'.2 (fun x hx => by
          rcases List.mem_cons.1 (hs x hx) with h | h
          · subst h
            rcases List.mem_cons.1 hx with h | h
            · exact absurd h.symm hab
            · have := lt_tr hba (h1'.1 x h); rw [lt_irr] at this; cases this
          · exact h)
        simp only [List.length_cons] at this ⊢
        exact ⟨by omega, fun h => by omega⟩

theorem asc_inj {l : List ByteArray} (h : Asc l) (i j : Nat) (hi : i < l.length) (hj : j < l.length) (e : l[i] = l[j]) : i = j := by
  unfold Asc at h
  rw [List.pairwise_iff_getElem] at h
  rcases Nat.lt_trichotomy i j with h1 | h1 | h1
  · exact absurd e (lt_ne (h i j hi hj h1))
  · exact h1
  · exact absurd e.symm (lt_ne (h j i hj hi h1))

end Go.Proofs.YthcdeahobjhkbaaGreatDoor

/-
  The copies of schemas that the laws make can be written to.
-/
namespace Go.Proofs.YthcdeahobjhkbaaGreatDoor
open Go.RowKit

/-- From block M on nothing is frozen. -/
def Thaw (M : Nat) (w : World) : Prop := ∀ b o, M ≤ b → b < w.heap.size → w.frozen? ⟨b, o, none⟩ = false

theorem Thaw.base (w : World) : Thaw w.heap.size w := fun b o h1 h2 => by omega
theorem Thaw.set {M : Nat} {w : World} (h : Thaw M w) (p : Addr) (v : Value) : Thaw M (w.setCell p v) := fun b o h1 h2 => by
  rw [World.frozen?_setCell]; exact h b o h1 (by simpa using h2)
theorem Thaw.alloc {M : Nat} {w : World} (h : Thaw M w) (c : Array Value) (t : TypeId) : Thaw M (w.alloc (.cells c t)) := fun b o h1 h2 => by
  by_cases hb : b < w.heap.size
  · have e := Below.heap_alloc w (.cells c t) b hb
    have := h b o h1 hb
    simp only [World.frozen?, e] at this ⊢
    exact this
  · have hb' : b = w.heap.size := by simp at h2; omega
    subst hb'
    have e := heap_alloc_new w (.cells c t)
    simp only [World.frozen?, e]; simp
theorem Thaw.step {M : Nat} {w w' : World} (h : Thaw M w) (hb : Below w.heap.size w w') (h' : Thaw w.heap.size w') (_hM : M ≤ w.heap.size) : Thaw M w' := fun b o h1 h2 => by
  by_cases hlt : b < w.heap.size
  · rw [hb.frozen (p := ⟨b, o, none⟩) hlt]; exact h b o h1 hlt
  · exact h' b o (by omega) h2

end Go.Proofs.YthcdeahobjhkbaaGreatDoor

/-
  Plain mathematics: the first tree of a schema.
-/
namespace Go.Proofs.YthcdeahobjhkbaaGreatDoor
open Go.RowKit

theorem names_of_other {n : Nat} {k : K (n + 1)} {d : Int} (h : goodK (n + 1) k d = true) (h5 : ¬ Kd.sort k = 5) : Kd.names k = [] := by
  simp only [goodK, Bool.and_eq_true] at h
  have ha : aloneKF (Kd.sort k) (Kd.names k) (Kd.kids k).length = true := h.1.2
  unfold aloneKF at ha
  rw [if_neg h5] at ha
  have e : ((Kd.names k).length : Int) = 0 := by
    split at ha
    · simp at ha; simp [ha.1]
    split at ha
    · simp at ha; simp [ha.1]
    split at ha
    · simp at ha; simp [ha.1]
    split at ha
    · simp at ha; simp [ha.1]
    split at ha
    · simp at ha; simp [ha.1]
    · cases ha
  exact List.eq_nil_of_length_eq_zero (by omega)

theorem form_of {n : Nat} {k : K (n + 1)} {d : Int} (h : goodK (n + 1) k d = true) (h5 : Kd.sort k = 5) : (Kd.names k).length = (Kd.kids k).length ∧ riseB (Kd.names k) = true := by
  simp only [goodK, Bool.and_eq_true] at h
  have ha : aloneKF (Kd.sort k) (Kd.names k) (Kd.kids k).length = true := h.1.2
  unfold aloneKF at ha
  rw [h5] at ha
  simp at ha
  exact ⟨by omega, ha.2⟩

theorem rise_short {l : List ByteArray} (h : riseB l = true) : ∀ s, s ∈ l → s.size ≤ 8 := by
  intro s hs
  obtain ⟨i, hi, rfl⟩ := List.getElem_of_mem hs
  unfold riseB riseTo at h
  have := List.all_eq_true.1 h i (List.mem_range.2 hi)
  simp only [riseAt, Bool.and_eq_true, nameB, decide_eq_true_eq] at this
  have h2 := this.1.1.1.2
  simpa [List.getD, hi] using h2

end Go.Proofs.YthcdeahobjhkbaaGreatDoor

/-
  The program's own functions on names: what they answer.
-/
namespace Go.Proofs.YthcdeahobjhkbaaGreatDoor
open Go.RowKit

theorem bool_ret {a b : Bool} (h : a = b) : Ending.returned (.bool a) = .returned (.bool b) := by rw [h]

def digB (n : Int) : Bool := decide (48 ≤ n ∧ n ≤ 57)

set_option maxHeartbeats 400000 in
theorem isDigit_any (x : Int) (w : World) (_h0 : 0 ≤ x) (_h1 : x ≤ 255) : Calls Tryz.prog 91 #[.int .u8 x] w fun e w' => e = .returned (.bool (digB x)) ∧ w' = w := by
  by_cases h : 48 ≤ x <;> by_cases h2 : x ≤ 57
  all_goals
    go_enter Tryz.func91, Tryz.ntmps91
    go_wp2
    go_ret
    exact ⟨bool_ret (by simp [digB, h, h2]; try omega), rfl⟩

theorem head_eq (s : ByteArray) (h : 0 < s.size) : s.data.toList.headD 0 = s[0] := by
  cases hx : s.data.toList with
  | nil => have := congrArg List.length hx; simp at this; simp [this] at h
  | cons a r => simp [ByteArray.getElem_eq_getElem_data, ← Array.getElem_toList, hx]

theorem nmByte_dig (c : UInt8) (h : nmByte c = true) : upByte c = !digB c.toNat := by
  unfold nmByte at h
  rw [decide_eq_true_eq] at h
  unfold upByte digB
  rcases h with h | h
  · rw [decide_eq_true h, decide_eq_false (by omega)]; rfl
  · rw [decide_eq_false (by omega), decide_eq_true h]; rfl

/-- A name, as the program asks it: no digit ahead. -/
theorem nameB_eq (s : ByteArray) (h1 : 1 ≤ s.size) (h2 : s.size ≤ 8) : nameB s = (!digB (s[0].toNat : Int) && s.data.toList.all nmByte) := by
  unfold nameB
  rw [head_eq s (by omega)]
  cases hall : s.data.toList.all nmByte with
  | false => simp
  | true =>
    have h0 : nmByte s[0] = true := List.all_eq_true.1 hall _ (by simp [ByteArray.getElem_eq_getElem_data])
    rw [nmByte_dig _ h0]; simp [h1, h2]

set_option maxHeartbeats 400000 in
theorem isName_any (s : ByteArray) (w : World) (hs : s.size ≤ maxLen) : Calls Tryz.prog 85 #[.string s] w fun e w' => e = .returned (.bool (nameB s)) ∧ w' = w := by
  unfold maxLen at hs
  by_cases hl : 1 ≤ s.size ∧ s.size ≤ 8
  · obtain ⟨hl1, hl2⟩ := hl
    have HN : Hid (nameB s = (!digB (s[0].toNat : Int) && s.data.toList.all nmByte)) := nameB_eq s hl1 hl2
    have hu0 : ∀ k (h : k < s.size), (s[k].toNat : Int) ≤ 255 := fun k h => by have := s[k].toNat_lt; omega
    have hu00 := hu0 0 (by omega)
    cases hd : digB (s[0].toNat : Int) with
    | true =>
      have HF : Hid (nameB s = false) := by show _ = _; rw [HN.out, hd]; simp
      clear hu0
      go_enter Tryz.func85, Tryz.ntmps85
      go_wp2_with fail
      refine (isDigit_any _ _ (by omega) hu00).mono ?_
      rintro e w' ⟨rfl, rfl⟩
      rw [hd]
      go_wp2_with fail
      go_ret
      exact ⟨bool_ret HF.out.symm, rfl⟩
    | false =>
      have HD := hidF hd
      have HU := hidF hu0
      clear hu0 hd
      go_enter Tryz.func85, Tryz.ntmps85
      go_wp2_with fail
      refine (isDigit_any _ _ (by omega) hu00).mono ?_
      rintro e w' ⟨rfl, rfl⟩
      rw [HD.out]
      go_wp2_with fail
      go_loop [19] (fun i => ∃ k : Nat, k ≤ s.size ∧ i = .int .i64 k ∧ (s.data.toList.take k).all nmByte = true) (fun i => s.size - (intOf i).toNat)
      case atStart => exact ⟨0, Nat.zero_le _, rfl, by simp⟩
      case round =>
        obtain ⟨k, hk, rfl, hall⟩ := hrel
        have HA := hidF hall
        clear hall
        by_cases hlt : k < s.size
        · have huk := HU.out k hlt
          have HDig : Hid (digB (s[k].toNat : Int) = decide (48 ≤ (s[k].toNat : Int) ∧ (s[k].toNat : Int) ≤ 57)) := rfl
          cases hb : nmByte s[k] with
          | true =>
            have HB : Hid (nmByte s[k] = true) := hb
            unfold nmByte at hb
            rw [decide_eq_true_eq] at hb
            rcases hb with ⟨h1, h2⟩ | ⟨h1, h2⟩
            · have hdk : digB (s[k].toNat : Int) = false := by rw [HDig.out]; exact decide_eq_false (by omega)
              go_wp2_with (go_at_call 91; refine (isDigit_any _ _ (by omega) huk).mono ?_; rintro e w' ⟨rfl, rfl⟩; rw [hdk])
              go_round
              case rel => exact ⟨k + 1, by omega, by go_num, all_take_succ k hlt HA.out HB.out⟩
              case measure => simp [intOf]; omega
            · have hdk : digB (s[k].toNat : Int) = true := by rw [HDig.out]; exact decide_eq_true ⟨by omega, by omega⟩
              go_wp2_with (go_at_call 91; refine (isDigit_any _ _ (by omega) huk).mono ?_; rintro e w' ⟨rfl, rfl⟩; rw [hdk])
              go_round
              case rel => exact ⟨k + 1, by omega, by go_num, all_take_succ k hlt HA.out HB.out⟩
              case measure => simp [intOf]; omega
          | false =>
            have HF : Hid (nameB s = false) := by show _ = _; rw [nameB, all_false_at k hlt hb]; simp
            unfold nmByte at hb
            rw [decide_eq_false_iff_not] at hb
            have hdk : digB (s[k].toNat : Int) = false := by rw [HDig.out]; exact decide_eq_false (by omega)
            rcases (show (s[k].toNat : Int) < 97 ∨ 122 < (s[k].toNat : Int) by omega) with h1 | h1
            all_goals
              clear hb
              go_wp2_with (go_at_call 91; refine (isDigit_any _ _ (by omega) huk).mono ?_; rintro e w' ⟨rfl, rfl⟩; rw [hdk])
              go_ret
              exact ⟨bool_ret HF.out.symm, rfl⟩
        · have HF : Hid (nameB s = true) := by show _ = _; rw [HN.out, HD.out, all_take_all k (by omega) HA.out]; simp
          go_wp2_with fail
          go_ret
          exact ⟨bool_ret HF.out.symm, rfl⟩
  · have HF : Hid (nameB s = false) := by show _ = _; rw [nameB, decide_eq_false hl]; simp
    rcases (show s.size < 1 ∨ 8 < s.size by omega) with h1 | h1
    all_goals
      clear hl
      go_enter Tryz.func85, Tryz.ntmps85
      go_wp2_with fail
      go_ret
      exact ⟨bool_ret HF.out.symm, rfl⟩

end Go.Proofs.YthcdeahobjhkbaaGreatDoor

/-
  The program's own function on a form's names: areFormNames.
-/
namespace Go.Proofs.YthcdeahobjhkbaaGreatDoor
open Go.RowKit

set_option maxHeartbeats 1000000 in
theorem areFormNames_any (S : Nat → Prop) (l : List ByteArray) (v : Value) (w : World) (hl : StrsIn S w l v) :
    Calls Tryz.prog 65 #[v] w fun e w' => e = .returned (.bool (riseB l)) ∧ w' = w := by
  obtain ⟨ao, cap, rfl, hlen, hs, hc⟩ := hl
  unfold maxLen at hlen
  go_enter Tryz.func65, Tryz.ntmps65
  go_wp2_with fail
  go_loop [7] (fun i => ∃ k : Nat, k ≤ l.length ∧ i = .int .i64 k ∧ riseTo l k = true) (fun i => l.length - (intOf i).toNat)
  case atStart => exact ⟨0, Nat.zero_le _, rfl, by simp [riseTo]⟩
  case round =>
    obtain ⟨k, hk, rfl, hall⟩ := hrel
    have HA : Hid (riseTo l k = true) := hall
    clear hall
    by_cases hlt : k < l.length
    · obtain ⟨b, off, rfl, hbB, hcell⟩ := hc (by intro h; rw [h] at hlt; simp at hlt)
      have f0 := hcell k hlt
      have hsk := hs l[k] (List.getElem_mem hlt)
      have hgk : l.getD k ByteArray.empty = l[k] := by simp [List.getD, hlt]
      cases hnm : nameB l[k] with
      | false =>
        have HF : Hid (riseB l = false) := riseTo_false l k hlt (by simp only [riseAt, hgk, hnm, Bool.false_and])
        have HC : Hid (∀ w, Calls Tryz.prog 85 #[.string l[k]] w fun e w' => e = .returned (.bool false) ∧ w' = w) := fun w => by rw [← hnm]; exact isName_any _ w hsk
        clear hc hs hcell hgk hnm
        generalize l[k] = s at *
        go_wp2_with (go_at_call 85; refine (HC.out _).mono ?_; rintro e w' ⟨rfl, rfl⟩)
        go_ret
        exact ⟨bool_ret HF.out.symm, rfl⟩
      | true =>
        have HC : Hid (∀ w, Calls Tryz.prog 85 #[.string l[k]] w fun e w' => e = .returned (.bool true) ∧ w' = w) := fun w => by rw [← hnm]; exact isName_any _ w hsk
        rcases Nat.eq_zero_or_pos k with rfl | hkp
        · have HR : Hid (riseTo l (0 + 1) = true) := by show _ = _; rw [riseTo_succ, HA.out, riseAt, hgk, hnm]; rfl
          clear hc hs hcell hgk hnm
          rw [Nat.add_zero] at f0
          generalize l[0] = s at *
          go_wp2_with (go_at_call 85; refine (HC.out _).mono ?_; rintro e w' ⟨rfl, rfl⟩)
          go_round
          case rel => exact ⟨0 + 1, by omega, by go_num, HR.out⟩
          case measure => simp [intOf]; omega
        · obtain ⟨j, rfl⟩ : ∃ j, k = j + 1 := ⟨k - 1, by omega⟩
          have f1 := hcell j (by omega)
          have hgj : l.getD j ByteArray.empty = l[j] := by simp [List.getD, show j < l.length by omega]
          cases hlt' : ltB l[j] l[j + 1] with
          | false =>
            have HF : Hid (riseB l = false) := riseTo_false l (j + 1) hlt (by simp only [riseAt, hgk, Nat.add_sub_cancel, hgj, hlt']; simp)
            unfold ltB at hlt'
            clear hc hs hcell hgk hgj hnm
            generalize l[j] = r at *
            generalize l[j + 1] = s at *
            go_wp2_with (go_at_call 85; refine (HC.out _).mono ?_; rintro e w' ⟨rfl, rfl⟩)
            go_ret
            exact ⟨bool_ret HF.out.symm, rfl⟩
          | true =>
            have HR : Hid (riseTo l (j + 1 + 1) = true) := by show _ = _; rw [riseTo_succ, HA.out, riseAt, hgk, hnm, Nat.add_sub_cancel, hgj, hlt']; simp
            unfold ltB at hlt'
            clear hc hs hcell hgk hgj hnm
            generalize l[j] = r at *
            generalize l[j + 1] = s at *
            go_wp2_with (go_at_call 85; refine (HC.out _).mono ?_; rintro e w' ⟨rfl, rfl⟩)
            go_round
            case rel => exact ⟨j + 1 + 1, by omega, by go_num, HR.out⟩
            case measure => simp [intOf]; omega
    · have HF : Hid (riseB l = true) := by show _ = _; rw [riseB, show l.length = k by omega]; exact HA.out
      clear hc hs
      go_wp2_with fail
      go_ret
      exact ⟨bool_ret HF.out.symm, rfl⟩

end Go.Proofs.YthcdeahobjhkbaaGreatDoor

/-
  The program's own function on one node of a schema: hasJustItsKids.
-/
namespace Go.Proofs.YthcdeahobjhkbaaGreatDoor
open Go.RowKit

set_option maxRecDepth 100000 in
set_option maxHeartbeats 2000000 in
theorem justK_leaf (s : Int) (l : List ByteArray) (ka : Option Addr) (kl kc : Nat) (w : World) (na : Option Addr) (nc : Nat) (hs : s = 1 ∨ s = 2 ∨ s = 3) :
    Calls Tryz.prog 41 #[.agg #[.int .i64 s, .slice na l.length nc, .slice ka kl kc]] w fun e w' => e = .returned (.bool (((l.length : Int) == 0) && ((kl : Int) == 0))) ∧ Below w.heap.size w w' := by
  rcases hs with rfl | rfl | rfl
  all_goals
    go_enter Tryz.func41, Tryz.ntmps41
    go_wp2_with fail
    all_goals
      go_ret
      exact ⟨bool_ret (by simp_all), (Below.refl _ _).alloc (Nat.le_refl _) _⟩

set_option maxRecDepth 100000 in
set_option maxHeartbeats 2000000 in
theorem justK_one (s : Int) (l : List ByteArray) (ka : Option Addr) (kl kc : Nat) (w : World) (na : Option Addr) (nc : Nat) (hs : s = 4 ∨ s = 6) :
    Calls Tryz.prog 41 #[.agg #[.int .i64 s, .slice na l.length nc, .slice ka kl kc]] w fun e w' => e = .returned (.bool (((l.length : Int) == 0) && ((kl : Int) == 1))) ∧ Below w.heap.size w w' := by
  rcases hs with rfl | rfl
  all_goals
    go_enter Tryz.func41, Tryz.ntmps41
    go_wp2_with fail
    all_goals
      go_ret
      exact ⟨bool_ret (by simp_all), (Below.refl _ _).alloc (Nat.le_refl _) _⟩

set_option maxRecDepth 100000 in
set_option maxHeartbeats 2000000 in
theorem justK_form (l : List ByteArray) (ka : Option Addr) (kl kc : Nat) (w : World) (na : Option Addr) (nc : Nat) (S : Nat → Prop) (hl : StrsIn S w l (.slice na l.length nc)) (hB : ∀ b, S b → b < w.heap.size) :
    Calls Tryz.prog 41 #[.agg #[.int .i64 5, .slice na l.length nc, .slice ka kl kc]] w fun e w' => e = .returned (.bool (((l.length : Int) == (kl : Int)) && riseB l)) ∧ Below w.heap.size w w' := by
  by_cases hk : l.length = kl
  · subst hk
    have hb0 := (Below.refl w.heap.size w).alloc (Nat.le_refl _) (.cells #[.int .i64 5, .slice na l.length nc, .slice ka l.length kc] 26)
    have hl' := hl.keep (same_below hb0 hB) (fun _ h => h)
    have HC : Hid (Calls Tryz.prog 65 #[.slice na l.length nc] _ _) := areFormNames_any S l _ _ hl'
    have hk : ((l.length : Int) == (l.length : Int)) = true := by simp
    clear hl hl' hB
    go_enter Tryz.func41, Tryz.ntmps41
    go_wp2_with fail
    refine HC.out.mono ?_
    rintro e w' ⟨rfl, rfl⟩
    go_wp2_with fail
    go_ret
    exact ⟨by simp, hb0⟩
  · have hk' : ((l.length : Int) == (kl : Int)) = false := by simp; omega
    rw [hk']
    clear hk
    go_enter Tryz.func41, Tryz.ntmps41
    go_wp2_with fail
    go_ret
    exact ⟨rfl, (Below.refl _ _).alloc (Nat.le_refl _) _⟩

set_option maxRecDepth 100000 in
set_option maxHeartbeats 2000000 in
theorem justK_other (s : Int) (l : List ByteArray) (ka : Option Addr) (kl kc : Nat) (w : World) (na : Option Addr) (nc : Nat)
    (h1 : (s == 1) = false) (h2 : (s == 2) = false) (h3 : (s == 3) = false) (h4 : (s == 4) = false) (h5 : (s == 5) = false) (h6 : (s == 6) = false) :
    Calls Tryz.prog 41 #[.agg #[.int .i64 s, .slice na l.length nc, .slice ka kl kc]] w fun e w' => e = .returned (.bool false) ∧ Below w.heap.size w w' := by
  have hb0 := (Below.refl w.heap.size w).alloc (Nat.le_refl _) (.cells #[.int .i64 s, .slice na l.length nc, .slice ka kl kc] 26)
  go_enter Tryz.func41, Tryz.ntmps41
  go_wp2_with fail
  go_ret
  exact ⟨rfl, hb0⟩

theorem justK_any (s : Int) (l : List ByteArray) (ka : Option Addr) (kl kc : Nat) (w : World) (na : Option Addr) (nc : Nat)
    (S : Nat → Prop) (hl : StrsIn S w l (.slice na l.length nc)) (hB : ∀ b, S b → b < w.heap.size) :
    Calls Tryz.prog 41 #[.agg #[.int .i64 s, .slice na l.length nc, .slice ka kl kc]] w fun e w' => e = .returned (.bool (aloneKF s l kl)) ∧ Below w.heap.size w w' := by
  unfold aloneKF
  by_cases h1 : s = 1
  · subst h1; rw [if_pos rfl]; exact justK_leaf 1 l ka kl kc w na nc (.inl rfl)
  rw [if_neg h1]
  by_cases h2 : s = 2
  · subst h2; rw [if_pos rfl]; exact justK_leaf 2 l ka kl kc w na nc (.inr (.inl rfl))
  rw [if_neg h2]
  by_cases h3 : s = 3
  · subst h3; rw [if_pos rfl]; exact justK_leaf 3 l ka kl kc w na nc (.inr (.inr rfl))
  rw [if_neg h3]
  by_cases h4 : s = 4
  · subst h4; rw [if_pos rfl]; exact justK_one 4 l ka kl kc w na nc (.inl rfl)
  rw [if_neg h4]
  by_cases h5 : s = 5
  · subst h5; rw [if_pos rfl]; exact justK_form l ka kl kc w na nc S hl hB
  rw [if_neg h5]
  by_cases h6 : s = 6
  · subst h6; rw [if_pos rfl]; exact justK_one 6 l ka kl kc w na nc (.inr rfl)
  rw [if_neg h6]
  exact justK_other s l ka kl kc w na nc (by simp [h1]) (by simp [h2]) (by simp [h3]) (by simp [h4]) (by simp [h5]) (by simp [h6])

end Go.Proofs.YthcdeahobjhkbaaGreatDoor

/-
  The program's walker at schemas, with the closure by which isOk asks each part; isOk; KindOk.
-/
namespace Go.Proofs.YthcdeahobjhkbaaGreatDoor
open Go.RowKit

set_option maxHeartbeats 1000000 in
theorem accK_any (S : Nat → Prop) (s : Int) (l : List ByteArray) (na ka : Option Addr) (nc kl kc pb mb ab : Nat) (d p : Int) (w : World) (hl : StrsIn S w l (.slice na l.length nc)) (hB : ∀ b, S b → b < w.heap.size ∧ b ≠ pb)
    (hp : Cap w pb mb ab p 40 41) (hp0 : 0 ≤ p) (hp1 : p ≤ 40) :
    Calls Tryz.prog 64 #[.agg #[.int .i64 s, .slice na l.length nc, .slice ka kl kc], .int .i64 d, .pointer (some ⟨pb, 0, none⟩), .pointer (some ⟨mb, 0, none⟩), .pointer (some ⟨ab, 0, none⟩)] w
      fun e w' => e = .returned (.bool (decide (p + 1 ≤ 40) && decide (d ≤ 6) && aloneKF s l kl)) ∧ Prt w' pb (p + 1) ∧ Near pb w w' := by
  have hlt := hp.parts.lt
  have hn0 : Near pb w (w.setCell ⟨pb, 0, none⟩ (.int .i64 (p + 1))) := Near.set pb 0 _ (.int .i64 (p + 1))
  have hn1 := hn0.trans (Near.alloc pb _ (.cells #[.int .i64 s, .slice na l.length nc, .slice ka kl kc] 26))
  have hp' : Prt ((w.setCell ⟨pb, 0, none⟩ (.int .i64 (p + 1))).alloc (.cells #[.int .i64 s, .slice na l.length nc, .slice ka kl kc] 26)) pb (p + 1) := (hp.parts.set (p + 1)).keep ((Below.refl _ _).alloc (Nat.le_refl _) _)
  have hl' := hl.keep (hn1.same hB) (fun _ h => h)
  have HC : Hid (Calls Tryz.prog 41 _ _ _) := justK_any s l ka kl kc _ na nc S hl' (fun b hb => by have := (hB b hb).1; simp; omega)
  have c0 := hp.parts.cell
  have f0 := hp.parts.free
  have m0 := hp.max
  have a0 := hp.acc
  have nm := hp.nm
  have na' := hp.na
  have hm : mb < w.heap.size := cell_lt0 m0
  have ha : ab < w.heap.size := cell_lt0 a0
  have hne : w.heap.size ≠ pb := by omega
  clear hl hl' hp hn0 hB
  by_cases h1 : p + 1 ≤ 40
  · by_cases h2 : d ≤ 6
    · go_enter Tryz.func64, Tryz.ntmps64
      go_wp2_with fail
      refine HC.out.mono ?_
      rintro e w' ⟨rfl, hb1⟩
      have hp2 : Prt w' pb (p + 1) := (hb1.block pb (by simp; omega)).trans hp'
      have hn2 := hn1.trans (Near.of_below (bb := pb) hb1)
      clear hb1 HC
      go_wp2_with fail
      go_ret
      exact ⟨bool_ret (by simp [h1, h2]), hp2, hn2⟩
    · go_enter Tryz.func64, Tryz.ntmps64
      go_wp2_with fail
      go_ret
      exact ⟨bool_ret (by rw [decide_eq_false (show ¬ d ≤ 6 by omega)]; simp), hp', hn1⟩
  · go_enter Tryz.func64, Tryz.ntmps64
    go_wp2_with fail
    go_ret
    exact ⟨bool_ret (by rw [decide_eq_false (show ¬ p + 1 ≤ 40 by omega)]; simp), hp', hn1⟩

/-- What walk does with a schema. -/
def WalkKPost (n : Nat) (t : K n) (d p : Int) (pb : Nat) (w : World) (e : Ending) (w' : World) : Prop :=
  Near pb w w' ∧ ∃ r, e = .returned (.bool r) ∧ (r = true → goodK n t d = true ∧ p + (cntK n t : Int) ≤ 40 ∧ Prt w' pb (p + cntK n t)) ∧ (r = false → ¬ (goodK n t d = true ∧ p + (cntK n t : Int) ≤ 40))

/-- The closure of isOk. -/
def clK (pb mb ab : Nat) : Value := .func (.func 64) #[] #[.pointer (some ⟨pb, 0, none⟩), .pointer (some ⟨mb, 0, none⟩), .pointer (some ⟨ab, 0, none⟩)]

/-- walk at schemas of at most n levels. -/
def WalkKSaid (n : Nat) : Prop := ∀ (S : Nat → Prop) (t : K n) (c0 c1 c2 : Value) (d p : Int) (pb mb ab : Nat) (w : World), KindIn S w n t c0 c1 c2 → (∀ b, S b → b < w.heap.size ∧ b ≠ pb) → Cap w pb mb ab p 40 41 → 0 ≤ p → p ≤ 40 → 1 ≤ d → d ≤ 7 →
  Calls Tryz.prog 63 #[.agg #[c0, c1, c2], .int .i64 d, clK pb mb ab] w (WalkKPost n t d p pb w)

set_option maxHeartbeats 400000 in
theorem kidsK_any (a b c : Value) (ha : ∃ x l k, c = .slice x l k) (w : World) : Calls Tryz.prog 128 #[.agg #[a, b, c]] w fun e w' => e = .returned c ∧ Below w.heap.size w w' := by
  obtain ⟨x, l, k, rfl⟩ := ha
  have hb0 := (Below.refl w.heap.size w).alloc (Nat.le_refl _) (.cells #[a, b, .slice x l k] 26)
  go_enter Tryz.func128, Tryz.ntmps128
  go_wp2_with fail
  go_ret
  exact ⟨rfl, hb0⟩

theorem walkK_bad {n : Nat} {t : K (n + 1)} {d p : Int} (k : Nat) (hk : k < (Kd.kids t).length)
    (h : ¬ (goodK n (Kd.kids t)[k] (d + 1) = true ∧ p + 1 + (sumL (fun x => cntK n x) ((Kd.kids t).take k) : Int) + (cntK n (Kd.kids t)[k] : Int) ≤ 40)) : ¬ (goodK (n + 1) t d = true ∧ p + (cntK (n + 1) t : Int) ≤ 40) := by
  rintro ⟨h1, h2⟩
  apply h
  simp only [goodK, Bool.and_eq_true, List.all_eq_true] at h1
  refine ⟨h1.2 _ (List.getElem_mem hk), ?_⟩
  have e := sumL_take_succ (fun x => cntK n x) (Kd.kids t) k hk
  have e2 := sumL_append (fun x => cntK n x) ((Kd.kids t).take (k + 1)) ((Kd.kids t).drop (k + 1))
  rw [List.take_append_drop] at e2
  simp only [cntK] at h2
  omega

set_option maxRecDepth 100000 in
set_option maxHeartbeats 1000000 in
theorem walkK_step (n : Nat) (hn : WalkKSaid n) : WalkKSaid (n + 1) := by
  intro S t c0 c1 c2 d p pb mb ab w ht hB hcap hp0 hp1 hd1 hd7

  obtain ⟨rfl, -, h3, h4⟩ := ht
  obtain ⟨na, nc, rfl, -, -, -⟩ := id h3
  obtain ⟨ka, kc, rfl, hlen, -⟩ := id h4
  unfold maxLen at hlen
  have hlt := hcap.parts.lt
  generalize hs : Kd.sort t = s at *
  have hb0 := (Below.refl w.heap.size w).alloc (Nat.le_refl _) (.cells #[.int .i64 s, .slice na (Kd.names t).length nc, .slice ka (Kd.kids t).length kc] 26)
  have hn0 : Near pb w (w.alloc (.cells #[.int .i64 s, .slice na (Kd.names t).length nc, .slice ka (Kd.kids t).length kc] 26)) := Near.of_below hb0
  have h3' := h3.keep (hn0.same hB) (fun _ h => h)
  have HC : Hid (Calls Tryz.prog 64 _ _ _) := accK_any S s (Kd.names t) na ka nc (Kd.kids t).length kc pb mb ab d p _ h3' (fun b hb => by have := hB b hb; simp; omega) (hcap.keep hn0 (hcap.parts.keep hb0)) hp0 hp1
  unfold clK
  go_enter Tryz.func63, Tryz.ntmps63
  go_wp2_with fail
  refine HC.out.mono ?_
  rintro e w1 ⟨rfl, hp2, hn1⟩
  have hn2 := hn0.trans hn1
  have hcap2 := hcap.keep hn2 hp2
  have hz2 := hn2.size
  have hz1 : w.heap.size < w1.heap.size := by have := hn1.size; simp at this; omega
  have k0 : w1.cell? ⟨w.heap.size, 0, none⟩ = some (.int .i64 s) := hn1.cell (by simp [go_sem]) (by omega)
  have k1 : w1.cell? ⟨w.heap.size, 1, none⟩ = some (.slice na (Kd.names t).length nc) := hn1.cell (by simp [go_sem]) (by omega)
  have k2 : w1.cell? ⟨w.heap.size, 2, none⟩ = some (.slice ka (Kd.kids t).length kc) := hn1.cell (by simp [go_sem]) (by omega)
  have h4' := h4.keepK (hn2.same hB) (fun _ h => h)
  clear HC hn0 hb0 h3' hn1 h3 h4
  generalize hok : (decide (p + 1 ≤ 40) && decide (d ≤ 6) && aloneKF s (Kd.names t) (Kd.kids t).length) = ok
  cases ok with
  | false =>
    have HP : Hid (WalkKPost (n + 1) t d p pb w (.returned (.bool false)) w1) := by
      refine ⟨hn2, false, rfl, fun h => (by cases h), fun _ => ?_⟩
      rintro ⟨hg, hc⟩
      simp only [goodK, Bool.and_eq_true, decide_eq_true_eq] at hg
      have ha : aloneKF s (Kd.names t) (Kd.kids t).length = true := by rw [← hs]; exact hg.1.2
      have : p + 1 ≤ 40 := by simp only [cntK] at hc; omega
      rw [ha, decide_eq_true hg.1.1, decide_eq_true this] at hok
      cases hok
    clear hok hs
    go_wp2_with fail
    go_ret
    exact HP.out
  | true =>
    simp only [Bool.and_eq_true, decide_eq_true_eq] at hok
    have HAL : Hid ((decide (d ≤ 6) && aloneK (show Kd (K n) from t)) = true) := by show (_ && aloneKF (Kd.sort t) _ _) = _; rw [hs, hok.2, decide_eq_true hok.1.2]; rfl
    obtain ⟨⟨ho1, ho2⟩, -⟩ := hok
    clear hs
    go_wp2_with fail
    refine (kidsK_any _ _ _ ⟨_, _, _, rfl⟩ _).mono ?_
    rintro e w2 ⟨rfl, hb2⟩
    have hn3 : Near pb w w2 := hn2.trans (Near.of_below hb2)
    have hp3 : Prt w2 pb (p + 1) := hp2.keep hb2
    have hz3 := hb2.size
    have h5 := h4'.keepK ((Near.of_below (bb := pb) hb2).same (fun b hb => by have := hB b hb; omega)) (fun _ h => h)
    clear h4' hb2 hcap2 hn2 hp2 k0 k1 k2
    obtain ⟨_, _, hkv, -, hkids⟩ := h5
    cases hkv
    go_wp2_with fail
    go_loopw [18] (fun i wr => ∃ k : Nat, k ≤ (Kd.kids t).length ∧ i = .int .i64 k ∧ Near pb w2 wr ∧ Prt wr pb (p + 1 + (sumL (fun x => cntK n x) ((Kd.kids t).take k) : Int)) ∧
        p + 1 + (sumL (fun x => cntK n x) ((Kd.kids t).take k) : Int) ≤ 40 ∧ ((Kd.kids t).take k).all (fun x => goodK n x (d + 1)) = true) (fun i _ => (Kd.kids t).length - (intOf i).toNat)
    case atStart => exact ⟨0, Nat.zero_le _, rfl, Near.refl _ _, by simpa [sumL] using hp3, by simpa [sumL] using ho1, by simp⟩
    case round =>
      obtain ⟨k, hk, rfl, hnr, hpr, hfew, hall⟩ := hrel
      have HALL := hidF hall
      clear hall
      have hzr := hnr.size
      have hn4 := hn3.trans hnr
      have hltr := hpr.lt
      by_cases hlt : k < (Kd.kids t).length
      · obtain ⟨b, off, rfl, hbB, hcell⟩ := hkids (by intro h; rw [h] at hlt; simp at hlt)
        obtain ⟨x0, x1, x2, e0, e1, e2, hr⟩ := hcell k hlt
        have hbb := hB b hbB
        have f0 := hnr.cell e0 hbb.2
        have f1 := hnr.cell e1 hbb.2
        have f2 := hnr.cell e2 hbb.2
        have q := hr.keep (hnr.same (fun b hb => by have := hB b hb; omega)) (fun _ h => h)
        obtain ⟨y0, ya, yl, yc, za, zl, zc, rfl, rfl, rfl⟩ := q.shape
        clear hkids hcell e0 e1 e2 hr
        have hb5 := (Below.refl wr.heap.size wr).alloc (Nat.le_refl _) (.cells #[.int .i64 y0, .slice ya yl yc, .slice za zl zc] 26)
        have hn5 : Near pb wr (wr.alloc (.cells #[.int .i64 y0, .slice ya yl yc, .slice za zl zc] 26)) := Near.of_below hb5
        have q5 := q.keep (hn5.same (fun b hb => by have := hB b hb; omega)) (fun _ h => h)
        have hcap5 := hcap.keep (hn4.trans hn5) (hpr.keep hb5)
        have HC : Hid (Calls Tryz.prog 63 _ _ _) := hn S (Kd.kids t)[k] _ _ _ (d + 1) _ pb mb ab _ q5 (fun b hb => by have := hB b hb; simp; omega) hcap5 (by omega) hfew (by omega) (by omega)
        have HBad := @walkK_bad n t d p k hlt
        have HSum : Hid (sumL (fun x => cntK n x) ((Kd.kids t).take (k + 1)) = sumL (fun x => cntK n x) ((Kd.kids t).take k) + cntK n (Kd.kids t)[k]) := sumL_take_succ _ _ _ hlt
        clear q q5 hcap5 hb5
        unfold clK at HC
        go_wp2_with fail
        refine HC.out.mono ?_
        rintro e w3 ⟨hn6, r, rfl, hyes, hno⟩
        have hn7 := hnr.trans (hn5.trans hn6)
        cases r with
        | false =>
          have HP : Hid (WalkKPost (n + 1) t d p pb w (.returned (.bool false)) w3) := ⟨hn3.trans hn7, false, rfl, fun h => (by cases h), fun _ => HBad (hno rfl)⟩
          clear HBad hno hyes HSum HALL hn6 hn7 hn5 hn4
          go_wp2_with fail
          go_ret
          exact HP.out
        | true =>
          obtain ⟨hg, hc, hp6⟩ := hyes rfl
          have HR : Hid (Near pb w2 w3 ∧ Prt w3 pb (p + 1 + (sumL (fun x => cntK n x) ((Kd.kids t).take (k + 1)) : Int)) ∧ p + 1 + (sumL (fun x => cntK n x) ((Kd.kids t).take (k + 1)) : Int) ≤ 40 ∧ ((Kd.kids t).take (k + 1)).all (fun x => goodK n x (d + 1)) = true) := by
            refine ⟨hn7, ?_, ?_, all_take_kidK k hlt HALL.out hg⟩
            · rw [HSum.out, show p + 1 + ((sumL (fun x => cntK n x) ((Kd.kids t).take k) + cntK n (Kd.kids t)[k] : Nat) : Int) = p + 1 + (sumL (fun x => cntK n x) ((Kd.kids t).take k) : Int) + (cntK n (Kd.kids t)[k] : Int) by omega]
              exact hp6
            · rw [HSum.out]; omega
          clear HBad hno hyes HSum HALL hn6 hn7 hn5 hn4 hg hc hp6 hpr hfew
          go_wp2_with fail
          go_roundw
          case rel => exact ⟨k + 1, by omega, by go_num, HR.out.1, HR.out.2.1, HR.out.2.2.1, HR.out.2.2.2⟩
          case measure => simp [intOf]; omega
      · have hkl : k = (Kd.kids t).length := by omega
        have HP : Hid (WalkKPost (n + 1) t d p pb w (.returned (.bool true)) wr) := by
          have h1 := HALL.out
          rw [hkl, List.take_length] at h1 hpr hfew
          have e : p + 1 + (sumL (fun x => cntK n x) (Kd.kids t) : Int) = p + (cntK (n + 1) t : Int) := by simp only [cntK]; omega
          rw [e] at hpr hfew
          exact ⟨hn4, true, rfl, fun _ => ⟨by have := HAL.out; simp only [goodK, this, h1, Bool.and_self], hfew, hpr⟩, fun h => (by cases h)⟩
        clear hkl hkids HALL hn4 hpr hfew
        go_wp2_with fail
        go_ret
        exact HP.out

theorem walkK_any : ∀ n, WalkKSaid n := by
  intro n
  induction n with
  | zero => intro S t c0 c1 c2 d p pb mb ab w ht; exact ht.elim
  | succ n ih => exact walkK_step n ih

set_option maxRecDepth 100000 in
set_option maxHeartbeats 1000000 in
theorem isOkK_any (n : Nat) (S : Nat → Prop) (t : K n) (c0 c1 c2 : Value) (w : World) (ht : KindIn S w n t c0 c1 c2) (hB : ∀ b, S b → b < w.heap.size) :
    Calls Tryz.prog 40 #[.agg #[c0, c1, c2], .int .i64 40, .func (.func 41) #[] #[]] w fun e w' => e = .returned (.bool (okK n t)) ∧ Below w.heap.size w w' := by
  have hmf : ∀ (fn : Fn) (first cap : Array Value) (w : World), (Instr.makeFunc fn first cap).run Tryz.prog w = .ok (.func fn first cap) w := fun _ _ _ _ => rfl
  obtain ⟨x0, xa, xl, xc, ya, yl, yc, rfl, rfl, rfl⟩ := ht.shape
  have hb : Below w.heap.size w ((((w.alloc (.cells #[.int .i64 x0, .slice xa xl xc, .slice ya yl yc] 26)).alloc (.cells #[.int .i64 40] 3)).alloc (.cells #[.func (.func 41) #[] #[]] 39)).alloc (.cells #[.int .i64 0] 3)) :=
    ((((Below.refl _ _).alloc (Nat.le_refl _) _).alloc (by simp) _).alloc (by simp; omega) _).alloc (by simp; omega) _
  have ht' := ht.keep (same_below hb hB) (fun _ h => h)
  have HC : Hid (Calls Tryz.prog 63 _ _ _) := walkK_any n S t _ _ _ 1 0 (w.heap.size + 1 + 1 + 1) (w.heap.size + 1) (w.heap.size + 1 + 1) _ ht' (fun b hb => by have := hB b hb; simp; omega)
    ⟨by rw [show w.heap.size + 1 + 1 + 1 = (((w.alloc (.cells #[.int .i64 x0, .slice xa xl xc, .slice ya yl yc] 26)).alloc (.cells #[.int .i64 40] 3)).alloc (.cells #[.func (.func 41) #[] #[]] 39)).heap.size by simp]; exact Prt.new _ 0,
      by simp [go_sem], by simp [go_sem], by omega, by omega⟩ (by omega) (by omega) (by omega) (by omega)
  unfold clK at HC
  clear ht ht'
  go_enter Tryz.func40, Tryz.ntmps40
  go_wp2_with fail
  refine HC.out.mono ?_
  rintro e w1 ⟨hn, r, rfl, hyes, hno⟩
  have hb1 : Below w.heap.size w w1 := hb.trans (hn.below (by omega) (by simp; omega))
  have hr : r = okK n t := by
    cases r with
    | true =>
      obtain ⟨h1, h2, -⟩ := hyes rfl
      unfold okK; rw [h1, decide_eq_true (by omega)]; rfl
    | false =>
      symm
      rw [Bool.eq_false_iff]
      intro h
      simp only [okK, Bool.and_eq_true, decide_eq_true_eq] at h
      exact hno rfl ⟨h.1, by omega⟩
  clear hyes hno hn hb HC
  go_wp2_with fail
  go_ret
  exact ⟨rfl, hb1⟩

set_option maxRecDepth 100000 in
set_option maxHeartbeats 400000 in
theorem implKOk_any (n : Nat) (S : Nat → Prop) (t : K n) (c0 c1 c2 : Value) (w : World) (ht : KindIn S w n t c0 c1 c2) (hB : ∀ b, S b → b < w.heap.size) :
    Calls Tryz.prog 22 #[.agg #[c0, c1, c2]] w fun e w' => e = .returned (.bool (okK n t)) ∧ Below w.heap.size w w' := by
  obtain ⟨x0, xa, xl, xc, ya, yl, yc, rfl, rfl, rfl⟩ := ht.shape
  have hb0 := (Below.refl w.heap.size w).alloc (Nat.le_refl _) (.cells #[.int .i64 x0, .slice xa xl xc, .slice ya yl yc] 26)
  obtain ⟨ht0, hB0⟩ := ht.step hB hb0
  have HC : Hid (Calls Tryz.prog 40 _ _ _) := isOkK_any n S t _ _ _ _ ht0 hB0
  clear ht ht0
  go_enter Tryz.func22, Tryz.ntmps22
  go_wp2_with fail
  refine HC.out.mono ?_
  rintro e w1 ⟨rfl, hb1⟩
  have hb2 := below_step hb0 (by simp) hb1
  clear hb0 hb1 HC
  go_wp2_with fail
  go_ret
  exact ⟨rfl, hb2⟩

end Go.Proofs.YthcdeahobjhkbaaGreatDoor

/-
  A schema in a box of the law's.
-/
namespace Go.Proofs.YthcdeahobjhkbaaGreatDoor
open Go.RowKit

/-- A schema in a box. -/
structure BoxK (B : Nat) (w : World) (n : Nat) (k : K n) (N : Nat) (c0 c1 c2 : Value) : Prop where
  box : Box3 w N c0 c1 c2
  kind : KindIn (fun b => b < B) w n k c0 c1 c2
  lt : B ≤ w.heap.size

theorem BoxK.keep {B : Nat} {w w' : World} {n : Nat} {k : K n} {N : Nat} {c0 c1 c2 : Value} (h : BoxK B w n k N c0 c1 c2) (hb : Below w.heap.size w w') : BoxK B w' n k N c0 c1 c2 :=
  ⟨h.box.keep hb, h.kind.keep (same_below hb (fun _ hb' => Nat.lt_of_lt_of_le hb' h.lt)) (fun _ h => h), Nat.le_trans h.lt hb.size⟩

end Go.Proofs.YthcdeahobjhkbaaGreatDoor
