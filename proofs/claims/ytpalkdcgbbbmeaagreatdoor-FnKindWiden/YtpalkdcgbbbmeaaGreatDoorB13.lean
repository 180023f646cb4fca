/-
 Several texts in one, in their order.
-/
import Derived.Test.YtpalkdcgbbbmeaaGreatDoorB1
import Derived.Laws.IdiomStrings
import Derived.Deep.RegionLaw
import Derived.Lib.AppendStr
import Derived.Lib.Hide
import Derived.Lib.OthersKept
import Derived.Test.YtpalkdcgbbbmeaaGreatDoorKMade

/-
 Marks: spots of memory that are written one after the other; the text of a mark.
-/
namespace Go.Proofs.YtpalkdcgbbbmeaaGreatDoor
open Go.RowKit

theorem mlt {w : World} {b o : Nat} {v : Value} (h : w.cell? ⟨b, o, none⟩ = some v) : b < w.heap.size :=
 Classical.byContradiction fun hge => by
  have : w.heap[b]? = none := Array.getElem?_eq_none (by omega)
  simp [World.cell?, this] at h

def decF : Nat → Nat → List UInt8
 | 0, _ => []
 | f + 1, n => if n = 0 then [] else decF f (n / 10) ++ [UInt8.ofNat (48 + n % 10)]

def decM (n : Nat) : List UInt8 := decF n n

def mt (k : Int) : ByteArray := bs (109 :: decM k.toNat)

structure Spot where
 b : Nat
 o : Nat
 tx : Bool

def Spot.at (s : Spot) : Addr := ⟨s.b, s.o, none⟩

def Spot.val (s : Spot) (k : Int) : Value := if s.tx then .string (mt k) else .int .i64 k

def writeAll : World → List Spot → Int → World
 | w, [], _ => w
 | w, s :: r, k => writeAll (w.setCell s.at (s.val k)) r (k + 1)

theorem writeAll_app (L M : List Spot) : ∀ (w : World) (k : Int), writeAll w (L ++ M) k = writeAll (writeAll w L k) M (k + L.length) := by
 induction L with
 | nil => intro w k; simp [writeAll]
 | cons a r ih =>
  intro w k
  simp only [List.cons_append, writeAll, ih, List.length_cons]
  rw [show k + 1 + (r.length : Int) = k + ((r.length + 1 : Nat) : Int) by omega]

theorem setCell_congr {w w' : World} {b : Nat} (h : w.heap[b]? = w'.heap[b]?) (p : Addr) (v : Value) : (w.setCell p v).heap[b]? = (w'.setCell p v).heap[b]? := by
 by_cases hp : b = p.block
 · subst hp; simp [World.setCell, Array.getElem?_modify, h]
 · rw [Below.heap_setCell _ _ _ _ hp, Below.heap_setCell _ _ _ _ hp]; exact h

theorem writeAll_congr (L : List Spot) : ∀ {w w' : World} {b : Nat} (_ : w.heap[b]? = w'.heap[b]?) (k : Int), (writeAll w L k).heap[b]? = (writeAll w' L k).heap[b]? := by
 induction L with
 | nil => intro w w' b h k; exact h
 | cons s r ih => intro w w' b h k; exact ih (setCell_congr h _ _) _

structure Wrote (L : List Spot) (k : Int) (w w' : World) : Prop where
 os : w'.os = w.os
 tape : w'.tape = w.tape
 output : w'.output = w.output
 size : w.heap.size ≤ w'.heap.size
 block : ∀ b : Nat, b < w.heap.size → w'.heap[b]? = (writeAll w L k).heap[b]?

theorem Wrote.refl (k : Int) (w : World) : Wrote [] k w w := ⟨rfl, rfl, rfl, Nat.le_refl _, fun _ _ => rfl⟩

theorem Wrote.below {L : List Spot} {k : Int} {w w1 w2 : World} (h : Wrote L k w w1) (hb : Below w1.heap.size w1 w2) : Wrote L k w w2 :=
 ⟨hb.os.trans h.os, hb.tape.trans h.tape, hb.output.trans h.output, Nat.le_trans h.size hb.size, fun b hb' => (hb.block b (Nat.lt_of_lt_of_le hb' h.size)).trans (h.block b hb')⟩

theorem Wrote.trans {L M : List Spot} {k : Int} {w w1 w2 : World} (h : Wrote L k w w1) (h2 : Wrote M (k + L.length) w1 w2) : Wrote (L ++ M) k w w2 :=
 ⟨h2.os.trans h.os, h2.tape.trans h.tape, h2.output.trans h.output, Nat.le_trans h.size h2.size, fun b hb => by
  rw [h2.block b (Nat.lt_of_lt_of_le hb h.size), writeAll_app]; exact writeAll_congr M (h.block b hb) _⟩

structure Sim (w w' : World) : Prop where
 int : ∀ b o x, w.cell? ⟨b, o, none⟩ = some (.int .i64 x) → ∃ y, w'.cell? ⟨b, o, none⟩ = some (.int .i64 y)
 str : ∀ b o x, w.cell? ⟨b, o, none⟩ = some (.string x) → ∃ y, w'.cell? ⟨b, o, none⟩ = some (.string y)
 sl : ∀ b o a l c, w.cell? ⟨b, o, none⟩ = some (.slice a l c) → w'.cell? ⟨b, o, none⟩ = some (.slice a l c)
 fz : ∀ b o, b < w.heap.size → w'.frozen? ⟨b, o, none⟩ = w.frozen? ⟨b, o, none⟩
 size : w.heap.size ≤ w'.heap.size

theorem Sim.refl (w : World) : Sim w w := ⟨fun _ _ x h => ⟨x, h⟩, fun _ _ x h => ⟨x, h⟩, fun _ _ _ _ _ h => h, fun _ _ _ => rfl, Nat.le_refl _⟩

theorem Sim.trans {a b c : World} (h : Sim a b) (k : Sim b c) : Sim a c := by
 refine ⟨fun b o x hx => ?_, fun b o x hx => ?_, fun b o _ _ _ hx => k.sl _ _ _ _ _ (h.sl _ _ _ _ _ hx), fun b o hb => ?_, Nat.le_trans h.size k.size⟩
 · obtain ⟨y, hy⟩ := h.int b o x hx; exact k.int b o y hy
 · obtain ⟨y, hy⟩ := h.str b o x hx; exact k.str b o y hy
 · rw [k.fz b o (Nat.lt_of_lt_of_le hb h.size), h.fz b o hb]

theorem Sim.below {a b c : World} (h : Sim a b) (hb : Below b.heap.size b c) : Sim a c := by
 refine h.trans ⟨fun b' o x hx => ?_, fun b' o x hx => ?_, fun b' o _ _ _ hx => ?_, fun b' o hb' => hb.frozen (p := ⟨b', o, none⟩) hb', hb.size⟩
 · exact ⟨x, (hb.cell (p := ⟨b', o, none⟩) (mlt hx)).trans hx⟩
 · exact ⟨x, (hb.cell (p := ⟨b', o, none⟩) (mlt hx)).trans hx⟩
 · exact (hb.cell (p := ⟨b', o, none⟩) (mlt hx)).trans hx

def Spot.ok (s : Spot) (w : World) : Prop := (if s.tx then ∃ x, w.cell? s.at = some (.string x) else ∃ x, w.cell? s.at = some (.int .i64 x)) ∧ w.frozen? s.at = false

theorem Spot.ok_lt {s : Spot} {w : World} (h : s.ok w) : s.b < w.heap.size := by
 obtain ⟨h, -⟩ := h
 cases ht : s.tx with
 | true => rw [ht] at h; obtain ⟨x, hx⟩ := h; exact mlt (o := s.o) hx
 | false => rw [ht] at h; obtain ⟨x, hx⟩ := h; exact mlt (o := s.o) hx

theorem Spot.ok_sim {s : Spot} {w w' : World} (h : s.ok w) (hs : Sim w w') : s.ok w' := by
 have hlt := Spot.ok_lt h
 obtain ⟨h1, h2⟩ := h
 refine ⟨?_, (hs.fz s.b s.o hlt).trans h2⟩
 cases ht : s.tx with
 | true =>
  rw [ht] at h1
  obtain ⟨x, hx⟩ := h1
  exact hs.str s.b s.o x hx
 | false =>
  rw [ht] at h1
  obtain ⟨x, hx⟩ := h1
  exact hs.int s.b s.o x hx

def Holds (w : World) : List Spot → Int → Prop
 | [], _ => True
 | s :: r, k => w.cell? s.at = some (s.val k) ∧ Holds w r (k + 1)

theorem Holds.keep {w w' : World} : ∀ {L : List Spot} {k : Int}, Holds w L k → (∀ s, s ∈ L → w'.cell? s.at = w.cell? s.at) → Holds w' L k := by
 intro L
 induction L with
 | nil => intro k _ _; trivial
 | cons s r ih => intro k h hs; exact ⟨(hs s (List.mem_cons_self ..)).trans h.1, ih h.2 (fun x hx => hs x (List.mem_cons_of_mem _ hx))⟩

end Go.Proofs.YtpalkdcgbbbmeaaGreatDoor

/-
 Marks on lists of texts: markStringS, heldStringS.
-/
namespace Go.Proofs.YtpalkdcgbbbmeaaGreatDoor
open Go.RowKit

def SpN (w : World) (v : Value) (L : List Spot) : Prop :=
 ∃ (ao : Option Addr) (cap : Nat), v = .slice ao L.length cap ∧ L.length ≤ maxLen ∧ (∀ i (h : i < L.length), ∃ b off, ao = some ⟨b, off, none⟩ ∧ L[i] = ⟨b, off + i, true⟩) ∧ ∀ s, s ∈ L → s.ok w

theorem SpN.sim {w w' : World} {v : Value} {L : List Spot} (h : SpN w v L) (hs : Sim w w') : SpN w' v L := by
 obtain ⟨ao, cap, hv, hl, ha, hk⟩ := h
 exact ⟨ao, cap, hv, hl, ha, fun s hsL => Spot.ok_sim (hk s hsL) hs⟩

theorem SpN.ok {w : World} {v : Value} {L : List Spot} (h : SpN w v L) : ∀ s, s ∈ L → s.ok w := by
 obtain ⟨-, -, -, -, -, hk⟩ := h
 exact hk

end Go.Proofs.YtpalkdcgbbbmeaaGreatDoor

/-
 A buffer of bytes that a call owns, carried from append to append.
-/
namespace Go.Proofs.YtpalkdcgbbbmeaaGreatDoor
open Go.RowKit

structure Buf (B : Nat) (w0 w : World) (v : Value) (l : List UInt8) : Prop where
 own : w.ownsRow B 5 1 v l.length (Lib.byteCells l)
 below : Below B w0 w
 le : B ≤ w.heap.size
 kept : Lib.OthersKept 5 none w0 w

theorem Buf.nil {B : Nat} {w : World} (h : B ≤ w.heap.size) : Buf B w w (.slice none 0 0) [] := ⟨World.ownsRow_nil _ _ _ _, Below.refl _ _, h, Lib.OthersKept.refl _ _ _⟩

theorem Buf.from {B : Nat} {w0 w1 w : World} {v v0 : Value} {l l0 : List UInt8} (h : Buf B w1 w v l) (hb : Buf B w0 w1 v0 l0) : Buf B w0 w v l := ⟨h.own, hb.below.trans h.below, h.le, hb.kept.trans h.kept⟩

theorem Buf.alloc {B : Nat} {w0 w : World} {v : Value} {l : List UInt8} (h : Buf B w0 w v l) (o : Obj) : Buf B w0 (w.alloc o) v l := ⟨h.own.alloc o, h.below.alloc h.le o, by have := h.le; simp; omega, h.kept.alloc o⟩

theorem Buf.grown {B : Nat} {w0 w w' : World} {v v' : Value} {l l' : List UInt8} (h : Buf B w0 w v l) (ho : w'.ownsRow B 5 1 v' l'.length (Lib.byteCells l')) (hg : w.grownBy w' v.ownBlock) : Buf B w0 w' v' l' :=
 ⟨ho, h.below.grown hg h.le (fun k hk => (h.own.lt k hk).1), Nat.le_trans h.le hg.size, h.kept.grown hg (fun g hg' => by
  rcases h.own.2 with ⟨rfl, h0⟩ | ⟨g', cap, cur, rfl, hbg, hgg, hnc, hcm, hcs, htake⟩
  · cases hg'
  ·
   have : g' = g := by simpa [Value.ownBlock] using hg'
   subst this
   exact ⟨_, _, hgg⟩)⟩

theorem Buf.shape {B : Nat} {w0 w : World} {v : Value} {l : List UInt8} (h : Buf B w0 w v l) : ∃ a N c, v = .slice a N c := by
 rcases h.own.2 with ⟨rfl, h0⟩ | ⟨g, cap, cur, rfl, hbg, hg, hnc, hcm, hcs, htake⟩
 · exact ⟨_, _, _, rfl⟩
 · exact ⟨_, _, _, rfl⟩

end Go.Proofs.YtpalkdcgbbbmeaaGreatDoor

/-
 The text of a schema, by the program: within, appendForm, appendKind, KindWrite.
-/
namespace Go.Proofs.YtpalkdcgbbbmeaaGreatDoor
open Go.RowKit

theorem four_cells {w : World} {N : Nat} {a b c d : Value} {t : TypeId} (h : w.heap[N]? = some (.cells #[a, b, c, d] t (0, 0))) :
  w.cell? ⟨N, 0, none⟩ = some a ∧ w.cell? ⟨N, 1, none⟩ = some b ∧ w.cell? ⟨N, 2, none⟩ = some c ∧ w.cell? ⟨N, 3, none⟩ = some d := by
 refine ⟨?_, ?_, ?_, ?_⟩ <;> simp [World.cell?, h]

set_option maxRecDepth 20000 in
set_option maxHeartbeats 400000 in
theorem within_any (w : World) (b g o len cap kb : Nat) (h3 : w.cell? ⟨b, 3, none⟩ = some (.slice (some ⟨g, o, none⟩) (len + 1) cap)) (hk : w.cell? ⟨g, o, none⟩ = some (.pointer (some ⟨kb, 0, none⟩))) (_hl : len < 1000) :
  Calls Tryz.prog 70 #[.pointer (some ⟨b, 0, none⟩)] w fun e w' => e = .returned (.pointer (some ⟨kb, 0, none⟩)) ∧ w' = w := by
 go_enter Tryz.func70, Tryz.ntmps70
 go_wp2_with fail
 go_ret
 exact ⟨rfl, rfl⟩

end Go.Proofs.YtpalkdcgbbbmeaaGreatDoor
