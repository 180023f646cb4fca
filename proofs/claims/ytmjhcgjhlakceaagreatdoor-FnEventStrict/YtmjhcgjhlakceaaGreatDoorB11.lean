/-
  Several texts in one, in their order.
-/
import Derived.Test.YtmjhcgjhlakceaaGreatDoorB1
import Derived.Laws.IdiomStrings
import Derived.Deep.RegionLaw
import Derived.Handy
import Derived.Test.YtmjhcgjhlakceaaGreatDoorB5

namespace Go.Proofs.YtmjhcgjhlakceaaGreatDoor
open Go.RowKit
theorem mlt {w : World} {b o : Nat} {v : Value} (h : w.cell? ⟨b, o, none⟩ = some v) : b < w.heap.size :=
 Classical.byContradiction fun hge => by
  have : w.heap[b]? = none := Array.getElem?_eq_none (by omega)
  simp [World.cell?, this] at h
def decF : Nat -> Nat -> List UInt8
 | 0, _ => []
 | f + 1, n => if n = 0 then [] else decF f (n / 10) ++ [UInt8.ofNat (48 + n % 10)]
def decM (n : Nat) : List UInt8 := decF n n
def mt (k : Int) : ByteArray := bs (109 :: decM k.toNat)
structure Spot where
 b : Nat
 o : Nat
 tx : Bool
def Spot.at (s : Spot) : Addr := ⟨s.b, s.o, none⟩
def Spot.val (s : Spot) (k : Int) : Value := if s.tx then .string (mt k) else .int .i64 k
def writeAll : World -> List Spot -> Int -> World
 | w, [], _ => w
 | w, s :: r, k => writeAll (w.setCell s.at (s.val k)) r (k + 1)
theorem writeAll_app (L M : List Spot) : ∀ (w : World) (k : Int), writeAll w (L ++ M) k = writeAll (writeAll w L k) M (k + L.length) := by
 induction L with
 | nil => intro w k; simp [writeAll]
 | cons a r ih =>
  intro w k
  simp only [List.cons_append, writeAll, ih, List.length_cons]
  rw [show k + 1 + (r.length : Int) = k + ((r.length + 1 : Nat) : Int) by omega]
theorem setCell_congr {w w' : World} {b : Nat} (h : w.heap[b]? = w'.heap[b]?) (p : Addr) (v : Value) : (w.setCell p v).heap[b]? = (w'.setCell p v).heap[b]? := by
 by_cases hp : b = p.block
 ·subst hp; simp [World.setCell, Array.getElem?_modify, h]
 ·rw [Below.heap_setCell _ _ _ _ hp, Below.heap_setCell _ _ _ _ hp]; exact h
theorem writeAll_congr (L : List Spot) : ∀ {w w' : World} {b : Nat} (_ : w.heap[b]? = w'.heap[b]?) (k : Int), (writeAll w L k).heap[b]? = (writeAll w' L k).heap[b]? := by
 induction L with
 | nil => intro w w' b h k; exact h
 | cons s r ih => intro w w' b h k; exact ih (setCell_congr h _ _) _
structure Wrote (L : List Spot) (k : Int) (w w' : World) : Prop where
 os : w'.os = w.os
 tape : w'.tape = w.tape
 output : w'.output = w.output
 size : w.heap.size <= w'.heap.size
 block : ∀ b : Nat, b < w.heap.size -> w'.heap[b]? = (writeAll w L k).heap[b]?
theorem Wrote.refl (k : Int) (w : World) : Wrote [] k w w := ⟨rfl, rfl, rfl, Nat.le_refl _, fun _ _ => rfl⟩
theorem Wrote.below {L : List Spot} {k : Int} {w w1 w2 : World} (h : Wrote L k w w1) (hb : Below w1.heap.size w1 w2) : Wrote L k w w2 :=
 ⟨hb.os.trans h.os, hb.tape.trans h.tape, hb.output.trans h.output, Nat.le_trans h.size hb.size, fun b hb' => (hb.block b (Nat.lt_of_lt_of_le hb' h.size)).trans (h.block b hb')⟩
theorem Wrote.trans {L M : List Spot} {k : Int} {w w1 w2 : World} (h : Wrote L k w w1) (h2 : Wrote M (k + L.length) w1 w2) : Wrote (L ++ M) k w w2 :=
 ⟨h2.os.trans h.os, h2.tape.trans h.tape, h2.output.trans h.output, Nat.le_trans h.size h2.size, fun b hb => by
  rw [h2.block b (Nat.lt_of_lt_of_le hb h.size), writeAll_app]; exact writeAll_congr M (h.block b hb) _⟩
structure Sim (w w' : World) : Prop where
 int : ∀ b o x, w.cell? ⟨b, o, none⟩ = some (.int .i64 x) -> ∃ y, w'.cell? ⟨b, o, none⟩ = some (.int .i64 y)
 str : ∀ b o x, w.cell? ⟨b, o, none⟩ = some (.string x) -> ∃ y, w'.cell? ⟨b, o, none⟩ = some (.string y)
 sl : ∀ b o a l c, w.cell? ⟨b, o, none⟩ = some (.slice a l c) -> w'.cell? ⟨b, o, none⟩ = some (.slice a l c)
 fz : ∀ b o, b < w.heap.size -> w'.frozen? ⟨b, o, none⟩ = w.frozen? ⟨b, o, none⟩
 size : w.heap.size <= w'.heap.size
theorem Sim.refl (w : World) : Sim w w := ⟨fun _ _ x h => ⟨x, h⟩, fun _ _ x h => ⟨x, h⟩, fun _ _ _ _ _ h => h, fun _ _ _ => rfl, Nat.le_refl _⟩
theorem Sim.trans {a b c : World} (h : Sim a b) (k : Sim b c) : Sim a c := by
 refine ⟨fun b o x hx => ?_, fun b o x hx => ?_, fun b o _ _ _ hx => k.sl _ _ _ _ _ (h.sl _ _ _ _ _ hx), fun b o hb => ?_, Nat.le_trans h.size k.size⟩
 ·obtain ⟨y, hy⟩ := h.int b o x hx; exact k.int b o y hy
 ·obtain ⟨y, hy⟩ := h.str b o x hx; exact k.str b o y hy
 ·rw [k.fz b o (Nat.lt_of_lt_of_le hb h.size), h.fz b o hb]
theorem Sim.below {a b c : World} (h : Sim a b) (hb : Below b.heap.size b c) : Sim a c := by
 refine h.trans ⟨fun b' o x hx => ?_, fun b' o x hx => ?_, fun b' o _ _ _ hx => ?_, fun b' o hb' => hb.frozen (p := ⟨b', o, none⟩) hb', hb.size⟩
 ·exact ⟨x, (hb.cell (p := ⟨b', o, none⟩) (mlt hx)).trans hx⟩
 ·exact ⟨x, (hb.cell (p := ⟨b', o, none⟩) (mlt hx)).trans hx⟩
 ·exact (hb.cell (p := ⟨b', o, none⟩) (mlt hx)).trans hx
def Spot.ok (s : Spot) (w : World) : Prop := (if s.tx then ∃ x, w.cell? s.at = some (.string x) else ∃ x, w.cell? s.at = some (.int .i64 x)) /\ w.frozen? s.at = false
theorem Spot.ok_lt {s : Spot} {w : World} (h : s.ok w) : s.b < w.heap.size := by
 obtain ⟨h, -⟩ := h
 cases ht : s.tx with
 | true => rw [ht] at h; obtain ⟨x, hx⟩ := h; exact mlt (o := s.o) hx
 | false => rw [ht] at h; obtain ⟨x, hx⟩ := h; exact mlt (o := s.o) hx
theorem Spot.ok_sim {s : Spot} {w w' : World} (h : s.ok w) (hs : Sim w w') : s.ok w' := by
 have hlt := Spot.ok_lt h
 obtain ⟨h1, h2⟩ := h
 refine ⟨?_, (hs.fz s.b s.o hlt).trans h2⟩
 cases ht : s.tx with
 | true =>
  rw [ht] at h1
  obtain ⟨x, hx⟩ := h1
  exact hs.str s.b s.o x hx
 | false =>
  rw [ht] at h1
  obtain ⟨x, hx⟩ := h1
  exact hs.int s.b s.o x hx
theorem sim_set {w : World} {s : Spot} (h : s.ok w) (k : Int) : Sim w (w.setCell s.at (s.val k)) := by
 obtain ⟨h1, -⟩ := h
 have other : ∀ b o v, s.at ≠ ⟨b, o, none⟩ -> w.cell? ⟨b, o, none⟩ = some v -> (w.setCell s.at (s.val k)).cell? ⟨b, o, none⟩ = some v := fun b o v he hv => (World.cell?_setCell_other _ _ _ _ he).trans hv
 cases ht : s.tx with
 | true =>
  rw [ht] at h1
  obtain ⟨u, hu⟩ := h1
  have hv : s.val k = .string (mt k) := by simp [Spot.val, ht]
  refine ⟨fun b o x hx => ?_, fun b o x hx => ?_, fun b o _ _ _ hx => ?_, fun b o _ => World.frozen?_setCell _ _ _ _, by simp⟩
  ·exact ⟨x, other b o _ (fun e => by rw [<- e, hu] at hx; cases hx) hx⟩
  ·by_cases e : s.at = ⟨b, o, none⟩
   ·rw [<- e] at hx ⊢
    exact ⟨_, (World.cell?_setCell_same _ _ _ hx).trans (by rw [hv])⟩
   ·exact ⟨x, other b o _ e hx⟩
  ·exact other b o _ (fun e => by rw [<- e, hu] at hx; cases hx) hx
 | false =>
  rw [ht] at h1
  obtain ⟨u, hu⟩ := h1
  have hv : s.val k = .int .i64 k := by simp [Spot.val, ht]
  refine ⟨fun b o x hx => ?_, fun b o x hx => ?_, fun b o _ _ _ hx => ?_, fun b o _ => World.frozen?_setCell _ _ _ _, by simp⟩
  ·by_cases e : s.at = ⟨b, o, none⟩
   ·rw [<- e] at hx ⊢
    exact ⟨_, (World.cell?_setCell_same _ _ _ hx).trans (by rw [hv])⟩
   ·exact ⟨x, other b o _ e hx⟩
  ·exact ⟨x, other b o _ (fun e => by rw [<- e, hu] at hx; cases hx) hx⟩
  ·exact other b o _ (fun e => by rw [<- e, hu] at hx; cases hx) hx
theorem sim_writeAll : ∀ (L : List Spot) {w : World} (_ : ∀ s, s ∈ L -> s.ok w) (k : Int), Sim w (writeAll w L k) := by
 intro L
 induction L with
 | nil => intro w _ k; exact Sim.refl w
 | cons s r ih =>
  intro w h k
  have h1 := sim_set (h s (List.mem_cons_self ..)) k
  exact h1.trans (ih (fun x hx => Spot.ok_sim (h x (List.mem_cons_of_mem _ hx)) h1) (k + 1))
theorem Wrote.sim {L : List Spot} {k : Int} {w w' : World} (h : Wrote L k w w') (hL : ∀ s, s ∈ L -> s.ok w) : Sim w w' := by
 have hs := sim_writeAll L hL k
 have hc : ∀ b o, b < w.heap.size -> w'.cell? ⟨b, o, none⟩ = (writeAll w L k).cell? ⟨b, o, none⟩ := fun b o hb => World.cell?_of_block (w := writeAll w L k) (w' := w') (a := ⟨b, o, none⟩) (h.block b hb)
 have hf : ∀ b o, b < w.heap.size -> w'.frozen? ⟨b, o, none⟩ = (writeAll w L k).frozen? ⟨b, o, none⟩ := fun b o hb => by simp only [World.frozen?, h.block b hb]
 refine ⟨fun b o x hx => ?_, fun b o x hx => ?_, fun b o _ _ _ hx => ?_, fun b o hb => (hf b o hb).trans (hs.fz b o hb), h.size⟩
 ·rw [hc b o (mlt hx)]; exact hs.int b o x hx
 ·rw [hc b o (mlt hx)]; exact hs.str b o x hx
 ·rw [hc b o (mlt hx)]; exact hs.sl b o _ _ _ hx
def Holds (w : World) : List Spot -> Int -> Prop
 | [], _ => True
 | s :: r, k => w.cell? s.at = some (s.val k) /\ Holds w r (k + 1)
theorem Holds.keep {w w' : World} : ∀ {L : List Spot} {k : Int}, Holds w L k -> (∀ s, s ∈ L -> w'.cell? s.at = w.cell? s.at) -> Holds w' L k := by
 intro L
 induction L with
 | nil => intro k _ _; trivial
 | cons s r ih => intro k h hs; exact ⟨(hs s (List.mem_cons_self ..)).trans h.1, ih h.2 (fun x hx => hs x (List.mem_cons_of_mem _ hx))⟩
end Go.Proofs.YtmjhcgjhlakceaaGreatDoor

namespace Go.Proofs.YtmjhcgjhlakceaaGreatDoor
open Go.RowKit
def SpN (w : World) (v : Value) (L : List Spot) : Prop :=
 ∃ (ao : Option Addr) (cap : Nat), v = .slice ao L.length cap /\ L.length <= maxLen /\ (∀ i (h : i < L.length), ∃ b off, ao = some ⟨b, off, none⟩ /\ L[i] = ⟨b, off + i, true⟩) /\ ∀ s, s ∈ L -> s.ok w
theorem SpN.sim {w w' : World} {v : Value} {L : List Spot} (h : SpN w v L) (hs : Sim w w') : SpN w' v L := by
 obtain ⟨ao, cap, hv, hl, ha, hk⟩ := h
 exact ⟨ao, cap, hv, hl, ha, fun s hsL => Spot.ok_sim (hk s hsL) hs⟩
theorem SpN.ok {w : World} {v : Value} {L : List Spot} (h : SpN w v L) : ∀ s, s ∈ L -> s.ok w := by
 obtain ⟨-, -, -, -, -, hk⟩ := h
 exact hk
end Go.Proofs.YtmjhcgjhlakceaaGreatDoor

namespace Go.Proofs.YtmjhcgjhlakceaaGreatDoor
open Go.RowKit
theorem SpN.slice {w : World} {v : Value} {L : List Spot} (h : SpN w v L) : ∃ a l c, v = .slice a l c := by
 obtain ⟨ao, cap, hv, -⟩ := h; exact ⟨_, _, _, hv⟩
theorem SpN.below {w w' : World} {v : Value} {L : List Spot} (h : SpN w v L) (hb : Below w.heap.size w w') : SpN w' v L := h.sim ((Sim.refl w).below hb)
theorem Holds.below {w w' : World} {L : List Spot} {k : Int} (h : Holds w L k) (hL : ∀ s, s ∈ L -> s.ok w) (hb : Below w.heap.size w w') : Holds w' L k :=
 h.keep (fun s hs => hb.cell (p := s.at) (Spot.ok_lt (hL s hs)))
end Go.Proofs.YtmjhcgjhlakceaaGreatDoor

namespace Go.Proofs.YtmjhcgjhlakceaaGreatDoor
open Go.RowKit
def sp5 (b o : Nat) : List Spot := [⟨b, o, false⟩, ⟨b, o + 1, false⟩, ⟨b, o + 2, true⟩]
def SpR (w : World) : Nat -> Value -> List Spot -> Prop
 | 0, v, L => ∃ ao cap, v = .slice ao 0 cap /\ L = []
 | n + 1, v, L => ∃ (ao : Option Addr) (cap : Nat) (Ls : List (List Spot)), v = .slice ao Ls.length cap /\ Ls.length <= maxLen /\ L = Ls.flatten /\
   ∀ i (h : i < Ls.length), ∃ b off c3 c4 L3 L4, ao = some ⟨b, off, none⟩ /\ Ls[i] = sp5 b (off + i * 5) ++ (L3 ++ L4) /\ (∀ s, s ∈ sp5 b (off + i * 5) -> s.ok w) /\
    w.cell? ⟨b, off + i * 5 + 3, none⟩ = some c3 /\ w.cell? ⟨b, off + i * 5 + 4, none⟩ = some c4 /\ SpN w c3 L3 /\ SpR w n c4 L4
theorem SpR.slice {w : World} : ∀ {n : Nat} {v : Value} {L : List Spot}, SpR w n v L -> ∃ a l c, v = .slice a l c := by
 intro n
 cases n with
 | zero => rintro v L ⟨ao, cap, hv, -⟩; exact ⟨_, _, _, hv⟩
 | succ n => rintro v L ⟨ao, cap, Ls, hv, -⟩; exact ⟨_, _, _, hv⟩
theorem SpR.sim {w w' : World} (hs : Sim w w') : ∀ {n : Nat} {v : Value} {L : List Spot}, SpR w n v L -> SpR w' n v L := by
 intro n
 induction n with
 | zero => intro v L h; exact h
 | succ n ih =>
  rintro v L ⟨ao, cap, Ls, hv, hl, hL, hi⟩
  refine ⟨ao, cap, Ls, hv, hl, hL, fun i h => ?_⟩
  obtain ⟨b, off, c3, c4, L3, L4, ha, hLi, hok, h3, h4, hn, hr⟩ := hi i h
  refine ⟨b, off, c3, c4, L3, L4, ha, hLi, fun s hs' => Spot.ok_sim (hok s hs') hs, ?_, ?_, hn.sim hs, ih hr⟩
  ·obtain ⟨a, l, c, rfl⟩ := hn.slice; exact hs.sl _ _ _ _ _ h3
  ·obtain ⟨a, l, c, rfl⟩ := hr.slice; exact hs.sl _ _ _ _ _ h4
theorem SpR.ok {w : World} : ∀ {n : Nat} {v : Value} {L : List Spot}, SpR w n v L -> ∀ s, s ∈ L -> s.ok w := by
 intro n
 induction n with
 | zero => rintro v L ⟨ao, cap, hv, rfl⟩ s hs; cases hs
 | succ n ih =>
  rintro v L ⟨ao, cap, Ls, hv, hl, rfl, hi⟩ s hs
  obtain ⟨Li, hLi, hsLi⟩ := List.mem_flatten.1 hs
  obtain ⟨i, h, rfl⟩ := List.getElem_of_mem hLi
  obtain ⟨b, off, c3, c4, L3, L4, ha, hLi, hok, h3, h4, hn, hr⟩ := hi i h
  rw [hLi] at hsLi
  rcases List.mem_append.1 hsLi with h1 | h1
  ·exact hok s h1
  ·rcases List.mem_append.1 h1 with h2 | h2
   ·exact hn.ok s h2
   ·exact ih hr s h2
theorem SpR.below {w w' : World} {n : Nat} {v : Value} {L : List Spot} (h : SpR w n v L) (hb : Below w.heap.size w w') : SpR w' n v L := h.sim ((Sim.refl w).below hb)
end Go.Proofs.YtmjhcgjhlakceaaGreatDoor

namespace Go.Proofs.YtmjhcgjhlakceaaGreatDoor
open Go.RowKit
def Own (P : Nat -> Prop) (L : List Spot) : Prop := (∀ s, s ∈ L -> P s.b) /\ L.Pairwise (fun a b => a.at ≠ b.at)
theorem Own.nil (P : Nat -> Prop) : Own P [] := ⟨fun _ h => (by cases h), List.Pairwise.nil⟩
theorem Own.mono {P Q : Nat -> Prop} {L : List Spot} (h : Own P L) (hq : ∀ b, P b -> Q b) : Own Q L := ⟨fun s hs => hq _ (h.1 s hs), h.2⟩
theorem at_ne {a b : Spot} (h : a.b ≠ b.b) : a.at ≠ b.at := fun e => h (by simpa [Spot.at] using congrArg Addr.block e)
theorem Own.app {P Q R : Nat -> Prop} {L M : List Spot} (h : Own P L) (k : Own Q M) (hp : ∀ b, P b -> R b) (hq : ∀ b, Q b -> R b) (hd : ∀ b, P b -> Q b -> False) : Own R (L ++ M) := by
 refine ⟨fun s hs => ?_, List.pairwise_append.2 ⟨h.2, k.2, fun a ha b hb => at_ne fun e => hd a.b (h.1 a ha) (by rw [e]; exact k.1 b hb)⟩⟩
 rcases List.mem_append.1 hs with h1 | h1
 ·exact hp _ (h.1 s h1)
 ·exact hq _ (k.1 s h1)
theorem Spot.ok_same {s : Spot} {w w' : World} (h : s.ok w) (hb : w'.heap[s.b]? = w.heap[s.b]?) : s.ok w' := by
 have e1 : w'.cell? s.at = w.cell? s.at := World.cell?_of_block (w := w) (w' := w') (a := s.at) hb
 have e2 : w'.frozen? s.at = w.frozen? s.at := by
  have : w'.heap[s.at.block]? = w.heap[s.at.block]? := hb
  simp only [World.frozen?, this]
 unfold Spot.ok
 rw [e1, e2]; exact h
theorem SpN.same {w w' : World} {v : Value} {L : List Spot} (h : SpN w v L) (hb : ∀ s, s ∈ L -> w'.heap[s.b]? = w.heap[s.b]?) : SpN w' v L := by
 obtain ⟨ao, cap, hv, hl, ha, hk⟩ := h
 exact ⟨ao, cap, hv, hl, ha, fun s hs => Spot.ok_same (hk s hs) (hb s hs)⟩
theorem SpN.no (w : World) : SpN w (.slice none 0 0) [] := ⟨none, 0, rfl, by simp [maxLen], fun i h => absurd h (Nat.not_lt_zero _), fun _ h => (by cases h)⟩
theorem spn_of_owns {w : World} {M : Nat} {e : TypeId} {v : Value} {l : List ByteArray} (h : w.ownsRow M e 1 v l.length (l.map .string)) (hl : l.length <= 20000) : ∃ L, SpN w v L /\ L.length = l.length /\ Own (fun b => v.ownBlock = some b) L := by
 rcases id h.2 with ⟨rfl, h0⟩ | ⟨g, cap, cur, rfl, hbg, hg, hnc, hcm, hcs, htake⟩
 ·exact ⟨[], SpN.no w, by rw [h0]; rfl, Own.nil _⟩
 ·refine ⟨(List.range l.length).map (fun i => (⟨g, 0 + i, true⟩ : Spot)), ⟨_, cap, by rw [List.length_map, List.length_range], by simp [maxLen]; omega, fun i hi => ⟨g, 0, rfl, by simp⟩, fun s hs => ?_⟩, by simp, fun s hs => ?_, ?_⟩
  ·obtain ⟨i, hi, rfl⟩ := List.mem_map.1 hs
   have hi' := List.mem_range.1 hi
   have := h.cells (g := g) rfl i (.string l[i]) (by simp [hi'])
   rw [Addr.add_lit] at this
   exact ⟨⟨l[i], this⟩, by simp [World.frozen?, Spot.at, hg]⟩
  ·obtain ⟨i, hi, rfl⟩ := List.mem_map.1 hs
   rfl
  ·refine List.pairwise_map.2 (List.Pairwise.imp (fun {a b} hab e => ?_) List.pairwise_lt_range)
   have : 0 + a = 0 + b := by simpa [Spot.at] using congrArg Addr.off e
   omega
end Go.Proofs.YtmjhcgjhlakceaaGreatDoor

namespace Go.Proofs.YtmjhcgjhlakceaaGreatDoor
open Go.RowKit
def spL : (n : Nat) -> T n -> Nat
 | 0, _ => 0
 | n + 1, t => (Nd.names t).length + sumL (fun k => 3 + spL n k) (Nd.kids t)
theorem SpR.same {w w' : World} : ∀ {n : Nat} {v : Value} {L : List Spot}, SpR w n v L -> (∀ s, s ∈ L -> w'.heap[s.b]? = w.heap[s.b]?) -> SpR w' n v L := by
 intro n
 induction n with
 | zero => intro v L h _; exact h
 | succ n ih =>
  rintro v L ⟨ao, cap, Ls, hv, hl, rfl, hi⟩ hb
  refine ⟨ao, cap, Ls, hv, hl, rfl, fun i h => ?_⟩
  obtain ⟨b, off, c3, c4, L3, L4, ha, hLi, hok, h3, h4, hn, hr⟩ := hi i h
  have hm : ∀ s, s ∈ Ls[i] -> w'.heap[s.b]? = w.heap[s.b]? := fun s hs => hb s (List.mem_flatten.2 ⟨_, List.getElem_mem h, hs⟩)
  rw [hLi] at hm
  have hbb : w'.heap[b]? = w.heap[b]? := hm ⟨b, off + i * 5, false⟩ (by simp [sp5])
  refine ⟨b, off, c3, c4, L3, L4, ha, hLi, fun s hs => Spot.ok_same (hok s hs) (hm s (by simp [hs])), ?_, ?_, hn.same (fun s hs => hm s (by simp [hs])), ih hr (fun s hs => hm s (by simp [hs]))⟩
  ·exact (World.cell?_of_block (w := w) (w' := w') (a := ⟨b, off + i * 5 + 3, none⟩) hbb).trans h3
  ·exact (World.cell?_of_block (w := w) (w' := w') (a := ⟨b, off + i * 5 + 4, none⟩) hbb).trans h4
theorem SpR.no (w : World) (n : Nat) : SpR w n (.slice none 0 0) [] := by
 cases n with
 | zero => exact ⟨none, 0, rfl, rfl⟩
 | succ n => exact ⟨none, 0, [], rfl, by simp [maxLen], rfl, fun i h => absurd h (Nat.not_lt_zero _)⟩
def KidsOwn (P : Nat -> Prop) (w : World) (n : Nat) (ks : List (T n)) (xs : List Value) (Ps : List (List Spot)) : Prop :=
 Own P Ps.flatten /\ ∀ j (h : j < ks.length) (hp : j < Ps.length), ∃ c0 c1 c2 c3 c4 L3 L4, (xs[j * 5]? = some c0 /\ xs[j * 5 + 1]? = some c1 /\ xs[j * 5 + 2]? = some c2 /\ xs[j * 5 + 3]? = some c3 /\ xs[j * 5 + 4]? = some c4) /\ Ps[j] = L3 ++ L4 /\
  TreeIn P w n ks[j] c0 c1 c2 c3 c4 /\ SpN w c3 L3 /\ SpR w (n - 1) c4 L4
theorem spr_of_owns {n : Nat} {w : World} {M : Nat} {e : TypeId} {v : Value} {l : List (T n)} {xs : List Value} {Ps : List (List Spot)} {P : Nat -> Prop} (h : w.ownsRow M e 5 v l.length xs) (hl : l.length <= 20000) (hlp : Ps.length = l.length) (hk : KidsOwn P w n l xs Ps) (hP : ∀ b, P b -> v.ownBlock ≠ some b) :
  ∃ L, SpR w n v L /\ Own (fun b => P b ∨ v.ownBlock = some b) L /\ L.length = 3 * l.length + Ps.flatten.length := by
 rcases id h.2 with ⟨rfl, h0⟩ | ⟨g, cap, cur, rfl, hbg, hg, hnc, hcm, hcs, htake⟩
 ·have : Ps = [] := List.eq_nil_of_length_eq_zero (by omega)
  subst this
  exact ⟨[], SpR.no w n, Own.nil _, by simp [h0]⟩
 ·have hnz : ∀ (i : Nat), i < l.length -> n ≠ 0 := by
   intro i hi hn
   subst hn
   obtain ⟨c0, c1, c2, c3, c4, L3, L4, -, -, ht, -⟩ := hk.2 i hi (by omega)
   exact ht.elim
  have hfin : ∀ i (hi : i < l.length), ((List.range l.length).map (fun i => sp5 g (0 + i * 5) ++ Ps.getD i []))[i]'(by simpa using hi) = sp5 g (0 + i * 5) ++ Ps[i]'(by omega) := by
   intro i hi
   have : i < Ps.length := by omega
   simp [List.getD, this]
  have hown : Own (fun b => P b ∨ (Value.slice (some ⟨g, 0, none⟩) l.length cap).ownBlock = some b) ((List.range l.length).map (fun i => sp5 g (0 + i * 5) ++ Ps.getD i [])).flatten := by
   have hpp := List.pairwise_flatten.1 hk.1.2
   have hin : ∀ i s, s ∈ Ps.getD i [] -> P s.b := fun i s hs => by
    by_cases hi : i < Ps.length
    ·rw [List.getD_eq_getElem?_getD, List.getElem?_eq_getElem hi, Option.getD_some] at hs
     exact hk.1.1 s (List.mem_flatten.2 ⟨_, List.getElem_mem hi, hs⟩)
    ·rw [List.getD_eq_getElem?_getD, List.getElem?_eq_none (by omega)] at hs; cases hs
   have h5 : ∀ o (s : Spot), s ∈ sp5 g o -> s.b = g /\ o <= s.o /\ s.o <= o + 2 := fun o s hs => by
    simp only [sp5, List.mem_cons, List.not_mem_nil, or_false] at hs
    rcases hs with rfl | rfl | rfl <;> exact ⟨rfl, by simp, by simp⟩
   have hne : ∀ (s : Spot), P s.b -> s.b ≠ g := fun s hs e => hP g (by rw [<- e]; exact hs) rfl
   refine ⟨fun s hs => ?_, List.pairwise_flatten.2 ⟨fun x hx => ?_, ?_⟩⟩
   ·obtain ⟨x, hx, hsx⟩ := List.mem_flatten.1 hs
    obtain ⟨i, hi, rfl⟩ := List.mem_map.1 hx
    rcases List.mem_append.1 hsx with h1 | h1
    ·right; rw [(h5 _ s h1).1]; rfl
    ·left; exact hin i s h1
   ·obtain ⟨i, hi, rfl⟩ := List.mem_map.1 hx
    refine List.pairwise_append.2 ⟨?_, ?_, fun a ha b hb => at_ne fun e => hne b (hin i b hb) (by rw [<- e, (h5 _ a ha).1])⟩
    ·simp [sp5, Spot.at]
    ·by_cases hi : i < Ps.length
     ·rw [List.getD_eq_getElem?_getD, List.getElem?_eq_getElem hi, Option.getD_some]
      exact hpp.1 _ (List.getElem_mem hi)
     ·rw [List.getD_eq_getElem?_getD, List.getElem?_eq_none (by omega)]; exact List.Pairwise.nil
   ·refine List.pairwise_map.2 (List.Pairwise.imp (fun {i j} hij a ha b hb => ?_) List.pairwise_lt_range)
    rcases List.mem_append.1 ha with h1 | h1
    ·rcases List.mem_append.1 hb with h2 | h2
     ·intro e
      have e' : a.o = b.o := by simpa [Spot.at] using congrArg Addr.off e
      have q1 := (h5 _ a h1).2.2
      have q2 := (h5 _ b h2).2.1
      omega
     ·exact at_ne fun e => hne b (hin j b h2) (by rw [<- e, (h5 _ a h1).1])
    ·rcases List.mem_append.1 hb with h2 | h2
     ·exact at_ne fun e => hne a (hin i a h1) (by rw [e, (h5 _ b h2).1])
     ·by_cases hj : j < Ps.length
      ·rw [List.getD_eq_getElem?_getD, List.getElem?_eq_getElem hj, Option.getD_some] at h2
       rw [List.getD_eq_getElem?_getD, List.getElem?_eq_getElem (by omega : i < Ps.length), Option.getD_some] at h1
       exact (List.pairwise_iff_getElem.1 hpp.2) i j (by omega) hj hij a h1 b h2
      ·rw [List.getD_eq_getElem?_getD, List.getElem?_eq_none (by omega)] at h2; cases h2
  have hlen : ((List.range l.length).map (fun i => sp5 g (0 + i * 5) ++ Ps.getD i [])).flatten.length = 3 * l.length + Ps.flatten.length := by
   have e : Ps = (List.range l.length).map (fun i => Ps.getD i []) := by
    refine List.ext_getElem (by simp [hlp]) fun i h1 h2 => ?_
    simp [List.getD, h1]
   conv => rhs; rw [e]
   generalize l.length = m
   induction m with
   | zero => rfl
   | succ m ih =>
    rw [List.range_succ, List.map_append, List.flatten_append, List.length_append, ih, List.map_append, List.flatten_append, List.length_append]
    simp [sp5]; omega
  refine ⟨_, ?_, hown, hlen⟩
  cases n with
  | zero =>
   have h0 : l.length = 0 := Nat.eq_zero_of_not_pos fun hpos => hnz 0 hpos rfl
   exact ⟨some ⟨g, 0, none⟩, cap, by rw [h0], by rw [h0]; rfl⟩
  | succ m =>
   refine ⟨some ⟨g, 0, none⟩, cap, _, by rw [List.length_map, List.length_range], by simp [maxLen]; omega, rfl, fun i hi => ?_⟩
   have hi' : i < l.length := by simpa using hi
   obtain ⟨c0, c1, c2, c3, c4, L3, L4, ⟨e0, e1, e2, e3, e4⟩, hPi, ht, h3, h4⟩ := hk.2 i hi' (by omega)
   have hc : ∀ j u, xs[j]? = some u -> w.cell? ⟨g, 0 + j, none⟩ = some u := fun j u hu => by
    have := h.cells (g := g) rfl j u hu
    rwa [Addr.add_lit] at this
   obtain ⟨rfl, rfl, rfl, -⟩ := ht
   refine ⟨g, 0, c3, c4, L3, L4, rfl, by rw [hfin i hi', hPi], fun s hs => ?_, hc _ _ e3, hc _ _ e4, h3, h4⟩
   have hf : ∀ o, w.frozen? ⟨g, o, none⟩ = false := fun o => by simp [World.frozen?, hg]
   simp only [sp5, List.mem_cons, List.not_mem_nil, or_false] at hs
   rcases hs with rfl | rfl | rfl
   ·exact ⟨⟨_, hc _ _ e0⟩, hf _⟩
   ·exact ⟨⟨_, hc _ _ e1⟩, hf _⟩
   ·exact ⟨⟨_, hc _ _ e2⟩, hf _⟩
end Go.Proofs.YtmjhcgjhlakceaaGreatDoor
