/-
  Several texts in one, in their order.
-/
import Derived.Test.YtlinplghgamgbaaGreatDoorB1
import Derived.Laws.IdiomStrings

/-
  Marks: spots of memory that are written one after the other; the text of a mark.
-/
namespace Go.Proofs.YtlinplghgamgbaaGreatDoor
open Go.RowKit

theorem mlt {w : World} {b o : Nat} {v : Value} (h : w.cell? ⟨b, o, none⟩ = some v) : b < w.heap.size :=
  Classical.byContradiction fun hge => by
    have : w.heap[b]? = none := Array.getElem?_eq_none (by omega)
    simp [World.cell?, this] at h

/-- The digits of a number, at most f of them. -/
def decF : Nat → Nat → List UInt8
  | 0, _ => []
  | f + 1, n => if n = 0 then [] else decF f (n / 10) ++ [UInt8.ofNat (48 + n % 10)]

/-- The digits of a number. -/
def decM (n : Nat) : List UInt8 := decF n n

/-- The text of a mark. -/
def mt (k : Int) : ByteArray := bs (109 :: decM k.toNat)

/-- A spot: a cell that holds a number, or a text. -/
structure Spot where
  b : Nat
  o : Nat
  tx : Bool

def Spot.at (s : Spot) : Addr := ⟨s.b, s.o, none⟩

/-- What is written there. -/
def Spot.val (s : Spot) (k : Int) : Value := if s.tx then .string (mt k) else .int .i64 k

/-- All spots written, one behind the other. -/
def writeAll : World → List Spot → Int → World
  | w, [], _ => w
  | w, s :: r, k => writeAll (w.setCell s.at (s.val k)) r (k + 1)

theorem writeAll_snoc (L : List Spot) (s : Spot) : ∀ (w : World) (k : Int), writeAll w (L ++ [s]) k = (writeAll w L k).setCell s.at (s.val (k + L.length)) := by
  induction L with
  | nil => intro w k; simp [writeAll]
  | cons a r ih =>
    intro w k
    simp only [List.cons_append, writeAll, ih, List.length_cons]
    rw [show k + 1 + (r.length : Int) = k + ((r.length + 1 : Nat) : Int) by omega]

theorem writeAll_app (L M : List Spot) : ∀ (w : World) (k : Int), writeAll w (L ++ M) k = writeAll (writeAll w L k) M (k + L.length) := by
  induction L with
  | nil => intro w k; simp [writeAll]
  | cons a r ih =>
    intro w k
    simp only [List.cons_append, writeAll, ih, List.length_cons]
    rw [show k + 1 + (r.length : Int) = k + ((r.length + 1 : Nat) : Int) by omega]

theorem setCell_congr {w w' : World} {b : Nat} (h : w.heap[b]? = w'.heap[b]?) (p : Addr) (v : Value) : (w.setCell p v).heap[b]? = (w'.setCell p v).heap[b]? := by
  by_cases hp : b = p.block
  · subst hp; simp [World.setCell, Array.getElem?_modify, h]
  · rw [Below.heap_setCell _ _ _ _ hp, Below.heap_setCell _ _ _ _ hp]; exact h

theorem writeAll_congr (L : List Spot) : ∀ {w w' : World} {b : Nat} (_ : w.heap[b]? = w'.heap[b]?) (k : Int), (writeAll w L k).heap[b]? = (writeAll w' L k).heap[b]? := by
  induction L with
  | nil => intro w w' b h k; exact h
  | cons s r ih => intro w w' b h k; exact ih (setCell_congr h _ _) _

/-- The world behind marks: in the old blocks just the spots are written. -/
structure Wrote (L : List Spot) (k : Int) (w w' : World) : Prop where
  os : w'.os = w.os
  tape : w'.tape = w.tape
  output : w'.output = w.output
  size : w.heap.size ≤ w'.heap.size
  block : ∀ b : Nat, b < w.heap.size → w'.heap[b]? = (writeAll w L k).heap[b]?

theorem Wrote.refl (k : Int) (w : World) : Wrote [] k w w := ⟨rfl, rfl, rfl, Nat.le_refl _, fun _ _ => rfl⟩
theorem Wrote.below {L : List Spot} {k : Int} {w w1 w2 : World} (h : Wrote L k w w1) (hb : Below w1.heap.size w1 w2) : Wrote L k w w2 :=
  ⟨hb.os.trans h.os, hb.tape.trans h.tape, hb.output.trans h.output, Nat.le_trans h.size hb.size, fun b hb' => (hb.block b (Nat.lt_of_lt_of_le hb' h.size)).trans (h.block b hb')⟩
theorem Wrote.from_below {L : List Spot} {k : Int} {w w1 w2 : World} (hb : Below w.heap.size w w1) (h : Wrote L k w1 w2) : Wrote L k w w2 :=
  ⟨h.os.trans hb.os, h.tape.trans hb.tape, h.output.trans hb.output, Nat.le_trans hb.size h.size, fun b hb' => (h.block b (Nat.lt_of_lt_of_le hb' hb.size)).trans (writeAll_congr L (hb.block b hb') k)⟩
theorem Wrote.snoc {L : List Spot} {k : Int} {w w1 : World} (h : Wrote L k w w1) (s : Spot) : Wrote (L ++ [s]) k w (w1.setCell s.at (s.val (k + L.length))) :=
  ⟨h.os, h.tape, h.output, by simpa using h.size, fun b hb => by rw [writeAll_snoc]; exact setCell_congr (h.block b hb) _ _⟩
theorem Wrote.trans {L M : List Spot} {k : Int} {w w1 w2 : World} (h : Wrote L k w w1) (h2 : Wrote M (k + L.length) w1 w2) : Wrote (L ++ M) k w w2 :=
  ⟨h2.os.trans h.os, h2.tape.trans h.tape, h2.output.trans h.output, Nat.le_trans h.size h2.size, fun b hb => by
    rw [h2.block b (Nat.lt_of_lt_of_le hb h.size), writeAll_app]; exact writeAll_congr M (h.block b hb) _⟩

/-- Cells keep what they are: a number a number, a text a text, a slice itself. -/
structure Sim (w w' : World) : Prop where
  int : ∀ b o x, w.cell? ⟨b, o, none⟩ = some (.int .i64 x) → ∃ y, w'.cell? ⟨b, o, none⟩ = some (.int .i64 y)
  str : ∀ b o x, w.cell? ⟨b, o, none⟩ = some (.string x) → ∃ y, w'.cell? ⟨b, o, none⟩ = some (.string y)
  sl : ∀ b o a l c, w.cell? ⟨b, o, none⟩ = some (.slice a l c) → w'.cell? ⟨b, o, none⟩ = some (.slice a l c)
  fz : ∀ b o, b < w.heap.size → w'.frozen? ⟨b, o, none⟩ = w.frozen? ⟨b, o, none⟩
  size : w.heap.size ≤ w'.heap.size

theorem Sim.refl (w : World) : Sim w w := ⟨fun _ _ x h => ⟨x, h⟩, fun _ _ x h => ⟨x, h⟩, fun _ _ _ _ _ h => h, fun _ _ _ => rfl, Nat.le_refl _⟩

theorem Sim.trans {a b c : World} (h : Sim a b) (k : Sim b c) : Sim a c := by
  refine ⟨fun b o x hx => ?_, fun b o x hx => ?_, fun b o _ _ _ hx => k.sl _ _ _ _ _ (h.sl _ _ _ _ _ hx), fun b o hb => ?_, Nat.le_trans h.size k.size⟩
  · obtain ⟨y, hy⟩ := h.int b o x hx; exact k.int b o y hy
  · obtain ⟨y, hy⟩ := h.str b o x hx; exact k.str b o y hy
  · rw [k.fz b o (Nat.lt_of_lt_of_le hb h.size), h.fz b o hb]

theorem Sim.below {a b c : World} (h : Sim a b) (hb : Below b.heap.size b c) : Sim a c := by
  refine h.trans ⟨fun b' o x hx => ?_, fun b' o x hx => ?_, fun b' o _ _ _ hx => ?_, fun b' o hb' => hb.frozen (p := ⟨b', o, none⟩) hb', hb.size⟩
  · exact ⟨x, (hb.cell (p := ⟨b', o, none⟩) (mlt hx)).trans hx⟩
  · exact ⟨x, (hb.cell (p := ⟨b', o, none⟩) (mlt hx)).trans hx⟩
  · exact (hb.cell (p := ⟨b', o, none⟩) (mlt hx)).trans hx

/-- A spot's cell is of its kind. -/
def Spot.ok (s : Spot) (w : World) : Prop := (if s.tx then ∃ x, w.cell? s.at = some (.string x) else ∃ x, w.cell? s.at = some (.int .i64 x)) ∧ w.frozen? s.at = false

theorem Spot.ok_lt {s : Spot} {w : World} (h : s.ok w) : s.b < w.heap.size := by
  obtain ⟨h, -⟩ := h
  cases ht : s.tx with
  | true => rw [ht] at h; obtain ⟨x, hx⟩ := h; exact mlt (o := s.o) hx
  | false => rw [ht] at h; obtain ⟨x, hx⟩ := h; exact mlt (o := s.o) hx

theorem Spot.ok_sim {s : Spot} {w w' : World} (h : s.ok w) (hs : Sim w w') : s.ok w' := by
  have hlt := Spot.ok_lt h
  obtain ⟨h1, h2⟩ := h
  refine ⟨?_, (hs.fz s.b s.o hlt).trans h2⟩
  cases ht : s.tx with
  | true =>
    rw [ht] at h1
    obtain ⟨x, hx⟩ := h1
    exact hs.str s.b s.o x hx
  | false =>
    rw [ht] at h1
    obtain ⟨x, hx⟩ := h1
    exact hs.int s.b s.o x hx

theorem sim_set {w : World} {s : Spot} (h : s.ok w) (k : Int) : Sim w (w.setCell s.at (s.val k)) := by
  obtain ⟨h1, -⟩ := h
  have other : ∀ b o v, s.at ≠ ⟨b, o, none⟩ → w.cell? ⟨b, o, none⟩ = some v → (w.setCell s.at (s.val k)).cell? ⟨b, o, none⟩ = some v := fun b o v he hv => (World.cell?_setCell_other _ _ _ _ he).trans hv
  cases ht : s.tx with
  | true =>
    rw [ht] at h1
    obtain ⟨u, hu⟩ := h1
    have hv : s.val k = .string (mt k) := by simp [Spot.val, ht]
    refine ⟨fun b o x hx => ?_, fun b o x hx => ?_, fun b o _ _ _ hx => ?_, fun b o _ => World.frozen?_setCell _ _ _ _, by simp⟩
    · exact ⟨x, other b o _ (fun e => by rw [← e, hu] at hx; cases hx) hx⟩
    · by_cases e : s.at = ⟨b, o, none⟩
      · rw [← e] at hx ⊢
        exact ⟨_, (World.cell?_setCell_same _ _ _ hx).trans (by rw [hv])⟩
      · exact ⟨x, other b o _ e hx⟩
    · exact other b o _ (fun e => by rw [← e, hu] at hx; cases hx) hx
  | false =>
    rw [ht] at h1
    obtain ⟨u, hu⟩ := h1
    have hv : s.val k = .int .i64 k := by simp [Spot.val, ht]
    refine ⟨fun b o x hx => ?_, fun b o x hx => ?_, fun b o _ _ _ hx => ?_, fun b o _ => World.frozen?_setCell _ _ _ _, by simp⟩
    · by_cases e : s.at = ⟨b, o, none⟩
      · rw [← e] at hx ⊢
        exact ⟨_, (World.cell?_setCell_same _ _ _ hx).trans (by rw [hv])⟩
      · exact ⟨x, other b o _ e hx⟩
    · exact ⟨x, other b o _ (fun e => by rw [← e, hu] at hx; cases hx) hx⟩
    · exact other b o _ (fun e => by rw [← e, hu] at hx; cases hx) hx

theorem sim_writeAll : ∀ (L : List Spot) {w : World} (_ : ∀ s, s ∈ L → s.ok w) (k : Int), Sim w (writeAll w L k) := by
  intro L
  induction L with
  | nil => intro w _ k; exact Sim.refl w
  | cons s r ih =>
    intro w h k
    have h1 := sim_set (h s (List.mem_cons_self ..)) k
    exact h1.trans (ih (fun x hx => Spot.ok_sim (h x (List.mem_cons_of_mem _ hx)) h1) (k + 1))

theorem Wrote.sim {L : List Spot} {k : Int} {w w' : World} (h : Wrote L k w w') (hL : ∀ s, s ∈ L → s.ok w) : Sim w w' := by
  have hs := sim_writeAll L hL k
  have hc : ∀ b o, b < w.heap.size → w'.cell? ⟨b, o, none⟩ = (writeAll w L k).cell? ⟨b, o, none⟩ := fun b o hb => World.cell?_of_block (w := writeAll w L k) (w' := w') (a := ⟨b, o, none⟩) (h.block b hb)
  have hf : ∀ b o, b < w.heap.size → w'.frozen? ⟨b, o, none⟩ = (writeAll w L k).frozen? ⟨b, o, none⟩ := fun b o hb => by simp only [World.frozen?, h.block b hb]
  refine ⟨fun b o x hx => ?_, fun b o x hx => ?_, fun b o _ _ _ hx => ?_, fun b o hb => (hf b o hb).trans (hs.fz b o hb), h.size⟩
  · rw [hc b o (mlt hx)]; exact hs.int b o x hx
  · rw [hc b o (mlt hx)]; exact hs.str b o x hx
  · rw [hc b o (mlt hx)]; exact hs.sl b o _ _ _ hx

/-- Each spot holds its mark. -/
def Holds (w : World) : List Spot → Int → Prop
  | [], _ => True
  | s :: r, k => w.cell? s.at = some (s.val k) ∧ Holds w r (k + 1)

theorem writeAll_far (p : Addr) : ∀ (L : List Spot) (w : World) (k : Int), (∀ s, s ∈ L → s.at ≠ p) → (writeAll w L k).cell? p = w.cell? p := by
  intro L
  induction L with
  | nil => intro w k _; rfl
  | cons s r ih =>
    intro w k h
    rw [writeAll, ih _ _ (fun x hx => h x (List.mem_cons_of_mem _ hx)), World.cell?_setCell_other _ _ _ _ (h s (List.mem_cons_self ..))]

/-- Where no spot stands twice, each holds its mark behind the writing. -/
theorem writeAll_holds : ∀ (L : List Spot) (w : World) (k : Int), (∀ s, s ∈ L → s.ok w) → L.Pairwise (fun a b => a.at ≠ b.at) → Holds (writeAll w L k) L k := by
  intro L
  induction L with
  | nil => intro w k _ _; trivial
  | cons s r ih =>
    intro w k h hp
    have hp' := List.pairwise_cons.1 hp
    have h1 := sim_set (h s (List.mem_cons_self ..)) k
    refine ⟨?_, ih _ (k + 1) (fun x hx => Spot.ok_sim (h x (List.mem_cons_of_mem _ hx)) h1) hp'.2⟩
    rw [writeAll, writeAll_far _ _ _ _ (fun x hx => (hp'.1 x hx).symm)]
    obtain ⟨h2, -⟩ := h s (List.mem_cons_self ..)
    cases ht : s.tx with
    | true => rw [ht] at h2; obtain ⟨u, hu⟩ := h2; exact World.cell?_setCell_same _ _ _ hu
    | false => rw [ht] at h2; obtain ⟨u, hu⟩ := h2; exact World.cell?_setCell_same _ _ _ hu

theorem Holds.keep {w w' : World} : ∀ {L : List Spot} {k : Int}, Holds w L k → (∀ s, s ∈ L → w'.cell? s.at = w.cell? s.at) → Holds w' L k := by
  intro L
  induction L with
  | nil => intro k _ _; trivial
  | cons s r ih => intro k h hs; exact ⟨(hs s (List.mem_cons_self ..)).trans h.1, ih h.2 (fun x hx => hs x (List.mem_cons_of_mem _ hx))⟩

end Go.Proofs.YtlinplghgamgbaaGreatDoor

/-
  What marks touch.
-/
namespace Go.Proofs.YtlinplghgamgbaaGreatDoor
open Go.RowKit

theorem writeAll_block {b : Nat} : ∀ (L : List Spot) (w : World) (k : Int), (∀ s, s ∈ L → s.b ≠ b) → (writeAll w L k).heap[b]? = w.heap[b]? := by
  intro L
  induction L with
  | nil => intro w k _; rfl
  | cons s r ih =>
    intro w k h
    rw [writeAll, ih _ _ (fun x hx => h x (List.mem_cons_of_mem _ hx))]
    exact Below.heap_setCell _ _ _ _ (fun e => h s (List.mem_cons_self ..) e.symm)

theorem Wrote.other {L : List Spot} {k : Int} {w w' : World} (h : Wrote L k w w') {b : Nat} (hb : b < w.heap.size) (hL : ∀ s, s ∈ L → s.b ≠ b) : w'.heap[b]? = w.heap[b]? := (h.block b hb).trans (writeAll_block L w k hL)

/-- Behind the marks each spot holds its own. -/
theorem Wrote.holds {L : List Spot} {k : Int} {w w' : World} (h : Wrote L k w w') (hok : ∀ s, s ∈ L → s.ok w) (hp : L.Pairwise (fun a b => a.at ≠ b.at)) : Holds w' L k :=
  (writeAll_holds L w k hok hp).keep (fun s hs => World.cell?_of_block (w := writeAll w L k) (w' := w') (a := s.at) (h.block s.b (Spot.ok_lt (hok s hs))))

end Go.Proofs.YtlinplghgamgbaaGreatDoor
