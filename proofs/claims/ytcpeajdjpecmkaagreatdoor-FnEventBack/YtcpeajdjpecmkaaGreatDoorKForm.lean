/-
  readForm of the program, at schemas.
-/
import Derived.Test.YtcpeajdjpecmkaaGreatDoorB19
import Derived.Lib.Hide
import Derived.WalkSmall
import Derived.LoopTactic
namespace Go.Proofs.YtcpeajdjpecmkaaGreatDoor
open Go.RowKit

/-- What follows behind the comma of a form's part. -/
def formR {α : Type} (f : List UInt8 → Option (α × List UInt8)) (k : Nat) (ns : List ByteArray) (acc : List α) (s1 : List UInt8) : Option (List ByteArray × List α × List UInt8) :=
  match untilP 58 s1 with
  | none => none
  | some (w, s2) =>
    match f (s2.drop 1) with
    | none => none
    | some (t, r) => formQ f k (ns ++ [bs w]) (acc ++ [t]) r

theorem formQ_end {α : Type} {f : List UInt8 → Option (α × List UInt8)} {k : Nat} {ns : List ByteArray} {acc : List α} {s r : List UInt8} (h : eatP [125] s = some r) : formQ f (k + 1) ns acc s = some (ns, acc, r) := by
  rw [formQ, h]
theorem formQ_first {α : Type} {f : List UInt8 → Option (α × List UInt8)} {k : Nat} {ns : List ByteArray} {acc : List α} {s : List UInt8} (h : eatP [125] s = none) (h0 : ns.length = 0) : formQ f (k + 1) ns acc s = formR f k ns acc s := by
  rw [formQ, h]; simp only [h0, if_true]; rfl
theorem formQ_next {α : Type} {f : List UInt8 → Option (α × List UInt8)} {k : Nat} {ns : List ByteArray} {acc : List α} {s s1 : List UInt8} (h : eatP [125] s = none) (h0 : ¬ ns.length = 0) (h1 : eatP [44] s = some s1) : formQ f (k + 1) ns acc s = formR f k ns acc s1 := by
  rw [formQ, h]; simp only [if_neg h0, h1]; rfl
theorem formQ_stop {α : Type} {f : List UInt8 → Option (α × List UInt8)} {k : Nat} {ns : List ByteArray} {acc : List α} {s : List UInt8} (h : eatP [125] s = none) (h0 : ¬ ns.length = 0) (h1 : eatP [44] s = none) : formQ f (k + 1) ns acc s = none := by
  rw [formQ, h]; simp only [if_neg h0, h1]
theorem formR_no {α : Type} {f : List UInt8 → Option (α × List UInt8)} {k : Nat} {ns : List ByteArray} {acc : List α} {s : List UInt8} (h : untilP 58 s = none) : formR f k ns acc s = none := by
  rw [formR, h]
theorem formR_bad {α : Type} {f : List UInt8 → Option (α × List UInt8)} {k : Nat} {ns : List ByteArray} {acc : List α} {s w s2 : List UInt8} (h : untilP 58 s = some (w, s2)) (h1 : f (s2.drop 1) = none) : formR f k ns acc s = none := by
  rw [formR, h]; simp only [h1]
theorem formR_yes {α : Type} {f : List UInt8 → Option (α × List UInt8)} {k : Nat} {ns : List ByteArray} {acc : List α} {s w s2 r : List UInt8} {t : α} (h : untilP 58 s = some (w, s2)) (h1 : f (s2.drop 1) = some (t, r)) : formR f k ns acc s = formQ f k (ns ++ [bs w]) (acc ++ [t]) r := by
  rw [formR, h]; simp only [h1]

theorem Scan.same {R : Nat} {a b c : World} {q : Nat} (h : Scan R a b q) (hn : Near R a c) (hb : c.heap[R]? = b.heap[R]?) : Scan R a c q :=
  ⟨hn, fun o ho => (World.cell?_of_block (w := b) (w' := c) (a := ⟨R, o, none⟩) hb).trans (h.cells o ho), (World.cell?_of_block (w := b) (w' := c) (a := ⟨R, 1, none⟩) hb).trans h.at1, fun o => by
    have := h.fz o
    simp only [World.frozen?, hb] at this ⊢
    exact this⟩

/-- The place of a scanner. -/
def atS (w : World) (R : Nat) : Nat := match w.cell? ⟨R, 1, none⟩ with | some (.int _ n) => n.toNat | _ => 0

theorem Scan.atS {R : Nat} {a b : World} {q : Nat} (h : Scan R a b q) : atS b R = q := by
  unfold Go.Proofs.YtcpeajdjpecmkaaGreatDoor.atS; rw [h.at1]; simp

theorem Tryz.info_strQ : (Tryz.prog.info? 9).map (fun i => (i.zero, i.size, i.bytes)) = some (some (.string ⟨#[]⟩), 1, 16) := by kernel_rfl

end Go.Proofs.YtcpeajdjpecmkaaGreatDoor
