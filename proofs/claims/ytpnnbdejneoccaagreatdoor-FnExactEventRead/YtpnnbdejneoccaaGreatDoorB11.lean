/-
  Several texts in one, in their order.
-/
import Derived.Test.YtpnnbdejneoccaaGreatDoorScan2
import Derived.Test.YtpnnbdejneoccaaGreatDoorB1
import Derived.Test.YtpnnbdejneoccaaGreatDoorB2
import Derived.Lib.Hide
import Derived.WalkSmall
import Derived.LoopTactic

/-
  What the program's reader of a form gathers: names and kids in rows of its own.
-/
namespace Go.Proofs.YtpnnbdejneoccaaGreatDoor
open Go.RowKit

/-- Blocks that are new, and none of the two rows'. -/
def Fr (M : Nat) (nv kv : Value) (H b : Nat) : Prop := M ≤ b ∧ b < H ∧ nv.ownBlock ≠ some b ∧ kv.ownBlock ≠ some b

/-- What was gathered, as rows. -/
theorem strs_of_ownsK {S : Nat → Prop} {w : World} {M : Nat} {e : TypeId} {v : Value} {l : List ByteArray} (h : w.ownsRow M e 1 v l.length (l.map .string)) (hl : l.length ≤ 20000) (hs : ∀ s, s ∈ l → s.size ≤ 10000) (hS : ∀ g, v.ownBlock = some g → S g) : StrsIn S w l v := by
  have hm : ∀ s, s ∈ l → s.size ≤ maxLen := fun s h => by have := hs s h; unfold maxLen; omega
  have hlm : l.length ≤ maxLen := by unfold maxLen; omega
  rcases id h.2 with ⟨rfl, h0⟩ | ⟨g, cap, cur, rfl, hbg, hg, hnc, hcm, hcs, htake⟩
  · exact ⟨none, 0, by rw [h0], hlm, hm, fun hne => absurd (List.eq_nil_of_length_eq_zero h0) hne⟩
  · refine ⟨_, _, rfl, hlm, hm, fun _ => ⟨g, 0, rfl, hS g rfl, fun i hi => ?_⟩⟩
    have := h.cells (g := g) rfl i (.string l[i]) (by simp [hi])
    rw [Addr.add_lit] at this
    simpa using this

end Go.Proofs.YtpnnbdejneoccaaGreatDoor

/-
  readForm of the program, at schemas.
-/
namespace Go.Proofs.YtpnnbdejneoccaaGreatDoor
open Go.RowKit

/-- What follows behind the comma of a form's part. -/
def formR {α : Type} (f : List UInt8 → Option (α × List UInt8)) (k : Nat) (ns : List ByteArray) (acc : List α) (s1 : List UInt8) : Option (List ByteArray × List α × List UInt8) :=
  match untilP 58 s1 with
  | none => none
  | some (w, s2) =>
    match f (s2.drop 1) with
    | none => none
    | some (t, r) => formQ f k (ns ++ [bs w]) (acc ++ [t]) r

theorem formQ_end {α : Type} {f : List UInt8 → Option (α × List UInt8)} {k : Nat} {ns : List ByteArray} {acc : List α} {s r : List UInt8} (h : eatP [125] s = some r) : formQ f (k + 1) ns acc s = some (ns, acc, r) := by
  rw [formQ, h]
theorem formQ_first {α : Type} {f : List UInt8 → Option (α × List UInt8)} {k : Nat} {ns : List ByteArray} {acc : List α} {s : List UInt8} (h : eatP [125] s = none) (h0 : ns.length = 0) : formQ f (k + 1) ns acc s = formR f k ns acc s := by
  rw [formQ, h]; simp only [h0, if_true]; rfl
theorem formQ_next {α : Type} {f : List UInt8 → Option (α × List UInt8)} {k : Nat} {ns : List ByteArray} {acc : List α} {s s1 : List UInt8} (h : eatP [125] s = none) (h0 : ¬ ns.length = 0) (h1 : eatP [44] s = some s1) : formQ f (k + 1) ns acc s = formR f k ns acc s1 := by
  rw [formQ, h]; simp only [if_neg h0, h1]; rfl
theorem formQ_stop {α : Type} {f : List UInt8 → Option (α × List UInt8)} {k : Nat} {ns : List ByteArray} {acc : List α} {s : List UInt8} (h : eatP [125] s = none) (h0 : ¬ ns.length = 0) (h1 : eatP [44] s = none) : formQ f (k + 1) ns acc s = none := by
  rw [formQ, h]; simp only [if_neg h0, h1]
theorem formR_no {α : Type} {f : List UInt8 → Option (α × List UInt8)} {k : Nat} {ns : List ByteArray} {acc : List α} {s : List UInt8} (h : untilP 58 s = none) : formR f k ns acc s = none := by
  rw [formR, h]
theorem formR_bad {α : Type} {f : List UInt8 → Option (α × List UInt8)} {k : Nat} {ns : List ByteArray} {acc : List α} {s w s2 : List UInt8} (h : untilP 58 s = some (w, s2)) (h1 : f (s2.drop 1) = none) : formR f k ns acc s = none := by
  rw [formR, h]; simp only [h1]
theorem formR_yes {α : Type} {f : List UInt8 → Option (α × List UInt8)} {k : Nat} {ns : List ByteArray} {acc : List α} {s w s2 r : List UInt8} {t : α} (h : untilP 58 s = some (w, s2)) (h1 : f (s2.drop 1) = some (t, r)) : formR f k ns acc s = formQ f k (ns ++ [bs w]) (acc ++ [t]) r := by
  rw [formR, h]; simp only [h1]

theorem Scan.same {R : Nat} {a b c : World} {q : Nat} (h : Scan R a b q) (hn : Near R a c) (hb : c.heap[R]? = b.heap[R]?) : Scan R a c q :=
  ⟨hn, fun o ho => (World.cell?_of_block (w := b) (w' := c) (a := ⟨R, o, none⟩) hb).trans (h.cells o ho), (World.cell?_of_block (w := b) (w' := c) (a := ⟨R, 1, none⟩) hb).trans h.at1, fun o => by
    have := h.fz o
    simp only [World.frozen?, hb] at this ⊢
    exact this⟩

/-- The place of a scanner. -/
def atS (w : World) (R : Nat) : Nat := match w.cell? ⟨R, 1, none⟩ with | some (.int _ n) => n.toNat | _ => 0

theorem Scan.atS {R : Nat} {a b : World} {q : Nat} (h : Scan R a b q) : atS b R = q := by
  unfold Go.Proofs.YtpnnbdejneoccaaGreatDoor.atS; rw [h.at1]; simp

theorem Tryz.info_strQ : (Tryz.prog.info? 9).map (fun i => (i.zero, i.size, i.bytes)) = some (some (.string ⟨#[]⟩), 1, 16) := by kernel_rfl

end Go.Proofs.YtpnnbdejneoccaaGreatDoor
