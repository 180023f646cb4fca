/-
  The program's widenings: how the making of one ends, with what the function value that is made does.
-/
import Derived.Test.YtpalkdcgbbbmeaaGreatDoorKV3
import Derived.Test.YtpalkdcgbbbmeaaGreatDoorKW1
import Derived.Test.YtpalkdcgbbbmeaaGreatDoorKW7
namespace Go.Proofs.YtpalkdcgbbbmeaaGreatDoor
open Go.RowKit

/-- How the making of a widening ends, if r says whether there is one; R: what it does. -/
def EndV (m : Nat) (r : Bool) (R : (Nat → Prop) → World → Value → T m → Prop) (S : Nat → Prop) (w : World) (e : Ending) (w' : World) : Prop :=
  (r = true ∧ ∃ fn first cap, e = .returned (.tuple #[.func fn first cap, .nilIface]) ∧ Fv (fun b => S b ∨ (w.heap.size ≤ b ∧ b < w'.heap.size)) m w' (.func fn first cap) R) ∨
  (r = false ∧ ∃ y : ByteArray, e = .returned (.tuple #[.nilFunc, .iface 132 (.agg #[.string y])]))

theorem EndV.wide {m : Nat} {r : Bool} {R : (Nat → Prop) → World → Value → T m → Prop} {S : Nat → Prop} {w W : World} {e : Ending} {w' : World} (h : EndV m r R S W e w') (hz : w.heap.size ≤ W.heap.size) : EndV m r R S w e w' := by
  rcases h with ⟨h, fn, first, cap, rfl, hF⟩ | h
  · exact .inl ⟨h, fn, first, cap, rfl, hF.keep (fun _ _ => rfl) (fun b hb => hb.elim .inl (fun h => .inr ⟨by omega, h.2⟩))⟩
  · exact .inr h

/-- The making of a widening into a schema of at most m levels. -/
def FitSaidV (m : Nat) : Prop := ∀ (S : Nat → Prop) (n : Nat) (a : K n) (b : K m) (va vb : Value) (d d' : Int) (R : Nat) (x : ByteArray) (w : World), InnerK S w n a va → InnerK S w m b vb → (∀ b, S b → b < w.heap.size) → TabW w R → R < w.heap.size →
  goodK n a d = true → goodK m b d' = true → cntK m b ≤ 40 → 1 ≤ d' → (x.size : Int) ≤ 20 * d' →
  Calls Tryz.prog 38 #[.pointer (some ⟨R, 0, none⟩), .agg #[va, vb, .string x]] w fun e w' => Below w.heap.size w w' ∧ EndV m (fitsK m b n a) (WidR m b n a) S w e w'

set_option maxRecDepth 20000 in
set_option maxHeartbeats 400000 in
theorem ofLeaves_v (R : Nat) (va vb : Value) (x : ByteArray) (w : World) (ha : ∃ p, va = .pointer p) (hb : ∃ p, vb = .pointer p) :
    Calls Tryz.prog 73 #[.pointer (some ⟨R, 0, none⟩), .agg #[va, vb, .string x]] w fun e w' => e = .returned (.tuple #[.func (.func 97) #[] #[], .nilIface]) ∧ Below w.heap.size w w' := by
  obtain ⟨pa, rfl⟩ := ha
  obtain ⟨pb, rfl⟩ := hb
  go_enter Tryz.func73, Tryz.ntmps73
  go_wp2_with fail
  go_ret2
  exact ⟨rfl, (Below.refl _ _).alloc (Nat.le_refl _) _⟩

theorem cell_set {w : World} {g : Nat} {u v : Value} (h : w.cell? ⟨g, 0, none⟩ = some u) : (w.setCell ⟨g, 0, none⟩ v).cell? ⟨g, 0, none⟩ = some v := by
  simp [go_sem, h]

/-- A captured cell that is written behind the call: what was made goes on. -/
theorem fin_set {S : Nat → Prop} {m : Nat} {R : (Nat → Prop) → World → Value → T m → Prop} {w W w10 : World} {g : Nat} {kv : Value} (hb : Below w.heap.size w w10) (hS : ∀ b, S b → b < w.heap.size) (hk : NewF w10 g) (hF : Fv (fun b => S b ∨ (W.heap.size ≤ b ∧ b < w10.heap.size)) m w10 kv R) (hw : w.heap.size ≤ g) (hg : g < W.heap.size) :
    Below w.heap.size w (w10.setCell ⟨g, 0, none⟩ kv) ∧ Fv (fun b => S b ∨ (w.heap.size ≤ b ∧ b < (w10.setCell ⟨g, 0, none⟩ kv).heap.size)) m (w10.setCell ⟨g, 0, none⟩ kv) kv R ∧ (w10.setCell ⟨g, 0, none⟩ kv).cell? ⟨g, 0, none⟩ = some kv ∧ (w.heap.size ≤ g ∧ g < (w10.setCell ⟨g, 0, none⟩ kv).heap.size) := by
  have hz : (w10.setCell ⟨g, 0, none⟩ kv).heap.size = w10.heap.size := by simp
  refine ⟨hb.setCell hw _, hF.keep (fun b hb => ?_) (fun b hb => ?_), ?_, hw, by rw [hz]; exact hk.2.2⟩
  · refine Below.heap_setCell _ _ _ _ ?_
    rcases hb with hb | hb
    · have := hS b hb; show b ≠ g; omega
    · show b ≠ g; omega
  · rcases hb with hb | hb
    · exact .inl hb
    · exact .inr ⟨by omega, by rw [hz]; exact hb.2⟩
  · exact cell_set hk.1

/-- A captured cell that is made behind the call. -/
theorem fin_alloc {S : Nat → Prop} {m : Nat} {R : (Nat → Prop) → World → Value → T m → Prop} {w W w10 : World} {t : TypeId} {kv : Value} (hb : Below w.heap.size w w10) (hS : ∀ b, S b → b < w.heap.size) (hF : Fv (fun b => S b ∨ (W.heap.size ≤ b ∧ b < w10.heap.size)) m w10 kv R) (hW : w.heap.size ≤ W.heap.size) :
    Below w.heap.size w (w10.alloc (.cells #[kv] t)) ∧ Fv (fun b => S b ∨ (w.heap.size ≤ b ∧ b < (w10.alloc (.cells #[kv] t)).heap.size)) m (w10.alloc (.cells #[kv] t)) kv R ∧
      (w10.alloc (.cells #[kv] t)).cell? ⟨w10.heap.size, 0, none⟩ = some kv ∧ (w.heap.size ≤ w10.heap.size ∧ w10.heap.size < (w10.alloc (.cells #[kv] t)).heap.size) := by
  have hz : (w10.alloc (.cells #[kv] t)).heap.size = w10.heap.size + 1 := by simp
  have hs := hb.size
  refine ⟨below_alloc hb _, hF.keep (fun b hb => ?_) (fun b hb => ?_), by simp [go_sem], hs, by omega⟩
  · have hlt : b < w10.heap.size := by
      rcases hb with hb | hb
      · have := hS b hb; omega
      · exact hb.2
    exact Below.heap_alloc _ _ _ hlt
  · rcases hb with hb | hb
    · exact .inl hb
    · exact .inr ⟨by omega, by rw [hz]; omega⟩

end Go.Proofs.YtpalkdcgbbbmeaaGreatDoor
