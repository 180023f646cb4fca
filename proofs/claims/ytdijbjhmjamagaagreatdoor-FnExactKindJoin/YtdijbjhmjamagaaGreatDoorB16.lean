/-
  Several texts in one, in their order.
-/
import Derived.Test.YtdijbjhmjamagaaGreatDoorB15
import Derived.Test.YtdijbjhmjamagaaGreatDoorKImplText
import Derived.Deep.RegionWith
import Derived.Deep.RegionHeld
import Derived.BigQuiet

/-
  The program's widenings: how the making of one ends; what is made of leaves.
-/
namespace Go.Proofs.YtdijbjhmjamagaaGreatDoor
open Go.RowKit

theorem sumL_in {α : Type} (f : α → Nat) (l : List α) (x : α) (h : x ∈ l) : f x ≤ sumL f l := by
  induction l with
  | nil => cases h
  | cons a r ih =>
    simp only [sumL]
    rcases List.mem_cons.1 h with rfl | h
    · omega
    · have := ih h; omega

theorem cnt_kid {m : Nat} {b : K (m + 1)} {k : K m} (h : cntK (m + 1) b ≤ 40) (hk : k ∈ Kd.kids b) : cntK m k ≤ 40 := by
  have e : cntK (m + 1) b = 1 + sumL (fun k => cntK m k) (Kd.kids b) := rfl
  have := sumL_in (fun k => cntK m k) (Kd.kids b) k hk
  omega

theorem kids_39 {m : Nat} {b : K (m + 1)} {d : Int} (hg : goodK (m + 1) b d = true) (h : cntK (m + 1) b ≤ 40) : (Kd.kids b).length ≤ 39 := by
  have e : cntK (m + 1) b = 1 + sumL (fun k => cntK m k) (Kd.kids b) := rfl
  simp only [goodK, Bool.and_eq_true] at hg
  have := sumK_ge (d := d + 1) (Kd.kids b) hg.2
  omega

/-- The path one step down. -/
def pathTo (x s : ByteArray) : ByteArray := x ++ (⟨#[47]⟩ : ByteArray) ++ s

theorem pathTo_size (x s : ByteArray) : (pathTo x s).size = x.size + 1 + s.size := by
  unfold pathTo
  rw [ByteArray.size_append, ByteArray.size_append]
  rfl

set_option maxRecDepth 20000 in
set_option maxHeartbeats 400000 in
theorem below_any (x s : ByteArray) (pa pb qa qb : Option Addr) (w : World) (hx : x.size + s.size ≤ 1000000) :
    Calls Tryz.prog 71 #[.agg #[.pointer pa, .pointer pb, .string x], .string s, .pointer qa, .pointer qb] w fun e w' => e = .returned (.agg #[.pointer qa, .pointer qb, .string (pathTo x s)]) ∧ Below w.heap.size w w' := by
  have hs1 : (x ++ (⟨#[47]⟩ : ByteArray)).size = x.size + 1 := by rw [ByteArray.size_append]; rfl
  have hq1 : ¬ 9223372036854775807 < x.size + 1 := by omega
  have hq2 : ¬ 9223372036854775807 < x.size + 1 + s.size := by omega
  have hb0 : Below w.heap.size w ((w.alloc (.cells #[.pointer pa, .pointer pb, .string x] 50)).alloc (.cells #[.pointer none, .pointer none, .string ⟨#[]⟩] 50)) := ((Below.refl _ _).alloc (Nat.le_refl _) _).alloc (by simp) _
  unfold pathTo
  go_enter Tryz.func71, Tryz.ntmps71
  go_wp2_with fail
  refine bodyPost_ret (v := .agg #[.pointer qa, .pointer qb, .string (x ++ (⟨#[47]⟩ : ByteArray) ++ s)]) (by simp [results, Tryz.results71, go_sem]) rfl ?_
  exact ⟨rfl, ((Below.refl _ _).alloc (Nat.le_refl _) _).alloc (by simp) _⟩

theorem below_alloc {w V : World} (h : Below w.heap.size w V) (o : Obj) : Below w.heap.size w (V.alloc o) := h.alloc h.size o

theorem below_allocD {w V : World} (h : Below w.heap.size w V.drew) (o : Obj) : Below w.heap.size w (V.alloc o).drew := by
  have h' : Below w.heap.size w V := ⟨h.os, h.tape, h.output, h.size, h.block⟩
  exact (below_alloc h' o).drew

end Go.Proofs.YtdijbjhmjamagaaGreatDoor

/-
  The program's widenings: the table is asked; KindFits's part behind the face.
-/
namespace Go.Proofs.YtdijbjhmjamagaaGreatDoor
open Go.RowKit

theorem wfuncIn_nil {P : Program} {t : TypeId} {ps rs : Array TypeId} {b : Bool} (d : Nat) (fn : Fn) (first cap : Array Value) (w : World) (h : P.underlying t = some (.func ps rs b)) : (Op.equalIn (d + 1) t (.func fn first cap) .nilFunc).run P w = .ok false w := by
  simp [Op.equalIn, run_underlying h]

theorem wnilIn_nil {P : Program} {t : TypeId} {ps rs : Array TypeId} {b : Bool} (d : Nat) (w : World) (h : P.underlying t = some (.func ps rs b)) : (Op.equalIn (d + 1) t .nilFunc .nilFunc).run P w = .ok true w := by
  simp [Op.equalIn, run_underlying h]

end Go.Proofs.YtdijbjhmjamagaaGreatDoor
