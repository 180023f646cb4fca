/-
  Several texts in one, in their order.
-/
import Derived.Test.YthcdeahobjhkbaaGreatDoorB5
import Derived.Test.YthcdeahobjhkbaaGreatDoorB7
import Derived.Deep.RegionWith
import Derived.Deep.RegionHeld
import Derived.BigQuiet
import Derived.Deep.RegionLaw
import Derived.Test.YthcdeahobjhkbaaGreatDoorKSF1

/-
  The program's widenings: how the making of one ends; what is made of leaves.
-/
namespace Go.Proofs.YthcdeahobjhkbaaGreatDoor
open Go.RowKit

theorem sumL_in {α : Type} (f : α → Nat) (l : List α) (x : α) (h : x ∈ l) : f x ≤ sumL f l := by
  induction l with
  | nil => cases h
  | cons a r ih =>
    simp only [sumL]
    rcases List.mem_cons.1 h with rfl | h
    · omega
    · have := ih h; omega

theorem cnt_kid {m : Nat} {b : K (m + 1)} {k : K m} (h : cntK (m + 1) b ≤ 40) (hk : k ∈ Kd.kids b) : cntK m k ≤ 40 := by
  have e : cntK (m + 1) b = 1 + sumL (fun k => cntK m k) (Kd.kids b) := rfl
  have := sumL_in (fun k => cntK m k) (Kd.kids b) k hk
  omega

theorem kids_39 {m : Nat} {b : K (m + 1)} {d : Int} (hg : goodK (m + 1) b d = true) (h : cntK (m + 1) b ≤ 40) : (Kd.kids b).length ≤ 39 := by
  have e : cntK (m + 1) b = 1 + sumL (fun k => cntK m k) (Kd.kids b) := rfl
  simp only [goodK, Bool.and_eq_true] at hg
  have := sumK_ge (d := d + 1) (Kd.kids b) hg.2
  omega

/-- How the making of a widening ends. -/
def FitEnd (m : Nat) (b : K m) (n : Nat) (a : K n) (e : Ending) : Prop :=
  (fitsK m b n a = true ∧ ∃ fn first cap, e = .returned (.tuple #[.func fn first cap, .nilIface])) ∨ (fitsK m b n a = false ∧ ∃ y : ByteArray, e = .returned (.tuple #[.nilFunc, .iface 87 (.agg #[.string y])]))

/-- The making of a widening into a schema of at most m levels. -/
def FitSaid (m : Nat) : Prop := ∀ (S : Nat → Prop) (n : Nat) (a : K n) (b : K m) (va vb : Value) (d d' : Int) (R : Nat) (x : ByteArray) (w : World), InnerK S w n a va → InnerK S w m b vb → (∀ b, S b → b < w.heap.size) → TabW w R → R < w.heap.size →
  goodK n a d = true → goodK m b d' = true → cntK m b ≤ 40 → 1 ≤ d' → (x.size : Int) ≤ 20 * d' →
  Calls Tryz.prog 24 #[.pointer (some ⟨R, 0, none⟩), .agg #[va, vb, .string x]] w fun e w' => Below w.heap.size w w' ∧ FitEnd m b n a e

/-- The path one step down. -/
def pathTo (x s : ByteArray) : ByteArray := x ++ (⟨#[47]⟩ : ByteArray) ++ s

theorem pathTo_size (x s : ByteArray) : (pathTo x s).size = x.size + 1 + s.size := by
  unfold pathTo
  rw [ByteArray.size_append, ByteArray.size_append]
  rfl

set_option maxRecDepth 20000 in
set_option maxHeartbeats 400000 in
theorem below_any (x s : ByteArray) (pa pb qa qb : Option Addr) (w : World) (hx : x.size + s.size ≤ 1000000) :
    Calls Tryz.prog 54 #[.agg #[.pointer pa, .pointer pb, .string x], .string s, .pointer qa, .pointer qb] w fun e w' => e = .returned (.agg #[.pointer qa, .pointer qb, .string (pathTo x s)]) ∧ Below w.heap.size w w' := by
  have hs1 : (x ++ (⟨#[47]⟩ : ByteArray)).size = x.size + 1 := by rw [ByteArray.size_append]; rfl
  have hq1 : ¬ 9223372036854775807 < x.size + 1 := by omega
  have hq2 : ¬ 9223372036854775807 < x.size + 1 + s.size := by omega
  have hb0 : Below w.heap.size w ((w.alloc (.cells #[.pointer pa, .pointer pb, .string x] 43)).alloc (.cells #[.pointer none, .pointer none, .string ⟨#[]⟩] 43)) := ((Below.refl _ _).alloc (Nat.le_refl _) _).alloc (by simp) _
  unfold pathTo
  go_enter Tryz.func54, Tryz.ntmps54
  go_wp2_with fail
  refine bodyPost_ret (v := .agg #[.pointer qa, .pointer qb, .string (x ++ (⟨#[47]⟩ : ByteArray) ++ s)]) (by simp [results, Tryz.results54, go_sem]) rfl ?_
  exact ⟨rfl, ((Below.refl _ _).alloc (Nat.le_refl _) _).alloc (by simp) _⟩

set_option maxRecDepth 20000 in
set_option maxHeartbeats 400000 in
theorem ofLeaves_any (R : Nat) (va vb : Value) (x : ByteArray) (w : World) (ha : ∃ p, va = .pointer p) (hb : ∃ p, vb = .pointer p) :
    Calls Tryz.prog 43 #[.pointer (some ⟨R, 0, none⟩), .agg #[va, vb, .string x]] w fun e w' => (∃ fn first cap, e = .returned (.tuple #[.func fn first cap, .nilIface])) ∧ Below w.heap.size w w' := by
  obtain ⟨pa, rfl⟩ := ha
  obtain ⟨pb, rfl⟩ := hb
  go_enter Tryz.func43, Tryz.ntmps43
  go_wp2_with fail
  go_ret2
  exact ⟨⟨_, _, _, rfl⟩, (Below.refl _ _).alloc (Nat.le_refl _) _⟩

theorem below_alloc {w V : World} (h : Below w.heap.size w V) (o : Obj) : Below w.heap.size w (V.alloc o) := h.alloc h.size o

theorem below_allocD {w V : World} (h : Below w.heap.size w V.drew) (o : Obj) : Below w.heap.size w (V.alloc o).drew := by
  have h' : Below w.heap.size w V := ⟨h.os, h.tape, h.output, h.size, h.block⟩
  exact (below_alloc h' o).drew

/-- A new cell for a function. -/
def NewF (W : World) (g : Nat) : Prop := W.cell? ⟨g, 0, none⟩ = some .nilFunc ∧ W.frozen? ⟨g, 0, none⟩ = false ∧ g < W.heap.size

theorem kept_new {V w' : World} {t : TypeId} (hb : Below (V.alloc (.cells #[.nilFunc] t)).heap.size (V.alloc (.cells #[.nilFunc] t)) w') : NewF w' V.heap.size := by
  have hz : (V.alloc (.cells #[.nilFunc] t)).heap.size = V.heap.size + 1 := by simp
  have e := hb.block V.heap.size (by omega)
  rw [heap_alloc_new] at e
  exact ⟨by simp [World.cell?, e], by simp [World.frozen?, e], by have := hb.size; omega⟩

theorem kept_newD {V w' : World} {t : TypeId} (hb : Below (V.alloc (.cells #[.nilFunc] t)).drew.heap.size (V.alloc (.cells #[.nilFunc] t)).drew w') : NewF w' V.heap.size := by
  have hz : (V.alloc (.cells #[.nilFunc] t)).heap.size = V.heap.size + 1 := by simp
  have hb' : Below (V.alloc (.cells #[.nilFunc] t)).heap.size (V.alloc (.cells #[.nilFunc] t)).drew w' := hb
  have e := hb'.block V.heap.size (by omega)
  have e2 : (V.alloc (.cells #[.nilFunc] t)).drew.heap[V.heap.size]? = (V.alloc (.cells #[.nilFunc] t)).heap[V.heap.size]? := rfl
  rw [e2, heap_alloc_new] at e
  exact ⟨by simp [World.cell?, e], by simp [World.frozen?, e], by have : (V.alloc (.cells #[.nilFunc] t)).heap.size ≤ w'.heap.size := hb'.size; omega⟩

theorem kept_more {W w' : World} {g : Nat} (h : NewF W g) (hb : Below W.heap.size W w') : NewF w' g :=
  ⟨(hb.cell (p := ⟨g, 0, none⟩) h.2.2).trans h.1, (World.frozen?_of_block (a := ⟨g, 0, none⟩) (hb.block g h.2.2)).trans h.2.1, Nat.lt_of_lt_of_le h.2.2 hb.size⟩

/-- The box of a pair is as it was. -/
theorem pair_kept {W w' : World} {N : Nat} {c0 c1 c2 : Value} (h : W.cell? ⟨N, 0, none⟩ = some c0 ∧ W.cell? ⟨N, 1, none⟩ = some c1 ∧ W.cell? ⟨N, 2, none⟩ = some c2) (hb : Below W.heap.size W w') : w'.cell? ⟨N, 0, none⟩ = some c0 ∧ w'.cell? ⟨N, 1, none⟩ = some c1 ∧ w'.cell? ⟨N, 2, none⟩ = some c2 := by
  have hN : N < W.heap.size := World.block_lt_of_cell? W ⟨N, 0, none⟩ h.1
  exact ⟨(hb.cell (p := ⟨N, 0, none⟩) hN).trans h.1, (hb.cell (p := ⟨N, 1, none⟩) hN).trans h.2.1, (hb.cell (p := ⟨N, 2, none⟩) hN).trans h.2.2⟩

theorem pair_set {W : World} {N g : Nat} {c0 c1 c2 v : Value} (h : W.cell? ⟨N, 0, none⟩ = some c0 ∧ W.cell? ⟨N, 1, none⟩ = some c1 ∧ W.cell? ⟨N, 2, none⟩ = some c2) (hne : g ≠ N) : (W.setCell ⟨g, 0, none⟩ v).cell? ⟨N, 0, none⟩ = some c0 ∧ (W.setCell ⟨g, 0, none⟩ v).cell? ⟨N, 1, none⟩ = some c1 ∧ (W.setCell ⟨g, 0, none⟩ v).cell? ⟨N, 2, none⟩ = some c2 :=
  ⟨(World.cell?_setCell_far _ _ _ _ hne).trans h.1, (World.cell?_setCell_far _ _ _ _ hne).trans h.2.1, (World.cell?_setCell_far _ _ _ _ hne).trans h.2.2⟩

theorem pair_alloc {W : World} {N : Nat} {o : Obj} {c0 c1 c2 : Value} (h : W.cell? ⟨N, 0, none⟩ = some c0 ∧ W.cell? ⟨N, 1, none⟩ = some c1 ∧ W.cell? ⟨N, 2, none⟩ = some c2) : (W.alloc o).cell? ⟨N, 0, none⟩ = some c0 ∧ (W.alloc o).cell? ⟨N, 1, none⟩ = some c1 ∧ (W.alloc o).cell? ⟨N, 2, none⟩ = some c2 :=
  pair_kept h ((Below.refl _ _).alloc (Nat.le_refl _) _)

end Go.Proofs.YthcdeahobjhkbaaGreatDoor

/-
  The program's widenings: the table is asked; KindFits's part behind the face.
-/
namespace Go.Proofs.YthcdeahobjhkbaaGreatDoor
open Go.RowKit

theorem wfuncIn_nil {P : Program} {t : TypeId} {ps rs : Array TypeId} {b : Bool} (d : Nat) (fn : Fn) (first cap : Array Value) (w : World) (h : P.underlying t = some (.func ps rs b)) : (Op.equalIn (d + 1) t (.func fn first cap) .nilFunc).run P w = .ok false w := by
  simp [Op.equalIn, run_underlying h]

theorem wnilIn_nil {P : Program} {t : TypeId} {ps rs : Array TypeId} {b : Bool} (d : Nat) (w : World) (h : P.underlying t = some (.func ps rs b)) : (Op.equalIn (d + 1) t .nilFunc .nilFunc).run P w = .ok true w := by
  simp [Op.equalIn, run_underlying h]

theorem Tryz.wfunc_eq (fn : Fn) (first cap : Array Value) (w : World) : (binOp .eql 63 (.func fn first cap) .nilFunc).run Tryz.prog w = .ok (.bool false) w := by
  have : (Op.equal 63 (.func fn first cap) .nilFunc).run Tryz.prog w = .ok false w := wfuncIn_nil 9999 fn first cap w Tryz.underlying63
  simp only [binOp]
  simp [this]

theorem Tryz.wfunc_nil (w : World) : (binOp .eql 63 .nilFunc .nilFunc).run Tryz.prog w = .ok (.bool true) w := by
  have : (Op.equal 63 .nilFunc .nilFunc).run Tryz.prog w = .ok true w := wnilIn_nil 9999 w Tryz.underlying63
  simp only [binOp]
  simp [this]

set_option maxRecDepth 20000 in
set_option maxHeartbeats 1000000 in
theorem of_nil (R pa pb i j : Nat) (x : ByteArray) (w : World) (h1 : 1 ≤ i) (h2 : i ≤ 6) (h3 : 1 ≤ j) (h4 : j ≤ 6) (ha : w.cell? ⟨pa, 0, none⟩ = some (.int .i64 (i : Int))) (hb : w.cell? ⟨pb, 0, none⟩ = some (.int .i64 (j : Int))) (hT : w.cell? ⟨R, i * 7 + j, none⟩ = some .nilFunc)
    (hla : pa < w.heap.size) (hlb : pb < w.heap.size) (hlR : R < w.heap.size) :
    Calls Tryz.prog 24 #[.pointer (some ⟨R, 0, none⟩), .agg #[.pointer (some ⟨pa, 0, none⟩), .pointer (some ⟨pb, 0, none⟩), .string x]] w fun e w' => Below w.heap.size w w' ∧ ∃ y : ByteArray, e = .returned (.tuple #[.nilFunc, .iface 87 (.agg #[.string y])]) := by
  have hb0 : Below w.heap.size w (w.alloc (.cells #[.pointer (some ⟨pa, 0, none⟩), .pointer (some ⟨pb, 0, none⟩), .string x] 43)) := (Below.refl _ _).alloc (Nat.le_refl _) _
  have ha' := (hb0.cell (p := ⟨pa, 0, none⟩) hla).trans ha
  have hb' := (hb0.cell (p := ⟨pb, 0, none⟩) hlb).trans hb
  have hT' := (hb0.cell (p := ⟨R, i * 7 + j, none⟩) hlR).trans hT
  have hq1 := Tryz.wfunc_nil
  have hq2 := Tryz.wfunc_eq
  have hi7 : (i : Int) < 7 := by omega
  have hj7 : (j : Int) < 7 := by omega
  clear ha hb hT
  go_enter Tryz.func24, Tryz.ntmps24
  go_wp2_with fail
  go_quiet (fail)
  go_wp2_with fail
  go_quiet (fail)
  go_wp2_with fail
  go_ret2
  exact ⟨below_drewN (below_drewN hb0 _) _, _, rfl⟩

set_option maxRecDepth 20000 in
set_option maxHeartbeats 1000000 in
theorem of_ofLeaves (R pa pb i j : Nat) (r : Bool) (x : ByteArray) (w : World) (h1 : 1 ≤ i) (h2 : i ≤ 6) (h3 : 1 ≤ j) (h4 : j ≤ 6) (ha : w.cell? ⟨pa, 0, none⟩ = some (.int .i64 (i : Int))) (hb : w.cell? ⟨pb, 0, none⟩ = some (.int .i64 (j : Int))) (hT : w.cell? ⟨R, i * 7 + j, none⟩ = some (widF R 43))
    (hla : pa < w.heap.size) (hlb : pb < w.heap.size) (hlR : R < w.heap.size)
    (hC : ∀ W, Below w.heap.size w W → Calls Tryz.prog 43 #[.pointer (some ⟨R, 0, none⟩), .agg #[.pointer (some ⟨pa, 0, none⟩), .pointer (some ⟨pb, 0, none⟩), .string x]] W fun e w' => Below W.heap.size W w' ∧ ∃ v u, e = .returned (.tuple #[v, u]) ∧ (r = true ∧ (∃ fn first cap, v = .func fn first cap) ∧ u = .nilIface ∨ r = false ∧ v = .nilFunc ∧ ∃ y : ByteArray, u = .iface 87 (.agg #[.string y]))) :
    Calls Tryz.prog 24 #[.pointer (some ⟨R, 0, none⟩), .agg #[.pointer (some ⟨pa, 0, none⟩), .pointer (some ⟨pb, 0, none⟩), .string x]] w fun e w' => Below w.heap.size w w' ∧ ∃ v u, e = .returned (.tuple #[v, u]) ∧ (r = true ∧ (∃ fn first cap, v = .func fn first cap) ∧ u = .nilIface ∨ r = false ∧ v = .nilFunc ∧ ∃ y : ByteArray, u = .iface 87 (.agg #[.string y])) := by
  have hb0 : Below w.heap.size w (w.alloc (.cells #[.pointer (some ⟨pa, 0, none⟩), .pointer (some ⟨pb, 0, none⟩), .string x] 43)) := (Below.refl _ _).alloc (Nat.le_refl _) _
  have ha' := (hb0.cell (p := ⟨pa, 0, none⟩) hla).trans ha
  have hb' := (hb0.cell (p := ⟨pb, 0, none⟩) hlb).trans hb
  have hT' := (hb0.cell (p := ⟨R, i * 7 + j, none⟩) hlR).trans hT
  have hq1 := Tryz.wfunc_nil
  have hq2 := Tryz.wfunc_eq
  have hi7 : (i : Int) < 7 := by omega
  have hj7 : (j : Int) < 7 := by omega
  have HC := hidF hC
  clear ha hb hT hC
  unfold widF at hT'
  go_enter Tryz.func24, Tryz.ntmps24
  go_wp2_with fail
  go_quiet (fail)
  go_wp2_with fail
  refine (HC.out _ (below_drewN hb0 _)).mono ?_
  rintro e w2 ⟨hb2, v, u, rfl, hvu⟩
  have HB : Hid (Below w.heap.size w w2) := below_step (below_drewN hb0 _) (below_drewN hb0 _).size hb2
  have HVU := hidF hvu
  clear hvu hb2
  go_wp2_with fail
  go_ret2
  exact ⟨HB.out, v, u, rfl, HVU.out⟩

set_option maxRecDepth 20000 in
set_option maxHeartbeats 1000000 in
theorem of_ofLists (R pa pb i j : Nat) (r : Bool) (x : ByteArray) (w : World) (h1 : 1 ≤ i) (h2 : i ≤ 6) (h3 : 1 ≤ j) (h4 : j ≤ 6) (ha : w.cell? ⟨pa, 0, none⟩ = some (.int .i64 (i : Int))) (hb : w.cell? ⟨pb, 0, none⟩ = some (.int .i64 (j : Int))) (hT : w.cell? ⟨R, i * 7 + j, none⟩ = some (widF R 44))
    (hla : pa < w.heap.size) (hlb : pb < w.heap.size) (hlR : R < w.heap.size)
    (hC : ∀ W, Below w.heap.size w W → Calls Tryz.prog 44 #[.pointer (some ⟨R, 0, none⟩), .agg #[.pointer (some ⟨pa, 0, none⟩), .pointer (some ⟨pb, 0, none⟩), .string x]] W fun e w' => Below W.heap.size W w' ∧ ∃ v u, e = .returned (.tuple #[v, u]) ∧ (r = true ∧ (∃ fn first cap, v = .func fn first cap) ∧ u = .nilIface ∨ r = false ∧ v = .nilFunc ∧ ∃ y : ByteArray, u = .iface 87 (.agg #[.string y]))) :
    Calls Tryz.prog 24 #[.pointer (some ⟨R, 0, none⟩), .agg #[.pointer (some ⟨pa, 0, none⟩), .pointer (some ⟨pb, 0, none⟩), .string x]] w fun e w' => Below w.heap.size w w' ∧ ∃ v u, e = .returned (.tuple #[v, u]) ∧ (r = true ∧ (∃ fn first cap, v = .func fn first cap) ∧ u = .nilIface ∨ r = false ∧ v = .nilFunc ∧ ∃ y : ByteArray, u = .iface 87 (.agg #[.string y])) := by
  have hb0 : Below w.heap.size w (w.alloc (.cells #[.pointer (some ⟨pa, 0, none⟩), .pointer (some ⟨pb, 0, none⟩), .string x] 43)) := (Below.refl _ _).alloc (Nat.le_refl _) _
  have ha' := (hb0.cell (p := ⟨pa, 0, none⟩) hla).trans ha
  have hb' := (hb0.cell (p := ⟨pb, 0, none⟩) hlb).trans hb
  have hT' := (hb0.cell (p := ⟨R, i * 7 + j, none⟩) hlR).trans hT
  have hq1 := Tryz.wfunc_nil
  have hq2 := Tryz.wfunc_eq
  have hi7 : (i : Int) < 7 := by omega
  have hj7 : (j : Int) < 7 := by omega
  have HC := hidF hC
  clear ha hb hT hC
  unfold widF at hT'
  go_enter Tryz.func24, Tryz.ntmps24
  go_wp2_with fail
  go_quiet (fail)
  go_wp2_with fail
  refine (HC.out _ (below_drewN hb0 _)).mono ?_
  rintro e w2 ⟨hb2, v, u, rfl, hvu⟩
  have HB : Hid (Below w.heap.size w w2) := below_step (below_drewN hb0 _) (below_drewN hb0 _).size hb2
  have HVU := hidF hvu
  clear hvu hb2
  go_wp2_with fail
  go_ret2
  exact ⟨HB.out, v, u, rfl, HVU.out⟩

set_option maxRecDepth 20000 in
set_option maxHeartbeats 1000000 in
theorem of_ofForms (R pa pb i j : Nat) (r : Bool) (x : ByteArray) (w : World) (h1 : 1 ≤ i) (h2 : i ≤ 6) (h3 : 1 ≤ j) (h4 : j ≤ 6) (ha : w.cell? ⟨pa, 0, none⟩ = some (.int .i64 (i : Int))) (hb : w.cell? ⟨pb, 0, none⟩ = some (.int .i64 (j : Int))) (hT : w.cell? ⟨R, i * 7 + j, none⟩ = some (widF R 45))
    (hla : pa < w.heap.size) (hlb : pb < w.heap.size) (hlR : R < w.heap.size)
    (hC : ∀ W, Below w.heap.size w W → Calls Tryz.prog 45 #[.pointer (some ⟨R, 0, none⟩), .agg #[.pointer (some ⟨pa, 0, none⟩), .pointer (some ⟨pb, 0, none⟩), .string x]] W fun e w' => Below W.heap.size W w' ∧ ∃ v u, e = .returned (.tuple #[v, u]) ∧ (r = true ∧ (∃ fn first cap, v = .func fn first cap) ∧ u = .nilIface ∨ r = false ∧ v = .nilFunc ∧ ∃ y : ByteArray, u = .iface 87 (.agg #[.string y]))) :
    Calls Tryz.prog 24 #[.pointer (some ⟨R, 0, none⟩), .agg #[.pointer (some ⟨pa, 0, none⟩), .pointer (some ⟨pb, 0, none⟩), .string x]] w fun e w' => Below w.heap.size w w' ∧ ∃ v u, e = .returned (.tuple #[v, u]) ∧ (r = true ∧ (∃ fn first cap, v = .func fn first cap) ∧ u = .nilIface ∨ r = false ∧ v = .nilFunc ∧ ∃ y : ByteArray, u = .iface 87 (.agg #[.string y])) := by
  have hb0 : Below w.heap.size w (w.alloc (.cells #[.pointer (some ⟨pa, 0, none⟩), .pointer (some ⟨pb, 0, none⟩), .string x] 43)) := (Below.refl _ _).alloc (Nat.le_refl _) _
  have ha' := (hb0.cell (p := ⟨pa, 0, none⟩) hla).trans ha
  have hb' := (hb0.cell (p := ⟨pb, 0, none⟩) hlb).trans hb
  have hT' := (hb0.cell (p := ⟨R, i * 7 + j, none⟩) hlR).trans hT
  have hq1 := Tryz.wfunc_nil
  have hq2 := Tryz.wfunc_eq
  have hi7 : (i : Int) < 7 := by omega
  have hj7 : (j : Int) < 7 := by omega
  have HC := hidF hC
  clear ha hb hT hC
  unfold widF at hT'
  go_enter Tryz.func24, Tryz.ntmps24
  go_wp2_with fail
  go_quiet (fail)
  go_wp2_with fail
  refine (HC.out _ (below_drewN hb0 _)).mono ?_
  rintro e w2 ⟨hb2, v, u, rfl, hvu⟩
  have HB : Hid (Below w.heap.size w w2) := below_step (below_drewN hb0 _) (below_drewN hb0 _).size hb2
  have HVU := hidF hvu
  clear hvu hb2
  go_wp2_with fail
  go_ret2
  exact ⟨HB.out, v, u, rfl, HVU.out⟩

set_option maxRecDepth 20000 in
set_option maxHeartbeats 1000000 in
theorem of_intoMaybe (R pa pb i j : Nat) (r : Bool) (x : ByteArray) (w : World) (h1 : 1 ≤ i) (h2 : i ≤ 6) (h3 : 1 ≤ j) (h4 : j ≤ 6) (ha : w.cell? ⟨pa, 0, none⟩ = some (.int .i64 (i : Int))) (hb : w.cell? ⟨pb, 0, none⟩ = some (.int .i64 (j : Int))) (hT : w.cell? ⟨R, i * 7 + j, none⟩ = some (widF R 46))
    (hla : pa < w.heap.size) (hlb : pb < w.heap.size) (hlR : R < w.heap.size)
    (hC : ∀ W, Below w.heap.size w W → Calls Tryz.prog 46 #[.pointer (some ⟨R, 0, none⟩), .agg #[.pointer (some ⟨pa, 0, none⟩), .pointer (some ⟨pb, 0, none⟩), .string x]] W fun e w' => Below W.heap.size W w' ∧ ∃ v u, e = .returned (.tuple #[v, u]) ∧ (r = true ∧ (∃ fn first cap, v = .func fn first cap) ∧ u = .nilIface ∨ r = false ∧ v = .nilFunc ∧ ∃ y : ByteArray, u = .iface 87 (.agg #[.string y]))) :
    Calls Tryz.prog 24 #[.pointer (some ⟨R, 0, none⟩), .agg #[.pointer (some ⟨pa, 0, none⟩), .pointer (some ⟨pb, 0, none⟩), .string x]] w fun e w' => Below w.heap.size w w' ∧ ∃ v u, e = .returned (.tuple #[v, u]) ∧ (r = true ∧ (∃ fn first cap, v = .func fn first cap) ∧ u = .nilIface ∨ r = false ∧ v = .nilFunc ∧ ∃ y : ByteArray, u = .iface 87 (.agg #[.string y])) := by
  have hb0 : Below w.heap.size w (w.alloc (.cells #[.pointer (some ⟨pa, 0, none⟩), .pointer (some ⟨pb, 0, none⟩), .string x] 43)) := (Below.refl _ _).alloc (Nat.le_refl _) _
  have ha' := (hb0.cell (p := ⟨pa, 0, none⟩) hla).trans ha
  have hb' := (hb0.cell (p := ⟨pb, 0, none⟩) hlb).trans hb
  have hT' := (hb0.cell (p := ⟨R, i * 7 + j, none⟩) hlR).trans hT
  have hq1 := Tryz.wfunc_nil
  have hq2 := Tryz.wfunc_eq
  have hi7 : (i : Int) < 7 := by omega
  have hj7 : (j : Int) < 7 := by omega
  have HC := hidF hC
  clear ha hb hT hC
  unfold widF at hT'
  go_enter Tryz.func24, Tryz.ntmps24
  go_wp2_with fail
  go_quiet (fail)
  go_wp2_with fail
  refine (HC.out _ (below_drewN hb0 _)).mono ?_
  rintro e w2 ⟨hb2, v, u, rfl, hvu⟩
  have HB : Hid (Below w.heap.size w w2) := below_step (below_drewN hb0 _) (below_drewN hb0 _).size hb2
  have HVU := hidF hvu
  clear hvu hb2
  go_wp2_with fail
  go_ret2
  exact ⟨HB.out, v, u, rfl, HVU.out⟩

set_option maxRecDepth 20000 in
set_option maxHeartbeats 1000000 in
theorem of_ofMaybes (R pa pb i j : Nat) (r : Bool) (x : ByteArray) (w : World) (h1 : 1 ≤ i) (h2 : i ≤ 6) (h3 : 1 ≤ j) (h4 : j ≤ 6) (ha : w.cell? ⟨pa, 0, none⟩ = some (.int .i64 (i : Int))) (hb : w.cell? ⟨pb, 0, none⟩ = some (.int .i64 (j : Int))) (hT : w.cell? ⟨R, i * 7 + j, none⟩ = some (widF R 47))
    (hla : pa < w.heap.size) (hlb : pb < w.heap.size) (hlR : R < w.heap.size)
    (hC : ∀ W, Below w.heap.size w W → Calls Tryz.prog 47 #[.pointer (some ⟨R, 0, none⟩), .agg #[.pointer (some ⟨pa, 0, none⟩), .pointer (some ⟨pb, 0, none⟩), .string x]] W fun e w' => Below W.heap.size W w' ∧ ∃ v u, e = .returned (.tuple #[v, u]) ∧ (r = true ∧ (∃ fn first cap, v = .func fn first cap) ∧ u = .nilIface ∨ r = false ∧ v = .nilFunc ∧ ∃ y : ByteArray, u = .iface 87 (.agg #[.string y]))) :
    Calls Tryz.prog 24 #[.pointer (some ⟨R, 0, none⟩), .agg #[.pointer (some ⟨pa, 0, none⟩), .pointer (some ⟨pb, 0, none⟩), .string x]] w fun e w' => Below w.heap.size w w' ∧ ∃ v u, e = .returned (.tuple #[v, u]) ∧ (r = true ∧ (∃ fn first cap, v = .func fn first cap) ∧ u = .nilIface ∨ r = false ∧ v = .nilFunc ∧ ∃ y : ByteArray, u = .iface 87 (.agg #[.string y])) := by
  have hb0 : Below w.heap.size w (w.alloc (.cells #[.pointer (some ⟨pa, 0, none⟩), .pointer (some ⟨pb, 0, none⟩), .string x] 43)) := (Below.refl _ _).alloc (Nat.le_refl _) _
  have ha' := (hb0.cell (p := ⟨pa, 0, none⟩) hla).trans ha
  have hb' := (hb0.cell (p := ⟨pb, 0, none⟩) hlb).trans hb
  have hT' := (hb0.cell (p := ⟨R, i * 7 + j, none⟩) hlR).trans hT
  have hq1 := Tryz.wfunc_nil
  have hq2 := Tryz.wfunc_eq
  have hi7 : (i : Int) < 7 := by omega
  have hj7 : (j : Int) < 7 := by omega
  have HC := hidF hC
  clear ha hb hT hC
  unfold widF at hT'
  go_enter Tryz.func24, Tryz.ntmps24
  go_wp2_with fail
  go_quiet (fail)
  go_wp2_with fail
  refine (HC.out _ (below_drewN hb0 _)).mono ?_
  rintro e w2 ⟨hb2, v, u, rfl, hvu⟩
  have HB : Hid (Below w.heap.size w w2) := below_step (below_drewN hb0 _) (below_drewN hb0 _).size hb2
  have HVU := hidF hvu
  clear hvu hb2
  go_wp2_with fail
  go_ret2
  exact ⟨HB.out, v, u, rfl, HVU.out⟩

end Go.Proofs.YthcdeahobjhkbaaGreatDoor

/-
  The program's widenings: what ofLists makes.
-/
namespace Go.Proofs.YthcdeahobjhkbaaGreatDoor
open Go.RowKit

set_option maxRecDepth 20000 in
set_option maxHeartbeats 4000000 in
theorem ofLists_any (m n : Nat) (hm : FitSaid m) (S : Nat → Prop) (a : K (n + 1)) (b : K (m + 1)) (va vb : Value) (d d' : Int) (R : Nat) (x : ByteArray) (w : World) (ha : InnerK S w (n + 1) a va) (hb : InnerK S w (m + 1) b vb) (hB : ∀ b, S b → b < w.heap.size) (hT : TabW w R) (hR : R < w.heap.size)
    (hga : goodK (n + 1) a d = true) (hgb : goodK (m + 1) b d' = true) (hc40 : cntK (m + 1) b ≤ 40) (hd : 1 ≤ d') (hx : (x.size : Int) ≤ 20 * d') (sa : Kd.sort a = 4) (sb : Kd.sort b = 4) :
    Calls Tryz.prog 44 #[.pointer (some ⟨R, 0, none⟩), .agg #[va, vb, .string x]] w fun e w' => Below w.heap.size w w' ∧ FitEnd (m + 1) b (n + 1) a e := by
  have hd6 : d' ≤ 6 := by simp only [goodK, Bool.and_eq_true, decide_eq_true_eq] at hgb; exact hgb.1.1
  have hs2 : (⟨#[91, 93]⟩ : ByteArray).size = 2 := rfl
  have hgka : ∀ k, k ∈ Kd.kids a → goodK n k (d + 1) = true := by simp only [goodK, Bool.and_eq_true] at hga; exact List.all_eq_true.1 hga.2
  have hgkb : ∀ k, k ∈ Kd.kids b → goodK m k (d' + 1) = true := by simp only [goodK, Bool.and_eq_true] at hgb; exact List.all_eq_true.1 hgb.2
  obtain ⟨ka, hka⟩ : ∃ ka, Kd.kids a = [ka] := by
    rcases goodK_kids hga with ⟨h, -⟩ | ⟨-, -, h⟩ | ⟨h, -⟩
    · omega
    · exact h
    · omega
  obtain ⟨kb, hkb⟩ : ∃ kb, Kd.kids b = [kb] := by
    rcases goodK_kids hgb with ⟨h, -⟩ | ⟨-, -, h⟩ | ⟨h, -⟩
    · omega
    · exact h
    · omega
  have HF : Hid (fitsK (m + 1) b (n + 1) a = fitsK m kb n ka) := fitsK_ll sb sa hkb hka
  have hgA := hgka ka (by rw [hka]; exact List.mem_cons_self ..)
  have hgB := hgkb kb (by rw [hkb]; exact List.mem_cons_self ..)
  have hcB := cnt_kid hc40 (by rw [hkb]; exact List.mem_cons_self .. : kb ∈ Kd.kids b)
  obtain ⟨pa, nva, pva, kva, rfl, hSa, hca, -, -, hra⟩ := ha
  rw [hka] at hra
  obtain ⟨aoa, capa, rfl, -, hra⟩ := hra
  obtain ⟨ga, oa, rfl, hSga, hra⟩ := hra (by simp)
  obtain ⟨ca, ea, hia⟩ := hra 0 (by simp)
  simp only [List.getElem_cons_zero] at hia
  obtain ⟨qa, rfl, -⟩ := id hia.ptr
  have hla := hB pa hSa
  have hlga := hB ga hSga
  obtain ⟨pb, nvb, pvb, kvb, rfl, hSb, hcb, -, -, hrb⟩ := hb
  rw [hkb] at hrb
  obtain ⟨aob, capb, rfl, -, hrb⟩ := hrb
  obtain ⟨gb, ob, rfl, hSgb, hrb⟩ := hrb (by simp)
  obtain ⟨cb, eb, hib⟩ := hrb 0 (by simp)
  simp only [List.getElem_cons_zero] at hib
  obtain ⟨qb, rfl, -⟩ := id hib.ptr
  have hlb := hB pb hSb
  have hlgb := hB gb hSgb
  have HWa : Hid (∀ W, Below w.heap.size w W → Calls Tryz.prog 55 #[.pointer (some ⟨pa, 0, none⟩)] W fun e w' => e = .returned (.pointer (some ⟨qa, 0, none⟩)) ∧ w' = W) := fun W hW =>
    within_any W pa ga oa 0 capa qa ((hW.cell (p := ⟨pa, 3, none⟩) hla).trans (by simp [World.cell?, hca])) ((hW.cell (p := ⟨ga, oa, none⟩) hlga).trans (by simpa using ea)) (by omega)
  have HWb : Hid (∀ W, Below w.heap.size w W → Calls Tryz.prog 55 #[.pointer (some ⟨pb, 0, none⟩)] W fun e w' => e = .returned (.pointer (some ⟨qb, 0, none⟩)) ∧ w' = W) := fun W hW =>
    within_any W pb gb ob 0 capb qb ((hW.cell (p := ⟨pb, 3, none⟩) hlb).trans (by simp [World.cell?, hcb])) ((hW.cell (p := ⟨gb, ob, none⟩) hlgb).trans (by simpa using eb)) (by omega)
  have HBe : Hid (∀ W, Below w.heap.size w W → (W.cell? ⟨w.heap.size, 0, none⟩ = some (.pointer (some ⟨pa, 0, none⟩)) ∧ W.cell? ⟨w.heap.size, 1, none⟩ = some (.pointer (some ⟨pb, 0, none⟩)) ∧ W.cell? ⟨w.heap.size, 2, none⟩ = some (.string x)) → Calls Tryz.prog 54 #[.agg #[.pointer (some ⟨pa, 0, none⟩), .pointer (some ⟨pb, 0, none⟩), .string x], .string ⟨#[91, 93]⟩, .pointer (some ⟨qa, 0, none⟩), .pointer (some ⟨qb, 0, none⟩)] W fun e w' => e = .returned (.agg #[.pointer (some ⟨qa, 0, none⟩), .pointer (some ⟨qb, 0, none⟩), .string (pathTo x ⟨#[91, 93]⟩)]) ∧ Below w.heap.size w w' ∧ Below W.heap.size W w' ∧ (w'.cell? ⟨w.heap.size, 0, none⟩ = some (.pointer (some ⟨pa, 0, none⟩)) ∧ w'.cell? ⟨w.heap.size, 1, none⟩ = some (.pointer (some ⟨pb, 0, none⟩)) ∧ w'.cell? ⟨w.heap.size, 2, none⟩ = some (.string x))) := fun W hW hP =>
    (below_any x _ _ _ _ _ W (by omega)).mono fun e w' h => ⟨h.1, below_step hW hW.size h.2, h.2, pair_kept hP h.2⟩
  have HOf : Hid (∀ W, Below w.heap.size w W → Calls Tryz.prog 24 #[.pointer (some ⟨R, 0, none⟩), .agg #[.pointer (some ⟨qa, 0, none⟩), .pointer (some ⟨qb, 0, none⟩), .string (pathTo x ⟨#[91, 93]⟩)]] W fun e w' => (Below w.heap.size w w' ∧ Below W.heap.size W w') ∧ FitEnd m kb n ka e) := fun W hW =>
    (hm S n ka kb _ _ (d + 1) (d' + 1) R _ W (hia.keep (same_below hW hB) (fun _ h => h)) (hib.keep (same_below hW hB) (fun _ h => h)) (fun b hb => Nat.lt_of_lt_of_le (hB b hb) hW.size) (hT.keep (hW.block R hR)) (Nat.lt_of_lt_of_le hR hW.size) hgA hgB hcB (by omega) (by rw [pathTo_size]; omega)).mono fun e w' h => ⟨⟨below_step hW hW.size h.1, h.1⟩, h.2⟩
  generalize pathTo x ⟨#[91, 93]⟩ = y at *
  have hst : ∀ (a : Addr) (md : Mode) (fn : Fn) (first cap : Array Value) (w : World), (store a (.func fn first cap) md).run Tryz.prog w = stored Tryz.prog w a (.func fn first cap) md := fun a md _ _ _ w => run_store _ w a _ md rfl
  have hstN : ∀ (a : Addr) (md : Mode) (w : World), (store a .nilFunc md).run Tryz.prog w = stored Tryz.prog w a .nilFunc md := fun a md w => run_store _ w a _ md rfl
  have hmf : ∀ (fn : Fn) (first cap : Array Value) (w : World), (Instr.makeFunc fn first cap).run Tryz.prog w = .ok (.func fn first cap) w := fun _ _ _ _ => rfl
  have hbA : Below w.heap.size w (w.alloc (.cells #[.pointer (some ⟨pa, 0, none⟩), .pointer (some ⟨pb, 0, none⟩), .string x] 43)).drew := ((Below.refl _ _).alloc (Nat.le_refl _) _).drew
  clear hm hT hga hgb hgkb hkb hgB hrb hib eb hcb hgka hka hgA hra hia ea hca
  cases hfit : fitsK m kb n ka
  · have HOf : Hid (∀ W, Below w.heap.size w W → (W.cell? ⟨w.heap.size, 0, none⟩ = some (.pointer (some ⟨pa, 0, none⟩)) ∧ W.cell? ⟨w.heap.size, 1, none⟩ = some (.pointer (some ⟨pb, 0, none⟩)) ∧ W.cell? ⟨w.heap.size, 2, none⟩ = some (.string x)) → Calls Tryz.prog 24 #[.pointer (some ⟨R, 0, none⟩), .agg #[.pointer (some ⟨qa, 0, none⟩), .pointer (some ⟨qb, 0, none⟩), .string y]] W fun e w' => (Below w.heap.size w w' ∧ Below W.heap.size W w' ∧ (w'.cell? ⟨w.heap.size, 0, none⟩ = some (.pointer (some ⟨pa, 0, none⟩)) ∧ w'.cell? ⟨w.heap.size, 1, none⟩ = some (.pointer (some ⟨pb, 0, none⟩)) ∧ w'.cell? ⟨w.heap.size, 2, none⟩ = some (.string x))) ∧ ∃ z : ByteArray, e = .returned (.tuple #[.nilFunc, .iface 87 (.agg #[.string z])])) := fun W hW hP => (HOf.out W hW).mono fun e w' h => ⟨⟨h.1.1, h.1.2, pair_kept hP h.1.2⟩, h.2.elim (fun h => by rw [hfit] at h; exact absurd h.1 (by simp)) (fun h => h.2)⟩
    have HF : Hid (fitsK (m + 1) b (n + 1) a = false) := HF.out.trans hfit
    clear hfit
    go_enter Tryz.func44, Tryz.ntmps44
    go_upto_region 1 with fail
    go_region_held (fun w' => w'.cell? ⟨w.heap.size, 0, none⟩ = some (.pointer (some ⟨pa, 0, none⟩)) ∧ w'.cell? ⟨w.heap.size, 1, none⟩ = some (.pointer (some ⟨pb, 0, none⟩)) ∧ w'.cell? ⟨w.heap.size, 2, none⟩ = some (.string x)) (first | with_reducible assumption | (with_reducible refine pair_alloc ?_; with_reducible assumption) | (with_reducible refine pair_set (by assumption) ?_; first | with_reducible assumption | omega) | (with_reducible refine pair_set (pair_alloc (by assumption)) ?_; first | with_reducible assumption | omega) | (refine ⟨?_, ?_, ?_⟩ <;> go_keep)) (first
      | (go_at_call_of 55 (Value.pointer (some ⟨pa, 0, none⟩)); refine (HWa.out _ ?_).mono ?_; (first | with_reducible assumption | (with_reducible refine below_alloc ?_ _; with_reducible assumption) | (with_reducible refine below_allocD ?_ _; with_reducible assumption)); rintro e w7 ⟨rfl, rfl⟩)
      | (go_at_call_of 55 (Value.pointer (some ⟨pb, 0, none⟩)); refine (HWb.out _ ?_).mono ?_; (first | with_reducible assumption | (with_reducible refine below_alloc ?_ _; with_reducible assumption) | (with_reducible refine below_allocD ?_ _; with_reducible assumption)); rintro e w8 ⟨rfl, rfl⟩)
      | (go_at_call 54; refine (HBe.out _ ?_ ?_).mono ?_; (first | with_reducible assumption | (with_reducible refine below_alloc ?_ _; with_reducible assumption) | (with_reducible refine below_allocD ?_ _; with_reducible assumption)); (first | assumption | simp [*]); rintro e w9 ⟨rfl, hb9, hc9, hp9⟩; have hne9 := World.new_ne w9 ⟨w.heap.size, 0, none⟩ hp9.1; first | ((with_reducible (have hk9 := kept_new hc9)); obtain ⟨k91, k92, k93⟩ := id hk9) | ((with_reducible (have hk9 := kept_newD hc9)); simp at hk9; obtain ⟨k91, k92, k93⟩ := id hk9) | skip)
      | (go_at_call 24; refine (HOf.out _ ?_ ?_).mono ?_; (first | with_reducible assumption | (with_reducible refine below_alloc ?_ _; with_reducible assumption) | (with_reducible refine below_allocD ?_ _; with_reducible assumption)); (first | assumption | simp [*]); rintro e w10 ⟨⟨hb10, hc10, hp10⟩, z, rfl⟩; have hne10 := World.new_ne w10 ⟨w.heap.size, 0, none⟩ hp10.1; first | ((with_reducible (have hk10 := kept_new hc10)); obtain ⟨ka1, ka2, ka3⟩ := id hk10) | ((with_reducible (have hk10 := kept_more (by assumption) hc10)); obtain ⟨ka1, ka2, ka3⟩ := id hk10) | skip))
    all_goals
      go_wp2_with fail
      go_ret2
      refine ⟨?_, .inr ⟨HF.out, _, rfl⟩⟩
      first | with_reducible exact hb10 | with_reducible exact below_alloc hb10 _ | ((with_reducible refine Below.setCell hb10 ?_ _); have h9 := hb9.size; first | exact h9 | exact Nat.le_succ _) | (with_reducible refine Below.setCell (below_alloc hb10 _) ?_ _; have := hb10.size; omega)
  · have HOf : Hid (∀ W, Below w.heap.size w W → (W.cell? ⟨w.heap.size, 0, none⟩ = some (.pointer (some ⟨pa, 0, none⟩)) ∧ W.cell? ⟨w.heap.size, 1, none⟩ = some (.pointer (some ⟨pb, 0, none⟩)) ∧ W.cell? ⟨w.heap.size, 2, none⟩ = some (.string x)) → Calls Tryz.prog 24 #[.pointer (some ⟨R, 0, none⟩), .agg #[.pointer (some ⟨qa, 0, none⟩), .pointer (some ⟨qb, 0, none⟩), .string y]] W fun e w' => (Below w.heap.size w w' ∧ Below W.heap.size W w' ∧ (w'.cell? ⟨w.heap.size, 0, none⟩ = some (.pointer (some ⟨pa, 0, none⟩)) ∧ w'.cell? ⟨w.heap.size, 1, none⟩ = some (.pointer (some ⟨pb, 0, none⟩)) ∧ w'.cell? ⟨w.heap.size, 2, none⟩ = some (.string x))) ∧ ∃ fn first cap, e = .returned (.tuple #[.func fn first cap, .nilIface])) := fun W hW hP => (HOf.out W hW).mono fun e w' h => ⟨⟨h.1.1, h.1.2, pair_kept hP h.1.2⟩, h.2.elim (fun h => h.2) (fun h => by rw [hfit] at h; exact absurd h.1 (by simp))⟩
    have HF : Hid (fitsK (m + 1) b (n + 1) a = true) := HF.out.trans hfit
    clear hfit
    go_enter Tryz.func44, Tryz.ntmps44
    go_upto_region 1 with fail
    go_region_held (fun w' => w'.cell? ⟨w.heap.size, 0, none⟩ = some (.pointer (some ⟨pa, 0, none⟩)) ∧ w'.cell? ⟨w.heap.size, 1, none⟩ = some (.pointer (some ⟨pb, 0, none⟩)) ∧ w'.cell? ⟨w.heap.size, 2, none⟩ = some (.string x)) (first | with_reducible assumption | (with_reducible refine pair_alloc ?_; with_reducible assumption) | (with_reducible refine pair_set (by assumption) ?_; first | with_reducible assumption | omega) | (with_reducible refine pair_set (pair_alloc (by assumption)) ?_; first | with_reducible assumption | omega) | (refine ⟨?_, ?_, ?_⟩ <;> go_keep)) (first
      | (go_at_call_of 55 (Value.pointer (some ⟨pa, 0, none⟩)); refine (HWa.out _ ?_).mono ?_; (first | with_reducible assumption | (with_reducible refine below_alloc ?_ _; with_reducible assumption) | (with_reducible refine below_allocD ?_ _; with_reducible assumption)); rintro e w7 ⟨rfl, rfl⟩)
      | (go_at_call_of 55 (Value.pointer (some ⟨pb, 0, none⟩)); refine (HWb.out _ ?_).mono ?_; (first | with_reducible assumption | (with_reducible refine below_alloc ?_ _; with_reducible assumption) | (with_reducible refine below_allocD ?_ _; with_reducible assumption)); rintro e w8 ⟨rfl, rfl⟩)
      | (go_at_call 54; refine (HBe.out _ ?_ ?_).mono ?_; (first | with_reducible assumption | (with_reducible refine below_alloc ?_ _; with_reducible assumption) | (with_reducible refine below_allocD ?_ _; with_reducible assumption)); (first | assumption | simp [*]); rintro e w9 ⟨rfl, hb9, hc9, hp9⟩; have hne9 := World.new_ne w9 ⟨w.heap.size, 0, none⟩ hp9.1; first | ((with_reducible (have hk9 := kept_new hc9)); obtain ⟨k91, k92, k93⟩ := id hk9) | ((with_reducible (have hk9 := kept_newD hc9)); simp at hk9; obtain ⟨k91, k92, k93⟩ := id hk9) | skip)
      | (go_at_call 24; refine (HOf.out _ ?_ ?_).mono ?_; (first | with_reducible assumption | (with_reducible refine below_alloc ?_ _; with_reducible assumption) | (with_reducible refine below_allocD ?_ _; with_reducible assumption)); (first | assumption | simp [*]); rintro e w10 ⟨⟨hb10, hc10, hp10⟩, fn, first, cap, rfl⟩; have hne10 := World.new_ne w10 ⟨w.heap.size, 0, none⟩ hp10.1; first | ((with_reducible (have hk10 := kept_new hc10)); obtain ⟨ka1, ka2, ka3⟩ := id hk10) | ((with_reducible (have hk10 := kept_more (by assumption) hc10)); obtain ⟨ka1, ka2, ka3⟩ := id hk10) | skip))
    all_goals
      go_wp2_with fail
      go_ret2
      refine ⟨?_, .inl ⟨HF.out, _, _, _, rfl⟩⟩
      first | with_reducible exact hb10 | with_reducible exact below_alloc hb10 _ | ((with_reducible refine Below.setCell hb10 ?_ _); have h9 := hb9.size; first | exact h9 | exact Nat.le_succ _) | (with_reducible refine Below.setCell (below_alloc hb10 _) ?_ _; have := hb10.size; omega)

end Go.Proofs.YthcdeahobjhkbaaGreatDoor

/-
  The program's widenings: what ofMaybes makes.
-/
namespace Go.Proofs.YthcdeahobjhkbaaGreatDoor
open Go.RowKit

set_option maxRecDepth 20000 in
set_option maxHeartbeats 4000000 in
theorem ofMaybes_any (m n : Nat) (hm : FitSaid m) (S : Nat → Prop) (a : K (n + 1)) (b : K (m + 1)) (va vb : Value) (d d' : Int) (R : Nat) (x : ByteArray) (w : World) (ha : InnerK S w (n + 1) a va) (hb : InnerK S w (m + 1) b vb) (hB : ∀ b, S b → b < w.heap.size) (hT : TabW w R) (hR : R < w.heap.size)
    (hga : goodK (n + 1) a d = true) (hgb : goodK (m + 1) b d' = true) (hc40 : cntK (m + 1) b ≤ 40) (hd : 1 ≤ d') (hx : (x.size : Int) ≤ 20 * d') (sa : Kd.sort a = 6) (sb : Kd.sort b = 6) :
    Calls Tryz.prog 47 #[.pointer (some ⟨R, 0, none⟩), .agg #[va, vb, .string x]] w fun e w' => Below w.heap.size w w' ∧ FitEnd (m + 1) b (n + 1) a e := by
  have hd6 : d' ≤ 6 := by simp only [goodK, Bool.and_eq_true, decide_eq_true_eq] at hgb; exact hgb.1.1
  have hs2 : (⟨#[63]⟩ : ByteArray).size = 1 := rfl
  have hgka : ∀ k, k ∈ Kd.kids a → goodK n k (d + 1) = true := by simp only [goodK, Bool.and_eq_true] at hga; exact List.all_eq_true.1 hga.2
  have hgkb : ∀ k, k ∈ Kd.kids b → goodK m k (d' + 1) = true := by simp only [goodK, Bool.and_eq_true] at hgb; exact List.all_eq_true.1 hgb.2
  obtain ⟨ka, hka⟩ : ∃ ka, Kd.kids a = [ka] := by
    rcases goodK_kids hga with ⟨h, -⟩ | ⟨-, -, h⟩ | ⟨h, -⟩
    · omega
    · exact h
    · omega
  obtain ⟨kb, hkb⟩ : ∃ kb, Kd.kids b = [kb] := by
    rcases goodK_kids hgb with ⟨h, -⟩ | ⟨-, -, h⟩ | ⟨h, -⟩
    · omega
    · exact h
    · omega
  have HF : Hid (fitsK (m + 1) b (n + 1) a = fitsK m kb n ka) := fitsK_mm sb sa hkb hka
  have hgA := hgka ka (by rw [hka]; exact List.mem_cons_self ..)
  have hgB := hgkb kb (by rw [hkb]; exact List.mem_cons_self ..)
  have hcB := cnt_kid hc40 (by rw [hkb]; exact List.mem_cons_self .. : kb ∈ Kd.kids b)
  obtain ⟨pa, nva, pva, kva, rfl, hSa, hca, -, -, hra⟩ := ha
  rw [hka] at hra
  obtain ⟨aoa, capa, rfl, -, hra⟩ := hra
  obtain ⟨ga, oa, rfl, hSga, hra⟩ := hra (by simp)
  obtain ⟨ca, ea, hia⟩ := hra 0 (by simp)
  simp only [List.getElem_cons_zero] at hia
  obtain ⟨qa, rfl, -⟩ := id hia.ptr
  have hla := hB pa hSa
  have hlga := hB ga hSga
  obtain ⟨pb, nvb, pvb, kvb, rfl, hSb, hcb, -, -, hrb⟩ := hb
  rw [hkb] at hrb
  obtain ⟨aob, capb, rfl, -, hrb⟩ := hrb
  obtain ⟨gb, ob, rfl, hSgb, hrb⟩ := hrb (by simp)
  obtain ⟨cb, eb, hib⟩ := hrb 0 (by simp)
  simp only [List.getElem_cons_zero] at hib
  obtain ⟨qb, rfl, -⟩ := id hib.ptr
  have hlb := hB pb hSb
  have hlgb := hB gb hSgb
  have HWa : Hid (∀ W, Below w.heap.size w W → Calls Tryz.prog 55 #[.pointer (some ⟨pa, 0, none⟩)] W fun e w' => e = .returned (.pointer (some ⟨qa, 0, none⟩)) ∧ w' = W) := fun W hW =>
    within_any W pa ga oa 0 capa qa ((hW.cell (p := ⟨pa, 3, none⟩) hla).trans (by simp [World.cell?, hca])) ((hW.cell (p := ⟨ga, oa, none⟩) hlga).trans (by simpa using ea)) (by omega)
  have HWb : Hid (∀ W, Below w.heap.size w W → Calls Tryz.prog 55 #[.pointer (some ⟨pb, 0, none⟩)] W fun e w' => e = .returned (.pointer (some ⟨qb, 0, none⟩)) ∧ w' = W) := fun W hW =>
    within_any W pb gb ob 0 capb qb ((hW.cell (p := ⟨pb, 3, none⟩) hlb).trans (by simp [World.cell?, hcb])) ((hW.cell (p := ⟨gb, ob, none⟩) hlgb).trans (by simpa using eb)) (by omega)
  have HBe : Hid (∀ W, Below w.heap.size w W → (W.cell? ⟨w.heap.size, 0, none⟩ = some (.pointer (some ⟨pa, 0, none⟩)) ∧ W.cell? ⟨w.heap.size, 1, none⟩ = some (.pointer (some ⟨pb, 0, none⟩)) ∧ W.cell? ⟨w.heap.size, 2, none⟩ = some (.string x)) → Calls Tryz.prog 54 #[.agg #[.pointer (some ⟨pa, 0, none⟩), .pointer (some ⟨pb, 0, none⟩), .string x], .string ⟨#[63]⟩, .pointer (some ⟨qa, 0, none⟩), .pointer (some ⟨qb, 0, none⟩)] W fun e w' => e = .returned (.agg #[.pointer (some ⟨qa, 0, none⟩), .pointer (some ⟨qb, 0, none⟩), .string (pathTo x ⟨#[63]⟩)]) ∧ Below w.heap.size w w' ∧ Below W.heap.size W w' ∧ (w'.cell? ⟨w.heap.size, 0, none⟩ = some (.pointer (some ⟨pa, 0, none⟩)) ∧ w'.cell? ⟨w.heap.size, 1, none⟩ = some (.pointer (some ⟨pb, 0, none⟩)) ∧ w'.cell? ⟨w.heap.size, 2, none⟩ = some (.string x))) := fun W hW hP =>
    (below_any x _ _ _ _ _ W (by omega)).mono fun e w' h => ⟨h.1, below_step hW hW.size h.2, h.2, pair_kept hP h.2⟩
  have HOf : Hid (∀ W, Below w.heap.size w W → Calls Tryz.prog 24 #[.pointer (some ⟨R, 0, none⟩), .agg #[.pointer (some ⟨qa, 0, none⟩), .pointer (some ⟨qb, 0, none⟩), .string (pathTo x ⟨#[63]⟩)]] W fun e w' => (Below w.heap.size w w' ∧ Below W.heap.size W w') ∧ FitEnd m kb n ka e) := fun W hW =>
    (hm S n ka kb _ _ (d + 1) (d' + 1) R _ W (hia.keep (same_below hW hB) (fun _ h => h)) (hib.keep (same_below hW hB) (fun _ h => h)) (fun b hb => Nat.lt_of_lt_of_le (hB b hb) hW.size) (hT.keep (hW.block R hR)) (Nat.lt_of_lt_of_le hR hW.size) hgA hgB hcB (by omega) (by rw [pathTo_size]; omega)).mono fun e w' h => ⟨⟨below_step hW hW.size h.1, h.1⟩, h.2⟩
  generalize pathTo x ⟨#[63]⟩ = y at *
  have hst : ∀ (a : Addr) (md : Mode) (fn : Fn) (first cap : Array Value) (w : World), (store a (.func fn first cap) md).run Tryz.prog w = stored Tryz.prog w a (.func fn first cap) md := fun a md _ _ _ w => run_store _ w a _ md rfl
  have hstN : ∀ (a : Addr) (md : Mode) (w : World), (store a .nilFunc md).run Tryz.prog w = stored Tryz.prog w a .nilFunc md := fun a md w => run_store _ w a _ md rfl
  have hmf : ∀ (fn : Fn) (first cap : Array Value) (w : World), (Instr.makeFunc fn first cap).run Tryz.prog w = .ok (.func fn first cap) w := fun _ _ _ _ => rfl
  have hbA : Below w.heap.size w (w.alloc (.cells #[.pointer (some ⟨pa, 0, none⟩), .pointer (some ⟨pb, 0, none⟩), .string x] 43)).drew := ((Below.refl _ _).alloc (Nat.le_refl _) _).drew
  clear hm hT hga hgb hgkb hkb hgB hrb hib eb hcb hgka hka hgA hra hia ea hca
  cases hfit : fitsK m kb n ka
  · have HOf : Hid (∀ W, Below w.heap.size w W → (W.cell? ⟨w.heap.size, 0, none⟩ = some (.pointer (some ⟨pa, 0, none⟩)) ∧ W.cell? ⟨w.heap.size, 1, none⟩ = some (.pointer (some ⟨pb, 0, none⟩)) ∧ W.cell? ⟨w.heap.size, 2, none⟩ = some (.string x)) → Calls Tryz.prog 24 #[.pointer (some ⟨R, 0, none⟩), .agg #[.pointer (some ⟨qa, 0, none⟩), .pointer (some ⟨qb, 0, none⟩), .string y]] W fun e w' => (Below w.heap.size w w' ∧ Below W.heap.size W w' ∧ (w'.cell? ⟨w.heap.size, 0, none⟩ = some (.pointer (some ⟨pa, 0, none⟩)) ∧ w'.cell? ⟨w.heap.size, 1, none⟩ = some (.pointer (some ⟨pb, 0, none⟩)) ∧ w'.cell? ⟨w.heap.size, 2, none⟩ = some (.string x))) ∧ ∃ z : ByteArray, e = .returned (.tuple #[.nilFunc, .iface 87 (.agg #[.string z])])) := fun W hW hP => (HOf.out W hW).mono fun e w' h => ⟨⟨h.1.1, h.1.2, pair_kept hP h.1.2⟩, h.2.elim (fun h => by rw [hfit] at h; exact absurd h.1 (by simp)) (fun h => h.2)⟩
    have HF : Hid (fitsK (m + 1) b (n + 1) a = false) := HF.out.trans hfit
    clear hfit
    go_enter Tryz.func47, Tryz.ntmps47
    go_upto_region 1 with fail
    go_region_held (fun w' => w'.cell? ⟨w.heap.size, 0, none⟩ = some (.pointer (some ⟨pa, 0, none⟩)) ∧ w'.cell? ⟨w.heap.size, 1, none⟩ = some (.pointer (some ⟨pb, 0, none⟩)) ∧ w'.cell? ⟨w.heap.size, 2, none⟩ = some (.string x)) (first | with_reducible assumption | (with_reducible refine pair_alloc ?_; with_reducible assumption) | (with_reducible refine pair_set (by assumption) ?_; first | with_reducible assumption | omega) | (with_reducible refine pair_set (pair_alloc (by assumption)) ?_; first | with_reducible assumption | omega) | (refine ⟨?_, ?_, ?_⟩ <;> go_keep)) (first
      | (go_at_call_of 55 (Value.pointer (some ⟨pa, 0, none⟩)); refine (HWa.out _ ?_).mono ?_; (first | with_reducible assumption | (with_reducible refine below_alloc ?_ _; with_reducible assumption) | (with_reducible refine below_allocD ?_ _; with_reducible assumption)); rintro e w7 ⟨rfl, rfl⟩)
      | (go_at_call_of 55 (Value.pointer (some ⟨pb, 0, none⟩)); refine (HWb.out _ ?_).mono ?_; (first | with_reducible assumption | (with_reducible refine below_alloc ?_ _; with_reducible assumption) | (with_reducible refine below_allocD ?_ _; with_reducible assumption)); rintro e w8 ⟨rfl, rfl⟩)
      | (go_at_call 54; refine (HBe.out _ ?_ ?_).mono ?_; (first | with_reducible assumption | (with_reducible refine below_alloc ?_ _; with_reducible assumption) | (with_reducible refine below_allocD ?_ _; with_reducible assumption)); (first | assumption | simp [*]); rintro e w9 ⟨rfl, hb9, hc9, hp9⟩; have hne9 := World.new_ne w9 ⟨w.heap.size, 0, none⟩ hp9.1; first | ((with_reducible (have hk9 := kept_new hc9)); obtain ⟨k91, k92, k93⟩ := id hk9) | ((with_reducible (have hk9 := kept_newD hc9)); simp at hk9; obtain ⟨k91, k92, k93⟩ := id hk9) | skip)
      | (go_at_call 24; refine (HOf.out _ ?_ ?_).mono ?_; (first | with_reducible assumption | (with_reducible refine below_alloc ?_ _; with_reducible assumption) | (with_reducible refine below_allocD ?_ _; with_reducible assumption)); (first | assumption | simp [*]); rintro e w10 ⟨⟨hb10, hc10, hp10⟩, z, rfl⟩; have hne10 := World.new_ne w10 ⟨w.heap.size, 0, none⟩ hp10.1; first | ((with_reducible (have hk10 := kept_new hc10)); obtain ⟨ka1, ka2, ka3⟩ := id hk10) | ((with_reducible (have hk10 := kept_more (by assumption) hc10)); obtain ⟨ka1, ka2, ka3⟩ := id hk10) | skip))
    all_goals
      go_wp2_with fail
      go_ret2
      refine ⟨?_, .inr ⟨HF.out, _, rfl⟩⟩
      first | with_reducible exact hb10 | with_reducible exact below_alloc hb10 _ | ((with_reducible refine Below.setCell hb10 ?_ _); have h9 := hb9.size; first | exact h9 | exact Nat.le_succ _) | (with_reducible refine Below.setCell (below_alloc hb10 _) ?_ _; have := hb10.size; omega)
  · have HOf : Hid (∀ W, Below w.heap.size w W → (W.cell? ⟨w.heap.size, 0, none⟩ = some (.pointer (some ⟨pa, 0, none⟩)) ∧ W.cell? ⟨w.heap.size, 1, none⟩ = some (.pointer (some ⟨pb, 0, none⟩)) ∧ W.cell? ⟨w.heap.size, 2, none⟩ = some (.string x)) → Calls Tryz.prog 24 #[.pointer (some ⟨R, 0, none⟩), .agg #[.pointer (some ⟨qa, 0, none⟩), .pointer (some ⟨qb, 0, none⟩), .string y]] W fun e w' => (Below w.heap.size w w' ∧ Below W.heap.size W w' ∧ (w'.cell? ⟨w.heap.size, 0, none⟩ = some (.pointer (some ⟨pa, 0, none⟩)) ∧ w'.cell? ⟨w.heap.size, 1, none⟩ = some (.pointer (some ⟨pb, 0, none⟩)) ∧ w'.cell? ⟨w.heap.size, 2, none⟩ = some (.string x))) ∧ ∃ fn first cap, e = .returned (.tuple #[.func fn first cap, .nilIface])) := fun W hW hP => (HOf.out W hW).mono fun e w' h => ⟨⟨h.1.1, h.1.2, pair_kept hP h.1.2⟩, h.2.elim (fun h => h.2) (fun h => by rw [hfit] at h; exact absurd h.1 (by simp))⟩
    have HF : Hid (fitsK (m + 1) b (n + 1) a = true) := HF.out.trans hfit
    clear hfit
    go_enter Tryz.func47, Tryz.ntmps47
    go_upto_region 1 with fail
    go_region_held (fun w' => w'.cell? ⟨w.heap.size, 0, none⟩ = some (.pointer (some ⟨pa, 0, none⟩)) ∧ w'.cell? ⟨w.heap.size, 1, none⟩ = some (.pointer (some ⟨pb, 0, none⟩)) ∧ w'.cell? ⟨w.heap.size, 2, none⟩ = some (.string x)) (first | with_reducible assumption | (with_reducible refine pair_alloc ?_; with_reducible assumption) | (with_reducible refine pair_set (by assumption) ?_; first | with_reducible assumption | omega) | (with_reducible refine pair_set (pair_alloc (by assumption)) ?_; first | with_reducible assumption | omega) | (refine ⟨?_, ?_, ?_⟩ <;> go_keep)) (first
      | (go_at_call_of 55 (Value.pointer (some ⟨pa, 0, none⟩)); refine (HWa.out _ ?_).mono ?_; (first | with_reducible assumption | (with_reducible refine below_alloc ?_ _; with_reducible assumption) | (with_reducible refine below_allocD ?_ _; with_reducible assumption)); rintro e w7 ⟨rfl, rfl⟩)
      | (go_at_call_of 55 (Value.pointer (some ⟨pb, 0, none⟩)); refine (HWb.out _ ?_).mono ?_; (first | with_reducible assumption | (with_reducible refine below_alloc ?_ _; with_reducible assumption) | (with_reducible refine below_allocD ?_ _; with_reducible assumption)); rintro e w8 ⟨rfl, rfl⟩)
      | (go_at_call 54; refine (HBe.out _ ?_ ?_).mono ?_; (first | with_reducible assumption | (with_reducible refine below_alloc ?_ _; with_reducible assumption) | (with_reducible refine below_allocD ?_ _; with_reducible assumption)); (first | assumption | simp [*]); rintro e w9 ⟨rfl, hb9, hc9, hp9⟩; have hne9 := World.new_ne w9 ⟨w.heap.size, 0, none⟩ hp9.1; first | ((with_reducible (have hk9 := kept_new hc9)); obtain ⟨k91, k92, k93⟩ := id hk9) | ((with_reducible (have hk9 := kept_newD hc9)); simp at hk9; obtain ⟨k91, k92, k93⟩ := id hk9) | skip)
      | (go_at_call 24; refine (HOf.out _ ?_ ?_).mono ?_; (first | with_reducible assumption | (with_reducible refine below_alloc ?_ _; with_reducible assumption) | (with_reducible refine below_allocD ?_ _; with_reducible assumption)); (first | assumption | simp [*]); rintro e w10 ⟨⟨hb10, hc10, hp10⟩, fn, first, cap, rfl⟩; have hne10 := World.new_ne w10 ⟨w.heap.size, 0, none⟩ hp10.1; first | ((with_reducible (have hk10 := kept_new hc10)); obtain ⟨ka1, ka2, ka3⟩ := id hk10) | ((with_reducible (have hk10 := kept_more (by assumption) hc10)); obtain ⟨ka1, ka2, ka3⟩ := id hk10) | skip))
    all_goals
      go_wp2_with fail
      go_ret2
      refine ⟨?_, .inl ⟨HF.out, _, _, _, rfl⟩⟩
      first | with_reducible exact hb10 | with_reducible exact below_alloc hb10 _ | ((with_reducible refine Below.setCell hb10 ?_ _); have h9 := hb9.size; first | exact h9 | exact Nat.le_succ _) | (with_reducible refine Below.setCell (below_alloc hb10 _) ?_ _; have := hb10.size; omega)

end Go.Proofs.YthcdeahobjhkbaaGreatDoor

/-
  The program's widenings: what intoMaybe makes.
-/
namespace Go.Proofs.YthcdeahobjhkbaaGreatDoor
open Go.RowKit

set_option maxRecDepth 20000 in
set_option maxHeartbeats 4000000 in
theorem intoMaybe_any (m n : Nat) (hm : FitSaid m) (S : Nat → Prop) (a : K (n + 1)) (b : K (m + 1)) (va vb : Value) (d d' : Int) (R : Nat) (x : ByteArray) (w : World) (ha : InnerK S w (n + 1) a va) (hb : InnerK S w (m + 1) b vb) (hB : ∀ b, S b → b < w.heap.size) (hT : TabW w R) (hR : R < w.heap.size)
    (hga : goodK (n + 1) a d = true) (hgb : goodK (m + 1) b d' = true) (hc40 : cntK (m + 1) b ≤ 40) (hd : 1 ≤ d') (hx : (x.size : Int) ≤ 20 * d') (sa : Kd.sort a ≠ 6) (sb : Kd.sort b = 6) :
    Calls Tryz.prog 46 #[.pointer (some ⟨R, 0, none⟩), .agg #[va, vb, .string x]] w fun e w' => Below w.heap.size w w' ∧ FitEnd (m + 1) b (n + 1) a e := by
  have hd6 : d' ≤ 6 := by simp only [goodK, Bool.and_eq_true, decide_eq_true_eq] at hgb; exact hgb.1.1
  have hs2 : (⟨#[63]⟩ : ByteArray).size = 1 := rfl
  have hgkb : ∀ k, k ∈ Kd.kids b → goodK m k (d' + 1) = true := by simp only [goodK, Bool.and_eq_true] at hgb; exact List.all_eq_true.1 hgb.2
  obtain ⟨kb, hkb⟩ : ∃ kb, Kd.kids b = [kb] := by
    rcases goodK_kids hgb with ⟨h, -⟩ | ⟨-, -, h⟩ | ⟨h, -⟩
    · omega
    · exact h
    · omega
  have HF : Hid (fitsK (m + 1) b (n + 1) a = fitsK m kb (n + 1) a) := fitsK_xm sb sa hkb
  have hgB := hgkb kb (by rw [hkb]; exact List.mem_cons_self ..)
  have hcB := cnt_kid hc40 (by rw [hkb]; exact List.mem_cons_self .. : kb ∈ Kd.kids b)
  have hia := ha
  obtain ⟨pa, rfl, hSa⟩ := ha.ptr
  obtain ⟨pb, nvb, pvb, kvb, rfl, hSb, hcb, -, -, hrb⟩ := hb
  rw [hkb] at hrb
  obtain ⟨aob, capb, rfl, -, hrb⟩ := hrb
  obtain ⟨gb, ob, rfl, hSgb, hrb⟩ := hrb (by simp)
  obtain ⟨cb, eb, hib⟩ := hrb 0 (by simp)
  simp only [List.getElem_cons_zero] at hib
  obtain ⟨qb, rfl, -⟩ := id hib.ptr
  have hlb := hB pb hSb
  have hlgb := hB gb hSgb
  have HWb : Hid (∀ W, Below w.heap.size w W → Calls Tryz.prog 55 #[.pointer (some ⟨pb, 0, none⟩)] W fun e w' => e = .returned (.pointer (some ⟨qb, 0, none⟩)) ∧ w' = W) := fun W hW =>
    within_any W pb gb ob 0 capb qb ((hW.cell (p := ⟨pb, 3, none⟩) hlb).trans (by simp [World.cell?, hcb])) ((hW.cell (p := ⟨gb, ob, none⟩) hlgb).trans (by simpa using eb)) (by omega)
  have HBe : Hid (∀ W, Below w.heap.size w W → (W.cell? ⟨w.heap.size, 0, none⟩ = some (.pointer (some ⟨pa, 0, none⟩)) ∧ W.cell? ⟨w.heap.size, 1, none⟩ = some (.pointer (some ⟨pb, 0, none⟩)) ∧ W.cell? ⟨w.heap.size, 2, none⟩ = some (.string x)) → Calls Tryz.prog 54 #[.agg #[.pointer (some ⟨pa, 0, none⟩), .pointer (some ⟨pb, 0, none⟩), .string x], .string ⟨#[63]⟩, .pointer (some ⟨pa, 0, none⟩), .pointer (some ⟨qb, 0, none⟩)] W fun e w' => e = .returned (.agg #[.pointer (some ⟨pa, 0, none⟩), .pointer (some ⟨qb, 0, none⟩), .string (pathTo x ⟨#[63]⟩)]) ∧ Below w.heap.size w w' ∧ Below W.heap.size W w' ∧ (w'.cell? ⟨w.heap.size, 0, none⟩ = some (.pointer (some ⟨pa, 0, none⟩)) ∧ w'.cell? ⟨w.heap.size, 1, none⟩ = some (.pointer (some ⟨pb, 0, none⟩)) ∧ w'.cell? ⟨w.heap.size, 2, none⟩ = some (.string x))) := fun W hW hP =>
    (below_any x _ _ _ _ _ W (by omega)).mono fun e w' h => ⟨h.1, below_step hW hW.size h.2, h.2, pair_kept hP h.2⟩
  have HOf : Hid (∀ W, Below w.heap.size w W → Calls Tryz.prog 24 #[.pointer (some ⟨R, 0, none⟩), .agg #[.pointer (some ⟨pa, 0, none⟩), .pointer (some ⟨qb, 0, none⟩), .string (pathTo x ⟨#[63]⟩)]] W fun e w' => (Below w.heap.size w w' ∧ Below W.heap.size W w') ∧ FitEnd m kb (n + 1) a e) := fun W hW =>
    (hm S (n + 1) a kb _ _ d (d' + 1) R _ W (hia.keep (same_below hW hB) (fun _ h => h)) (hib.keep (same_below hW hB) (fun _ h => h)) (fun b hb => Nat.lt_of_lt_of_le (hB b hb) hW.size) (hT.keep (hW.block R hR)) (Nat.lt_of_lt_of_le hR hW.size) hga hgB hcB (by omega) (by rw [pathTo_size]; omega)).mono fun e w' h => ⟨⟨below_step hW hW.size h.1, h.1⟩, h.2⟩
  generalize pathTo x ⟨#[63]⟩ = y at *
  have hst : ∀ (a : Addr) (md : Mode) (fn : Fn) (first cap : Array Value) (w : World), (store a (.func fn first cap) md).run Tryz.prog w = stored Tryz.prog w a (.func fn first cap) md := fun a md _ _ _ w => run_store _ w a _ md rfl
  have hstN : ∀ (a : Addr) (md : Mode) (w : World), (store a .nilFunc md).run Tryz.prog w = stored Tryz.prog w a .nilFunc md := fun a md w => run_store _ w a _ md rfl
  have hmf : ∀ (fn : Fn) (first cap : Array Value) (w : World), (Instr.makeFunc fn first cap).run Tryz.prog w = .ok (.func fn first cap) w := fun _ _ _ _ => rfl
  have hbA : Below w.heap.size w (w.alloc (.cells #[.pointer (some ⟨pa, 0, none⟩), .pointer (some ⟨pb, 0, none⟩), .string x] 43)).drew := ((Below.refl _ _).alloc (Nat.le_refl _) _).drew
  clear hm hT hga hgb hgkb hkb hgB hrb hib eb hcb ha hia
  cases hfit : fitsK m kb (n + 1) a
  · have HOf : Hid (∀ W, Below w.heap.size w W → (W.cell? ⟨w.heap.size, 0, none⟩ = some (.pointer (some ⟨pa, 0, none⟩)) ∧ W.cell? ⟨w.heap.size, 1, none⟩ = some (.pointer (some ⟨pb, 0, none⟩)) ∧ W.cell? ⟨w.heap.size, 2, none⟩ = some (.string x)) → Calls Tryz.prog 24 #[.pointer (some ⟨R, 0, none⟩), .agg #[.pointer (some ⟨pa, 0, none⟩), .pointer (some ⟨qb, 0, none⟩), .string y]] W fun e w' => (Below w.heap.size w w' ∧ Below W.heap.size W w' ∧ (w'.cell? ⟨w.heap.size, 0, none⟩ = some (.pointer (some ⟨pa, 0, none⟩)) ∧ w'.cell? ⟨w.heap.size, 1, none⟩ = some (.pointer (some ⟨pb, 0, none⟩)) ∧ w'.cell? ⟨w.heap.size, 2, none⟩ = some (.string x))) ∧ ∃ z : ByteArray, e = .returned (.tuple #[.nilFunc, .iface 87 (.agg #[.string z])])) := fun W hW hP => (HOf.out W hW).mono fun e w' h => ⟨⟨h.1.1, h.1.2, pair_kept hP h.1.2⟩, h.2.elim (fun h => by rw [hfit] at h; exact absurd h.1 (by simp)) (fun h => h.2)⟩
    have HF : Hid (fitsK (m + 1) b (n + 1) a = false) := HF.out.trans hfit
    clear hfit
    go_enter Tryz.func46, Tryz.ntmps46
    go_upto_region 1 with fail
    go_region_held (fun w' => w'.cell? ⟨w.heap.size, 0, none⟩ = some (.pointer (some ⟨pa, 0, none⟩)) ∧ w'.cell? ⟨w.heap.size, 1, none⟩ = some (.pointer (some ⟨pb, 0, none⟩)) ∧ w'.cell? ⟨w.heap.size, 2, none⟩ = some (.string x)) (first | with_reducible assumption | (with_reducible refine pair_alloc ?_; with_reducible assumption) | (with_reducible refine pair_set (by assumption) ?_; first | with_reducible assumption | omega) | (with_reducible refine pair_set (pair_alloc (by assumption)) ?_; first | with_reducible assumption | omega) | (refine ⟨?_, ?_, ?_⟩ <;> go_keep)) (first
      | (go_at_call 55; refine (HWb.out _ ?_).mono ?_; (first | with_reducible assumption | (with_reducible refine below_alloc ?_ _; with_reducible assumption) | (with_reducible refine below_allocD ?_ _; with_reducible assumption)); rintro e w8 ⟨rfl, rfl⟩)
      | (go_at_call 54; refine (HBe.out _ ?_ ?_).mono ?_; (first | with_reducible assumption | (with_reducible refine below_alloc ?_ _; with_reducible assumption) | (with_reducible refine below_allocD ?_ _; with_reducible assumption)); (first | assumption | simp [*]); rintro e w9 ⟨rfl, hb9, hc9, hp9⟩; have hne9 := World.new_ne w9 ⟨w.heap.size, 0, none⟩ hp9.1; first | ((with_reducible (have hk9 := kept_new hc9)); obtain ⟨k91, k92, k93⟩ := id hk9) | ((with_reducible (have hk9 := kept_newD hc9)); simp at hk9; obtain ⟨k91, k92, k93⟩ := id hk9) | skip)
      | (go_at_call 24; refine (HOf.out _ ?_ ?_).mono ?_; (first | with_reducible assumption | (with_reducible refine below_alloc ?_ _; with_reducible assumption) | (with_reducible refine below_allocD ?_ _; with_reducible assumption)); (first | assumption | simp [*]); rintro e w10 ⟨⟨hb10, hc10, hp10⟩, z, rfl⟩; have hne10 := World.new_ne w10 ⟨w.heap.size, 0, none⟩ hp10.1; first | ((with_reducible (have hk10 := kept_new hc10)); obtain ⟨ka1, ka2, ka3⟩ := id hk10) | ((with_reducible (have hk10 := kept_more (by assumption) hc10)); obtain ⟨ka1, ka2, ka3⟩ := id hk10) | skip))
    all_goals
      go_wp2_with fail
      go_ret2
      refine ⟨?_, .inr ⟨HF.out, _, rfl⟩⟩
      first | with_reducible exact hb10 | with_reducible exact below_alloc hb10 _ | ((with_reducible refine Below.setCell hb10 ?_ _); have h9 := hb9.size; first | exact h9 | exact Nat.le_succ _) | (with_reducible refine Below.setCell (below_alloc hb10 _) ?_ _; have := hb10.size; omega)
  · have HOf : Hid (∀ W, Below w.heap.size w W → (W.cell? ⟨w.heap.size, 0, none⟩ = some (.pointer (some ⟨pa, 0, none⟩)) ∧ W.cell? ⟨w.heap.size, 1, none⟩ = some (.pointer (some ⟨pb, 0, none⟩)) ∧ W.cell? ⟨w.heap.size, 2, none⟩ = some (.string x)) → Calls Tryz.prog 24 #[.pointer (some ⟨R, 0, none⟩), .agg #[.pointer (some ⟨pa, 0, none⟩), .pointer (some ⟨qb, 0, none⟩), .string y]] W fun e w' => (Below w.heap.size w w' ∧ Below W.heap.size W w' ∧ (w'.cell? ⟨w.heap.size, 0, none⟩ = some (.pointer (some ⟨pa, 0, none⟩)) ∧ w'.cell? ⟨w.heap.size, 1, none⟩ = some (.pointer (some ⟨pb, 0, none⟩)) ∧ w'.cell? ⟨w.heap.size, 2, none⟩ = some (.string x))) ∧ ∃ fn first cap, e = .returned (.tuple #[.func fn first cap, .nilIface])) := fun W hW hP => (HOf.out W hW).mono fun e w' h => ⟨⟨h.1.1, h.1.2, pair_kept hP h.1.2⟩, h.2.elim (fun h => h.2) (fun h => by rw [hfit] at h; exact absurd h.1 (by simp))⟩
    have HF : Hid (fitsK (m + 1) b (n + 1) a = true) := HF.out.trans hfit
    clear hfit
    go_enter Tryz.func46, Tryz.ntmps46
    go_upto_region 1 with fail
    go_region_held (fun w' => w'.cell? ⟨w.heap.size, 0, none⟩ = some (.pointer (some ⟨pa, 0, none⟩)) ∧ w'.cell? ⟨w.heap.size, 1, none⟩ = some (.pointer (some ⟨pb, 0, none⟩)) ∧ w'.cell? ⟨w.heap.size, 2, none⟩ = some (.string x)) (first | with_reducible assumption | (with_reducible refine pair_alloc ?_; with_reducible assumption) | (with_reducible refine pair_set (by assumption) ?_; first | with_reducible assumption | omega) | (with_reducible refine pair_set (pair_alloc (by assumption)) ?_; first | with_reducible assumption | omega) | (refine ⟨?_, ?_, ?_⟩ <;> go_keep)) (first
      | (go_at_call 55; refine (HWb.out _ ?_).mono ?_; (first | with_reducible assumption | (with_reducible refine below_alloc ?_ _; with_reducible assumption) | (with_reducible refine below_allocD ?_ _; with_reducible assumption)); rintro e w8 ⟨rfl, rfl⟩)
      | (go_at_call 54; refine (HBe.out _ ?_ ?_).mono ?_; (first | with_reducible assumption | (with_reducible refine below_alloc ?_ _; with_reducible assumption) | (with_reducible refine below_allocD ?_ _; with_reducible assumption)); (first | assumption | simp [*]); rintro e w9 ⟨rfl, hb9, hc9, hp9⟩; have hne9 := World.new_ne w9 ⟨w.heap.size, 0, none⟩ hp9.1; first | ((with_reducible (have hk9 := kept_new hc9)); obtain ⟨k91, k92, k93⟩ := id hk9) | ((with_reducible (have hk9 := kept_newD hc9)); simp at hk9; obtain ⟨k91, k92, k93⟩ := id hk9) | skip)
      | (go_at_call 24; refine (HOf.out _ ?_ ?_).mono ?_; (first | with_reducible assumption | (with_reducible refine below_alloc ?_ _; with_reducible assumption) | (with_reducible refine below_allocD ?_ _; with_reducible assumption)); (first | assumption | simp [*]); rintro e w10 ⟨⟨hb10, hc10, hp10⟩, fn, first, cap, rfl⟩; have hne10 := World.new_ne w10 ⟨w.heap.size, 0, none⟩ hp10.1; first | ((with_reducible (have hk10 := kept_new hc10)); obtain ⟨ka1, ka2, ka3⟩ := id hk10) | ((with_reducible (have hk10 := kept_more (by assumption) hc10)); obtain ⟨ka1, ka2, ka3⟩ := id hk10) | skip))
    all_goals
      go_wp2_with fail
      go_ret2
      refine ⟨?_, .inl ⟨HF.out, _, _, _, rfl⟩⟩
      first | with_reducible exact hb10 | with_reducible exact below_alloc hb10 _ | ((with_reducible refine Below.setCell hb10 ?_ _); have h9 := hb9.size; first | exact h9 | exact Nat.le_succ _) | (with_reducible refine Below.setCell (below_alloc hb10 _) ?_ _; have := hb10.size; omega)

end Go.Proofs.YthcdeahobjhkbaaGreatDoor

/-
  The program's widenings: what is made of a name of two forms.
-/
namespace Go.Proofs.YthcdeahobjhkbaaGreatDoor
open Go.RowKit

/-- How the making of a widening ends, if r says whether there is one. -/
def EndB (r : Bool) (e : Ending) : Prop :=
  (r = true ∧ ∃ fn first cap, e = .returned (.tuple #[.func fn first cap, .nilIface])) ∨ (r = false ∧ ∃ y : ByteArray, e = .returned (.tuple #[.nilFunc, .iface 87 (.agg #[.string y])]))

theorem zeroD_W4 {w : World} {N : Nat} {t : TypeId} {v0 v1 v2 v3 : Value} (h : w.heap[N]? = some (.cells #[v0, v1, v2, v3] t (0, 0))) : w.cell? ⟨N, 0, none⟩ = some v0 := by simp [World.cell?, h]

theorem name_short {l : List ByteArray} (h : riseB l = true) (i : Nat) (hi : i < l.length) : l[i].size ≤ 8 := by
  have := List.all_eq_true.1 h i (List.mem_range.2 hi)
  simp only [riseAt, Bool.and_eq_true, nameB, decide_eq_true_eq] at this
  have h8 := this.1.1.1.2
  rwa [List.getD_eq_getElem?_getD, List.getElem?_eq_getElem hi, Option.getD_some] at h8

set_option maxRecDepth 20000 in
set_option maxHeartbeats 4000000 in
theorem ofFields_any (m n : Nat) (hm : FitSaid m) (S : Nat → Prop) (a : K (n + 1)) (b : K (m + 1)) (va vb : Value) (d d' : Int) (R : Nat) (x : ByteArray) (w : World) (ha : InnerK S w (n + 1) a va) (hb : InnerK S w (m + 1) b vb) (hB : ∀ b, S b → b < w.heap.size) (hT : TabW w R) (hR : R < w.heap.size)
    (hga : goodK (n + 1) a d = true) (hgb : goodK (m + 1) b d' = true) (hc40 : cntK (m + 1) b ≤ 40) (hd : 1 ≤ d') (hx : (x.size : Int) ≤ 20 * d') (sa : Kd.sort a = 5) (sb : Kd.sort b = 5) (j : Nat) (hj : j < (Kd.names b).length) (hj' : j < (Kd.kids b).length) :
    Calls Tryz.prog 70 #[.pointer (some ⟨R, 0, none⟩), .agg #[va, vb, .string x], .string (Kd.names b)[j]] w fun e w' => Below w.heap.size w w' ∧ EndB (fieldFits n (Kd.names a) (Kd.kids a) m (Kd.names b)[j] (Kd.kids b)[j]) e := by
  have hd6 : d' ≤ 6 := by simp only [goodK, Bool.and_eq_true, decide_eq_true_eq] at hgb; exact hgb.1.1
  have hgka : ∀ k, k ∈ Kd.kids a → goodK n k (d + 1) = true := by simp only [goodK, Bool.and_eq_true] at hga; exact List.all_eq_true.1 hga.2
  have hgkb : ∀ k, k ∈ Kd.kids b → goodK m k (d' + 1) = true := by simp only [goodK, Bool.and_eq_true] at hgb; exact List.all_eq_true.1 hgb.2
  have hka : (Kd.names a).length = (Kd.kids a).length ∧ riseB (Kd.names a) = true := by
    rcases goodK_kids hga with ⟨h, -⟩ | ⟨h, -⟩ | ⟨-, h⟩
    · omega
    · omega
    · exact h
  have hkb : riseB (Kd.names b) = true := by
    rcases goodK_kids hgb with ⟨h, -⟩ | ⟨h, -⟩ | ⟨-, -, h⟩
    · omega
    · omega
    · exact h
  have hs8 := name_short hkb j hj
  have hsm : (Kd.names b)[j].size ≤ maxLen := by unfold maxLen; omega
  have hgB := hgkb _ (List.getElem_mem hj')
  have hcB := cnt_kid hc40 (List.getElem_mem hj')
  obtain ⟨pa, nva, pva, kva, rfl, hSa, hca, -, hpa, hra⟩ := ha
  obtain ⟨pb, nvb, pvb, kvb, rfl, hSb, hcb, -, hpb, hrb⟩ := hb
  have hpa := hpa sa
  have hpb := hpb sb
  obtain ⟨aob, capb, rfl, -, hrb⟩ := hrb
  obtain ⟨gb, ob, rfl, hSgb, hrb⟩ := hrb (by intro h; rw [h] at hj'; simp at hj')
  obtain ⟨cb, eb, hib⟩ := hrb j hj'
  obtain ⟨qb, rfl, hSqb⟩ := id hib.ptr
  have hla := hB pa hSa
  have hlb := hB pb hSb
  have hlgb := hB gb hSgb
  have hlqb := hB qb hSqb
  have HFb : Hid (∀ W, Below w.heap.size w W → Calls Tryz.prog 69 #[.pointer (some ⟨pb, 0, none⟩), .string (Kd.names b)[j]] W fun e w' => e = .returned (.pointer (some ⟨qb, 0, none⟩)) ∧ w' = W) := fun W hW =>
    field_yes S W (Kd.names b) pvb pb gb ob (Kd.kids b).length capb qb j ((hW.cell (p := ⟨pb, 2, none⟩) hlb).trans (by simp [World.cell?, hcb])) (hpb.keep (same_below hW hB) (fun _ h => h)) (asc_of _ hkb) hj hsm ((hW.cell (p := ⟨pb, 3, none⟩) hlb).trans (by simp [World.cell?, hcb])) hj' ((hW.cell (p := ⟨gb, ob + j, none⟩) hlgb).trans eb)
  have hb0 : Below w.heap.size w (w.alloc (.cells #[.pointer (some ⟨pa, 0, none⟩), .pointer (some ⟨pb, 0, none⟩), .string x] 43)) := (Below.refl _ _).alloc (Nat.le_refl _) _
  have hbN : ∀ k, Below w.heap.size w ((w.alloc (.cells #[.pointer (some ⟨pa, 0, none⟩), .pointer (some ⟨pb, 0, none⟩), .string x] 43)).drewN k) := fun k => below_drewN hb0 k
  by_cases hmem : (Kd.names b)[j] ∈ Kd.names a
  · obtain ⟨q, hq, heq⟩ := List.getElem_of_mem hmem
    have hqk : q < (Kd.kids a).length := by omega
    obtain ⟨aoa, capa, rfl, -, hra⟩ := hra
    obtain ⟨ga, oa, rfl, hSga, hra⟩ := hra (by intro h; rw [h] at hqk; simp at hqk)
    obtain ⟨ca, ea, hia⟩ := hra q hqk
    obtain ⟨qa, rfl, -⟩ := id hia.ptr
    have hlga := hB ga hSga
    have HFa : Hid (∀ W, Below w.heap.size w W → Calls Tryz.prog 69 #[.pointer (some ⟨pa, 0, none⟩), .string (Kd.names b)[j]] W fun e w' => e = .returned (.pointer (some ⟨qa, 0, none⟩)) ∧ w' = W) := fun W hW => by
      have := field_yes S W (Kd.names a) pva pa ga oa (Kd.kids a).length capa qa q ((hW.cell (p := ⟨pa, 2, none⟩) hla).trans (by simp [World.cell?, hca])) (hpa.keep (same_below hW hB) (fun _ h => h)) (asc_of _ hka.2) hq (by rw [heq]; exact hsm) ((hW.cell (p := ⟨pa, 3, none⟩) hla).trans (by simp [World.cell?, hca])) hqk ((hW.cell (p := ⟨ga, oa + q, none⟩) hlga).trans ea)
      rwa [heq] at this
    have HF : Hid (fieldFits n (Kd.names a) (Kd.kids a) m (Kd.names b)[j] (Kd.kids b)[j] = fitsK m (Kd.kids b)[j] n (Kd.kids a)[q]) := by
      show _ = _
      unfold fieldFits
      rw [← heq, atName_yes _ _ q hq hqk (asc_of _ hka.2)]
    have HOf : Hid (∀ W, Below w.heap.size w W → Calls Tryz.prog 24 #[.pointer (some ⟨R, 0, none⟩), .agg #[.pointer (some ⟨qa, 0, none⟩), .pointer (some ⟨qb, 0, none⟩), .string (pathTo x (Kd.names b)[j])]] W fun e w' => Below w.heap.size w w' ∧ FitEnd m (Kd.kids b)[j] n (Kd.kids a)[q] e) := fun W hW =>
      (hm S n _ _ _ _ (d + 1) (d' + 1) R _ W (hia.keep (same_below hW hB) (fun _ h => h)) (hib.keep (same_below hW hB) (fun _ h => h)) (fun b hb => Nat.lt_of_lt_of_le (hB b hb) hW.size) (hT.keep (hW.block R hR)) (Nat.lt_of_lt_of_le hR hW.size) (hgka _ (List.getElem_mem hqk)) hgB hcB (by omega) (by rw [pathTo_size]; omega)).mono fun e w' h => ⟨below_step hW hW.size h.1, h.2⟩
    have HBe : Hid (∀ W, Below w.heap.size w W → Calls Tryz.prog 54 #[.agg #[.pointer (some ⟨pa, 0, none⟩), .pointer (some ⟨pb, 0, none⟩), .string x], .string (Kd.names b)[j], .pointer (some ⟨qa, 0, none⟩), .pointer (some ⟨qb, 0, none⟩)] W fun e w' => e = .returned (.agg #[.pointer (some ⟨qa, 0, none⟩), .pointer (some ⟨qb, 0, none⟩), .string (pathTo x (Kd.names b)[j])]) ∧ Below w.heap.size w w') := fun W hW =>
      (below_any x _ _ _ _ _ W (by omega)).mono fun e w' h => ⟨h.1, below_step hW hW.size h.2⟩
    clear hm hT hga hgb hgka hgkb hka hkb hgB hra hrb hia hib ea eb hca hcb hpa hpb hmem heq hs8 hsm
    generalize fieldFits n (Kd.names a) (Kd.kids a) m (Kd.names b)[j] (Kd.kids b)[j] = r at *
    generalize pathTo x (Kd.names b)[j] = y at *
    generalize (Kd.names b)[j] = s at *
    have HF' := HF.out
    cases hfit : fitsK m (Kd.kids b)[j] n (Kd.kids a)[q]
    · have HOf : Hid (∀ W, Below w.heap.size w W → Calls Tryz.prog 24 #[.pointer (some ⟨R, 0, none⟩), .agg #[.pointer (some ⟨qa, 0, none⟩), .pointer (some ⟨qb, 0, none⟩), .string y]] W fun e w' => Below w.heap.size w w' ∧ ∃ z : ByteArray, e = .returned (.tuple #[.nilFunc, .iface 87 (.agg #[.string z])])) := fun W hW => (HOf.out W hW).mono fun e w' h => ⟨h.1, h.2.elim (fun h => by rw [hfit] at h; exact absurd h.1 (by simp)) (fun h => h.2)⟩
      have HF : Hid (r = false) := HF'.trans hfit
      clear hfit HF'
      go_enter Tryz.func70, Tryz.ntmps70
      go_wp2_with fail
      go_quiet (first | (go_at_call_of 69 (Value.pointer (some ⟨pa, 0, none⟩)); refine Calls.quiet_of_same (HFa.out _ (hbN _))) | (go_at_call_of 69 (Value.pointer (some ⟨pb, 0, none⟩)); refine Calls.quiet_of_same (HFb.out _ (hbN _))))
      have hbq := hbN nq
      have hbq' := hbq.drew
      go_wp2_with fail
      go_region_law (first
        | (go_simp; go_at_call 54; refine (HBe.out _ (by assumption)).mono ?_; rintro e w9 ⟨rfl, hb9⟩)
        | (go_simp; go_at_call 24; refine (HOf.out _ (by assumption)).mono ?_; rintro e w10 ⟨hb10, z, rfl⟩))
      all_goals
        go_wp2_with fail
        go_ret2
        exact ⟨hb10, .inr ⟨HF.out, _, rfl⟩⟩
    · have HOf : Hid (∀ W, Below w.heap.size w W → Calls Tryz.prog 24 #[.pointer (some ⟨R, 0, none⟩), .agg #[.pointer (some ⟨qa, 0, none⟩), .pointer (some ⟨qb, 0, none⟩), .string y]] W fun e w' => Below w.heap.size w w' ∧ ∃ fn first cap, e = .returned (.tuple #[.func fn first cap, .nilIface])) := fun W hW => (HOf.out W hW).mono fun e w' h => ⟨h.1, h.2.elim (fun h => h.2) (fun h => by rw [hfit] at h; exact absurd h.1 (by simp))⟩
      have HF : Hid (r = true) := HF'.trans hfit
      clear hfit HF'
      go_enter Tryz.func70, Tryz.ntmps70
      go_wp2_with fail
      go_quiet (first | (go_at_call_of 69 (Value.pointer (some ⟨pa, 0, none⟩)); refine Calls.quiet_of_same (HFa.out _ (hbN _))) | (go_at_call_of 69 (Value.pointer (some ⟨pb, 0, none⟩)); refine Calls.quiet_of_same (HFb.out _ (hbN _))))
      have hbq := hbN nq
      have hbq' := hbq.drew
      go_wp2_with fail
      go_region_law (first
        | (go_simp; go_at_call 54; refine (HBe.out _ (by assumption)).mono ?_; rintro e w9 ⟨rfl, hb9⟩)
        | (go_simp; go_at_call 24; refine (HOf.out _ (by assumption)).mono ?_; rintro e w10 ⟨hb10, fn, first, cap, rfl⟩))
      all_goals
        go_wp2_with fail
        go_ret2
        exact ⟨hb10, .inl ⟨HF.out, _, _, _, rfl⟩⟩
  · have HFa : Hid (∀ W, Below w.heap.size w W → Calls Tryz.prog 69 #[.pointer (some ⟨pa, 0, none⟩), .string (Kd.names b)[j]] W fun e w' => e = .returned (.pointer none) ∧ w' = W) := fun W hW =>
      field_no S W (Kd.names a) pva pa _ ((hW.cell (p := ⟨pa, 2, none⟩) hla).trans (by simp [World.cell?, hca])) (hpa.keep (same_below hW hB) (fun _ h => h)) hmem hsm
    have HF : Hid (fieldFits n (Kd.names a) (Kd.kids a) m (Kd.names b)[j] (Kd.kids b)[j] = (srtK m (Kd.kids b)[j] == 6)) := by
      show _ = _
      unfold fieldFits
      rw [atName_no _ _ _ hmem]
    obtain ⟨s6, h6, hs6⟩ : ∃ s6, w.cell? ⟨qb, 0, none⟩ = some (.int .i64 s6) ∧ s6 = srtK m (Kd.kids b)[j] := by
      cases m with
      | zero => exact hib.elim
      | succ m =>
        obtain ⟨bb, nv, pv, kv, hv, -, hcell, -⟩ := hib
        cases hv
        exact ⟨Kd.sort (Kd.kids b)[j], zeroD_W4 hcell, rfl⟩
    have HF' := HF.out
    rw [← hs6] at HF'
    have h6N : ∀ k, ((w.alloc (.cells #[.pointer (some ⟨pa, 0, none⟩), .pointer (some ⟨pb, 0, none⟩), .string x] 43)).drewN k).cell? ⟨qb, 0, none⟩ = some (.int .i64 s6) := fun k => ((hbN k).cell (p := ⟨qb, 0, none⟩) hlqb).trans h6
    clear hm hT hga hgb hgka hgkb hka hkb hgB hra hrb hib eb hca hcb hpa hpb hmem hs8 hsm HF hs6 h6
    generalize fieldFits n (Kd.names a) (Kd.kids a) m (Kd.names b)[j] (Kd.kids b)[j] = r at *
    generalize (Kd.names b)[j] = s at *
    by_cases h66 : s6 = 6
    · subst h66
      have HF : Hid (r = true) := HF'
      clear HF'
      go_enter Tryz.func70, Tryz.ntmps70
      go_wp2_with fail
      go_quiet (first | (go_at_call_of 69 (Value.pointer (some ⟨pa, 0, none⟩)); refine Calls.quiet_of_same (HFa.out _ (hbN _))) | (go_at_call_of 69 (Value.pointer (some ⟨pb, 0, none⟩)); refine Calls.quiet_of_same (HFb.out _ (hbN _))))
      have hbq := hbN nq
      have h6q := h6N nq
      go_wp2_with fail
      go_ret2
      exact ⟨hbq, .inl ⟨HF.out, _, _, _, rfl⟩⟩
    · have HF : Hid (r = false) := HF'.trans (by simp [h66])
      have h6b : (s6 != 6) = true := by simp [h66]
      clear HF' h66
      go_enter Tryz.func70, Tryz.ntmps70
      go_wp2_with fail
      go_quiet (first | (go_at_call_of 69 (Value.pointer (some ⟨pa, 0, none⟩)); refine Calls.quiet_of_same (HFa.out _ (hbN _))) | (go_at_call_of 69 (Value.pointer (some ⟨pb, 0, none⟩)); refine Calls.quiet_of_same (HFb.out _ (hbN _))))
      have hbq := hbN nq
      have h6q := h6N nq
      go_wp2_with fail
      go_quiet (fail)
      go_wp2_with fail
      go_ret2
      exact ⟨below_drewN hbq _, .inr ⟨HF.out, _, rfl⟩⟩

end Go.Proofs.YthcdeahobjhkbaaGreatDoor

/-
  The specification's l3Fits at two forms: walked.
-/
namespace Go.Proofs.YthcdeahobjhkbaaGreatDoor
open Go.RowKit

/-- What the first loop has found of a name of the form that fits. -/
def GoodA (n m : Nat) (a : K (n + 1)) (b : K (m + 1)) (i : Nat) : Prop := ∃ (j : Nat) (h1 : i < (Kd.names a).length) (h2 : i < (Kd.kids a).length) (h3 : j < (Kd.names b).length) (h4 : j < (Kd.kids b).length), (Kd.names b)[j] = (Kd.names a)[i] ∧ fitsK m (Kd.kids b)[j] n (Kd.kids a)[i] = true

/-- What the second loop has found of a name of the form into which it fits. -/
def GoodB (n m : Nat) (a : K (n + 1)) (b : K (m + 1)) (j : Nat) : Prop := ∃ (h3 : j < (Kd.names b).length) (h4 : j < (Kd.kids b).length), (Kd.names b)[j] ∈ Kd.names a ∨ srtK m (Kd.kids b)[j] = 6

theorem fits_yes {n m : Nat} {a : K (n + 1)} {b : K (m + 1)} (hsb : Kd.sort b = 5) (hsa : Kd.sort a = 5) (hA : Asc (Kd.names a)) (hB : Asc (Kd.names b))
    (h1 : ∀ i, i < (Kd.names a).length → GoodA n m a b i) (h2 : ∀ j, j < (Kd.names b).length → GoodB n m a b j) : fitsK (m + 1) b (n + 1) a = true := by
  refine fitsK_form_yes hsb hsa (fun i h => ?_) (fun j h h' => ?_)
  · obtain ⟨j, _, _, h3, _, he, _⟩ := h1 i h
    rw [← he]; exact List.getElem_mem h3
  · obtain ⟨_, h4, hj⟩ := h2 j h
    unfold fieldFits
    by_cases hm : (Kd.names b)[j] ∈ Kd.names a
    · obtain ⟨i, hi, he⟩ := List.getElem_of_mem hm
      obtain ⟨j', hi1, hi2, hj3, hj4, he', hf⟩ := h1 i hi
      have : j' = j := asc_inj hB j' j hj3 h (he'.trans he)
      subst this
      rw [he', atName_yes _ _ i hi1 hi2 hA]
      exact hf
    · rw [atName_no _ _ _ hm]
      rcases hj with h | h
      · exact absurd h hm
      · show (srtK m (Kd.kids b)[j] == 6) = true
        rw [h]; rfl

theorem fits_badA {n m : Nat} {a : K (n + 1)} {b : K (m + 1)} (hsb : Kd.sort b = 5) (hsa : Kd.sort a = 5) (hA : Asc (Kd.names a)) (i j : Nat) (hi : i < (Kd.names a).length) (hi2 : i < (Kd.kids a).length) (hj : j < (Kd.names b).length) (hj2 : j < (Kd.kids b).length)
    (he : (Kd.names b)[j] = (Kd.names a)[i]) (h : fitsK m (Kd.kids b)[j] n (Kd.kids a)[i] = false) : fitsK (m + 1) b (n + 1) a = false := by
  refine fitsK_form_bad hsb hsa j hj hj2 ?_
  unfold fieldFits
  rw [he, atName_yes _ _ i hi hi2 hA]
  exact h

theorem fits_badB {n m : Nat} {a : K (n + 1)} {b : K (m + 1)} (hsb : Kd.sort b = 5) (hsa : Kd.sort a = 5) (j : Nat) (hj : j < (Kd.names b).length) (hj2 : j < (Kd.kids b).length)
    (hm : (Kd.names b)[j] ∉ Kd.names a) (h : ¬ srtK m (Kd.kids b)[j] = 6) : fitsK (m + 1) b (n + 1) a = false := by
  refine fitsK_form_bad hsb hsa j hj hj2 ?_
  unfold fieldFits
  rw [atName_no _ _ _ hm]
  simpa using h

/-- A schema stored into a box. -/
theorem set3_box {W : World} {N : Nat} {g0 g1 g2 z0 z1 z2 : Value} (h : W.cell? ⟨N, 0, none⟩ = some z0 ∧ W.cell? ⟨N, 1, none⟩ = some z1 ∧ W.cell? ⟨N, 2, none⟩ = some z2) : Box3 (((W.setCell ⟨N, 0, none⟩ g0).setCell ⟨N, 1, none⟩ g1).setCell ⟨N, 2, none⟩ g2) N g0 g1 g2 := by
  obtain ⟨h0, h1, h2⟩ := h
  refine ⟨?_, ?_, ?_⟩
  · rw [World.cell?_setCell_other _ _ _ _ (by simp), World.cell?_setCell_other _ _ _ _ (by simp), World.cell?_setCell_same _ _ _ h0]
  · rw [World.cell?_setCell_other _ _ _ _ (by simp), World.cell?_setCell_same _ _ _ ((World.cell?_setCell_other _ _ _ _ (by simp)).trans h1)]
  · rw [World.cell?_setCell_same _ _ _ ((World.cell?_setCell_other _ _ _ _ (by simp)).trans ((World.cell?_setCell_other _ _ _ _ (by simp)).trans h2))]

theorem set3_below {B : Nat} {V W : World} {N : Nat} {g0 g1 g2 : Value} (h : Below B V W) (hN : B ≤ N) : Below B V (((W.setCell ⟨N, 0, none⟩ g0).setCell ⟨N, 1, none⟩ g1).setCell ⟨N, 2, none⟩ g2) := ((h.setCell hN _).setCell hN _).setCell hN _

theorem kind_alloc {S : Nat → Prop} {W : World} {n : Nat} {k : K n} {c0 c1 c2 : Value} {o : Obj} (h : KindIn S W n k c0 c1 c2) (hS : ∀ b, S b → b < W.heap.size) : KindIn S (W.alloc o) n k c0 c1 c2 :=
  h.keep (fun b hb => ((Below.refl W.heap.size W).alloc (Nat.le_refl _) o).block b (hS b hb)) (fun _ h => h)

theorem set3_kind {S : Nat → Prop} {W : World} {N n : Nat} {k : K n} {c0 c1 c2 g0 g1 g2 : Value} (h : KindIn S W n k c0 c1 c2) (hN : ∀ b, S b → b ≠ N) : KindIn S (((W.setCell ⟨N, 0, none⟩ g0).setCell ⟨N, 1, none⟩ g1).setCell ⟨N, 2, none⟩ g2) n k c0 c1 c2 :=
  h.keep (fun b hb => (Below.heap_setCell _ _ _ _ (hN b hb)).trans ((Below.heap_setCell _ _ _ _ (hN b hb)).trans (Below.heap_setCell _ _ _ _ (hN b hb)))) (fun _ h => h)

/-- A new box for a schema. -/
def NewK (W : World) (g : Nat) : Prop := (W.cell? ⟨g, 0, none⟩ = some (.int .i64 0) ∧ W.cell? ⟨g, 1, none⟩ = some (.slice none 0 0) ∧ W.cell? ⟨g, 2, none⟩ = some (.slice none 0 0)) ∧ W.frozen? ⟨g, 0, none⟩ = false ∧ W.frozen? ⟨g, 1, none⟩ = false ∧ W.frozen? ⟨g, 2, none⟩ = false

theorem keptK_new {V w' : World} (hb : Below (V.alloc (.cells #[.int .i64 0, .slice none 0 0, .slice none 0 0] 26)).heap.size (V.alloc (.cells #[.int .i64 0, .slice none 0 0, .slice none 0 0] 26)) w') : NewK w' V.heap.size := by
  have hz : (V.alloc (.cells #[.int .i64 0, .slice none 0 0, .slice none 0 0] 26)).heap.size = V.heap.size + 1 := by simp
  exact zero3_cells ((hb.block V.heap.size (by omega)).trans (heap_alloc_new _ _))

theorem keptK_newD {V w' : World} (hb : Below (V.alloc (.cells #[.int .i64 0, .slice none 0 0, .slice none 0 0] 26)).drew.heap.size (V.alloc (.cells #[.int .i64 0, .slice none 0 0, .slice none 0 0] 26)).drew w') : NewK w' V.heap.size := by
  have hz : (V.alloc (.cells #[.int .i64 0, .slice none 0 0, .slice none 0 0] 26)).heap.size = V.heap.size + 1 := by simp
  have hb' : Below (V.alloc (.cells #[.int .i64 0, .slice none 0 0, .slice none 0 0] 26)).heap.size (V.alloc (.cells #[.int .i64 0, .slice none 0 0, .slice none 0 0] 26)).drew w' := hb
  have e : (V.alloc (.cells #[.int .i64 0, .slice none 0 0, .slice none 0 0] 26)).drew.heap[V.heap.size]? = (V.alloc (.cells #[.int .i64 0, .slice none 0 0, .slice none 0 0] 26)).heap[V.heap.size]? := rfl
  exact zero3_cells ((hb'.block V.heap.size (by omega)).trans (e.trans (heap_alloc_new _ _)))

theorem memB_get {s : ByteArray} {l : List ByteArray} (h : memB s l = true) : s ∈ l := Classical.byContradiction fun hn => by rw [memB_no hn] at h; cases h

theorem kind_sort {S : Nat → Prop} {W : World} : ∀ {m : Nat} {y : K m} {u0 : Int} {c1 c2 : Value}, KindIn S W m y (.int .i64 u0) c1 c2 → u0 = srtK m y
  | 0, _, _, _, _, h => h.elim
  | _ + 1, _, _, _, _, h => by
    have h1 := h.1
    simpa [srtK] using h1

/-- The kid at a place. -/
theorem kid_at {S : Nat → Prop} {w W : World} {n : Nat} {ks : List (K n)} {ka : Option Addr} {kl kc : Nat} (hk : RowIn3 S w (KindIn S w n) ks (.slice ka kl kc)) (hB : ∀ b, S b → b < w.heap.size) (hb : Below w.heap.size w W) (i : Nat) (h : i < ks.length) :
    ∃ p o u0 ua ul uc va vl vc, ka = some ⟨p, o, none⟩ ∧ (W.cell? ⟨p, o + i * 3, none⟩ = some (.int .i64 u0) ∧ W.cell? ⟨p, o + i * 3 + 1, none⟩ = some (.slice ua ul uc) ∧ W.cell? ⟨p, o + i * 3 + 2, none⟩ = some (.slice va vl vc)) ∧ KindIn S W n ks[i] (.int .i64 u0) (.slice ua ul uc) (.slice va vl vc) ∧ p < w.heap.size := by
  obtain ⟨ka', kc', he, hkl, hkc⟩ := hk
  cases he
  obtain ⟨b, off, rfl, hbB, hcl⟩ := hkc (by intro h'; rw [h'] at h; simp at h)
  obtain ⟨g0, g1, g2, q0, q1, q2, hin⟩ := hcl i h
  obtain ⟨u0, ua, ul, uc, va, vl, vc, rfl, rfl, rfl⟩ := hin.shape
  have hbb := hB b hbB
  exact ⟨b, off, u0, ua, ul, uc, va, vl, vc, rfl, ⟨(hb.cell (p := ⟨b, off + i * 3, none⟩) hbb).trans q0, (hb.cell (p := ⟨b, off + i * 3 + 1, none⟩) hbb).trans q1, (hb.cell (p := ⟨b, off + i * 3 + 2, none⟩) hbb).trans q2⟩, hin.keep (same_below hb hB) (fun _ h => h), hbb⟩

set_option maxRecDepth 20000 in
set_option maxHeartbeats 2000000 in
theorem fits_form (m : Nat) (hn : FitsSSaid m) (S S' : Nat → Prop) (n : Nat) (a : K (n + 1)) (b : K (m + 1)) (c0 c1 c2 e0 e1 e2 : Value) (d d' : Int) (w : World) (ha : KindIn S w (n + 1) a c0 c1 c2) (hb : KindIn S' w (m + 1) b e0 e1 e2) (hB : ∀ b, S b → b < w.heap.size) (hB' : ∀ b, S' b → b < w.heap.size) (hga : ∀ x, x ∈ Kd.kids a → goodK n x (d + 1) = true) (hgb : ∀ y, y ∈ Kd.kids b → goodK m y (d' + 1) = true)
    (hla : (Kd.names a).length = (Kd.kids a).length) (hlb : (Kd.names b).length = (Kd.kids b).length) (hAa : Asc (Kd.names a)) (hAb : Asc (Kd.names b)) (hsa : Kd.sort a = 5) (hsb : Kd.sort b = 5) :
    Calls Tryz.prog 25 #[.agg #[c0, c1, c2], .agg #[e0, e1, e2]] w fun e w' => e = .returned (.bool (fitsK (m + 1) b (n + 1) a)) ∧ Below w.heap.size w w' := by
  have HNo : Hid (∀ i (hi : i < (Kd.names a).length), (Kd.names a)[i] ∉ Kd.names b → fitsK (m + 1) b (n + 1) a = false) := fun i hi h => fitsK_form_no hsb hsa i hi h
  have HBA : Hid (∀ (i j : Nat) (hi : i < (Kd.names a).length) (hi2 : i < (Kd.kids a).length) (hj : j < (Kd.names b).length) (hj2 : j < (Kd.kids b).length), (Kd.names b)[j] = (Kd.names a)[i] → fitsK m (Kd.kids b)[j] n (Kd.kids a)[i] = false → fitsK (m + 1) b (n + 1) a = false) := fun i j hi hi2 hj hj2 => fits_badA hsb hsa hAa i j hi hi2 hj hj2
  have HBB : Hid (∀ (j : Nat) (hj : j < (Kd.names b).length) (hj2 : j < (Kd.kids b).length), (Kd.names b)[j] ∉ Kd.names a → ¬ srtK m (Kd.kids b)[j] = 6 → fitsK (m + 1) b (n + 1) a = false) := fun j hj hj2 => fits_badB hsb hsa j hj hj2
  have HY : Hid ((∀ i, i < (Kd.names a).length → GoodA n m a b i) → (∀ j, j < (Kd.names b).length → GoodB n m a b j) → fitsK (m + 1) b (n + 1) a = true) := fits_yes hsb hsa hAa hAb
  have ha' := ha
  have hb' := hb
  obtain ⟨rfl, -, ha3, ha4⟩ := ha
  obtain ⟨rfl, -, hb3, hb4⟩ := hb
  obtain ⟨na, nc, rfl, hnl, -, hnc⟩ := id ha3
  obtain ⟨ma, mc, rfl, hml, -, hmc⟩ := id hb3
  obtain ⟨ka, kc, rfl, hkl, hkc⟩ := id ha4
  obtain ⟨la, lc, rfl, hll, hlc⟩ := id hb4
  unfold maxLen at hnl hml hkl hll
  rw [hsa] at ha'
  rw [hsb] at hb'
  rw [hsa, hsb]
  obtain ⟨W0, hW0⟩ : ∃ W0, W0 = (w.alloc (.cells #[.int .i64 5, .slice na (Kd.names a).length nc, .slice ka (Kd.kids a).length kc] 26)).alloc (.cells #[.int .i64 5, .slice ma (Kd.names b).length mc, .slice la (Kd.kids b).length lc] 26) := ⟨_, rfl⟩
  obtain ⟨hb0, hxa, hxb, hz0⟩ := two_boxes w _ _ _ _ _ _ W0 hW0
  have hz0' : w.heap.size + 2 ≤ W0.heap.size := by omega
  have H0 : Hid (Below w.heap.size w W0) := hb0
  have HKa : Hid (∀ W, Below W0.heap.size W0 W → KindIn S W (n + 1) a (.int .i64 5) (.slice na (Kd.names a).length nc) (.slice ka (Kd.kids a).length kc) ∧ Box3 W w.heap.size (.int .i64 5) (.slice na (Kd.names a).length nc) (.slice ka (Kd.kids a).length kc)) := fun W hW => ⟨ha'.keep (same_below (below_step hb0 hb0.size hW) hB) (fun _ h => h), hxa.keep hW⟩
  have HKb : Hid (∀ W, Below W0.heap.size W0 W → KindIn S' W (m + 1) b (.int .i64 5) (.slice ma (Kd.names b).length mc) (.slice la (Kd.kids b).length lc) ∧ Box3 W (w.heap.size + 1) (.int .i64 5) (.slice ma (Kd.names b).length mc) (.slice la (Kd.kids b).length lc)) := fun W hW => ⟨hb'.keep (same_below (below_step hb0 hb0.size hW) hB') (fun _ h => h), hxb.keep hW⟩
  have HNa : Hid (∀ W, Below W0.heap.size W0 W → ∀ i (h : i < (Kd.names a).length), ∃ p o, na = some ⟨p, o, none⟩ ∧ W.cell? ⟨p, o + i, none⟩ = some (.string (Kd.names a)[i]) ∧ p < w.heap.size) := fun W hW i h => by
    obtain ⟨p, o, rfl, hpB, hcl⟩ := hnc (by intro h'; rw [h'] at h; simp at h)
    exact ⟨p, o, rfl, ((below_step hb0 hb0.size hW).cell (p := ⟨p, o + i, none⟩) (hB p hpB)).trans (hcl i h), hB p hpB⟩
  have HNb : Hid (∀ W, Below W0.heap.size W0 W → ∀ i (h : i < (Kd.names b).length), ∃ p o, ma = some ⟨p, o, none⟩ ∧ W.cell? ⟨p, o + i, none⟩ = some (.string (Kd.names b)[i]) ∧ p < w.heap.size) := fun W hW i h => by
    obtain ⟨p, o, rfl, hpB, hcl⟩ := hmc (by intro h'; rw [h'] at h; simp at h)
    exact ⟨p, o, rfl, ((below_step hb0 hb0.size hW).cell (p := ⟨p, o + i, none⟩) (hB' p hpB)).trans (hcl i h), hB' p hpB⟩
  have HKi : Hid (∀ W, Below W0.heap.size W0 W → ∀ i (h : i < (Kd.kids a).length), ∃ p o u0 ua ul uc va vl vc, ka = some ⟨p, o, none⟩ ∧ (W.cell? ⟨p, o + i * 3, none⟩ = some (.int .i64 u0) ∧ W.cell? ⟨p, o + i * 3 + 1, none⟩ = some (.slice ua ul uc) ∧ W.cell? ⟨p, o + i * 3 + 2, none⟩ = some (.slice va vl vc)) ∧ KindIn S W n (Kd.kids a)[i] (.int .i64 u0) (.slice ua ul uc) (.slice va vl vc) ∧ p < w.heap.size) := fun W hW i h => kid_at ha4 hB (below_step hb0 hb0.size hW) i h
  have HKj : Hid (∀ W, Below W0.heap.size W0 W → ∀ i (h : i < (Kd.kids b).length), ∃ p o u0 ua ul uc va vl vc, la = some ⟨p, o, none⟩ ∧ (W.cell? ⟨p, o + i * 3, none⟩ = some (.int .i64 u0) ∧ W.cell? ⟨p, o + i * 3 + 1, none⟩ = some (.slice ua ul uc) ∧ W.cell? ⟨p, o + i * 3 + 2, none⟩ = some (.slice va vl vc)) ∧ KindIn S' W m (Kd.kids b)[i] (.int .i64 u0) (.slice ua ul uc) (.slice va vl vc) ∧ p < w.heap.size) := fun W hW i h => kid_at hb4 hB' (below_step hb0 hb0.size hW) i h
  have HGd : Hid ((∀ x, x ∈ Kd.kids a → goodK n x (d + 1) = true) ∧ (∀ y, y ∈ Kd.kids b → goodK m y (d' + 1) = true)) := ⟨hga, hgb⟩
  have HAs : Hid (Asc (Kd.names a) ∧ Asc (Kd.names b)) := ⟨hAa, hAb⟩
  have HLs : Hid ((Kd.names a).length = (Kd.kids a).length ∧ (Kd.names b).length = (Kd.kids b).length) := ⟨hla, hlb⟩
  have HBS : Hid ((∀ b, S b → b < w.heap.size) ∧ (∀ b, S' b → b < w.heap.size)) := ⟨hB, hB'⟩
  clear hga hgb hkc hlc ha3 ha4 hb3 hb4 ha' hb' hnc hmc hsa hsb hAa hAb hb0 hxa hxb hz0 hla hlb hB hB'
  go_enter Tryz.func25, Tryz.ntmps25
  go_wp2_with fail
  rw [← hW0]
  clear hW0
  go_loopw [5] (fun iv wr => ∃ i : Nat, i ≤ (Kd.names a).length ∧ iv = .int .i64 i ∧ Below W0.heap.size W0 wr ∧ ∀ q, q < i → GoodA n m a b q) (fun iv _ => (Kd.names a).length - (intOf iv).toNat)
  case atStart => exact ⟨0, Nat.zero_le _, rfl, Below.refl _ _, fun q h => absurd h (Nat.not_lt_zero _)⟩
  case round =>
    obtain ⟨i, hi, rfl, hbel, hall⟩ := hrel
    have HALL := hidF hall
    have HBe : Hid (Below W0.heap.size W0 wr) := hbel
    have hzr := hbel.size
    obtain ⟨i0, i1, i2⟩ := (HKa.out wr hbel).2
    obtain ⟨j0, j1, j2⟩ := (HKb.out wr hbel).2
    clear hall hbel
    by_cases hlt : i < (Kd.names a).length
    · have hlti : (i : Int) < ((Kd.names a).length : Int) := by omega
      have hltk : i < (Kd.kids a).length := by rw [← HLs.out.1]; exact hlt
      obtain ⟨p, o, rfl, f0, hpl⟩ := HNa.out wr HBe.out i hlt
      have hA1 : Below W0.heap.size W0 wr.drew := HBe.out.drew
      have n1 : ¬ wr.heap.size = w.heap.size := by omega
      have n2 : ¬ wr.heap.size = w.heap.size + 1 := by omega
      have n3 : ¬ wr.heap.size = p := by omega
      have HS0 : Hid (∀ nm, (Kd.names a)[i] = nm → ∀ W, Below W0.heap.size W0 W → (W.cell? ⟨w.heap.size, 1, none⟩ = some (.slice (some ⟨p, o, none⟩) (Kd.names a).length nc) ∧ W.cell? ⟨p, o + i, none⟩ = some (.string nm)) ∧ W.cell? ⟨w.heap.size + 1, 0, none⟩ = some (.int .i64 5) ∧ W.cell? ⟨w.heap.size + 1, 1, none⟩ = some (.slice ma (Kd.names b).length mc) ∧ W.cell? ⟨w.heap.size + 1, 2, none⟩ = some (.slice la (Kd.kids b).length lc)) := fun nm he W hW => by
        have hA := (HKa.out W hW).2
        have hBx := (HKb.out W hW).2
        obtain ⟨p', o', he', hc', -⟩ := HNa.out W hW i hlt
        cases he'
        exact ⟨⟨hA.c1, by rw [← he]; exact hc'⟩, hBx.c0, hBx.c1, hBx.c2⟩
      by_cases hmem : (Kd.names a)[i] ∈ Kd.names b
      · obtain ⟨j, hj, hje⟩ := List.getElem_of_mem hmem
        have hjk : j < (Kd.kids b).length := by rw [← HLs.out.2]; exact hj
        have HCk : Hid (∀ W, Below W0.heap.size W0 W → Calls Tryz.prog 48 #[.agg #[.int .i64 5, .slice ma (Kd.names b).length mc, .slice la (Kd.kids b).length lc], .string (Kd.names a)[i]] W fun e w' => (Below W0.heap.size W0 w' ∧ Below W.heap.size W w') ∧ ∃ g0 g1 g2, e = .returned (.tuple #[.agg #[g0, g1, g2], .bool true]) ∧ KindIn S' w' m (Kd.kids b)[j] g0 g1 g2) := fun W hW => by
          refine (l3Kid_yes S' m b _ _ _ (Kd.names a)[i] W (HKb.out W hW).1 (fun b hb => Nat.lt_of_lt_of_le (HBS.out.2 b hb) (by have := hW.size; omega)) j hj hjk hje (fun q hq hqj he => by have := asc_inj HAs.out.2 q j hq hj (he.trans hje.symm); omega)).mono fun e w' h => ?_
          exact ⟨⟨below_step hW hW.size h.1, h.1⟩, h.2⟩
        have HGy : Hid (goodK m (Kd.kids b)[j] (d' + 1) = true ∧ goodK n (Kd.kids a)[i] (d + 1) = true) := ⟨HGd.out.2 _ (List.getElem_mem hjk), HGd.out.1 _ (List.getElem_mem hltk)⟩
        have HBad : Hid (fitsK m (Kd.kids b)[j] n (Kd.kids a)[i] = false → fitsK (m + 1) b (n + 1) a = false) := HBA.out i j hlt hltk hj hjk hje
        have HGo : Hid (fitsK m (Kd.kids b)[j] n (Kd.kids a)[i] = true → ∀ q, q < i + 1 → GoodA n m a b q) := fun h q hq => by
          by_cases hqi : q < i
          · exact HALL.out q hqi
          · have : q = i := by omega
            subst this
            exact ⟨j, hlt, hltk, hj, hjk, hje, h⟩
        have HXi : Hid (∀ W, Below W0.heap.size W0 W → ∃ p o u0 ua ul uc va vl vc, ka = some ⟨p, o, none⟩ ∧ (W.cell? ⟨p, o + i * 3, none⟩ = some (.int .i64 u0) ∧ W.cell? ⟨p, o + i * 3 + 1, none⟩ = some (.slice ua ul uc) ∧ W.cell? ⟨p, o + i * 3 + 2, none⟩ = some (.slice va vl vc)) ∧ KindIn S W n (Kd.kids a)[i] (.int .i64 u0) (.slice ua ul uc) (.slice va vl vc) ∧ p < w.heap.size) := fun W hW => HKi.out W hW i hltk
        have hltki : (i : Int) < ((Kd.kids a).length : Int) := by omega
        clear hmem hje
        generalize (Kd.names a)[i] = nm at *
        generalize (Kd.kids b)[j] = yj at *
        generalize (Kd.kids a)[i] = xi at *
        have HS : Hid (∀ W, Below W0.heap.size W0 W → (W.cell? ⟨w.heap.size, 1, none⟩ = some (.slice (some ⟨p, o, none⟩) (Kd.names a).length nc) ∧ W.cell? ⟨p, o + i, none⟩ = some (.string nm)) ∧ W.cell? ⟨w.heap.size + 1, 0, none⟩ = some (.int .i64 5) ∧ W.cell? ⟨w.heap.size + 1, 1, none⟩ = some (.slice ma (Kd.names b).length mc) ∧ W.cell? ⟨w.heap.size + 1, 2, none⟩ = some (.slice la (Kd.kids b).length lc)) := HS0.out nm rfl
        go_upto_region 12 with fail
        go_cut [5, 6, 7] from 49 to 77 (fun iv pv ov wx => iv = .int .i64 i ∧ ov = .bool true ∧ ∃ N y0 ya yl yc za zl zc, pv = .pointer (some ⟨N, 0, none⟩) ∧ Box3 wx N (.int .i64 y0) (.slice ya yl yc) (.slice za zl zc) ∧ KindIn S' wx m yj (.int .i64 y0) (.slice ya yl yc) (.slice za zl zc) ∧ Below W0.heap.size W0 wx ∧ W0.heap.size ≤ N)
        case first =>
          go_region_held (fun w' => (w'.cell? ⟨w.heap.size, 1, none⟩ = some (.slice (some ⟨p, o, none⟩) (Kd.names a).length nc) ∧ w'.cell? ⟨p, o + i, none⟩ = some (.string nm)) ∧ w'.cell? ⟨w.heap.size + 1, 0, none⟩ = some (.int .i64 5) ∧ w'.cell? ⟨w.heap.size + 1, 1, none⟩ = some (.slice ma (Kd.names b).length mc) ∧ w'.cell? ⟨w.heap.size + 1, 2, none⟩ = some (.slice la (Kd.kids b).length lc)) (first | with_reducible assumption | go_keep) (first | (go_at_call 48; refine (HCk.out _ ?_).mono ?_; (first | with_reducible assumption | (with_reducible refine below_alloc ?_ _; with_reducible assumption) | (with_reducible refine below_allocD ?_ _; with_reducible assumption)); rintro e w5 ⟨⟨hb5, hc5⟩, g0, g1, g2, rfl, hg5⟩; obtain ⟨y0, ya, yl, yc, za, zl, zc, rfl, rfl, rfl⟩ := hg5.shape; obtain ⟨⟨k0, k1⟩, k2, k3, k4⟩ := HS.out w5 hb5; have hz5 := hb5.size; have m1 : ¬ w5.heap.size = w.heap.size := (by omega); have m2 : ¬ w5.heap.size = w.heap.size + 1 := (by omega); have m3 : ¬ w5.heap.size = p := (by omega); first | ((with_reducible (have hk5 := keptK_new hc5)); obtain ⟨⟨l0, l1, l2⟩, l3, l4, l5⟩ := id hk5) | ((with_reducible (have hk5 := keptK_newD hc5)); obtain ⟨⟨l0, l1, l2⟩, l3, l4, l5⟩ := id hk5) | skip))
          all_goals
            go_wp2_with fail
            go_meet
            first
              | with_reducible exact ⟨rfl, rfl, _, _, _, _, _, _, _, _, rfl, set3_box ⟨l0, l1, l2⟩, set3_kind hg5 (fun b hb => by have := HBS.out.2 b hb; omega), set3_below hb5 hzr, hzr⟩
              | with_reducible exact ⟨rfl, rfl, _, _, _, _, _, _, _, _, rfl, Box3.new _ _ _ _ _, kind_alloc hg5 (fun b hb => Nat.lt_of_lt_of_le (HBS.out.2 b hb) (by omega)), below_alloc hb5 _, hz5⟩
        case rest =>
          obtain ⟨rfl, rfl, N, y0, ya, yl, yc, za, zl, zc, rfl, hbox, hky, hbc, hN⟩ := hcut
          obtain ⟨q, r, u0, ua, ul, uc, va, vl, vc, rfl, ⟨x0, x1, x2⟩, hxi, hql⟩ := HXi.out wc hbc
          have hA := (HKa.out wc hbc).2
          have HCf : Hid (Calls Tryz.prog 25 #[.agg #[.int .i64 u0, .slice ua ul uc, .slice va vl vc], .agg #[.int .i64 y0, .slice ya yl yc, .slice za zl zc]] wc.drew fun e w' => e = .returned (.bool (fitsK m yj n xi)) ∧ Below W0.heap.size W0 w' ∧ (w'.cell? ⟨w.heap.size, 2, none⟩ = some (.slice (some ⟨q, r, none⟩) (Kd.kids a).length kc) ∧ w'.cell? ⟨q, r + i * 3, none⟩ = some (.int .i64 u0) ∧ w'.cell? ⟨q, r + i * 3 + 1, none⟩ = some (.slice ua ul uc) ∧ w'.cell? ⟨q, r + i * 3 + 2, none⟩ = some (.slice va vl vc)) ∧ w'.cell? ⟨N, 0, none⟩ = some (.int .i64 y0) ∧ w'.cell? ⟨N, 1, none⟩ = some (.slice ya yl yc) ∧ w'.cell? ⟨N, 2, none⟩ = some (.slice za zl zc)) := by
            have hbd : Below wc.heap.size wc wc.drew := (Below.refl _ _).drew
            have hzc := hbc.size
            have hNl : N < wc.heap.size := World.block_lt_of_cell? wc ⟨N, 0, none⟩ hbox.c0
            refine (hn S S' n xi yj _ _ _ _ _ _ (d + 1) (d' + 1) wc.drew (KindIn.keep (w := wc) (w' := wc.drew) (fun _ _ => rfl) (fun _ h => h) hxi) (KindIn.keep (w := wc) (w' := wc.drew) (fun _ _ => rfl) (fun _ h => h) hky) (fun b hb => by have := HBS.out.1 b hb; show b < wc.heap.size; omega) (fun b hb => by have := HBS.out.2 b hb; show b < wc.heap.size; omega) HGy.out.2 HGy.out.1).mono ?_
            rintro e w' ⟨rfl, hb'⟩
            have hbb : Below wc.heap.size wc w' := hbd.trans hb'
            have hc : ∀ k j, k < wc.heap.size → w'.cell? ⟨k, j, none⟩ = wc.cell? ⟨k, j, none⟩ := fun k j h => hbb.cell (p := ⟨k, j, none⟩) h
            exact ⟨rfl, below_step hbc hbc.size hbb, ⟨(hc _ _ (by omega)).trans hA.c2, (hc _ _ (by omega)).trans x0, (hc _ _ (by omega)).trans x1, (hc _ _ (by omega)).trans x2⟩, (hc _ _ (by omega)).trans hbox.c0, (hc _ _ (by omega)).trans hbox.c1, (hc _ _ (by omega)).trans hbox.c2⟩
          obtain ⟨b0, b1, b2⟩ := hbox
          obtain ⟨a0, a1, a2⟩ := hA
          clear hky hxi hn i0 i1 i2 j0 j1 j2 f0 HCk HS HS0 n1 n2 n3 hA1
          go_upto_region 13 with fail
          go_cut [5, 77] from 49 to 77 (fun iv rv wx => iv = .int .i64 i ∧ rv = .bool (!fitsK m yj n xi) ∧ Below W0.heap.size W0 wx)
          case first =>
            go_region_held (fun w' => (w'.cell? ⟨w.heap.size, 2, none⟩ = some (.slice (some ⟨q, r, none⟩) (Kd.kids a).length kc) ∧ w'.cell? ⟨q, r + i * 3, none⟩ = some (.int .i64 u0) ∧ w'.cell? ⟨q, r + i * 3 + 1, none⟩ = some (.slice ua ul uc) ∧ w'.cell? ⟨q, r + i * 3 + 2, none⟩ = some (.slice va vl vc)) ∧ w'.cell? ⟨N, 0, none⟩ = some (.int .i64 y0) ∧ w'.cell? ⟨N, 1, none⟩ = some (.slice ya yl yc) ∧ w'.cell? ⟨N, 2, none⟩ = some (.slice za zl zc)) (first | with_reducible assumption | go_keep) (first | (go_at_call 25; refine HCf.out.mono ?_; rintro e w6 ⟨rfl, hb6, ⟨k0, k1, k2, k3⟩, k4, k5, k6⟩))
            all_goals
              go_wp2_with fail
              go_meet
              exact ⟨rfl, by simp, hb6⟩
          case rest =>
            obtain ⟨rfl, rfl, hbf⟩ := hcut
            cases hres : fitsK m yj n xi
            · have HF : Hid (fitsK (m + 1) b (n + 1) a = false) := HBad.out hres
              have HBf : Hid (Below w.heap.size w _) := below_step H0.out H0.out.size hbf
              clear hres hbf
              go_wp2_with fail
              go_ret
              exact ⟨ret_bool HF.out.symm, HBf.out⟩
            · have HF : Hid (∀ q, q < i + 1 → GoodA n m a b q) := HGo.out hres
              have HBf : Hid (Below W0.heap.size W0 _) := hbf
              clear hres hbf
              go_wp2_with fail
              go_roundw
              case rel => exact ⟨i + 1, by omega, by go_num, HBf.out, HF.out⟩
              case measure => simp [intOf]; omega
      · have HF : Hid (fitsK (m + 1) b (n + 1) a = false) := HNo.out i hlt hmem
        have HCk : Hid (∀ W, Below W0.heap.size W0 W → Calls Tryz.prog 48 #[.agg #[.int .i64 5, .slice ma (Kd.names b).length mc, .slice la (Kd.kids b).length lc], .string (Kd.names a)[i]] W fun e w' => (Below W0.heap.size W0 w' ∧ Below W.heap.size W w') ∧ e = .returned (.tuple #[.agg #[.int .i64 0, .slice none 0 0, .slice none 0 0], .bool false])) := fun W hW => by
          refine (l3Kid_no S' m b _ _ _ (Kd.names a)[i] W (HKb.out W hW).1 (fun b hb => Nat.lt_of_lt_of_le (HBS.out.2 b hb) (by have := hW.size; omega)) (fun q hq he => hmem (by rw [← he]; exact List.getElem_mem hq))).mono fun e w' h => ?_
          exact ⟨⟨below_step hW hW.size h.1, h.1⟩, h.2⟩
        clear hmem
        generalize (Kd.names a)[i] = nm at *
        have HS : Hid (∀ W, Below W0.heap.size W0 W → (W.cell? ⟨w.heap.size, 1, none⟩ = some (.slice (some ⟨p, o, none⟩) (Kd.names a).length nc) ∧ W.cell? ⟨p, o + i, none⟩ = some (.string nm)) ∧ W.cell? ⟨w.heap.size + 1, 0, none⟩ = some (.int .i64 5) ∧ W.cell? ⟨w.heap.size + 1, 1, none⟩ = some (.slice ma (Kd.names b).length mc) ∧ W.cell? ⟨w.heap.size + 1, 2, none⟩ = some (.slice la (Kd.kids b).length lc)) := HS0.out nm rfl
        go_upto_region 12 with fail
        go_cut [5, 6, 7] from 49 to 77 (fun iv pv ov wx => iv = .int .i64 i ∧ ov = .bool false ∧ Below W0.heap.size W0 wx)
        case first =>
          go_region_held (fun w' => (w'.cell? ⟨w.heap.size, 1, none⟩ = some (.slice (some ⟨p, o, none⟩) (Kd.names a).length nc) ∧ w'.cell? ⟨p, o + i, none⟩ = some (.string nm)) ∧ w'.cell? ⟨w.heap.size + 1, 0, none⟩ = some (.int .i64 5) ∧ w'.cell? ⟨w.heap.size + 1, 1, none⟩ = some (.slice ma (Kd.names b).length mc) ∧ w'.cell? ⟨w.heap.size + 1, 2, none⟩ = some (.slice la (Kd.kids b).length lc)) (first | with_reducible assumption | go_keep) (first | (go_at_call 48; refine (HCk.out _ ?_).mono ?_; (first | with_reducible assumption | (with_reducible refine below_alloc ?_ _; with_reducible assumption) | (with_reducible refine below_allocD ?_ _; with_reducible assumption)); rintro e w5 ⟨⟨hb5, hc5⟩, rfl⟩; obtain ⟨⟨k0, k1⟩, k2, k3, k4⟩ := HS.out w5 hb5; have hz5 := hb5.size; have m1 : ¬ w5.heap.size = w.heap.size := (by omega); have m2 : ¬ w5.heap.size = w.heap.size + 1 := (by omega); have m3 : ¬ w5.heap.size = p := (by omega); first | ((with_reducible (have hk5 := keptK_new hc5)); obtain ⟨⟨l0, l1, l2⟩, l3, l4, l5⟩ := id hk5) | ((with_reducible (have hk5 := keptK_newD hc5)); obtain ⟨⟨l0, l1, l2⟩, l3, l4, l5⟩ := id hk5) | skip))
          all_goals
            go_wp2_with fail
            go_meet
            first
              | with_reducible exact ⟨rfl, rfl, set3_below hb5 hzr⟩
              | with_reducible exact ⟨rfl, rfl, below_alloc hb5 _⟩
        case rest =>
          obtain ⟨rfl, rfl, hbc⟩ := hcut
          have HBf : Hid (Below w.heap.size w wc) := below_step H0.out H0.out.size hbc
          clear hbc i0 i1 i2 j0 j1 j2 f0 HCk HS HS0 n1 n2 n3 hA1
          go_wp2_with fail
          go_quiet (fail)
          go_wp2_with fail
          go_ret
          exact ⟨ret_bool HF.out.symm, below_drewN HBf.out _⟩
    · have hlti : ¬ (i : Int) < ((Kd.names a).length : Int) := by omega
      have HAll : Hid (∀ q, q < (Kd.names a).length → GoodA n m a b q) := fun q hq => HALL.out q (by omega)
      obtain ⟨V, hV⟩ : ∃ V, V = wr := ⟨_, rfl⟩
      rw [← hV] at HBe hzr i0 i1 i2 j0 j1 j2 ⊢
      clear hV HALL HNo HBA
      go_wp2_with fail
      clear i0 i1 i2 j0 j1 j2
      go_loopw [8] (fun jv wr' => ∃ j : Nat, j ≤ (Kd.names b).length ∧ jv = .int .i64 j ∧ Below W0.heap.size W0 wr' ∧ ∀ q, q < j → GoodB n m a b q) (fun jv _ => (Kd.names b).length - (intOf jv).toNat)
      case atStart => exact ⟨0, Nat.zero_le _, rfl, HBe.out, fun q h => absurd h (Nat.not_lt_zero _)⟩
      case round =>
        obtain ⟨j, hj, rfl, hbel, hall⟩ := hrel
        have HALL := hidF hall
        have HBr : Hid (Below W0.heap.size W0 wr) := hbel
        have hzr' := hbel.size
        obtain ⟨i0, i1, i2⟩ := (HKa.out wr hbel).2
        obtain ⟨j0, j1, j2⟩ := (HKb.out wr hbel).2
        clear hall hbel
        by_cases hltb : j < (Kd.names b).length
        · have hltbi : (j : Int) < ((Kd.names b).length : Int) := by omega
          have hltk : j < (Kd.kids b).length := by rw [← HLs.out.2]; exact hltb
          obtain ⟨p, o, rfl, f0, hpl⟩ := HNb.out wr HBr.out j hltb
          have hA1 : Below W0.heap.size W0 wr.drew := HBr.out.drew
          have n1 : ¬ wr.heap.size = w.heap.size := by omega
          have n2 : ¬ wr.heap.size = w.heap.size + 1 := by omega
          have n3 : ¬ wr.heap.size = p := by omega
          have HS0 : Hid (∀ nm, (Kd.names b)[j] = nm → ∀ W, Below W0.heap.size W0 W → (W.cell? ⟨w.heap.size + 1, 1, none⟩ = some (.slice (some ⟨p, o, none⟩) (Kd.names b).length mc) ∧ W.cell? ⟨p, o + j, none⟩ = some (.string nm)) ∧ W.cell? ⟨w.heap.size, 0, none⟩ = some (.int .i64 5) ∧ W.cell? ⟨w.heap.size, 1, none⟩ = some (.slice na (Kd.names a).length nc) ∧ W.cell? ⟨w.heap.size, 2, none⟩ = some (.slice ka (Kd.kids a).length kc)) := fun nm he W hW => by
            have hA := (HKa.out W hW).2
            have hBx := (HKb.out W hW).2
            obtain ⟨p', o', he', hc', -⟩ := HNb.out W hW j hltb
            cases he'
            exact ⟨⟨hBx.c1, by rw [← he]; exact hc'⟩, hA.c0, hA.c1, hA.c2⟩
          have HCk : Hid (∀ W, Below W0.heap.size W0 W → Calls Tryz.prog 48 #[.agg #[.int .i64 5, .slice na (Kd.names a).length nc, .slice ka (Kd.kids a).length kc], .string (Kd.names b)[j]] W fun e w' => (Below W0.heap.size W0 w' ∧ Below W.heap.size W w') ∧ ∃ y0 ya yl yc za zl zc, e = .returned (.tuple #[.agg #[.int .i64 y0, .slice ya yl yc, .slice za zl zc], .bool (memB (Kd.names b)[j] (Kd.names a))])) := fun W hW => by
            by_cases hmem : (Kd.names b)[j] ∈ Kd.names a
            · obtain ⟨i', hi', hie⟩ := List.getElem_of_mem hmem
              rw [memB_yes hmem]
              refine (l3Kid_yes S n a _ _ _ (Kd.names b)[j] W (HKa.out W hW).1 (fun b hb => Nat.lt_of_lt_of_le (HBS.out.1 b hb) (by have := hW.size; omega)) i' hi' (by rw [← HLs.out.1]; exact hi') hie (fun q hq hqj he => by have := asc_inj HAs.out.1 q i' hq hi' (he.trans hie.symm); omega)).mono fun e w' h => ?_
              obtain ⟨hb', g0, g1, g2, rfl, hg⟩ := h
              obtain ⟨y0, ya, yl, yc, za, zl, zc, rfl, rfl, rfl⟩ := hg.shape
              exact ⟨⟨below_step hW hW.size hb', hb'⟩, _, _, _, _, _, _, _, rfl⟩
            · rw [memB_no hmem]
              refine (l3Kid_no S n a _ _ _ (Kd.names b)[j] W (HKa.out W hW).1 (fun b hb => Nat.lt_of_lt_of_le (HBS.out.1 b hb) (by have := hW.size; omega)) (fun q hq he => hmem (by rw [← he]; exact List.getElem_mem hq))).mono fun e w' h => ?_
              exact ⟨⟨below_step hW hW.size h.1, h.1⟩, _, _, _, _, _, _, _, h.2⟩
          have HBad : Hid (memB (Kd.names b)[j] (Kd.names a) = false → ¬ srtK m (Kd.kids b)[j] = 6 → fitsK (m + 1) b (n + 1) a = false) := fun h => HBB.out j hltb hltk (fun h' => by rw [memB_yes h'] at h; cases h)
          have HGo : Hid (memB (Kd.names b)[j] (Kd.names a) = true ∨ srtK m (Kd.kids b)[j] = 6 → ∀ q, q < j + 1 → GoodB n m a b q) := fun h q hq => by
            by_cases hqi : q < j
            · exact HALL.out q hqi
            · have : q = j := by omega
              subst this
              exact ⟨hltb, hltk, h.imp memB_get id⟩
          have HXj : Hid (∀ W, Below W0.heap.size W0 W → ∃ p o u0, la = some ⟨p, o, none⟩ ∧ W.cell? ⟨p, o + j * 3, none⟩ = some (.int .i64 u0) ∧ u0 = srtK m (Kd.kids b)[j]) := fun W hW => by
            obtain ⟨p, o, u0, ua, ul, uc, va, vl, vc, h1, h2, h3, -⟩ := HKj.out W hW j hltk
            exact ⟨p, o, u0, h1, h2.1, kind_sort h3⟩
          have hltki : (j : Int) < ((Kd.kids b).length : Int) := by omega
          generalize hmm : memB (Kd.names b)[j] (Kd.names a) = mm at *
          clear hmm
          generalize (Kd.names b)[j] = nm at *
          generalize srtK m (Kd.kids b)[j] = sj at *
          have HS : Hid (∀ W, Below W0.heap.size W0 W → (W.cell? ⟨w.heap.size + 1, 1, none⟩ = some (.slice (some ⟨p, o, none⟩) (Kd.names b).length mc) ∧ W.cell? ⟨p, o + j, none⟩ = some (.string nm)) ∧ W.cell? ⟨w.heap.size, 0, none⟩ = some (.int .i64 5) ∧ W.cell? ⟨w.heap.size, 1, none⟩ = some (.slice na (Kd.names a).length nc) ∧ W.cell? ⟨w.heap.size, 2, none⟩ = some (.slice ka (Kd.kids a).length kc)) := HS0.out nm rfl
          go_upto_region 18 with fail
          go_cut [8, 10] from 78 to 105 (fun jv ov wx => jv = .int .i64 j ∧ ov = .bool mm ∧ Below W0.heap.size W0 wx)
          case first =>
            go_region_held (fun w' => (w'.cell? ⟨w.heap.size + 1, 1, none⟩ = some (.slice (some ⟨p, o, none⟩) (Kd.names b).length mc) ∧ w'.cell? ⟨p, o + j, none⟩ = some (.string nm)) ∧ w'.cell? ⟨w.heap.size, 0, none⟩ = some (.int .i64 5) ∧ w'.cell? ⟨w.heap.size, 1, none⟩ = some (.slice na (Kd.names a).length nc) ∧ w'.cell? ⟨w.heap.size, 2, none⟩ = some (.slice ka (Kd.kids a).length kc)) (first | with_reducible assumption | go_keep) (first | (go_at_call 48; refine (HCk.out _ ?_).mono ?_; (first | with_reducible assumption | (with_reducible refine below_alloc ?_ _; with_reducible assumption) | (with_reducible refine below_allocD ?_ _; with_reducible assumption)); rintro e w5 ⟨⟨hb5, hc5⟩, y0, ya, yl, yc, za, zl, zc, rfl⟩; obtain ⟨⟨k0, k1⟩, k2, k3, k4⟩ := HS.out w5 hb5; have hz5 := hb5.size; have m1 : ¬ w5.heap.size = w.heap.size := (by omega); have m2 : ¬ w5.heap.size = w.heap.size + 1 := (by omega); have m3 : ¬ w5.heap.size = p := (by omega); first | ((with_reducible (have hk5 := keptK_new hc5)); obtain ⟨⟨l0, l1, l2⟩, l3, l4, l5⟩ := id hk5) | ((with_reducible (have hk5 := keptK_newD hc5)); obtain ⟨⟨l0, l1, l2⟩, l3, l4, l5⟩ := id hk5) | skip))
            all_goals
              go_wp2_with fail
              go_meet
              first
                | with_reducible exact ⟨rfl, rfl, set3_below hb5 hzr'⟩
                | with_reducible exact ⟨rfl, rfl, below_alloc hb5 _⟩
          case rest =>
            obtain ⟨rfl, rfl, hbc⟩ := hcut
            obtain ⟨q, r, u0, rfl, x0, rfl⟩ := HXj.out wc hbc
            have hBx := (HKb.out wc hbc).2
            obtain ⟨b0, b1, b2⟩ := hBx
            have HBf : Hid (Below W0.heap.size W0 wc) := hbc
            clear hbc i0 i1 i2 j0 j1 j2 f0 HCk HS HS0 n1 n2 n3 hA1
            cases mm
            · by_cases h6 : u0 = 6
              · have h6b : (u0 != 6) = false := by simpa using h6
                have HF : Hid (∀ q, q < j + 1 → GoodB n m a b q) := HGo.out (.inr h6)
                clear h6
                go_wp2_with fail
                go_roundw
                case rel => exact ⟨j + 1, by omega, by go_num, HBf.out, HF.out⟩
                case measure => simp [intOf]; omega
              · have h6b : (u0 != 6) = true := by simpa using h6
                have HF : Hid (fitsK (m + 1) b (n + 1) a = false) := HBad.out rfl h6
                clear h6
                go_wp2_with fail
                go_ret
                exact ⟨ret_bool HF.out.symm, below_step H0.out H0.out.size HBf.out⟩
            · have HF : Hid (∀ q, q < j + 1 → GoodB n m a b q) := HGo.out (.inl rfl)
              go_wp2_with fail
              go_roundw
              case rel => exact ⟨j + 1, by omega, by go_num, HBf.out, HF.out⟩
              case measure => simp [intOf]; omega
        · have hltbi : ¬ (j : Int) < ((Kd.names b).length : Int) := by omega
          have HF : Hid (fitsK (m + 1) b (n + 1) a = true) := HY.out HAll.out (fun q hq => HALL.out q (by omega))
          go_wp2_with fail
          go_ret
          exact ⟨ret_bool HF.out.symm, below_step H0.out H0.out.size HBr.out⟩

end Go.Proofs.YthcdeahobjhkbaaGreatDoor

/-
  The specification's l3Fits and KindFits: what they answer.
-/
namespace Go.Proofs.YthcdeahobjhkbaaGreatDoor
open Go.RowKit

set_option maxRecDepth 20000 in
set_option maxHeartbeats 2000000 in
theorem fits_leafS (S S' : Nat → Prop) (n m : Nat) (a : K (n + 1)) (b : K (m + 1)) (c0 c1 c2 e0 e1 e2 : Value) (w : World) (ha : KindIn S w (n + 1) a c0 c1 c2) (hb : KindIn S' w (m + 1) b e0 e1 e2)
    (hs : Kd.sort b = 1 ∨ Kd.sort b = 2 ∨ Kd.sort b = 3) (hsa : Kd.sort a = Kd.sort b) (hna : Kd.names a = []) (hnb : Kd.names b = []) :
    Calls Tryz.prog 25 #[.agg #[c0, c1, c2], .agg #[e0, e1, e2]] w fun e w' => e = .returned (.bool (fitsK (m + 1) b (n + 1) a)) ∧ Below w.heap.size w w' := by
  have HF : Hid (fitsK (m + 1) b (n + 1) a = true) := fitsK_leaf hs hsa hna hnb
  obtain ⟨rfl, -, ha3, ha4⟩ := ha
  obtain ⟨rfl, -, hb3, hb4⟩ := hb
  obtain ⟨na, nc, rfl, -, -, -⟩ := ha3
  obtain ⟨ma, mc, rfl, -, -, -⟩ := hb3
  obtain ⟨ka, kc, rfl, -, -⟩ := ha4
  obtain ⟨la, lc, rfl, -, -⟩ := hb4
  rw [hsa, hna, hnb]
  simp only [List.length_nil]
  generalize (Kd.kids a).length = kl
  generalize (Kd.kids b).length = ll
  have h6 : (Kd.sort b == 6) = false := by simp; omega
  have h4 : (Kd.sort b == 4) = false := by simp; omega
  clear hsa hna hnb hs
  generalize Kd.sort b = sb at *
  obtain ⟨W0, hW0⟩ : ∃ W0, W0 = (w.alloc (.cells #[.int .i64 sb, .slice na 0 nc, .slice ka kl kc] 26)).alloc (.cells #[.int .i64 sb, .slice ma 0 mc, .slice la ll lc] 26) := ⟨_, rfl⟩
  obtain ⟨hb0, ⟨i0, i1, i2⟩, ⟨j0, j1, j2⟩, -⟩ := two_boxes w _ _ _ _ _ _ W0 hW0
  have HB : Hid (Below w.heap.size w W0) := hb0
  clear hb0
  go_enter Tryz.func25, Tryz.ntmps25
  go_wp2_with fail
  rw [← hW0]
  clear hW0
  go_loopw [5] (fun iv wr => iv = .int .i64 0 ∧ wr = W0) (fun _ _ => 0)
  case atStart => exact ⟨rfl, rfl⟩
  case round =>
    obtain ⟨rfl, hw⟩ := hrel
    have hw' := hw.symm
    clear hw
    subst hw'
    go_wp2_with fail
    go_loopw [8] (fun iv wr => iv = .int .i64 0 ∧ wr = W0) (fun _ _ => 0)
    case atStart => exact ⟨rfl, rfl⟩
    case round =>
      obtain ⟨rfl, hw⟩ := hrel
      have hw' := hw.symm
      clear hw
      subst hw'
      go_wp2_with fail
      go_ret
      exact ⟨ret_bool HF.out.symm, HB.out⟩

theorem l3Fits_step (m : Nat) (hn : FitsSSaid m) : FitsSSaid (m + 1) := by
  intro S S' n a b c0 c1 c2 e0 e1 e2 d d' w ha hb hB hB' hga hgb
  cases n with
  | zero => exact ha.elim
  | succ n =>
  have hka := goodK_kids hga
  have hkb := goodK_kids hgb
  have hga' := hga
  simp only [goodK, Bool.and_eq_true] at hga' hgb
  have hGA : ∀ x, x ∈ Kd.kids a → goodK n x (d + 1) = true := List.all_eq_true.1 hga'.2
  have hGB : ∀ y, y ∈ Kd.kids b → goodK m y (d' + 1) = true := List.all_eq_true.1 hgb.2
  by_cases h6 : Kd.sort b = 6
  · rcases hkb with ⟨h, -, -⟩ | ⟨-, -, y, hy⟩ | ⟨h, -⟩
    · omega
    · by_cases h6a : Kd.sort a = 6
      · rcases hka with ⟨h, -, -⟩ | ⟨-, -, x, hx⟩ | ⟨h, -⟩
        · omega
        · exact fits_two m hn S S' n a b x y _ _ _ _ _ _ d d' w ha hb hB hB' (hGA x (by rw [hx]; simp)) (hGB y (by rw [hy]; simp)) hx hy (.inl ⟨h6a, h6⟩)
        · omega
      · exact fits_into m hn S S' n a b y _ _ _ _ _ _ d d' w ha hb hB hB' hga (hGB y (by rw [hy]; simp)) hy h6 h6a
    · omega
  · by_cases hs : Kd.sort a = Kd.sort b
    · rcases hkb with ⟨h, nb, -⟩ | ⟨h, -, y, hy⟩ | ⟨h, hlb, hrb⟩
      · rcases hka with ⟨h', na, -⟩ | ⟨h', -⟩ | ⟨h', -⟩
        · exact fits_leafS S S' n m a b _ _ _ _ _ _ w ha hb h hs na nb
        · omega
        · omega
      · have h4 : Kd.sort b = 4 := by omega
        rcases hka with ⟨h', -, -⟩ | ⟨-, -, x, hx⟩ | ⟨h', -⟩
        · omega
        · exact fits_two m hn S S' n a b x y _ _ _ _ _ _ d d' w ha hb hB hB' (hGA x (by rw [hx]; simp)) (hGB y (by rw [hy]; simp)) hx hy (.inr ⟨by omega, h4⟩)
        · omega
      · rcases hka with ⟨h', -, -⟩ | ⟨h', -⟩ | ⟨h', hla, hra⟩
        · omega
        · omega
        · exact fits_form m hn S S' n a b _ _ _ _ _ _ d d' w ha hb hB hB' hGA hGB hla hlb (asc_of _ hra) (asc_of _ hrb) h' h
    · exact fits_unlike S S' n m a b _ _ _ _ _ _ w ha hb h6 hs

theorem l3Fits_any : ∀ m, FitsSSaid m := by
  intro m
  induction m with
  | zero => intro S S' n a b c0 c1 c2 e0 e1 e2 d d' w ha hb; exact hb.elim
  | succ m ih => exact l3Fits_step m ih

/-- What KindFits answers. -/
def fitsF (n : Nat) (a : K n) (m : Nat) (b : K m) : Bool := okK n a && okK m b && fitsK m b n a

set_option maxRecDepth 20000 in
set_option maxHeartbeats 2000000 in
theorem specKFits_any (n m : Nat) (S S' : Nat → Prop) (a : K n) (b : K m) (c0 c1 c2 e0 e1 e2 : Value) (w : World) (ha : KindIn S w n a c0 c1 c2) (hb : KindIn S' w m b e0 e1 e2) (hB : ∀ b, S b → b < w.heap.size) (hB' : ∀ b, S' b → b < w.heap.size) :
    Calls Tryz.prog 10 #[.agg #[c0, c1, c2], .agg #[e0, e1, e2]] w fun e w' => e = .returned (.bool (fitsF n a m b)) ∧ Below w.heap.size w w' := by
  obtain ⟨x0, xa, xl, xc, ya, yl, yc, rfl, rfl, rfl⟩ := ha.shape
  obtain ⟨z0, za, zl, zc, ua, ul, uc, rfl, rfl, rfl⟩ := hb.shape
  obtain ⟨W0, hW0⟩ : ∃ W0, W0 = (w.alloc (.cells #[.int .i64 x0, .slice xa xl xc, .slice ya yl yc] 26)).alloc (.cells #[.int .i64 z0, .slice za zl zc, .slice ua ul uc] 26) := ⟨_, rfl⟩
  obtain ⟨hb0, hxa, hxb, hz0⟩ := two_boxes w _ _ _ _ _ _ W0 hW0
  have HK : Hid (∀ W, Below W0.heap.size W0 W → (KindIn S W n a (.int .i64 x0) (.slice xa xl xc) (.slice ya yl yc) ∧ KindIn S' W m b (.int .i64 z0) (.slice za zl zc) (.slice ua ul uc)) ∧ (Box3 W w.heap.size (.int .i64 x0) (.slice xa xl xc) (.slice ya yl yc) ∧ Box3 W (w.heap.size + 1) (.int .i64 z0) (.slice za zl zc) (.slice ua ul uc)) ∧ Below w.heap.size w W ∧ (∀ b, S b → b < W.heap.size) ∧ (∀ b, S' b → b < W.heap.size)) := fun W hW => by
    have hs := hW.size
    exact ⟨⟨ha.keep (same_below (below_step hb0 hb0.size hW) hB) (fun _ h => h), hb.keep (same_below (below_step hb0 hb0.size hW) hB') (fun _ h => h)⟩, ⟨hxa.keep hW, hxb.keep hW⟩, below_step hb0 hb0.size hW, fun b hb => by have := hB b hb; omega, fun b hb => by have := hB' b hb; omega⟩
  obtain ⟨⟨hka0, hkb0⟩, ⟨⟨i0, i1, i2⟩, ⟨j0, j1, j2⟩⟩, hbw0, hl0, hl0'⟩ := HK.out W0 (Below.refl _ _)
  have HC1 : Hid (Calls Tryz.prog 16 #[.agg #[.int .i64 x0, .slice xa xl xc, .slice ya yl yc]] W0 _) := specKOk_any n S a _ _ _ W0 hka0 hl0
  clear ha hb hb0 hxa hxb hz0 hka0 hkb0 hbw0 hl0 hl0' hB hB'
  rw [hW0] at i0 i1 i2 j0 j1 j2
  cases hoa : okK n a
  · have HF : Hid (fitsF n a m b = false) := by show fitsF n a m b = false; unfold fitsF; rw [hoa]; rfl
    have HC1' : Hid (Calls Tryz.prog 16 #[.agg #[.int .i64 x0, .slice xa xl xc, .slice ya yl yc]] W0 fun e w' => e = .returned (.bool false) ∧ Below W0.heap.size W0 w') := by
      have := HC1.out
      rw [hoa] at this
      exact this
    clear HC1 hoa
    go_enter Tryz.func10, Tryz.ntmps10
    go_wp2_with fail
    rw [← hW0]
    clear hW0
    refine HC1'.out.mono ?_
    rintro e w1 ⟨rfl, hb1⟩
    have HB1 : Hid (Below w.heap.size w w1) := (HK.out w1 hb1).2.2.1
    clear hb1
    go_wp2_with fail
    go_ret
    exact ⟨ret_bool HF.out.symm, HB1.out⟩
  have HC1' : Hid (Calls Tryz.prog 16 #[.agg #[.int .i64 x0, .slice xa xl xc, .slice ya yl yc]] W0 fun e w' => e = .returned (.bool true) ∧ Below W0.heap.size W0 w') := by
    have := HC1.out
    rw [hoa] at this
    exact this
  clear HC1
  have HOa : Hid (okK n a = true) := hoa
  clear hoa
  go_enter Tryz.func10, Tryz.ntmps10
  go_wp2_with fail
  rw [← hW0]
  clear hW0
  refine HC1'.out.mono ?_
  rintro e w1 ⟨rfl, hb1⟩
  obtain ⟨⟨hka1, hkb1⟩, ⟨⟨i0, i1, i2⟩, ⟨j0, j1, j2⟩⟩, hbw1, hl1, hl1'⟩ := HK.out w1 hb1
  have HB1 : Hid (Below W0.heap.size W0 w1) := hb1
  have HC2 : Hid (Calls Tryz.prog 16 #[.agg #[.int .i64 z0, .slice za zl zc, .slice ua ul uc]] w1 _) := specKOk_any m S' b _ _ _ w1 hkb1 hl1'
  clear hka1 hkb1 hbw1 hl1 hl1' hb1 HC1'
  go_wp2_with fail
  refine HC2.out.mono ?_
  rintro e w2 ⟨rfl, hb2⟩
  have hb02 : Below W0.heap.size W0 w2 := below_step HB1.out HB1.out.size hb2
  obtain ⟨⟨hka2, hkb2⟩, ⟨⟨i0, i1, i2⟩, ⟨j0, j1, j2⟩⟩, hbw2, hl2, hl2'⟩ := HK.out w2 hb02
  cases hob : okK m b
  · have HF : Hid (fitsF n a m b = false) := by show fitsF n a m b = false; unfold fitsF; rw [hob]; simp
    have HB2 : Hid (Below w.heap.size w w2) := hbw2
    clear hka2 hkb2 hbw2 hl2 hl2' hb2 hb02 HC2 hob
    go_wp2_with fail
    go_ret
    exact ⟨ret_bool HF.out.symm, HB2.out⟩
  · have HF : Hid (fitsF n a m b = fitsK m b n a) := by show fitsF n a m b = _; unfold fitsF; rw [hob, HOa.out]; simp
    have HC3 : Hid (Calls Tryz.prog 25 #[.agg #[.int .i64 x0, .slice xa xl xc, .slice ya yl yc], .agg #[.int .i64 z0, .slice za zl zc, .slice ua ul uc]] w2 _) := l3Fits_any m S S' n a b _ _ _ _ _ _ 1 1 w2 hka2 hkb2 hl2 hl2' (okK_get HOa.out).1 (okK_get hob).1
    have HB2 : Hid (Below w.heap.size w w2) := hbw2
    clear hka2 hkb2 hbw2 hl2 hl2' hb2 hb02 HC2 hob
    go_wp2_with fail
    refine HC3.out.mono ?_
    rintro e w3 ⟨rfl, hb3⟩
    have HB3 : Hid (Below w.heap.size w w3) := below_step HB2.out HB2.out.size hb3
    clear hb3
    go_wp2_with fail
    go_ret
    exact ⟨ret_bool HF.out.symm, HB3.out⟩

end Go.Proofs.YthcdeahobjhkbaaGreatDoor
