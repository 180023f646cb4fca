/-
  Several texts in one, in their order.
-/
import Derived.Test.YtpalkdcgbbbmeaaGreatDoorKW0
import Derived.Test.YtpalkdcgbbbmeaaGreatDoorKImplText
import Derived.Deep.RegionWith
import Derived.Deep.RegionHeld
import Derived.BigQuiet
import Derived.Deep.RegionLaw

/-
  The program's widenings: how the making of one ends; what is made of leaves.
-/
namespace Go.Proofs.YtpalkdcgbbbmeaaGreatDoor
open Go.RowKit

theorem sumL_in {α : Type} (f : α → Nat) (l : List α) (x : α) (h : x ∈ l) : f x ≤ sumL f l := by
  induction l with
  | nil => cases h
  | cons a r ih =>
    simp only [sumL]
    rcases List.mem_cons.1 h with rfl | h
    · omega
    · have := ih h; omega

theorem cnt_kid {m : Nat} {b : K (m + 1)} {k : K m} (h : cntK (m + 1) b ≤ 40) (hk : k ∈ Kd.kids b) : cntK m k ≤ 40 := by
  have e : cntK (m + 1) b = 1 + sumL (fun k => cntK m k) (Kd.kids b) := rfl
  have := sumL_in (fun k => cntK m k) (Kd.kids b) k hk
  omega

theorem kids_39 {m : Nat} {b : K (m + 1)} {d : Int} (hg : goodK (m + 1) b d = true) (h : cntK (m + 1) b ≤ 40) : (Kd.kids b).length ≤ 39 := by
  have e : cntK (m + 1) b = 1 + sumL (fun k => cntK m k) (Kd.kids b) := rfl
  simp only [goodK, Bool.and_eq_true] at hg
  have := sumK_ge (d := d + 1) (Kd.kids b) hg.2
  omega

/-- The path one step down. -/
def pathTo (x s : ByteArray) : ByteArray := x ++ (⟨#[47]⟩ : ByteArray) ++ s

theorem pathTo_size (x s : ByteArray) : (pathTo x s).size = x.size + 1 + s.size := by
  unfold pathTo
  rw [ByteArray.size_append, ByteArray.size_append]
  rfl

set_option maxRecDepth 20000 in
set_option maxHeartbeats 400000 in
theorem below_any (x s : ByteArray) (pa pb qa qb : Option Addr) (w : World) (hx : x.size + s.size ≤ 1000000) :
    Calls Tryz.prog 98 #[.agg #[.pointer pa, .pointer pb, .string x], .string s, .pointer qa, .pointer qb] w fun e w' => e = .returned (.agg #[.pointer qa, .pointer qb, .string (pathTo x s)]) ∧ Below w.heap.size w w' := by
  have hs1 : (x ++ (⟨#[47]⟩ : ByteArray)).size = x.size + 1 := by rw [ByteArray.size_append]; rfl
  have hq1 : ¬ 9223372036854775807 < x.size + 1 := by omega
  have hq2 : ¬ 9223372036854775807 < x.size + 1 + s.size := by omega
  have hb0 : Below w.heap.size w ((w.alloc (.cells #[.pointer pa, .pointer pb, .string x] 67)).alloc (.cells #[.pointer none, .pointer none, .string ⟨#[]⟩] 67)) := ((Below.refl _ _).alloc (Nat.le_refl _) _).alloc (by simp) _
  unfold pathTo
  go_enter Tryz.func98, Tryz.ntmps98
  go_wp2_with fail
  refine bodyPost_ret (v := .agg #[.pointer qa, .pointer qb, .string (x ++ (⟨#[47]⟩ : ByteArray) ++ s)]) (by simp [results, Tryz.results98, go_sem]) rfl ?_
  exact ⟨rfl, ((Below.refl _ _).alloc (Nat.le_refl _) _).alloc (by simp) _⟩

theorem below_alloc {w V : World} (h : Below w.heap.size w V) (o : Obj) : Below w.heap.size w (V.alloc o) := h.alloc h.size o

theorem below_allocD {w V : World} (h : Below w.heap.size w V.drew) (o : Obj) : Below w.heap.size w (V.alloc o).drew := by
  have h' : Below w.heap.size w V := ⟨h.os, h.tape, h.output, h.size, h.block⟩
  exact (below_alloc h' o).drew

/-- A new cell for a function. -/
def NewF (W : World) (g : Nat) : Prop := W.cell? ⟨g, 0, none⟩ = some .nilFunc ∧ W.frozen? ⟨g, 0, none⟩ = false ∧ g < W.heap.size

theorem kept_new {V w' : World} {t : TypeId} (hb : Below (V.alloc (.cells #[.nilFunc] t)).heap.size (V.alloc (.cells #[.nilFunc] t)) w') : NewF w' V.heap.size := by
  have hz : (V.alloc (.cells #[.nilFunc] t)).heap.size = V.heap.size + 1 := by simp
  have e := hb.block V.heap.size (by omega)
  rw [heap_alloc_new] at e
  exact ⟨by simp [World.cell?, e], by simp [World.frozen?, e], by have := hb.size; omega⟩

theorem kept_newD {V w' : World} {t : TypeId} (hb : Below (V.alloc (.cells #[.nilFunc] t)).drew.heap.size (V.alloc (.cells #[.nilFunc] t)).drew w') : NewF w' V.heap.size := by
  have hz : (V.alloc (.cells #[.nilFunc] t)).heap.size = V.heap.size + 1 := by simp
  have hb' : Below (V.alloc (.cells #[.nilFunc] t)).heap.size (V.alloc (.cells #[.nilFunc] t)).drew w' := hb
  have e := hb'.block V.heap.size (by omega)
  have e2 : (V.alloc (.cells #[.nilFunc] t)).drew.heap[V.heap.size]? = (V.alloc (.cells #[.nilFunc] t)).heap[V.heap.size]? := rfl
  rw [e2, heap_alloc_new] at e
  exact ⟨by simp [World.cell?, e], by simp [World.frozen?, e], by have : (V.alloc (.cells #[.nilFunc] t)).heap.size ≤ w'.heap.size := hb'.size; omega⟩

theorem kept_more {W w' : World} {g : Nat} (h : NewF W g) (hb : Below W.heap.size W w') : NewF w' g :=
  ⟨(hb.cell (p := ⟨g, 0, none⟩) h.2.2).trans h.1, (World.frozen?_of_block (a := ⟨g, 0, none⟩) (hb.block g h.2.2)).trans h.2.1, Nat.lt_of_lt_of_le h.2.2 hb.size⟩

/-- The box of a pair is as it was. -/
theorem pair_kept {W w' : World} {N : Nat} {c0 c1 c2 : Value} (h : W.cell? ⟨N, 0, none⟩ = some c0 ∧ W.cell? ⟨N, 1, none⟩ = some c1 ∧ W.cell? ⟨N, 2, none⟩ = some c2) (hb : Below W.heap.size W w') : w'.cell? ⟨N, 0, none⟩ = some c0 ∧ w'.cell? ⟨N, 1, none⟩ = some c1 ∧ w'.cell? ⟨N, 2, none⟩ = some c2 := by
  have hN : N < W.heap.size := World.block_lt_of_cell? W ⟨N, 0, none⟩ h.1
  exact ⟨(hb.cell (p := ⟨N, 0, none⟩) hN).trans h.1, (hb.cell (p := ⟨N, 1, none⟩) hN).trans h.2.1, (hb.cell (p := ⟨N, 2, none⟩) hN).trans h.2.2⟩

theorem pair_set {W : World} {N g : Nat} {c0 c1 c2 v : Value} (h : W.cell? ⟨N, 0, none⟩ = some c0 ∧ W.cell? ⟨N, 1, none⟩ = some c1 ∧ W.cell? ⟨N, 2, none⟩ = some c2) (hne : g ≠ N) : (W.setCell ⟨g, 0, none⟩ v).cell? ⟨N, 0, none⟩ = some c0 ∧ (W.setCell ⟨g, 0, none⟩ v).cell? ⟨N, 1, none⟩ = some c1 ∧ (W.setCell ⟨g, 0, none⟩ v).cell? ⟨N, 2, none⟩ = some c2 :=
  ⟨(World.cell?_setCell_far _ _ _ _ hne).trans h.1, (World.cell?_setCell_far _ _ _ _ hne).trans h.2.1, (World.cell?_setCell_far _ _ _ _ hne).trans h.2.2⟩

theorem pair_alloc {W : World} {N : Nat} {o : Obj} {c0 c1 c2 : Value} (h : W.cell? ⟨N, 0, none⟩ = some c0 ∧ W.cell? ⟨N, 1, none⟩ = some c1 ∧ W.cell? ⟨N, 2, none⟩ = some c2) : (W.alloc o).cell? ⟨N, 0, none⟩ = some c0 ∧ (W.alloc o).cell? ⟨N, 1, none⟩ = some c1 ∧ (W.alloc o).cell? ⟨N, 2, none⟩ = some c2 :=
  pair_kept h ((Below.refl _ _).alloc (Nat.le_refl _) _)

end Go.Proofs.YtpalkdcgbbbmeaaGreatDoor

/-
  The program's widenings: the table is asked; KindFits's part behind the face.
-/
namespace Go.Proofs.YtpalkdcgbbbmeaaGreatDoor
open Go.RowKit

theorem wfuncIn_nil {P : Program} {t : TypeId} {ps rs : Array TypeId} {b : Bool} (d : Nat) (fn : Fn) (first cap : Array Value) (w : World) (h : P.underlying t = some (.func ps rs b)) : (Op.equalIn (d + 1) t (.func fn first cap) .nilFunc).run P w = .ok false w := by
  simp [Op.equalIn, run_underlying h]

theorem wnilIn_nil {P : Program} {t : TypeId} {ps rs : Array TypeId} {b : Bool} (d : Nat) (w : World) (h : P.underlying t = some (.func ps rs b)) : (Op.equalIn (d + 1) t .nilFunc .nilFunc).run P w = .ok true w := by
  simp [Op.equalIn, run_underlying h]

theorem Tryz.wfunc_eq (fn : Fn) (first cap : Array Value) (w : World) : (binOp .eql 82 (.func fn first cap) .nilFunc).run Tryz.prog w = .ok (.bool false) w := by
  have : (Op.equal 82 (.func fn first cap) .nilFunc).run Tryz.prog w = .ok false w := wfuncIn_nil 9999 fn first cap w Tryz.underlying82
  simp only [binOp]
  simp [this]

theorem Tryz.wfunc_nil (w : World) : (binOp .eql 82 .nilFunc .nilFunc).run Tryz.prog w = .ok (.bool true) w := by
  have : (Op.equal 82 .nilFunc .nilFunc).run Tryz.prog w = .ok true w := wnilIn_nil 9999 w Tryz.underlying82
  simp only [binOp]
  simp [this]

set_option maxRecDepth 20000 in
set_option maxHeartbeats 1000000 in
theorem of_nil (R pa pb i j : Nat) (x : ByteArray) (w : World) (h1 : 1 ≤ i) (h2 : i ≤ 6) (h3 : 1 ≤ j) (h4 : j ≤ 6) (ha : w.cell? ⟨pa, 0, none⟩ = some (.int .i64 (i : Int))) (hb : w.cell? ⟨pb, 0, none⟩ = some (.int .i64 (j : Int))) (hT : w.cell? ⟨R, i * 7 + j, none⟩ = some .nilFunc)
    (hla : pa < w.heap.size) (hlb : pb < w.heap.size) (hlR : R < w.heap.size) :
    Calls Tryz.prog 38 #[.pointer (some ⟨R, 0, none⟩), .agg #[.pointer (some ⟨pa, 0, none⟩), .pointer (some ⟨pb, 0, none⟩), .string x]] w fun e w' => Below w.heap.size w w' ∧ ∃ y : ByteArray, e = .returned (.tuple #[.nilFunc, .iface 132 (.agg #[.string y])]) := by
  have hb0 : Below w.heap.size w (w.alloc (.cells #[.pointer (some ⟨pa, 0, none⟩), .pointer (some ⟨pb, 0, none⟩), .string x] 67)) := (Below.refl _ _).alloc (Nat.le_refl _) _
  have ha' := (hb0.cell (p := ⟨pa, 0, none⟩) hla).trans ha
  have hb' := (hb0.cell (p := ⟨pb, 0, none⟩) hlb).trans hb
  have hT' := (hb0.cell (p := ⟨R, i * 7 + j, none⟩) hlR).trans hT
  have hq1 := Tryz.wfunc_nil
  have hq2 := Tryz.wfunc_eq
  have hi7 : (i : Int) < 7 := by omega
  have hj7 : (j : Int) < 7 := by omega
  clear ha hb hT
  go_enter Tryz.func38, Tryz.ntmps38
  go_wp2_with fail
  go_quiet (fail)
  go_wp2_with fail
  go_quiet (fail)
  go_wp2_with fail
  go_ret2
  exact ⟨below_drewN (below_drewN hb0 _) _, _, rfl⟩

end Go.Proofs.YtpalkdcgbbbmeaaGreatDoor

/-
  The program's widenings: what is made of a name of two forms.
-/
namespace Go.Proofs.YtpalkdcgbbbmeaaGreatDoor
open Go.RowKit

theorem zeroD_W4 {w : World} {N : Nat} {t : TypeId} {v0 v1 v2 v3 : Value} (h : w.heap[N]? = some (.cells #[v0, v1, v2, v3] t (0, 0))) : w.cell? ⟨N, 0, none⟩ = some v0 := by simp [World.cell?, h]

theorem name_short {l : List ByteArray} (h : riseB l = true) (i : Nat) (hi : i < l.length) : l[i].size ≤ 8 := by
  have := List.all_eq_true.1 h i (List.mem_range.2 hi)
  simp only [riseAt, Bool.and_eq_true, nameB, decide_eq_true_eq] at this
  have h8 := this.1.1.1.2
  rwa [List.getD_eq_getElem?_getD, List.getElem?_eq_getElem hi, Option.getD_some] at h8

end Go.Proofs.YtpalkdcgbbbmeaaGreatDoor
