/-
  Several texts in one, in their order.
-/
import Derived.Test.YtfbfchffnapnnaaGreatDoorB32
import Derived.Test.YtfbfchffnapnnaaGreatDoorB6
import Derived.Deep.RegionWith
import Derived.Deep.RegionHeld
import Derived.BigQuiet
import Derived.Deep.RegionLaw

/-
  The program's widenings: how the making of one ends; what is made of leaves.
-/
namespace Go.Proofs.YtfbfchffnapnnaaGreatDoor
open Go.RowKit

theorem sumL_in {α : Type} (f : α → Nat) (l : List α) (x : α) (h : x ∈ l) : f x ≤ sumL f l := by
  induction l with
  | nil => cases h
  | cons a r ih =>
    simp only [sumL]
    rcases List.mem_cons.1 h with rfl | h
    · omega
    · have := ih h; omega

theorem cnt_kid {m : Nat} {b : K (m + 1)} {k : K m} (h : cntK (m + 1) b ≤ 40) (hk : k ∈ Kd.kids b) : cntK m k ≤ 40 := by
  have e : cntK (m + 1) b = 1 + sumL (fun k => cntK m k) (Kd.kids b) := rfl
  have := sumL_in (fun k => cntK m k) (Kd.kids b) k hk
  omega

theorem kids_39 {m : Nat} {b : K (m + 1)} {d : Int} (hg : goodK (m + 1) b d = true) (h : cntK (m + 1) b ≤ 40) : (Kd.kids b).length ≤ 39 := by
  have e : cntK (m + 1) b = 1 + sumL (fun k => cntK m k) (Kd.kids b) := rfl
  simp only [goodK, Bool.and_eq_true] at hg
  have := sumK_ge (d := d + 1) (Kd.kids b) hg.2
  omega

/-- How the making of a widening ends. -/
def FitEnd (m : Nat) (b : K m) (n : Nat) (a : K n) (e : Ending) : Prop :=
  (fitsK m b n a = true ∧ ∃ fn first cap, e = .returned (.tuple #[.func fn first cap, .nilIface])) ∨ (fitsK m b n a = false ∧ ∃ y : ByteArray, e = .returned (.tuple #[.nilFunc, .iface 140 (.agg #[.string y])]))

/-- The making of a widening into a schema of at most m levels. -/
def FitSaid (m : Nat) : Prop := ∀ (S : Nat → Prop) (n : Nat) (a : K n) (b : K m) (va vb : Value) (d d' : Int) (R : Nat) (x : ByteArray) (w : World), InnerK S w n a va → InnerK S w m b vb → (∀ b, S b → b < w.heap.size) → TabW w R → R < w.heap.size →
  goodK n a d = true → goodK m b d' = true → cntK m b ≤ 40 → 1 ≤ d' → (x.size : Int) ≤ 20 * d' →
  Calls Tryz.prog 38 #[.pointer (some ⟨R, 0, none⟩), .agg #[va, vb, .string x]] w fun e w' => Below w.heap.size w w' ∧ FitEnd m b n a e

/-- The path one step down. -/
def pathTo (x s : ByteArray) : ByteArray := x ++ (⟨#[47]⟩ : ByteArray) ++ s

theorem pathTo_size (x s : ByteArray) : (pathTo x s).size = x.size + 1 + s.size := by
  unfold pathTo
  rw [ByteArray.size_append, ByteArray.size_append]
  rfl

set_option maxRecDepth 20000 in
set_option maxHeartbeats 400000 in
theorem below_any (x s : ByteArray) (pa pb qa qb : Option Addr) (w : World) (hx : x.size + s.size ≤ 1000000) :
    Calls Tryz.prog 108 #[.agg #[.pointer pa, .pointer pb, .string x], .string s, .pointer qa, .pointer qb] w fun e w' => e = .returned (.agg #[.pointer qa, .pointer qb, .string (pathTo x s)]) ∧ Below w.heap.size w w' := by
  have hs1 : (x ++ (⟨#[47]⟩ : ByteArray)).size = x.size + 1 := by rw [ByteArray.size_append]; rfl
  have hq1 : ¬ 9223372036854775807 < x.size + 1 := by omega
  have hq2 : ¬ 9223372036854775807 < x.size + 1 + s.size := by omega
  have hb0 : Below w.heap.size w ((w.alloc (.cells #[.pointer pa, .pointer pb, .string x] 72)).alloc (.cells #[.pointer none, .pointer none, .string ⟨#[]⟩] 72)) := ((Below.refl _ _).alloc (Nat.le_refl _) _).alloc (by simp) _
  unfold pathTo
  go_enter Tryz.func108, Tryz.ntmps108
  go_wp2_with fail
  refine bodyPost_ret (v := .agg #[.pointer qa, .pointer qb, .string (x ++ (⟨#[47]⟩ : ByteArray) ++ s)]) (by simp [results, Tryz.results108, go_sem]) rfl ?_
  exact ⟨rfl, ((Below.refl _ _).alloc (Nat.le_refl _) _).alloc (by simp) _⟩

set_option maxRecDepth 20000 in
set_option maxHeartbeats 400000 in
theorem ofLeaves_any (R : Nat) (va vb : Value) (x : ByteArray) (w : World) (ha : ∃ p, va = .pointer p) (hb : ∃ p, vb = .pointer p) :
    Calls Tryz.prog 78 #[.pointer (some ⟨R, 0, none⟩), .agg #[va, vb, .string x]] w fun e w' => (∃ fn first cap, e = .returned (.tuple #[.func fn first cap, .nilIface])) ∧ Below w.heap.size w w' := by
  obtain ⟨pa, rfl⟩ := ha
  obtain ⟨pb, rfl⟩ := hb
  go_enter Tryz.func78, Tryz.ntmps78
  go_wp2_with fail
  go_ret2
  exact ⟨⟨_, _, _, rfl⟩, (Below.refl _ _).alloc (Nat.le_refl _) _⟩

theorem below_alloc {w V : World} (h : Below w.heap.size w V) (o : Obj) : Below w.heap.size w (V.alloc o) := h.alloc h.size o

theorem below_allocD {w V : World} (h : Below w.heap.size w V.drew) (o : Obj) : Below w.heap.size w (V.alloc o).drew := by
  have h' : Below w.heap.size w V := ⟨h.os, h.tape, h.output, h.size, h.block⟩
  exact (below_alloc h' o).drew

/-- A new cell for a function. -/
def NewF (W : World) (g : Nat) : Prop := W.cell? ⟨g, 0, none⟩ = some .nilFunc ∧ W.frozen? ⟨g, 0, none⟩ = false ∧ g < W.heap.size

theorem kept_new {V w' : World} {t : TypeId} (hb : Below (V.alloc (.cells #[.nilFunc] t)).heap.size (V.alloc (.cells #[.nilFunc] t)) w') : NewF w' V.heap.size := by
  have hz : (V.alloc (.cells #[.nilFunc] t)).heap.size = V.heap.size + 1 := by simp
  have e := hb.block V.heap.size (by omega)
  rw [heap_alloc_new] at e
  exact ⟨by simp [World.cell?, e], by simp [World.frozen?, e], by have := hb.size; omega⟩

theorem kept_newD {V w' : World} {t : TypeId} (hb : Below (V.alloc (.cells #[.nilFunc] t)).drew.heap.size (V.alloc (.cells #[.nilFunc] t)).drew w') : NewF w' V.heap.size := by
  have hz : (V.alloc (.cells #[.nilFunc] t)).heap.size = V.heap.size + 1 := by simp
  have hb' : Below (V.alloc (.cells #[.nilFunc] t)).heap.size (V.alloc (.cells #[.nilFunc] t)).drew w' := hb
  have e := hb'.block V.heap.size (by omega)
  have e2 : (V.alloc (.cells #[.nilFunc] t)).drew.heap[V.heap.size]? = (V.alloc (.cells #[.nilFunc] t)).heap[V.heap.size]? := rfl
  rw [e2, heap_alloc_new] at e
  exact ⟨by simp [World.cell?, e], by simp [World.frozen?, e], by have : (V.alloc (.cells #[.nilFunc] t)).heap.size ≤ w'.heap.size := hb'.size; omega⟩

theorem kept_more {W w' : World} {g : Nat} (h : NewF W g) (hb : Below W.heap.size W w') : NewF w' g :=
  ⟨(hb.cell (p := ⟨g, 0, none⟩) h.2.2).trans h.1, (World.frozen?_of_block (a := ⟨g, 0, none⟩) (hb.block g h.2.2)).trans h.2.1, Nat.lt_of_lt_of_le h.2.2 hb.size⟩

/-- The box of a pair is as it was. -/
theorem pair_kept {W w' : World} {N : Nat} {c0 c1 c2 : Value} (h : W.cell? ⟨N, 0, none⟩ = some c0 ∧ W.cell? ⟨N, 1, none⟩ = some c1 ∧ W.cell? ⟨N, 2, none⟩ = some c2) (hb : Below W.heap.size W w') : w'.cell? ⟨N, 0, none⟩ = some c0 ∧ w'.cell? ⟨N, 1, none⟩ = some c1 ∧ w'.cell? ⟨N, 2, none⟩ = some c2 := by
  have hN : N < W.heap.size := World.block_lt_of_cell? W ⟨N, 0, none⟩ h.1
  exact ⟨(hb.cell (p := ⟨N, 0, none⟩) hN).trans h.1, (hb.cell (p := ⟨N, 1, none⟩) hN).trans h.2.1, (hb.cell (p := ⟨N, 2, none⟩) hN).trans h.2.2⟩

theorem pair_set {W : World} {N g : Nat} {c0 c1 c2 v : Value} (h : W.cell? ⟨N, 0, none⟩ = some c0 ∧ W.cell? ⟨N, 1, none⟩ = some c1 ∧ W.cell? ⟨N, 2, none⟩ = some c2) (hne : g ≠ N) : (W.setCell ⟨g, 0, none⟩ v).cell? ⟨N, 0, none⟩ = some c0 ∧ (W.setCell ⟨g, 0, none⟩ v).cell? ⟨N, 1, none⟩ = some c1 ∧ (W.setCell ⟨g, 0, none⟩ v).cell? ⟨N, 2, none⟩ = some c2 :=
  ⟨(World.cell?_setCell_far _ _ _ _ hne).trans h.1, (World.cell?_setCell_far _ _ _ _ hne).trans h.2.1, (World.cell?_setCell_far _ _ _ _ hne).trans h.2.2⟩

theorem pair_alloc {W : World} {N : Nat} {o : Obj} {c0 c1 c2 : Value} (h : W.cell? ⟨N, 0, none⟩ = some c0 ∧ W.cell? ⟨N, 1, none⟩ = some c1 ∧ W.cell? ⟨N, 2, none⟩ = some c2) : (W.alloc o).cell? ⟨N, 0, none⟩ = some c0 ∧ (W.alloc o).cell? ⟨N, 1, none⟩ = some c1 ∧ (W.alloc o).cell? ⟨N, 2, none⟩ = some c2 :=
  pair_kept h ((Below.refl _ _).alloc (Nat.le_refl _) _)

end Go.Proofs.YtfbfchffnapnnaaGreatDoor

/-
  The program's widenings: what ofLists makes.
-/
namespace Go.Proofs.YtfbfchffnapnnaaGreatDoor
open Go.RowKit

set_option maxRecDepth 20000 in
set_option maxHeartbeats 4000000 in
theorem ofLists_any (m n : Nat) (hm : FitSaid m) (S : Nat → Prop) (a : K (n + 1)) (b : K (m + 1)) (va vb : Value) (d d' : Int) (R : Nat) (x : ByteArray) (w : World) (ha : InnerK S w (n + 1) a va) (hb : InnerK S w (m + 1) b vb) (hB : ∀ b, S b → b < w.heap.size) (hT : TabW w R) (hR : R < w.heap.size)
    (hga : goodK (n + 1) a d = true) (hgb : goodK (m + 1) b d' = true) (hc40 : cntK (m + 1) b ≤ 40) (hd : 1 ≤ d') (hx : (x.size : Int) ≤ 20 * d') (sa : Kd.sort a = 4) (sb : Kd.sort b = 4) :
    Calls Tryz.prog 79 #[.pointer (some ⟨R, 0, none⟩), .agg #[va, vb, .string x]] w fun e w' => Below w.heap.size w w' ∧ FitEnd (m + 1) b (n + 1) a e := by
  have hd6 : d' ≤ 6 := by simp only [goodK, Bool.and_eq_true, decide_eq_true_eq] at hgb; exact hgb.1.1
  have hs2 : (⟨#[91, 93]⟩ : ByteArray).size = 2 := rfl
  have hgka : ∀ k, k ∈ Kd.kids a → goodK n k (d + 1) = true := by simp only [goodK, Bool.and_eq_true] at hga; exact List.all_eq_true.1 hga.2
  have hgkb : ∀ k, k ∈ Kd.kids b → goodK m k (d' + 1) = true := by simp only [goodK, Bool.and_eq_true] at hgb; exact List.all_eq_true.1 hgb.2
  obtain ⟨ka, hka⟩ : ∃ ka, Kd.kids a = [ka] := by
    rcases goodK_kids hga with ⟨h, -⟩ | ⟨-, -, h⟩ | ⟨h, -⟩
    · omega
    · exact h
    · omega
  obtain ⟨kb, hkb⟩ : ∃ kb, Kd.kids b = [kb] := by
    rcases goodK_kids hgb with ⟨h, -⟩ | ⟨-, -, h⟩ | ⟨h, -⟩
    · omega
    · exact h
    · omega
  have HF : Hid (fitsK (m + 1) b (n + 1) a = fitsK m kb n ka) := fitsK_ll sb sa hkb hka
  have hgA := hgka ka (by rw [hka]; exact List.mem_cons_self ..)
  have hgB := hgkb kb (by rw [hkb]; exact List.mem_cons_self ..)
  have hcB := cnt_kid hc40 (by rw [hkb]; exact List.mem_cons_self .. : kb ∈ Kd.kids b)
  obtain ⟨pa, nva, pva, kva, rfl, hSa, hca, -, -, hra⟩ := ha
  rw [hka] at hra
  obtain ⟨aoa, capa, rfl, -, hra⟩ := hra
  obtain ⟨ga, oa, rfl, hSga, hra⟩ := hra (by simp)
  obtain ⟨ca, ea, hia⟩ := hra 0 (by simp)
  simp only [List.getElem_cons_zero] at hia
  obtain ⟨qa, rfl, -⟩ := id hia.ptr
  have hla := hB pa hSa
  have hlga := hB ga hSga
  obtain ⟨pb, nvb, pvb, kvb, rfl, hSb, hcb, -, -, hrb⟩ := hb
  rw [hkb] at hrb
  obtain ⟨aob, capb, rfl, -, hrb⟩ := hrb
  obtain ⟨gb, ob, rfl, hSgb, hrb⟩ := hrb (by simp)
  obtain ⟨cb, eb, hib⟩ := hrb 0 (by simp)
  simp only [List.getElem_cons_zero] at hib
  obtain ⟨qb, rfl, -⟩ := id hib.ptr
  have hlb := hB pb hSb
  have hlgb := hB gb hSgb
  have HWa : Hid (∀ W, Below w.heap.size w W → Calls Tryz.prog 53 #[.pointer (some ⟨pa, 0, none⟩)] W fun e w' => e = .returned (.pointer (some ⟨qa, 0, none⟩)) ∧ w' = W) := fun W hW =>
    within_any W pa ga oa 0 capa qa ((hW.cell (p := ⟨pa, 3, none⟩) hla).trans (by simp [World.cell?, hca])) ((hW.cell (p := ⟨ga, oa, none⟩) hlga).trans (by simpa using ea)) (by omega)
  have HWb : Hid (∀ W, Below w.heap.size w W → Calls Tryz.prog 53 #[.pointer (some ⟨pb, 0, none⟩)] W fun e w' => e = .returned (.pointer (some ⟨qb, 0, none⟩)) ∧ w' = W) := fun W hW =>
    within_any W pb gb ob 0 capb qb ((hW.cell (p := ⟨pb, 3, none⟩) hlb).trans (by simp [World.cell?, hcb])) ((hW.cell (p := ⟨gb, ob, none⟩) hlgb).trans (by simpa using eb)) (by omega)
  have HBe : Hid (∀ W, Below w.heap.size w W → (W.cell? ⟨w.heap.size, 0, none⟩ = some (.pointer (some ⟨pa, 0, none⟩)) ∧ W.cell? ⟨w.heap.size, 1, none⟩ = some (.pointer (some ⟨pb, 0, none⟩)) ∧ W.cell? ⟨w.heap.size, 2, none⟩ = some (.string x)) → Calls Tryz.prog 108 #[.agg #[.pointer (some ⟨pa, 0, none⟩), .pointer (some ⟨pb, 0, none⟩), .string x], .string ⟨#[91, 93]⟩, .pointer (some ⟨qa, 0, none⟩), .pointer (some ⟨qb, 0, none⟩)] W fun e w' => e = .returned (.agg #[.pointer (some ⟨qa, 0, none⟩), .pointer (some ⟨qb, 0, none⟩), .string (pathTo x ⟨#[91, 93]⟩)]) ∧ Below w.heap.size w w' ∧ Below W.heap.size W w' ∧ (w'.cell? ⟨w.heap.size, 0, none⟩ = some (.pointer (some ⟨pa, 0, none⟩)) ∧ w'.cell? ⟨w.heap.size, 1, none⟩ = some (.pointer (some ⟨pb, 0, none⟩)) ∧ w'.cell? ⟨w.heap.size, 2, none⟩ = some (.string x))) := fun W hW hP =>
    (below_any x _ _ _ _ _ W (by omega)).mono fun e w' h => ⟨h.1, below_step hW hW.size h.2, h.2, pair_kept hP h.2⟩
  have HOf : Hid (∀ W, Below w.heap.size w W → Calls Tryz.prog 38 #[.pointer (some ⟨R, 0, none⟩), .agg #[.pointer (some ⟨qa, 0, none⟩), .pointer (some ⟨qb, 0, none⟩), .string (pathTo x ⟨#[91, 93]⟩)]] W fun e w' => (Below w.heap.size w w' ∧ Below W.heap.size W w') ∧ FitEnd m kb n ka e) := fun W hW =>
    (hm S n ka kb _ _ (d + 1) (d' + 1) R _ W (hia.keep (same_below hW hB) (fun _ h => h)) (hib.keep (same_below hW hB) (fun _ h => h)) (fun b hb => Nat.lt_of_lt_of_le (hB b hb) hW.size) (hT.keep (hW.block R hR)) (Nat.lt_of_lt_of_le hR hW.size) hgA hgB hcB (by omega) (by rw [pathTo_size]; omega)).mono fun e w' h => ⟨⟨below_step hW hW.size h.1, h.1⟩, h.2⟩
  generalize pathTo x ⟨#[91, 93]⟩ = y at *
  have hst : ∀ (a : Addr) (md : Mode) (fn : Fn) (first cap : Array Value) (w : World), (store a (.func fn first cap) md).run Tryz.prog w = stored Tryz.prog w a (.func fn first cap) md := fun a md _ _ _ w => run_store _ w a _ md rfl
  have hstN : ∀ (a : Addr) (md : Mode) (w : World), (store a .nilFunc md).run Tryz.prog w = stored Tryz.prog w a .nilFunc md := fun a md w => run_store _ w a _ md rfl
  have hmf : ∀ (fn : Fn) (first cap : Array Value) (w : World), (Instr.makeFunc fn first cap).run Tryz.prog w = .ok (.func fn first cap) w := fun _ _ _ _ => rfl
  have hbA : Below w.heap.size w (w.alloc (.cells #[.pointer (some ⟨pa, 0, none⟩), .pointer (some ⟨pb, 0, none⟩), .string x] 72)).drew := ((Below.refl _ _).alloc (Nat.le_refl _) _).drew
  clear hm hT hga hgb hgkb hkb hgB hrb hib eb hcb hgka hka hgA hra hia ea hca
  cases hfit : fitsK m kb n ka
  · have HOf : Hid (∀ W, Below w.heap.size w W → (W.cell? ⟨w.heap.size, 0, none⟩ = some (.pointer (some ⟨pa, 0, none⟩)) ∧ W.cell? ⟨w.heap.size, 1, none⟩ = some (.pointer (some ⟨pb, 0, none⟩)) ∧ W.cell? ⟨w.heap.size, 2, none⟩ = some (.string x)) → Calls Tryz.prog 38 #[.pointer (some ⟨R, 0, none⟩), .agg #[.pointer (some ⟨qa, 0, none⟩), .pointer (some ⟨qb, 0, none⟩), .string y]] W fun e w' => (Below w.heap.size w w' ∧ Below W.heap.size W w' ∧ (w'.cell? ⟨w.heap.size, 0, none⟩ = some (.pointer (some ⟨pa, 0, none⟩)) ∧ w'.cell? ⟨w.heap.size, 1, none⟩ = some (.pointer (some ⟨pb, 0, none⟩)) ∧ w'.cell? ⟨w.heap.size, 2, none⟩ = some (.string x))) ∧ ∃ z : ByteArray, e = .returned (.tuple #[.nilFunc, .iface 140 (.agg #[.string z])])) := fun W hW hP => (HOf.out W hW).mono fun e w' h => ⟨⟨h.1.1, h.1.2, pair_kept hP h.1.2⟩, h.2.elim (fun h => by rw [hfit] at h; exact absurd h.1 (by simp)) (fun h => h.2)⟩
    have HF : Hid (fitsK (m + 1) b (n + 1) a = false) := HF.out.trans hfit
    clear hfit
    go_enter Tryz.func79, Tryz.ntmps79
    go_upto_region 1 with fail
    go_region_held (fun w' => w'.cell? ⟨w.heap.size, 0, none⟩ = some (.pointer (some ⟨pa, 0, none⟩)) ∧ w'.cell? ⟨w.heap.size, 1, none⟩ = some (.pointer (some ⟨pb, 0, none⟩)) ∧ w'.cell? ⟨w.heap.size, 2, none⟩ = some (.string x)) (first | with_reducible assumption | (with_reducible refine pair_alloc ?_; with_reducible assumption) | (with_reducible refine pair_set (by assumption) ?_; first | with_reducible assumption | omega) | (with_reducible refine pair_set (pair_alloc (by assumption)) ?_; first | with_reducible assumption | omega) | (refine ⟨?_, ?_, ?_⟩ <;> go_keep)) (first
      | (go_at_call_of 53 (Value.pointer (some ⟨pa, 0, none⟩)); refine (HWa.out _ ?_).mono ?_; (first | with_reducible assumption | (with_reducible refine below_alloc ?_ _; with_reducible assumption) | (with_reducible refine below_allocD ?_ _; with_reducible assumption)); rintro e w7 ⟨rfl, rfl⟩)
      | (go_at_call_of 53 (Value.pointer (some ⟨pb, 0, none⟩)); refine (HWb.out _ ?_).mono ?_; (first | with_reducible assumption | (with_reducible refine below_alloc ?_ _; with_reducible assumption) | (with_reducible refine below_allocD ?_ _; with_reducible assumption)); rintro e w8 ⟨rfl, rfl⟩)
      | (go_at_call 108; refine (HBe.out _ ?_ ?_).mono ?_; (first | with_reducible assumption | (with_reducible refine below_alloc ?_ _; with_reducible assumption) | (with_reducible refine below_allocD ?_ _; with_reducible assumption)); (first | assumption | simp [*]); rintro e w9 ⟨rfl, hb9, hc9, hp9⟩; have hne9 := World.new_ne w9 ⟨w.heap.size, 0, none⟩ hp9.1; first | ((with_reducible (have hk9 := kept_new hc9)); obtain ⟨k91, k92, k93⟩ := id hk9) | ((with_reducible (have hk9 := kept_newD hc9)); simp at hk9; obtain ⟨k91, k92, k93⟩ := id hk9) | skip)
      | (go_at_call 38; refine (HOf.out _ ?_ ?_).mono ?_; (first | with_reducible assumption | (with_reducible refine below_alloc ?_ _; with_reducible assumption) | (with_reducible refine below_allocD ?_ _; with_reducible assumption)); (first | assumption | simp [*]); rintro e w10 ⟨⟨hb10, hc10, hp10⟩, z, rfl⟩; have hne10 := World.new_ne w10 ⟨w.heap.size, 0, none⟩ hp10.1; first | ((with_reducible (have hk10 := kept_new hc10)); obtain ⟨ka1, ka2, ka3⟩ := id hk10) | ((with_reducible (have hk10 := kept_more (by assumption) hc10)); obtain ⟨ka1, ka2, ka3⟩ := id hk10) | skip))
    all_goals
      go_wp2_with fail
      go_ret2
      refine ⟨?_, .inr ⟨HF.out, _, rfl⟩⟩
      first | with_reducible exact hb10 | with_reducible exact below_alloc hb10 _ | ((with_reducible refine Below.setCell hb10 ?_ _); have h9 := hb9.size; first | exact h9 | exact Nat.le_succ _) | (with_reducible refine Below.setCell (below_alloc hb10 _) ?_ _; have := hb10.size; omega)
  · have HOf : Hid (∀ W, Below w.heap.size w W → (W.cell? ⟨w.heap.size, 0, none⟩ = some (.pointer (some ⟨pa, 0, none⟩)) ∧ W.cell? ⟨w.heap.size, 1, none⟩ = some (.pointer (some ⟨pb, 0, none⟩)) ∧ W.cell? ⟨w.heap.size, 2, none⟩ = some (.string x)) → Calls Tryz.prog 38 #[.pointer (some ⟨R, 0, none⟩), .agg #[.pointer (some ⟨qa, 0, none⟩), .pointer (some ⟨qb, 0, none⟩), .string y]] W fun e w' => (Below w.heap.size w w' ∧ Below W.heap.size W w' ∧ (w'.cell? ⟨w.heap.size, 0, none⟩ = some (.pointer (some ⟨pa, 0, none⟩)) ∧ w'.cell? ⟨w.heap.size, 1, none⟩ = some (.pointer (some ⟨pb, 0, none⟩)) ∧ w'.cell? ⟨w.heap.size, 2, none⟩ = some (.string x))) ∧ ∃ fn first cap, e = .returned (.tuple #[.func fn first cap, .nilIface])) := fun W hW hP => (HOf.out W hW).mono fun e w' h => ⟨⟨h.1.1, h.1.2, pair_kept hP h.1.2⟩, h.2.elim (fun h => h.2) (fun h => by rw [hfit] at h; exact absurd h.1 (by simp))⟩
    have HF : Hid (fitsK (m + 1) b (n + 1) a = true) := HF.out.trans hfit
    clear hfit
    go_enter Tryz.func79, Tryz.ntmps79
    go_upto_region 1 with fail
    go_region_held (fun w' => w'.cell? ⟨w.heap.size, 0, none⟩ = some (.pointer (some ⟨pa, 0, none⟩)) ∧ w'.cell? ⟨w.heap.size, 1, none⟩ = some (.pointer (some ⟨pb, 0, none⟩)) ∧ w'.cell? ⟨w.heap.size, 2, none⟩ = some (.string x)) (first | with_reducible assumption | (with_reducible refine pair_alloc ?_; with_reducible assumption) | (with_reducible refine pair_set (by assumption) ?_; first | with_reducible assumption | omega) | (with_reducible refine pair_set (pair_alloc (by assumption)) ?_; first | with_reducible assumption | omega) | (refine ⟨?_, ?_, ?_⟩ <;> go_keep)) (first
      | (go_at_call_of 53 (Value.pointer (some ⟨pa, 0, none⟩)); refine (HWa.out _ ?_).mono ?_; (first | with_reducible assumption | (with_reducible refine below_alloc ?_ _; with_reducible assumption) | (with_reducible refine below_allocD ?_ _; with_reducible assumption)); rintro e w7 ⟨rfl, rfl⟩)
      | (go_at_call_of 53 (Value.pointer (some ⟨pb, 0, none⟩)); refine (HWb.out _ ?_).mono ?_; (first | with_reducible assumption | (with_reducible refine below_alloc ?_ _; with_reducible assumption) | (with_reducible refine below_allocD ?_ _; with_reducible assumption)); rintro e w8 ⟨rfl, rfl⟩)
      | (go_at_call 108; refine (HBe.out _ ?_ ?_).mono ?_; (first | with_reducible assumption | (with_reducible refine below_alloc ?_ _; with_reducible assumption) | (with_reducible refine below_allocD ?_ _; with_reducible assumption)); (first | assumption | simp [*]); rintro e w9 ⟨rfl, hb9, hc9, hp9⟩; have hne9 := World.new_ne w9 ⟨w.heap.size, 0, none⟩ hp9.1; first | ((with_reducible (have hk9 := kept_new hc9)); obtain ⟨k91, k92, k93⟩ := id hk9) | ((with_reducible (have hk9 := kept_newD hc9)); simp at hk9; obtain ⟨k91, k92, k93⟩ := id hk9) | skip)
      | (go_at_call 38; refine (HOf.out _ ?_ ?_).mono ?_; (first | with_reducible assumption | (with_reducible refine below_alloc ?_ _; with_reducible assumption) | (with_reducible refine below_allocD ?_ _; with_reducible assumption)); (first | assumption | simp [*]); rintro e w10 ⟨⟨hb10, hc10, hp10⟩, fn, first, cap, rfl⟩; have hne10 := World.new_ne w10 ⟨w.heap.size, 0, none⟩ hp10.1; first | ((with_reducible (have hk10 := kept_new hc10)); obtain ⟨ka1, ka2, ka3⟩ := id hk10) | ((with_reducible (have hk10 := kept_more (by assumption) hc10)); obtain ⟨ka1, ka2, ka3⟩ := id hk10) | skip))
    all_goals
      go_wp2_with fail
      go_ret2
      refine ⟨?_, .inl ⟨HF.out, _, _, _, rfl⟩⟩
      first | with_reducible exact hb10 | with_reducible exact below_alloc hb10 _ | ((with_reducible refine Below.setCell hb10 ?_ _); have h9 := hb9.size; first | exact h9 | exact Nat.le_succ _) | (with_reducible refine Below.setCell (below_alloc hb10 _) ?_ _; have := hb10.size; omega)

end Go.Proofs.YtfbfchffnapnnaaGreatDoor

/-
  The program's widenings: what ofMaybes makes.
-/
namespace Go.Proofs.YtfbfchffnapnnaaGreatDoor
open Go.RowKit

set_option maxRecDepth 20000 in
set_option maxHeartbeats 4000000 in
theorem ofMaybes_any (m n : Nat) (hm : FitSaid m) (S : Nat → Prop) (a : K (n + 1)) (b : K (m + 1)) (va vb : Value) (d d' : Int) (R : Nat) (x : ByteArray) (w : World) (ha : InnerK S w (n + 1) a va) (hb : InnerK S w (m + 1) b vb) (hB : ∀ b, S b → b < w.heap.size) (hT : TabW w R) (hR : R < w.heap.size)
    (hga : goodK (n + 1) a d = true) (hgb : goodK (m + 1) b d' = true) (hc40 : cntK (m + 1) b ≤ 40) (hd : 1 ≤ d') (hx : (x.size : Int) ≤ 20 * d') (sa : Kd.sort a = 6) (sb : Kd.sort b = 6) :
    Calls Tryz.prog 82 #[.pointer (some ⟨R, 0, none⟩), .agg #[va, vb, .string x]] w fun e w' => Below w.heap.size w w' ∧ FitEnd (m + 1) b (n + 1) a e := by
  have hd6 : d' ≤ 6 := by simp only [goodK, Bool.and_eq_true, decide_eq_true_eq] at hgb; exact hgb.1.1
  have hs2 : (⟨#[63]⟩ : ByteArray).size = 1 := rfl
  have hgka : ∀ k, k ∈ Kd.kids a → goodK n k (d + 1) = true := by simp only [goodK, Bool.and_eq_true] at hga; exact List.all_eq_true.1 hga.2
  have hgkb : ∀ k, k ∈ Kd.kids b → goodK m k (d' + 1) = true := by simp only [goodK, Bool.and_eq_true] at hgb; exact List.all_eq_true.1 hgb.2
  obtain ⟨ka, hka⟩ : ∃ ka, Kd.kids a = [ka] := by
    rcases goodK_kids hga with ⟨h, -⟩ | ⟨-, -, h⟩ | ⟨h, -⟩
    · omega
    · exact h
    · omega
  obtain ⟨kb, hkb⟩ : ∃ kb, Kd.kids b = [kb] := by
    rcases goodK_kids hgb with ⟨h, -⟩ | ⟨-, -, h⟩ | ⟨h, -⟩
    · omega
    · exact h
    · omega
  have HF : Hid (fitsK (m + 1) b (n + 1) a = fitsK m kb n ka) := fitsK_mm sb sa hkb hka
  have hgA := hgka ka (by rw [hka]; exact List.mem_cons_self ..)
  have hgB := hgkb kb (by rw [hkb]; exact List.mem_cons_self ..)
  have hcB := cnt_kid hc40 (by rw [hkb]; exact List.mem_cons_self .. : kb ∈ Kd.kids b)
  obtain ⟨pa, nva, pva, kva, rfl, hSa, hca, -, -, hra⟩ := ha
  rw [hka] at hra
  obtain ⟨aoa, capa, rfl, -, hra⟩ := hra
  obtain ⟨ga, oa, rfl, hSga, hra⟩ := hra (by simp)
  obtain ⟨ca, ea, hia⟩ := hra 0 (by simp)
  simp only [List.getElem_cons_zero] at hia
  obtain ⟨qa, rfl, -⟩ := id hia.ptr
  have hla := hB pa hSa
  have hlga := hB ga hSga
  obtain ⟨pb, nvb, pvb, kvb, rfl, hSb, hcb, -, -, hrb⟩ := hb
  rw [hkb] at hrb
  obtain ⟨aob, capb, rfl, -, hrb⟩ := hrb
  obtain ⟨gb, ob, rfl, hSgb, hrb⟩ := hrb (by simp)
  obtain ⟨cb, eb, hib⟩ := hrb 0 (by simp)
  simp only [List.getElem_cons_zero] at hib
  obtain ⟨qb, rfl, -⟩ := id hib.ptr
  have hlb := hB pb hSb
  have hlgb := hB gb hSgb
  have HWa : Hid (∀ W, Below w.heap.size w W → Calls Tryz.prog 53 #[.pointer (some ⟨pa, 0, none⟩)] W fun e w' => e = .returned (.pointer (some ⟨qa, 0, none⟩)) ∧ w' = W) := fun W hW =>
    within_any W pa ga oa 0 capa qa ((hW.cell (p := ⟨pa, 3, none⟩) hla).trans (by simp [World.cell?, hca])) ((hW.cell (p := ⟨ga, oa, none⟩) hlga).trans (by simpa using ea)) (by omega)
  have HWb : Hid (∀ W, Below w.heap.size w W → Calls Tryz.prog 53 #[.pointer (some ⟨pb, 0, none⟩)] W fun e w' => e = .returned (.pointer (some ⟨qb, 0, none⟩)) ∧ w' = W) := fun W hW =>
    within_any W pb gb ob 0 capb qb ((hW.cell (p := ⟨pb, 3, none⟩) hlb).trans (by simp [World.cell?, hcb])) ((hW.cell (p := ⟨gb, ob, none⟩) hlgb).trans (by simpa using eb)) (by omega)
  have HBe : Hid (∀ W, Below w.heap.size w W → (W.cell? ⟨w.heap.size, 0, none⟩ = some (.pointer (some ⟨pa, 0, none⟩)) ∧ W.cell? ⟨w.heap.size, 1, none⟩ = some (.pointer (some ⟨pb, 0, none⟩)) ∧ W.cell? ⟨w.heap.size, 2, none⟩ = some (.string x)) → Calls Tryz.prog 108 #[.agg #[.pointer (some ⟨pa, 0, none⟩), .pointer (some ⟨pb, 0, none⟩), .string x], .string ⟨#[63]⟩, .pointer (some ⟨qa, 0, none⟩), .pointer (some ⟨qb, 0, none⟩)] W fun e w' => e = .returned (.agg #[.pointer (some ⟨qa, 0, none⟩), .pointer (some ⟨qb, 0, none⟩), .string (pathTo x ⟨#[63]⟩)]) ∧ Below w.heap.size w w' ∧ Below W.heap.size W w' ∧ (w'.cell? ⟨w.heap.size, 0, none⟩ = some (.pointer (some ⟨pa, 0, none⟩)) ∧ w'.cell? ⟨w.heap.size, 1, none⟩ = some (.pointer (some ⟨pb, 0, none⟩)) ∧ w'.cell? ⟨w.heap.size, 2, none⟩ = some (.string x))) := fun W hW hP =>
    (below_any x _ _ _ _ _ W (by omega)).mono fun e w' h => ⟨h.1, below_step hW hW.size h.2, h.2, pair_kept hP h.2⟩
  have HOf : Hid (∀ W, Below w.heap.size w W → Calls Tryz.prog 38 #[.pointer (some ⟨R, 0, none⟩), .agg #[.pointer (some ⟨qa, 0, none⟩), .pointer (some ⟨qb, 0, none⟩), .string (pathTo x ⟨#[63]⟩)]] W fun e w' => (Below w.heap.size w w' ∧ Below W.heap.size W w') ∧ FitEnd m kb n ka e) := fun W hW =>
    (hm S n ka kb _ _ (d + 1) (d' + 1) R _ W (hia.keep (same_below hW hB) (fun _ h => h)) (hib.keep (same_below hW hB) (fun _ h => h)) (fun b hb => Nat.lt_of_lt_of_le (hB b hb) hW.size) (hT.keep (hW.block R hR)) (Nat.lt_of_lt_of_le hR hW.size) hgA hgB hcB (by omega) (by rw [pathTo_size]; omega)).mono fun e w' h => ⟨⟨below_step hW hW.size h.1, h.1⟩, h.2⟩
  generalize pathTo x ⟨#[63]⟩ = y at *
  have hst : ∀ (a : Addr) (md : Mode) (fn : Fn) (first cap : Array Value) (w : World), (store a (.func fn first cap) md).run Tryz.prog w = stored Tryz.prog w a (.func fn first cap) md := fun a md _ _ _ w => run_store _ w a _ md rfl
  have hstN : ∀ (a : Addr) (md : Mode) (w : World), (store a .nilFunc md).run Tryz.prog w = stored Tryz.prog w a .nilFunc md := fun a md w => run_store _ w a _ md rfl
  have hmf : ∀ (fn : Fn) (first cap : Array Value) (w : World), (Instr.makeFunc fn first cap).run Tryz.prog w = .ok (.func fn first cap) w := fun _ _ _ _ => rfl
  have hbA : Below w.heap.size w (w.alloc (.cells #[.pointer (some ⟨pa, 0, none⟩), .pointer (some ⟨pb, 0, none⟩), .string x] 72)).drew := ((Below.refl _ _).alloc (Nat.le_refl _) _).drew
  clear hm hT hga hgb hgkb hkb hgB hrb hib eb hcb hgka hka hgA hra hia ea hca
  cases hfit : fitsK m kb n ka
  · have HOf : Hid (∀ W, Below w.heap.size w W → (W.cell? ⟨w.heap.size, 0, none⟩ = some (.pointer (some ⟨pa, 0, none⟩)) ∧ W.cell? ⟨w.heap.size, 1, none⟩ = some (.pointer (some ⟨pb, 0, none⟩)) ∧ W.cell? ⟨w.heap.size, 2, none⟩ = some (.string x)) → Calls Tryz.prog 38 #[.pointer (some ⟨R, 0, none⟩), .agg #[.pointer (some ⟨qa, 0, none⟩), .pointer (some ⟨qb, 0, none⟩), .string y]] W fun e w' => (Below w.heap.size w w' ∧ Below W.heap.size W w' ∧ (w'.cell? ⟨w.heap.size, 0, none⟩ = some (.pointer (some ⟨pa, 0, none⟩)) ∧ w'.cell? ⟨w.heap.size, 1, none⟩ = some (.pointer (some ⟨pb, 0, none⟩)) ∧ w'.cell? ⟨w.heap.size, 2, none⟩ = some (.string x))) ∧ ∃ z : ByteArray, e = .returned (.tuple #[.nilFunc, .iface 140 (.agg #[.string z])])) := fun W hW hP => (HOf.out W hW).mono fun e w' h => ⟨⟨h.1.1, h.1.2, pair_kept hP h.1.2⟩, h.2.elim (fun h => by rw [hfit] at h; exact absurd h.1 (by simp)) (fun h => h.2)⟩
    have HF : Hid (fitsK (m + 1) b (n + 1) a = false) := HF.out.trans hfit
    clear hfit
    go_enter Tryz.func82, Tryz.ntmps82
    go_upto_region 1 with fail
    go_region_held (fun w' => w'.cell? ⟨w.heap.size, 0, none⟩ = some (.pointer (some ⟨pa, 0, none⟩)) ∧ w'.cell? ⟨w.heap.size, 1, none⟩ = some (.pointer (some ⟨pb, 0, none⟩)) ∧ w'.cell? ⟨w.heap.size, 2, none⟩ = some (.string x)) (first | with_reducible assumption | (with_reducible refine pair_alloc ?_; with_reducible assumption) | (with_reducible refine pair_set (by assumption) ?_; first | with_reducible assumption | omega) | (with_reducible refine pair_set (pair_alloc (by assumption)) ?_; first | with_reducible assumption | omega) | (refine ⟨?_, ?_, ?_⟩ <;> go_keep)) (first
      | (go_at_call_of 53 (Value.pointer (some ⟨pa, 0, none⟩)); refine (HWa.out _ ?_).mono ?_; (first | with_reducible assumption | (with_reducible refine below_alloc ?_ _; with_reducible assumption) | (with_reducible refine below_allocD ?_ _; with_reducible assumption)); rintro e w7 ⟨rfl, rfl⟩)
      | (go_at_call_of 53 (Value.pointer (some ⟨pb, 0, none⟩)); refine (HWb.out _ ?_).mono ?_; (first | with_reducible assumption | (with_reducible refine below_alloc ?_ _; with_reducible assumption) | (with_reducible refine below_allocD ?_ _; with_reducible assumption)); rintro e w8 ⟨rfl, rfl⟩)
      | (go_at_call 108; refine (HBe.out _ ?_ ?_).mono ?_; (first | with_reducible assumption | (with_reducible refine below_alloc ?_ _; with_reducible assumption) | (with_reducible refine below_allocD ?_ _; with_reducible assumption)); (first | assumption | simp [*]); rintro e w9 ⟨rfl, hb9, hc9, hp9⟩; have hne9 := World.new_ne w9 ⟨w.heap.size, 0, none⟩ hp9.1; first | ((with_reducible (have hk9 := kept_new hc9)); obtain ⟨k91, k92, k93⟩ := id hk9) | ((with_reducible (have hk9 := kept_newD hc9)); simp at hk9; obtain ⟨k91, k92, k93⟩ := id hk9) | skip)
      | (go_at_call 38; refine (HOf.out _ ?_ ?_).mono ?_; (first | with_reducible assumption | (with_reducible refine below_alloc ?_ _; with_reducible assumption) | (with_reducible refine below_allocD ?_ _; with_reducible assumption)); (first | assumption | simp [*]); rintro e w10 ⟨⟨hb10, hc10, hp10⟩, z, rfl⟩; have hne10 := World.new_ne w10 ⟨w.heap.size, 0, none⟩ hp10.1; first | ((with_reducible (have hk10 := kept_new hc10)); obtain ⟨ka1, ka2, ka3⟩ := id hk10) | ((with_reducible (have hk10 := kept_more (by assumption) hc10)); obtain ⟨ka1, ka2, ka3⟩ := id hk10) | skip))
    all_goals
      go_wp2_with fail
      go_ret2
      refine ⟨?_, .inr ⟨HF.out, _, rfl⟩⟩
      first | with_reducible exact hb10 | with_reducible exact below_alloc hb10 _ | ((with_reducible refine Below.setCell hb10 ?_ _); have h9 := hb9.size; first | exact h9 | exact Nat.le_succ _) | (with_reducible refine Below.setCell (below_alloc hb10 _) ?_ _; have := hb10.size; omega)
  · have HOf : Hid (∀ W, Below w.heap.size w W → (W.cell? ⟨w.heap.size, 0, none⟩ = some (.pointer (some ⟨pa, 0, none⟩)) ∧ W.cell? ⟨w.heap.size, 1, none⟩ = some (.pointer (some ⟨pb, 0, none⟩)) ∧ W.cell? ⟨w.heap.size, 2, none⟩ = some (.string x)) → Calls Tryz.prog 38 #[.pointer (some ⟨R, 0, none⟩), .agg #[.pointer (some ⟨qa, 0, none⟩), .pointer (some ⟨qb, 0, none⟩), .string y]] W fun e w' => (Below w.heap.size w w' ∧ Below W.heap.size W w' ∧ (w'.cell? ⟨w.heap.size, 0, none⟩ = some (.pointer (some ⟨pa, 0, none⟩)) ∧ w'.cell? ⟨w.heap.size, 1, none⟩ = some (.pointer (some ⟨pb, 0, none⟩)) ∧ w'.cell? ⟨w.heap.size, 2, none⟩ = some (.string x))) ∧ ∃ fn first cap, e = .returned (.tuple #[.func fn first cap, .nilIface])) := fun W hW hP => (HOf.out W hW).mono fun e w' h => ⟨⟨h.1.1, h.1.2, pair_kept hP h.1.2⟩, h.2.elim (fun h => h.2) (fun h => by rw [hfit] at h; exact absurd h.1 (by simp))⟩
    have HF : Hid (fitsK (m + 1) b (n + 1) a = true) := HF.out.trans hfit
    clear hfit
    go_enter Tryz.func82, Tryz.ntmps82
    go_upto_region 1 with fail
    go_region_held (fun w' => w'.cell? ⟨w.heap.size, 0, none⟩ = some (.pointer (some ⟨pa, 0, none⟩)) ∧ w'.cell? ⟨w.heap.size, 1, none⟩ = some (.pointer (some ⟨pb, 0, none⟩)) ∧ w'.cell? ⟨w.heap.size, 2, none⟩ = some (.string x)) (first | with_reducible assumption | (with_reducible refine pair_alloc ?_; with_reducible assumption) | (with_reducible refine pair_set (by assumption) ?_; first | with_reducible assumption | omega) | (with_reducible refine pair_set (pair_alloc (by assumption)) ?_; first | with_reducible assumption | omega) | (refine ⟨?_, ?_, ?_⟩ <;> go_keep)) (first
      | (go_at_call_of 53 (Value.pointer (some ⟨pa, 0, none⟩)); refine (HWa.out _ ?_).mono ?_; (first | with_reducible assumption | (with_reducible refine below_alloc ?_ _; with_reducible assumption) | (with_reducible refine below_allocD ?_ _; with_reducible assumption)); rintro e w7 ⟨rfl, rfl⟩)
      | (go_at_call_of 53 (Value.pointer (some ⟨pb, 0, none⟩)); refine (HWb.out _ ?_).mono ?_; (first | with_reducible assumption | (with_reducible refine below_alloc ?_ _; with_reducible assumption) | (with_reducible refine below_allocD ?_ _; with_reducible assumption)); rintro e w8 ⟨rfl, rfl⟩)
      | (go_at_call 108; refine (HBe.out _ ?_ ?_).mono ?_; (first | with_reducible assumption | (with_reducible refine below_alloc ?_ _; with_reducible assumption) | (with_reducible refine below_allocD ?_ _; with_reducible assumption)); (first | assumption | simp [*]); rintro e w9 ⟨rfl, hb9, hc9, hp9⟩; have hne9 := World.new_ne w9 ⟨w.heap.size, 0, none⟩ hp9.1; first | ((with_reducible (have hk9 := kept_new hc9)); obtain ⟨k91, k92, k93⟩ := id hk9) | ((with_reducible (have hk9 := kept_newD hc9)); simp at hk9; obtain ⟨k91, k92, k93⟩ := id hk9) | skip)
      | (go_at_call 38; refine (HOf.out _ ?_ ?_).mono ?_; (first | with_reducible assumption | (with_reducible refine below_alloc ?_ _; with_reducible assumption) | (with_reducible refine below_allocD ?_ _; with_reducible assumption)); (first | assumption | simp [*]); rintro e w10 ⟨⟨hb10, hc10, hp10⟩, fn, first, cap, rfl⟩; have hne10 := World.new_ne w10 ⟨w.heap.size, 0, none⟩ hp10.1; first | ((with_reducible (have hk10 := kept_new hc10)); obtain ⟨ka1, ka2, ka3⟩ := id hk10) | ((with_reducible (have hk10 := kept_more (by assumption) hc10)); obtain ⟨ka1, ka2, ka3⟩ := id hk10) | skip))
    all_goals
      go_wp2_with fail
      go_ret2
      refine ⟨?_, .inl ⟨HF.out, _, _, _, rfl⟩⟩
      first | with_reducible exact hb10 | with_reducible exact below_alloc hb10 _ | ((with_reducible refine Below.setCell hb10 ?_ _); have h9 := hb9.size; first | exact h9 | exact Nat.le_succ _) | (with_reducible refine Below.setCell (below_alloc hb10 _) ?_ _; have := hb10.size; omega)

end Go.Proofs.YtfbfchffnapnnaaGreatDoor

/-
  The program's widenings: what intoMaybe makes.
-/
namespace Go.Proofs.YtfbfchffnapnnaaGreatDoor
open Go.RowKit

set_option maxRecDepth 20000 in
set_option maxHeartbeats 4000000 in
theorem intoMaybe_any (m n : Nat) (hm : FitSaid m) (S : Nat → Prop) (a : K (n + 1)) (b : K (m + 1)) (va vb : Value) (d d' : Int) (R : Nat) (x : ByteArray) (w : World) (ha : InnerK S w (n + 1) a va) (hb : InnerK S w (m + 1) b vb) (hB : ∀ b, S b → b < w.heap.size) (hT : TabW w R) (hR : R < w.heap.size)
    (hga : goodK (n + 1) a d = true) (hgb : goodK (m + 1) b d' = true) (hc40 : cntK (m + 1) b ≤ 40) (hd : 1 ≤ d') (hx : (x.size : Int) ≤ 20 * d') (sa : Kd.sort a ≠ 6) (sb : Kd.sort b = 6) :
    Calls Tryz.prog 81 #[.pointer (some ⟨R, 0, none⟩), .agg #[va, vb, .string x]] w fun e w' => Below w.heap.size w w' ∧ FitEnd (m + 1) b (n + 1) a e := by
  have hd6 : d' ≤ 6 := by simp only [goodK, Bool.and_eq_true, decide_eq_true_eq] at hgb; exact hgb.1.1
  have hs2 : (⟨#[63]⟩ : ByteArray).size = 1 := rfl
  have hgkb : ∀ k, k ∈ Kd.kids b → goodK m k (d' + 1) = true := by simp only [goodK, Bool.and_eq_true] at hgb; exact List.all_eq_true.1 hgb.2
  obtain ⟨kb, hkb⟩ : ∃ kb, Kd.kids b = [kb] := by
    rcases goodK_kids hgb with ⟨h, -⟩ | ⟨-, -, h⟩ | ⟨h, -⟩
    · omega
    · exact h
    · omega
  have HF : Hid (fitsK (m + 1) b (n + 1) a = fitsK m kb (n + 1) a) := fitsK_xm sb sa hkb
  have hgB := hgkb kb (by rw [hkb]; exact List.mem_cons_self ..)
  have hcB := cnt_kid hc40 (by rw [hkb]; exact List.mem_cons_self .. : kb ∈ Kd.kids b)
  have hia := ha
  obtain ⟨pa, rfl, hSa⟩ := ha.ptr
  obtain ⟨pb, nvb, pvb, kvb, rfl, hSb, hcb, -, -, hrb⟩ := hb
  rw [hkb] at hrb
  obtain ⟨aob, capb, rfl, -, hrb⟩ := hrb
  obtain ⟨gb, ob, rfl, hSgb, hrb⟩ := hrb (by simp)
  obtain ⟨cb, eb, hib⟩ := hrb 0 (by simp)
  simp only [List.getElem_cons_zero] at hib
  obtain ⟨qb, rfl, -⟩ := id hib.ptr
  have hlb := hB pb hSb
  have hlgb := hB gb hSgb
  have HWb : Hid (∀ W, Below w.heap.size w W → Calls Tryz.prog 53 #[.pointer (some ⟨pb, 0, none⟩)] W fun e w' => e = .returned (.pointer (some ⟨qb, 0, none⟩)) ∧ w' = W) := fun W hW =>
    within_any W pb gb ob 0 capb qb ((hW.cell (p := ⟨pb, 3, none⟩) hlb).trans (by simp [World.cell?, hcb])) ((hW.cell (p := ⟨gb, ob, none⟩) hlgb).trans (by simpa using eb)) (by omega)
  have HBe : Hid (∀ W, Below w.heap.size w W → (W.cell? ⟨w.heap.size, 0, none⟩ = some (.pointer (some ⟨pa, 0, none⟩)) ∧ W.cell? ⟨w.heap.size, 1, none⟩ = some (.pointer (some ⟨pb, 0, none⟩)) ∧ W.cell? ⟨w.heap.size, 2, none⟩ = some (.string x)) → Calls Tryz.prog 108 #[.agg #[.pointer (some ⟨pa, 0, none⟩), .pointer (some ⟨pb, 0, none⟩), .string x], .string ⟨#[63]⟩, .pointer (some ⟨pa, 0, none⟩), .pointer (some ⟨qb, 0, none⟩)] W fun e w' => e = .returned (.agg #[.pointer (some ⟨pa, 0, none⟩), .pointer (some ⟨qb, 0, none⟩), .string (pathTo x ⟨#[63]⟩)]) ∧ Below w.heap.size w w' ∧ Below W.heap.size W w' ∧ (w'.cell? ⟨w.heap.size, 0, none⟩ = some (.pointer (some ⟨pa, 0, none⟩)) ∧ w'.cell? ⟨w.heap.size, 1, none⟩ = some (.pointer (some ⟨pb, 0, none⟩)) ∧ w'.cell? ⟨w.heap.size, 2, none⟩ = some (.string x))) := fun W hW hP =>
    (below_any x _ _ _ _ _ W (by omega)).mono fun e w' h => ⟨h.1, below_step hW hW.size h.2, h.2, pair_kept hP h.2⟩
  have HOf : Hid (∀ W, Below w.heap.size w W → Calls Tryz.prog 38 #[.pointer (some ⟨R, 0, none⟩), .agg #[.pointer (some ⟨pa, 0, none⟩), .pointer (some ⟨qb, 0, none⟩), .string (pathTo x ⟨#[63]⟩)]] W fun e w' => (Below w.heap.size w w' ∧ Below W.heap.size W w') ∧ FitEnd m kb (n + 1) a e) := fun W hW =>
    (hm S (n + 1) a kb _ _ d (d' + 1) R _ W (hia.keep (same_below hW hB) (fun _ h => h)) (hib.keep (same_below hW hB) (fun _ h => h)) (fun b hb => Nat.lt_of_lt_of_le (hB b hb) hW.size) (hT.keep (hW.block R hR)) (Nat.lt_of_lt_of_le hR hW.size) hga hgB hcB (by omega) (by rw [pathTo_size]; omega)).mono fun e w' h => ⟨⟨below_step hW hW.size h.1, h.1⟩, h.2⟩
  generalize pathTo x ⟨#[63]⟩ = y at *
  have hst : ∀ (a : Addr) (md : Mode) (fn : Fn) (first cap : Array Value) (w : World), (store a (.func fn first cap) md).run Tryz.prog w = stored Tryz.prog w a (.func fn first cap) md := fun a md _ _ _ w => run_store _ w a _ md rfl
  have hstN : ∀ (a : Addr) (md : Mode) (w : World), (store a .nilFunc md).run Tryz.prog w = stored Tryz.prog w a .nilFunc md := fun a md w => run_store _ w a _ md rfl
  have hmf : ∀ (fn : Fn) (first cap : Array Value) (w : World), (Instr.makeFunc fn first cap).run Tryz.prog w = .ok (.func fn first cap) w := fun _ _ _ _ => rfl
  have hbA : Below w.heap.size w (w.alloc (.cells #[.pointer (some ⟨pa, 0, none⟩), .pointer (some ⟨pb, 0, none⟩), .string x] 72)).drew := ((Below.refl _ _).alloc (Nat.le_refl _) _).drew
  clear hm hT hga hgb hgkb hkb hgB hrb hib eb hcb ha hia
  cases hfit : fitsK m kb (n + 1) a
  · have HOf : Hid (∀ W, Below w.heap.size w W → (W.cell? ⟨w.heap.size, 0, none⟩ = some (.pointer (some ⟨pa, 0, none⟩)) ∧ W.cell? ⟨w.heap.size, 1, none⟩ = some (.pointer (some ⟨pb, 0, none⟩)) ∧ W.cell? ⟨w.heap.size, 2, none⟩ = some (.string x)) → Calls Tryz.prog 38 #[.pointer (some ⟨R, 0, none⟩), .agg #[.pointer (some ⟨pa, 0, none⟩), .pointer (some ⟨qb, 0, none⟩), .string y]] W fun e w' => (Below w.heap.size w w' ∧ Below W.heap.size W w' ∧ (w'.cell? ⟨w.heap.size, 0, none⟩ = some (.pointer (some ⟨pa, 0, none⟩)) ∧ w'.cell? ⟨w.heap.size, 1, none⟩ = some (.pointer (some ⟨pb, 0, none⟩)) ∧ w'.cell? ⟨w.heap.size, 2, none⟩ = some (.string x))) ∧ ∃ z : ByteArray, e = .returned (.tuple #[.nilFunc, .iface 140 (.agg #[.string z])])) := fun W hW hP => (HOf.out W hW).mono fun e w' h => ⟨⟨h.1.1, h.1.2, pair_kept hP h.1.2⟩, h.2.elim (fun h => by rw [hfit] at h; exact absurd h.1 (by simp)) (fun h => h.2)⟩
    have HF : Hid (fitsK (m + 1) b (n + 1) a = false) := HF.out.trans hfit
    clear hfit
    go_enter Tryz.func81, Tryz.ntmps81
    go_upto_region 1 with fail
    go_region_held (fun w' => w'.cell? ⟨w.heap.size, 0, none⟩ = some (.pointer (some ⟨pa, 0, none⟩)) ∧ w'.cell? ⟨w.heap.size, 1, none⟩ = some (.pointer (some ⟨pb, 0, none⟩)) ∧ w'.cell? ⟨w.heap.size, 2, none⟩ = some (.string x)) (first | with_reducible assumption | (with_reducible refine pair_alloc ?_; with_reducible assumption) | (with_reducible refine pair_set (by assumption) ?_; first | with_reducible assumption | omega) | (with_reducible refine pair_set (pair_alloc (by assumption)) ?_; first | with_reducible assumption | omega) | (refine ⟨?_, ?_, ?_⟩ <;> go_keep)) (first
      | (go_at_call 53; refine (HWb.out _ ?_).mono ?_; (first | with_reducible assumption | (with_reducible refine below_alloc ?_ _; with_reducible assumption) | (with_reducible refine below_allocD ?_ _; with_reducible assumption)); rintro e w8 ⟨rfl, rfl⟩)
      | (go_at_call 108; refine (HBe.out _ ?_ ?_).mono ?_; (first | with_reducible assumption | (with_reducible refine below_alloc ?_ _; with_reducible assumption) | (with_reducible refine below_allocD ?_ _; with_reducible assumption)); (first | assumption | simp [*]); rintro e w9 ⟨rfl, hb9, hc9, hp9⟩; have hne9 := World.new_ne w9 ⟨w.heap.size, 0, none⟩ hp9.1; first | ((with_reducible (have hk9 := kept_new hc9)); obtain ⟨k91, k92, k93⟩ := id hk9) | ((with_reducible (have hk9 := kept_newD hc9)); simp at hk9; obtain ⟨k91, k92, k93⟩ := id hk9) | skip)
      | (go_at_call 38; refine (HOf.out _ ?_ ?_).mono ?_; (first | with_reducible assumption | (with_reducible refine below_alloc ?_ _; with_reducible assumption) | (with_reducible refine below_allocD ?_ _; with_reducible assumption)); (first | assumption | simp [*]); rintro e w10 ⟨⟨hb10, hc10, hp10⟩, z, rfl⟩; have hne10 := World.new_ne w10 ⟨w.heap.size, 0, none⟩ hp10.1; first | ((with_reducible (have hk10 := kept_new hc10)); obtain ⟨ka1, ka2, ka3⟩ := id hk10) | ((with_reducible (have hk10 := kept_more (by assumption) hc10)); obtain ⟨ka1, ka2, ka3⟩ := id hk10) | skip))
    all_goals
      go_wp2_with fail
      go_ret2
      refine ⟨?_, .inr ⟨HF.out, _, rfl⟩⟩
      first | with_reducible exact hb10 | with_reducible exact below_alloc hb10 _ | ((with_reducible refine Below.setCell hb10 ?_ _); have h9 := hb9.size; first | exact h9 | exact Nat.le_succ _) | (with_reducible refine Below.setCell (below_alloc hb10 _) ?_ _; have := hb10.size; omega)
  · have HOf : Hid (∀ W, Below w.heap.size w W → (W.cell? ⟨w.heap.size, 0, none⟩ = some (.pointer (some ⟨pa, 0, none⟩)) ∧ W.cell? ⟨w.heap.size, 1, none⟩ = some (.pointer (some ⟨pb, 0, none⟩)) ∧ W.cell? ⟨w.heap.size, 2, none⟩ = some (.string x)) → Calls Tryz.prog 38 #[.pointer (some ⟨R, 0, none⟩), .agg #[.pointer (some ⟨pa, 0, none⟩), .pointer (some ⟨qb, 0, none⟩), .string y]] W fun e w' => (Below w.heap.size w w' ∧ Below W.heap.size W w' ∧ (w'.cell? ⟨w.heap.size, 0, none⟩ = some (.pointer (some ⟨pa, 0, none⟩)) ∧ w'.cell? ⟨w.heap.size, 1, none⟩ = some (.pointer (some ⟨pb, 0, none⟩)) ∧ w'.cell? ⟨w.heap.size, 2, none⟩ = some (.string x))) ∧ ∃ fn first cap, e = .returned (.tuple #[.func fn first cap, .nilIface])) := fun W hW hP => (HOf.out W hW).mono fun e w' h => ⟨⟨h.1.1, h.1.2, pair_kept hP h.1.2⟩, h.2.elim (fun h => h.2) (fun h => by rw [hfit] at h; exact absurd h.1 (by simp))⟩
    have HF : Hid (fitsK (m + 1) b (n + 1) a = true) := HF.out.trans hfit
    clear hfit
    go_enter Tryz.func81, Tryz.ntmps81
    go_upto_region 1 with fail
    go_region_held (fun w' => w'.cell? ⟨w.heap.size, 0, none⟩ = some (.pointer (some ⟨pa, 0, none⟩)) ∧ w'.cell? ⟨w.heap.size, 1, none⟩ = some (.pointer (some ⟨pb, 0, none⟩)) ∧ w'.cell? ⟨w.heap.size, 2, none⟩ = some (.string x)) (first | with_reducible assumption | (with_reducible refine pair_alloc ?_; with_reducible assumption) | (with_reducible refine pair_set (by assumption) ?_; first | with_reducible assumption | omega) | (with_reducible refine pair_set (pair_alloc (by assumption)) ?_; first | with_reducible assumption | omega) | (refine ⟨?_, ?_, ?_⟩ <;> go_keep)) (first
      | (go_at_call 53; refine (HWb.out _ ?_).mono ?_; (first | with_reducible assumption | (with_reducible refine below_alloc ?_ _; with_reducible assumption) | (with_reducible refine below_allocD ?_ _; with_reducible assumption)); rintro e w8 ⟨rfl, rfl⟩)
      | (go_at_call 108; refine (HBe.out _ ?_ ?_).mono ?_; (first | with_reducible assumption | (with_reducible refine below_alloc ?_ _; with_reducible assumption) | (with_reducible refine below_allocD ?_ _; with_reducible assumption)); (first | assumption | simp [*]); rintro e w9 ⟨rfl, hb9, hc9, hp9⟩; have hne9 := World.new_ne w9 ⟨w.heap.size, 0, none⟩ hp9.1; first | ((with_reducible (have hk9 := kept_new hc9)); obtain ⟨k91, k92, k93⟩ := id hk9) | ((with_reducible (have hk9 := kept_newD hc9)); simp at hk9; obtain ⟨k91, k92, k93⟩ := id hk9) | skip)
      | (go_at_call 38; refine (HOf.out _ ?_ ?_).mono ?_; (first | with_reducible assumption | (with_reducible refine below_alloc ?_ _; with_reducible assumption) | (with_reducible refine below_allocD ?_ _; with_reducible assumption)); (first | assumption | simp [*]); rintro e w10 ⟨⟨hb10, hc10, hp10⟩, fn, first, cap, rfl⟩; have hne10 := World.new_ne w10 ⟨w.heap.size, 0, none⟩ hp10.1; first | ((with_reducible (have hk10 := kept_new hc10)); obtain ⟨ka1, ka2, ka3⟩ := id hk10) | ((with_reducible (have hk10 := kept_more (by assumption) hc10)); obtain ⟨ka1, ka2, ka3⟩ := id hk10) | skip))
    all_goals
      go_wp2_with fail
      go_ret2
      refine ⟨?_, .inl ⟨HF.out, _, _, _, rfl⟩⟩
      first | with_reducible exact hb10 | with_reducible exact below_alloc hb10 _ | ((with_reducible refine Below.setCell hb10 ?_ _); have h9 := hb9.size; first | exact h9 | exact Nat.le_succ _) | (with_reducible refine Below.setCell (below_alloc hb10 _) ?_ _; have := hb10.size; omega)

end Go.Proofs.YtfbfchffnapnnaaGreatDoor

/-
  The program's widenings: what is made of a name of two forms.
-/
namespace Go.Proofs.YtfbfchffnapnnaaGreatDoor
open Go.RowKit

/-- How the making of a widening ends, if r says whether there is one. -/
def EndB (r : Bool) (e : Ending) : Prop :=
  (r = true ∧ ∃ fn first cap, e = .returned (.tuple #[.func fn first cap, .nilIface])) ∨ (r = false ∧ ∃ y : ByteArray, e = .returned (.tuple #[.nilFunc, .iface 140 (.agg #[.string y])]))

theorem zeroD_W4 {w : World} {N : Nat} {t : TypeId} {v0 v1 v2 v3 : Value} (h : w.heap[N]? = some (.cells #[v0, v1, v2, v3] t (0, 0))) : w.cell? ⟨N, 0, none⟩ = some v0 := by simp [World.cell?, h]

theorem name_short {l : List ByteArray} (h : riseB l = true) (i : Nat) (hi : i < l.length) : l[i].size ≤ 8 := by
  have := List.all_eq_true.1 h i (List.mem_range.2 hi)
  simp only [riseAt, Bool.and_eq_true, nameB, decide_eq_true_eq] at this
  have h8 := this.1.1.1.2
  rwa [List.getD_eq_getElem?_getD, List.getElem?_eq_getElem hi, Option.getD_some] at h8

set_option maxRecDepth 20000 in
set_option maxHeartbeats 4000000 in
theorem ofFields_any (m n : Nat) (hm : FitSaid m) (S : Nat → Prop) (a : K (n + 1)) (b : K (m + 1)) (va vb : Value) (d d' : Int) (R : Nat) (x : ByteArray) (w : World) (ha : InnerK S w (n + 1) a va) (hb : InnerK S w (m + 1) b vb) (hB : ∀ b, S b → b < w.heap.size) (hT : TabW w R) (hR : R < w.heap.size)
    (hga : goodK (n + 1) a d = true) (hgb : goodK (m + 1) b d' = true) (hc40 : cntK (m + 1) b ≤ 40) (hd : 1 ≤ d') (hx : (x.size : Int) ≤ 20 * d') (sa : Kd.sort a = 5) (sb : Kd.sort b = 5) (j : Nat) (hj : j < (Kd.names b).length) (hj' : j < (Kd.kids b).length) :
    Calls Tryz.prog 111 #[.pointer (some ⟨R, 0, none⟩), .agg #[va, vb, .string x], .string (Kd.names b)[j]] w fun e w' => Below w.heap.size w w' ∧ EndB (fieldFits n (Kd.names a) (Kd.kids a) m (Kd.names b)[j] (Kd.kids b)[j]) e := by
  have hd6 : d' ≤ 6 := by simp only [goodK, Bool.and_eq_true, decide_eq_true_eq] at hgb; exact hgb.1.1
  have hgka : ∀ k, k ∈ Kd.kids a → goodK n k (d + 1) = true := by simp only [goodK, Bool.and_eq_true] at hga; exact List.all_eq_true.1 hga.2
  have hgkb : ∀ k, k ∈ Kd.kids b → goodK m k (d' + 1) = true := by simp only [goodK, Bool.and_eq_true] at hgb; exact List.all_eq_true.1 hgb.2
  have hka : (Kd.names a).length = (Kd.kids a).length ∧ riseB (Kd.names a) = true := by
    rcases goodK_kids hga with ⟨h, -⟩ | ⟨h, -⟩ | ⟨-, h⟩
    · omega
    · omega
    · exact h
  have hkb : riseB (Kd.names b) = true := by
    rcases goodK_kids hgb with ⟨h, -⟩ | ⟨h, -⟩ | ⟨-, -, h⟩
    · omega
    · omega
    · exact h
  have hs8 := name_short hkb j hj
  have hsm : (Kd.names b)[j].size ≤ maxLen := by unfold maxLen; omega
  have hgB := hgkb _ (List.getElem_mem hj')
  have hcB := cnt_kid hc40 (List.getElem_mem hj')
  obtain ⟨pa, nva, pva, kva, rfl, hSa, hca, -, hpa, hra⟩ := ha
  obtain ⟨pb, nvb, pvb, kvb, rfl, hSb, hcb, -, hpb, hrb⟩ := hb
  have hpa := hpa sa
  have hpb := hpb sb
  obtain ⟨aob, capb, rfl, -, hrb⟩ := hrb
  obtain ⟨gb, ob, rfl, hSgb, hrb⟩ := hrb (by intro h; rw [h] at hj'; simp at hj')
  obtain ⟨cb, eb, hib⟩ := hrb j hj'
  obtain ⟨qb, rfl, hSqb⟩ := id hib.ptr
  have hla := hB pa hSa
  have hlb := hB pb hSb
  have hlgb := hB gb hSgb
  have hlqb := hB qb hSqb
  have HFb : Hid (∀ W, Below w.heap.size w W → Calls Tryz.prog 91 #[.pointer (some ⟨pb, 0, none⟩), .string (Kd.names b)[j]] W fun e w' => e = .returned (.pointer (some ⟨qb, 0, none⟩)) ∧ w' = W) := fun W hW =>
    field_yes S W (Kd.names b) pvb pb gb ob (Kd.kids b).length capb qb j ((hW.cell (p := ⟨pb, 2, none⟩) hlb).trans (by simp [World.cell?, hcb])) (hpb.keep (same_below hW hB) (fun _ h => h)) (asc_of _ hkb) hj hsm ((hW.cell (p := ⟨pb, 3, none⟩) hlb).trans (by simp [World.cell?, hcb])) hj' ((hW.cell (p := ⟨gb, ob + j, none⟩) hlgb).trans eb)
  have hb0 : Below w.heap.size w (w.alloc (.cells #[.pointer (some ⟨pa, 0, none⟩), .pointer (some ⟨pb, 0, none⟩), .string x] 72)) := (Below.refl _ _).alloc (Nat.le_refl _) _
  have hbN : ∀ k, Below w.heap.size w ((w.alloc (.cells #[.pointer (some ⟨pa, 0, none⟩), .pointer (some ⟨pb, 0, none⟩), .string x] 72)).drewN k) := fun k => below_drewN hb0 k
  by_cases hmem : (Kd.names b)[j] ∈ Kd.names a
  · obtain ⟨q, hq, heq⟩ := List.getElem_of_mem hmem
    have hqk : q < (Kd.kids a).length := by omega
    obtain ⟨aoa, capa, rfl, -, hra⟩ := hra
    obtain ⟨ga, oa, rfl, hSga, hra⟩ := hra (by intro h; rw [h] at hqk; simp at hqk)
    obtain ⟨ca, ea, hia⟩ := hra q hqk
    obtain ⟨qa, rfl, -⟩ := id hia.ptr
    have hlga := hB ga hSga
    have HFa : Hid (∀ W, Below w.heap.size w W → Calls Tryz.prog 91 #[.pointer (some ⟨pa, 0, none⟩), .string (Kd.names b)[j]] W fun e w' => e = .returned (.pointer (some ⟨qa, 0, none⟩)) ∧ w' = W) := fun W hW => by
      have := field_yes S W (Kd.names a) pva pa ga oa (Kd.kids a).length capa qa q ((hW.cell (p := ⟨pa, 2, none⟩) hla).trans (by simp [World.cell?, hca])) (hpa.keep (same_below hW hB) (fun _ h => h)) (asc_of _ hka.2) hq (by rw [heq]; exact hsm) ((hW.cell (p := ⟨pa, 3, none⟩) hla).trans (by simp [World.cell?, hca])) hqk ((hW.cell (p := ⟨ga, oa + q, none⟩) hlga).trans ea)
      rwa [heq] at this
    have HF : Hid (fieldFits n (Kd.names a) (Kd.kids a) m (Kd.names b)[j] (Kd.kids b)[j] = fitsK m (Kd.kids b)[j] n (Kd.kids a)[q]) := by
      show _ = _
      unfold fieldFits
      rw [← heq, atName_yes _ _ q hq hqk (asc_of _ hka.2)]
    have HOf : Hid (∀ W, Below w.heap.size w W → Calls Tryz.prog 38 #[.pointer (some ⟨R, 0, none⟩), .agg #[.pointer (some ⟨qa, 0, none⟩), .pointer (some ⟨qb, 0, none⟩), .string (pathTo x (Kd.names b)[j])]] W fun e w' => Below w.heap.size w w' ∧ FitEnd m (Kd.kids b)[j] n (Kd.kids a)[q] e) := fun W hW =>
      (hm S n _ _ _ _ (d + 1) (d' + 1) R _ W (hia.keep (same_below hW hB) (fun _ h => h)) (hib.keep (same_below hW hB) (fun _ h => h)) (fun b hb => Nat.lt_of_lt_of_le (hB b hb) hW.size) (hT.keep (hW.block R hR)) (Nat.lt_of_lt_of_le hR hW.size) (hgka _ (List.getElem_mem hqk)) hgB hcB (by omega) (by rw [pathTo_size]; omega)).mono fun e w' h => ⟨below_step hW hW.size h.1, h.2⟩
    have HBe : Hid (∀ W, Below w.heap.size w W → Calls Tryz.prog 108 #[.agg #[.pointer (some ⟨pa, 0, none⟩), .pointer (some ⟨pb, 0, none⟩), .string x], .string (Kd.names b)[j], .pointer (some ⟨qa, 0, none⟩), .pointer (some ⟨qb, 0, none⟩)] W fun e w' => e = .returned (.agg #[.pointer (some ⟨qa, 0, none⟩), .pointer (some ⟨qb, 0, none⟩), .string (pathTo x (Kd.names b)[j])]) ∧ Below w.heap.size w w') := fun W hW =>
      (below_any x _ _ _ _ _ W (by omega)).mono fun e w' h => ⟨h.1, below_step hW hW.size h.2⟩
    clear hm hT hga hgb hgka hgkb hka hkb hgB hra hrb hia hib ea eb hca hcb hpa hpb hmem heq hs8 hsm
    generalize fieldFits n (Kd.names a) (Kd.kids a) m (Kd.names b)[j] (Kd.kids b)[j] = r at *
    generalize pathTo x (Kd.names b)[j] = y at *
    generalize (Kd.names b)[j] = s at *
    have HF' := HF.out
    cases hfit : fitsK m (Kd.kids b)[j] n (Kd.kids a)[q]
    · have HOf : Hid (∀ W, Below w.heap.size w W → Calls Tryz.prog 38 #[.pointer (some ⟨R, 0, none⟩), .agg #[.pointer (some ⟨qa, 0, none⟩), .pointer (some ⟨qb, 0, none⟩), .string y]] W fun e w' => Below w.heap.size w w' ∧ ∃ z : ByteArray, e = .returned (.tuple #[.nilFunc, .iface 140 (.agg #[.string z])])) := fun W hW => (HOf.out W hW).mono fun e w' h => ⟨h.1, h.2.elim (fun h => by rw [hfit] at h; exact absurd h.1 (by simp)) (fun h => h.2)⟩
      have HF : Hid (r = false) := HF'.trans hfit
      clear hfit HF'
      go_enter Tryz.func111, Tryz.ntmps111
      go_wp2_with fail
      go_quiet (first | (go_at_call_of 91 (Value.pointer (some ⟨pa, 0, none⟩)); refine Calls.quiet_of_same (HFa.out _ (hbN _))) | (go_at_call_of 91 (Value.pointer (some ⟨pb, 0, none⟩)); refine Calls.quiet_of_same (HFb.out _ (hbN _))))
      have hbq := hbN nq
      have hbq' := hbq.drew
      go_wp2_with fail
      go_region_law (first
        | (go_simp; go_at_call 108; refine (HBe.out _ (by assumption)).mono ?_; rintro e w9 ⟨rfl, hb9⟩)
        | (go_simp; go_at_call 38; refine (HOf.out _ (by assumption)).mono ?_; rintro e w10 ⟨hb10, z, rfl⟩))
      all_goals
        go_wp2_with fail
        go_ret2
        exact ⟨hb10, .inr ⟨HF.out, _, rfl⟩⟩
    · have HOf : Hid (∀ W, Below w.heap.size w W → Calls Tryz.prog 38 #[.pointer (some ⟨R, 0, none⟩), .agg #[.pointer (some ⟨qa, 0, none⟩), .pointer (some ⟨qb, 0, none⟩), .string y]] W fun e w' => Below w.heap.size w w' ∧ ∃ fn first cap, e = .returned (.tuple #[.func fn first cap, .nilIface])) := fun W hW => (HOf.out W hW).mono fun e w' h => ⟨h.1, h.2.elim (fun h => h.2) (fun h => by rw [hfit] at h; exact absurd h.1 (by simp))⟩
      have HF : Hid (r = true) := HF'.trans hfit
      clear hfit HF'
      go_enter Tryz.func111, Tryz.ntmps111
      go_wp2_with fail
      go_quiet (first | (go_at_call_of 91 (Value.pointer (some ⟨pa, 0, none⟩)); refine Calls.quiet_of_same (HFa.out _ (hbN _))) | (go_at_call_of 91 (Value.pointer (some ⟨pb, 0, none⟩)); refine Calls.quiet_of_same (HFb.out _ (hbN _))))
      have hbq := hbN nq
      have hbq' := hbq.drew
      go_wp2_with fail
      go_region_law (first
        | (go_simp; go_at_call 108; refine (HBe.out _ (by assumption)).mono ?_; rintro e w9 ⟨rfl, hb9⟩)
        | (go_simp; go_at_call 38; refine (HOf.out _ (by assumption)).mono ?_; rintro e w10 ⟨hb10, fn, first, cap, rfl⟩))
      all_goals
        go_wp2_with fail
        go_ret2
        exact ⟨hb10, .inl ⟨HF.out, _, _, _, rfl⟩⟩
  · have HFa : Hid (∀ W, Below w.heap.size w W → Calls Tryz.prog 91 #[.pointer (some ⟨pa, 0, none⟩), .string (Kd.names b)[j]] W fun e w' => e = .returned (.pointer none) ∧ w' = W) := fun W hW =>
      field_no S W (Kd.names a) pva pa _ ((hW.cell (p := ⟨pa, 2, none⟩) hla).trans (by simp [World.cell?, hca])) (hpa.keep (same_below hW hB) (fun _ h => h)) hmem hsm
    have HF : Hid (fieldFits n (Kd.names a) (Kd.kids a) m (Kd.names b)[j] (Kd.kids b)[j] = (srtK m (Kd.kids b)[j] == 6)) := by
      show _ = _
      unfold fieldFits
      rw [atName_no _ _ _ hmem]
    obtain ⟨s6, h6, hs6⟩ : ∃ s6, w.cell? ⟨qb, 0, none⟩ = some (.int .i64 s6) ∧ s6 = srtK m (Kd.kids b)[j] := by
      cases m with
      | zero => exact hib.elim
      | succ m =>
        obtain ⟨bb, nv, pv, kv, hv, -, hcell, -⟩ := hib
        cases hv
        exact ⟨Kd.sort (Kd.kids b)[j], zeroD_W4 hcell, rfl⟩
    have HF' := HF.out
    rw [← hs6] at HF'
    have h6N : ∀ k, ((w.alloc (.cells #[.pointer (some ⟨pa, 0, none⟩), .pointer (some ⟨pb, 0, none⟩), .string x] 72)).drewN k).cell? ⟨qb, 0, none⟩ = some (.int .i64 s6) := fun k => ((hbN k).cell (p := ⟨qb, 0, none⟩) hlqb).trans h6
    clear hm hT hga hgb hgka hgkb hka hkb hgB hra hrb hib eb hca hcb hpa hpb hmem hs8 hsm HF hs6 h6
    generalize fieldFits n (Kd.names a) (Kd.kids a) m (Kd.names b)[j] (Kd.kids b)[j] = r at *
    generalize (Kd.names b)[j] = s at *
    by_cases h66 : s6 = 6
    · subst h66
      have HF : Hid (r = true) := HF'
      clear HF'
      go_enter Tryz.func111, Tryz.ntmps111
      go_wp2_with fail
      go_quiet (first | (go_at_call_of 91 (Value.pointer (some ⟨pa, 0, none⟩)); refine Calls.quiet_of_same (HFa.out _ (hbN _))) | (go_at_call_of 91 (Value.pointer (some ⟨pb, 0, none⟩)); refine Calls.quiet_of_same (HFb.out _ (hbN _))))
      have hbq := hbN nq
      have h6q := h6N nq
      go_wp2_with fail
      go_ret2
      exact ⟨hbq, .inl ⟨HF.out, _, _, _, rfl⟩⟩
    · have HF : Hid (r = false) := HF'.trans (by simp [h66])
      have h6b : (s6 != 6) = true := by simp [h66]
      clear HF' h66
      go_enter Tryz.func111, Tryz.ntmps111
      go_wp2_with fail
      go_quiet (first | (go_at_call_of 91 (Value.pointer (some ⟨pa, 0, none⟩)); refine Calls.quiet_of_same (HFa.out _ (hbN _))) | (go_at_call_of 91 (Value.pointer (some ⟨pb, 0, none⟩)); refine Calls.quiet_of_same (HFb.out _ (hbN _))))
      have hbq := hbN nq
      have h6q := h6N nq
      go_wp2_with fail
      go_quiet (fail)
      go_wp2_with fail
      go_ret2
      exact ⟨below_drewN hbq _, .inr ⟨HF.out, _, rfl⟩⟩

end Go.Proofs.YtfbfchffnapnnaaGreatDoor

/-
  The program's widenings: the table is asked; KindFits's part behind the face.
-/
namespace Go.Proofs.YtfbfchffnapnnaaGreatDoor
open Go.RowKit

theorem wfuncIn_nil {P : Program} {t : TypeId} {ps rs : Array TypeId} {b : Bool} (d : Nat) (fn : Fn) (first cap : Array Value) (w : World) (h : P.underlying t = some (.func ps rs b)) : (Op.equalIn (d + 1) t (.func fn first cap) .nilFunc).run P w = .ok false w := by
  simp [Op.equalIn, run_underlying h]

theorem wnilIn_nil {P : Program} {t : TypeId} {ps rs : Array TypeId} {b : Bool} (d : Nat) (w : World) (h : P.underlying t = some (.func ps rs b)) : (Op.equalIn (d + 1) t .nilFunc .nilFunc).run P w = .ok true w := by
  simp [Op.equalIn, run_underlying h]

theorem Tryz.wfunc_eq (fn : Fn) (first cap : Array Value) (w : World) : (binOp .eql 82 (.func fn first cap) .nilFunc).run Tryz.prog w = .ok (.bool false) w := by
  have : (Op.equal 82 (.func fn first cap) .nilFunc).run Tryz.prog w = .ok false w := wfuncIn_nil 9999 fn first cap w Tryz.underlying82
  simp only [binOp]
  simp [this]

theorem Tryz.wfunc_nil (w : World) : (binOp .eql 82 .nilFunc .nilFunc).run Tryz.prog w = .ok (.bool true) w := by
  have : (Op.equal 82 .nilFunc .nilFunc).run Tryz.prog w = .ok true w := wnilIn_nil 9999 w Tryz.underlying82
  simp only [binOp]
  simp [this]

set_option maxRecDepth 20000 in
set_option maxHeartbeats 1000000 in
theorem of_nil (R pa pb i j : Nat) (x : ByteArray) (w : World) (h1 : 1 ≤ i) (h2 : i ≤ 6) (h3 : 1 ≤ j) (h4 : j ≤ 6) (ha : w.cell? ⟨pa, 0, none⟩ = some (.int .i64 (i : Int))) (hb : w.cell? ⟨pb, 0, none⟩ = some (.int .i64 (j : Int))) (hT : w.cell? ⟨R, i * 7 + j, none⟩ = some .nilFunc)
    (hla : pa < w.heap.size) (hlb : pb < w.heap.size) (hlR : R < w.heap.size) :
    Calls Tryz.prog 38 #[.pointer (some ⟨R, 0, none⟩), .agg #[.pointer (some ⟨pa, 0, none⟩), .pointer (some ⟨pb, 0, none⟩), .string x]] w fun e w' => Below w.heap.size w w' ∧ ∃ y : ByteArray, e = .returned (.tuple #[.nilFunc, .iface 140 (.agg #[.string y])]) := by
  have hb0 : Below w.heap.size w (w.alloc (.cells #[.pointer (some ⟨pa, 0, none⟩), .pointer (some ⟨pb, 0, none⟩), .string x] 72)) := (Below.refl _ _).alloc (Nat.le_refl _) _
  have ha' := (hb0.cell (p := ⟨pa, 0, none⟩) hla).trans ha
  have hb' := (hb0.cell (p := ⟨pb, 0, none⟩) hlb).trans hb
  have hT' := (hb0.cell (p := ⟨R, i * 7 + j, none⟩) hlR).trans hT
  have hq1 := Tryz.wfunc_nil
  have hq2 := Tryz.wfunc_eq
  have hi7 : (i : Int) < 7 := by omega
  have hj7 : (j : Int) < 7 := by omega
  clear ha hb hT
  go_enter Tryz.func38, Tryz.ntmps38
  go_wp2_with fail
  go_quiet (fail)
  go_wp2_with fail
  go_quiet (fail)
  go_wp2_with fail
  go_ret2
  exact ⟨below_drewN (below_drewN hb0 _) _, _, rfl⟩

set_option maxRecDepth 20000 in
set_option maxHeartbeats 1000000 in
theorem of_ofLeaves (R pa pb i j : Nat) (r : Bool) (x : ByteArray) (w : World) (h1 : 1 ≤ i) (h2 : i ≤ 6) (h3 : 1 ≤ j) (h4 : j ≤ 6) (ha : w.cell? ⟨pa, 0, none⟩ = some (.int .i64 (i : Int))) (hb : w.cell? ⟨pb, 0, none⟩ = some (.int .i64 (j : Int))) (hT : w.cell? ⟨R, i * 7 + j, none⟩ = some (widF R 78))
    (hla : pa < w.heap.size) (hlb : pb < w.heap.size) (hlR : R < w.heap.size)
    (hC : ∀ W, Below w.heap.size w W → Calls Tryz.prog 78 #[.pointer (some ⟨R, 0, none⟩), .agg #[.pointer (some ⟨pa, 0, none⟩), .pointer (some ⟨pb, 0, none⟩), .string x]] W fun e w' => Below W.heap.size W w' ∧ ∃ v u, e = .returned (.tuple #[v, u]) ∧ (r = true ∧ (∃ fn first cap, v = .func fn first cap) ∧ u = .nilIface ∨ r = false ∧ v = .nilFunc ∧ ∃ y : ByteArray, u = .iface 140 (.agg #[.string y]))) :
    Calls Tryz.prog 38 #[.pointer (some ⟨R, 0, none⟩), .agg #[.pointer (some ⟨pa, 0, none⟩), .pointer (some ⟨pb, 0, none⟩), .string x]] w fun e w' => Below w.heap.size w w' ∧ ∃ v u, e = .returned (.tuple #[v, u]) ∧ (r = true ∧ (∃ fn first cap, v = .func fn first cap) ∧ u = .nilIface ∨ r = false ∧ v = .nilFunc ∧ ∃ y : ByteArray, u = .iface 140 (.agg #[.string y])) := by
  have hb0 : Below w.heap.size w (w.alloc (.cells #[.pointer (some ⟨pa, 0, none⟩), .pointer (some ⟨pb, 0, none⟩), .string x] 72)) := (Below.refl _ _).alloc (Nat.le_refl _) _
  have ha' := (hb0.cell (p := ⟨pa, 0, none⟩) hla).trans ha
  have hb' := (hb0.cell (p := ⟨pb, 0, none⟩) hlb).trans hb
  have hT' := (hb0.cell (p := ⟨R, i * 7 + j, none⟩) hlR).trans hT
  have hq1 := Tryz.wfunc_nil
  have hq2 := Tryz.wfunc_eq
  have hi7 : (i : Int) < 7 := by omega
  have hj7 : (j : Int) < 7 := by omega
  have HC : Hid (∀ W, Below w.heap.size w W → _) := hC
  clear ha hb hT hC
  unfold widF at hT'
  go_enter Tryz.func38, Tryz.ntmps38
  go_wp2_with fail
  go_quiet (fail)
  go_wp2_with fail
  refine (HC.out _ (below_drewN hb0 _)).mono ?_
  rintro e w2 ⟨hb2, v, u, rfl, hvu⟩
  have HB : Hid (Below w.heap.size w w2) := below_step (below_drewN hb0 _) (below_drewN hb0 _).size hb2
  have HVU : Hid (r = true ∧ (∃ fn first cap, v = .func fn first cap) ∧ u = .nilIface ∨ r = false ∧ v = .nilFunc ∧ ∃ y : ByteArray, u = .iface 140 (.agg #[.string y])) := hvu
  clear hvu hb2
  go_wp2_with fail
  go_ret2
  exact ⟨HB.out, v, u, rfl, HVU.out⟩

set_option maxRecDepth 20000 in
set_option maxHeartbeats 1000000 in
theorem of_ofLists (R pa pb i j : Nat) (r : Bool) (x : ByteArray) (w : World) (h1 : 1 ≤ i) (h2 : i ≤ 6) (h3 : 1 ≤ j) (h4 : j ≤ 6) (ha : w.cell? ⟨pa, 0, none⟩ = some (.int .i64 (i : Int))) (hb : w.cell? ⟨pb, 0, none⟩ = some (.int .i64 (j : Int))) (hT : w.cell? ⟨R, i * 7 + j, none⟩ = some (widF R 79))
    (hla : pa < w.heap.size) (hlb : pb < w.heap.size) (hlR : R < w.heap.size)
    (hC : ∀ W, Below w.heap.size w W → Calls Tryz.prog 79 #[.pointer (some ⟨R, 0, none⟩), .agg #[.pointer (some ⟨pa, 0, none⟩), .pointer (some ⟨pb, 0, none⟩), .string x]] W fun e w' => Below W.heap.size W w' ∧ ∃ v u, e = .returned (.tuple #[v, u]) ∧ (r = true ∧ (∃ fn first cap, v = .func fn first cap) ∧ u = .nilIface ∨ r = false ∧ v = .nilFunc ∧ ∃ y : ByteArray, u = .iface 140 (.agg #[.string y]))) :
    Calls Tryz.prog 38 #[.pointer (some ⟨R, 0, none⟩), .agg #[.pointer (some ⟨pa, 0, none⟩), .pointer (some ⟨pb, 0, none⟩), .string x]] w fun e w' => Below w.heap.size w w' ∧ ∃ v u, e = .returned (.tuple #[v, u]) ∧ (r = true ∧ (∃ fn first cap, v = .func fn first cap) ∧ u = .nilIface ∨ r = false ∧ v = .nilFunc ∧ ∃ y : ByteArray, u = .iface 140 (.agg #[.string y])) := by
  have hb0 : Below w.heap.size w (w.alloc (.cells #[.pointer (some ⟨pa, 0, none⟩), .pointer (some ⟨pb, 0, none⟩), .string x] 72)) := (Below.refl _ _).alloc (Nat.le_refl _) _
  have ha' := (hb0.cell (p := ⟨pa, 0, none⟩) hla).trans ha
  have hb' := (hb0.cell (p := ⟨pb, 0, none⟩) hlb).trans hb
  have hT' := (hb0.cell (p := ⟨R, i * 7 + j, none⟩) hlR).trans hT
  have hq1 := Tryz.wfunc_nil
  have hq2 := Tryz.wfunc_eq
  have hi7 : (i : Int) < 7 := by omega
  have hj7 : (j : Int) < 7 := by omega
  have HC : Hid (∀ W, Below w.heap.size w W → _) := hC
  clear ha hb hT hC
  unfold widF at hT'
  go_enter Tryz.func38, Tryz.ntmps38
  go_wp2_with fail
  go_quiet (fail)
  go_wp2_with fail
  refine (HC.out _ (below_drewN hb0 _)).mono ?_
  rintro e w2 ⟨hb2, v, u, rfl, hvu⟩
  have HB : Hid (Below w.heap.size w w2) := below_step (below_drewN hb0 _) (below_drewN hb0 _).size hb2
  have HVU : Hid (r = true ∧ (∃ fn first cap, v = .func fn first cap) ∧ u = .nilIface ∨ r = false ∧ v = .nilFunc ∧ ∃ y : ByteArray, u = .iface 140 (.agg #[.string y])) := hvu
  clear hvu hb2
  go_wp2_with fail
  go_ret2
  exact ⟨HB.out, v, u, rfl, HVU.out⟩

set_option maxRecDepth 20000 in
set_option maxHeartbeats 1000000 in
theorem of_ofForms (R pa pb i j : Nat) (r : Bool) (x : ByteArray) (w : World) (h1 : 1 ≤ i) (h2 : i ≤ 6) (h3 : 1 ≤ j) (h4 : j ≤ 6) (ha : w.cell? ⟨pa, 0, none⟩ = some (.int .i64 (i : Int))) (hb : w.cell? ⟨pb, 0, none⟩ = some (.int .i64 (j : Int))) (hT : w.cell? ⟨R, i * 7 + j, none⟩ = some (widF R 80))
    (hla : pa < w.heap.size) (hlb : pb < w.heap.size) (hlR : R < w.heap.size)
    (hC : ∀ W, Below w.heap.size w W → Calls Tryz.prog 80 #[.pointer (some ⟨R, 0, none⟩), .agg #[.pointer (some ⟨pa, 0, none⟩), .pointer (some ⟨pb, 0, none⟩), .string x]] W fun e w' => Below W.heap.size W w' ∧ ∃ v u, e = .returned (.tuple #[v, u]) ∧ (r = true ∧ (∃ fn first cap, v = .func fn first cap) ∧ u = .nilIface ∨ r = false ∧ v = .nilFunc ∧ ∃ y : ByteArray, u = .iface 140 (.agg #[.string y]))) :
    Calls Tryz.prog 38 #[.pointer (some ⟨R, 0, none⟩), .agg #[.pointer (some ⟨pa, 0, none⟩), .pointer (some ⟨pb, 0, none⟩), .string x]] w fun e w' => Below w.heap.size w w' ∧ ∃ v u, e = .returned (.tuple #[v, u]) ∧ (r = true ∧ (∃ fn first cap, v = .func fn first cap) ∧ u = .nilIface ∨ r = false ∧ v = .nilFunc ∧ ∃ y : ByteArray, u = .iface 140 (.agg #[.string y])) := by
  have hb0 : Below w.heap.size w (w.alloc (.cells #[.pointer (some ⟨pa, 0, none⟩), .pointer (some ⟨pb, 0, none⟩), .string x] 72)) := (Below.refl _ _).alloc (Nat.le_refl _) _
  have ha' := (hb0.cell (p := ⟨pa, 0, none⟩) hla).trans ha
  have hb' := (hb0.cell (p := ⟨pb, 0, none⟩) hlb).trans hb
  have hT' := (hb0.cell (p := ⟨R, i * 7 + j, none⟩) hlR).trans hT
  have hq1 := Tryz.wfunc_nil
  have hq2 := Tryz.wfunc_eq
  have hi7 : (i : Int) < 7 := by omega
  have hj7 : (j : Int) < 7 := by omega
  have HC : Hid (∀ W, Below w.heap.size w W → _) := hC
  clear ha hb hT hC
  unfold widF at hT'
  go_enter Tryz.func38, Tryz.ntmps38
  go_wp2_with fail
  go_quiet (fail)
  go_wp2_with fail
  refine (HC.out _ (below_drewN hb0 _)).mono ?_
  rintro e w2 ⟨hb2, v, u, rfl, hvu⟩
  have HB : Hid (Below w.heap.size w w2) := below_step (below_drewN hb0 _) (below_drewN hb0 _).size hb2
  have HVU : Hid (r = true ∧ (∃ fn first cap, v = .func fn first cap) ∧ u = .nilIface ∨ r = false ∧ v = .nilFunc ∧ ∃ y : ByteArray, u = .iface 140 (.agg #[.string y])) := hvu
  clear hvu hb2
  go_wp2_with fail
  go_ret2
  exact ⟨HB.out, v, u, rfl, HVU.out⟩

set_option maxRecDepth 20000 in
set_option maxHeartbeats 1000000 in
theorem of_intoMaybe (R pa pb i j : Nat) (r : Bool) (x : ByteArray) (w : World) (h1 : 1 ≤ i) (h2 : i ≤ 6) (h3 : 1 ≤ j) (h4 : j ≤ 6) (ha : w.cell? ⟨pa, 0, none⟩ = some (.int .i64 (i : Int))) (hb : w.cell? ⟨pb, 0, none⟩ = some (.int .i64 (j : Int))) (hT : w.cell? ⟨R, i * 7 + j, none⟩ = some (widF R 81))
    (hla : pa < w.heap.size) (hlb : pb < w.heap.size) (hlR : R < w.heap.size)
    (hC : ∀ W, Below w.heap.size w W → Calls Tryz.prog 81 #[.pointer (some ⟨R, 0, none⟩), .agg #[.pointer (some ⟨pa, 0, none⟩), .pointer (some ⟨pb, 0, none⟩), .string x]] W fun e w' => Below W.heap.size W w' ∧ ∃ v u, e = .returned (.tuple #[v, u]) ∧ (r = true ∧ (∃ fn first cap, v = .func fn first cap) ∧ u = .nilIface ∨ r = false ∧ v = .nilFunc ∧ ∃ y : ByteArray, u = .iface 140 (.agg #[.string y]))) :
    Calls Tryz.prog 38 #[.pointer (some ⟨R, 0, none⟩), .agg #[.pointer (some ⟨pa, 0, none⟩), .pointer (some ⟨pb, 0, none⟩), .string x]] w fun e w' => Below w.heap.size w w' ∧ ∃ v u, e = .returned (.tuple #[v, u]) ∧ (r = true ∧ (∃ fn first cap, v = .func fn first cap) ∧ u = .nilIface ∨ r = false ∧ v = .nilFunc ∧ ∃ y : ByteArray, u = .iface 140 (.agg #[.string y])) := by
  have hb0 : Below w.heap.size w (w.alloc (.cells #[.pointer (some ⟨pa, 0, none⟩), .pointer (some ⟨pb, 0, none⟩), .string x] 72)) := (Below.refl _ _).alloc (Nat.le_refl _) _
  have ha' := (hb0.cell (p := ⟨pa, 0, none⟩) hla).trans ha
  have hb' := (hb0.cell (p := ⟨pb, 0, none⟩) hlb).trans hb
  have hT' := (hb0.cell (p := ⟨R, i * 7 + j, none⟩) hlR).trans hT
  have hq1 := Tryz.wfunc_nil
  have hq2 := Tryz.wfunc_eq
  have hi7 : (i : Int) < 7 := by omega
  have hj7 : (j : Int) < 7 := by omega
  have HC : Hid (∀ W, Below w.heap.size w W → _) := hC
  clear ha hb hT hC
  unfold widF at hT'
  go_enter Tryz.func38, Tryz.ntmps38
  go_wp2_with fail
  go_quiet (fail)
  go_wp2_with fail
  refine (HC.out _ (below_drewN hb0 _)).mono ?_
  rintro e w2 ⟨hb2, v, u, rfl, hvu⟩
  have HB : Hid (Below w.heap.size w w2) := below_step (below_drewN hb0 _) (below_drewN hb0 _).size hb2
  have HVU : Hid (r = true ∧ (∃ fn first cap, v = .func fn first cap) ∧ u = .nilIface ∨ r = false ∧ v = .nilFunc ∧ ∃ y : ByteArray, u = .iface 140 (.agg #[.string y])) := hvu
  clear hvu hb2
  go_wp2_with fail
  go_ret2
  exact ⟨HB.out, v, u, rfl, HVU.out⟩

set_option maxRecDepth 20000 in
set_option maxHeartbeats 1000000 in
theorem of_ofMaybes (R pa pb i j : Nat) (r : Bool) (x : ByteArray) (w : World) (h1 : 1 ≤ i) (h2 : i ≤ 6) (h3 : 1 ≤ j) (h4 : j ≤ 6) (ha : w.cell? ⟨pa, 0, none⟩ = some (.int .i64 (i : Int))) (hb : w.cell? ⟨pb, 0, none⟩ = some (.int .i64 (j : Int))) (hT : w.cell? ⟨R, i * 7 + j, none⟩ = some (widF R 82))
    (hla : pa < w.heap.size) (hlb : pb < w.heap.size) (hlR : R < w.heap.size)
    (hC : ∀ W, Below w.heap.size w W → Calls Tryz.prog 82 #[.pointer (some ⟨R, 0, none⟩), .agg #[.pointer (some ⟨pa, 0, none⟩), .pointer (some ⟨pb, 0, none⟩), .string x]] W fun e w' => Below W.heap.size W w' ∧ ∃ v u, e = .returned (.tuple #[v, u]) ∧ (r = true ∧ (∃ fn first cap, v = .func fn first cap) ∧ u = .nilIface ∨ r = false ∧ v = .nilFunc ∧ ∃ y : ByteArray, u = .iface 140 (.agg #[.string y]))) :
    Calls Tryz.prog 38 #[.pointer (some ⟨R, 0, none⟩), .agg #[.pointer (some ⟨pa, 0, none⟩), .pointer (some ⟨pb, 0, none⟩), .string x]] w fun e w' => Below w.heap.size w w' ∧ ∃ v u, e = .returned (.tuple #[v, u]) ∧ (r = true ∧ (∃ fn first cap, v = .func fn first cap) ∧ u = .nilIface ∨ r = false ∧ v = .nilFunc ∧ ∃ y : ByteArray, u = .iface 140 (.agg #[.string y])) := by
  have hb0 : Below w.heap.size w (w.alloc (.cells #[.pointer (some ⟨pa, 0, none⟩), .pointer (some ⟨pb, 0, none⟩), .string x] 72)) := (Below.refl _ _).alloc (Nat.le_refl _) _
  have ha' := (hb0.cell (p := ⟨pa, 0, none⟩) hla).trans ha
  have hb' := (hb0.cell (p := ⟨pb, 0, none⟩) hlb).trans hb
  have hT' := (hb0.cell (p := ⟨R, i * 7 + j, none⟩) hlR).trans hT
  have hq1 := Tryz.wfunc_nil
  have hq2 := Tryz.wfunc_eq
  have hi7 : (i : Int) < 7 := by omega
  have hj7 : (j : Int) < 7 := by omega
  have HC : Hid (∀ W, Below w.heap.size w W → _) := hC
  clear ha hb hT hC
  unfold widF at hT'
  go_enter Tryz.func38, Tryz.ntmps38
  go_wp2_with fail
  go_quiet (fail)
  go_wp2_with fail
  refine (HC.out _ (below_drewN hb0 _)).mono ?_
  rintro e w2 ⟨hb2, v, u, rfl, hvu⟩
  have HB : Hid (Below w.heap.size w w2) := below_step (below_drewN hb0 _) (below_drewN hb0 _).size hb2
  have HVU : Hid (r = true ∧ (∃ fn first cap, v = .func fn first cap) ∧ u = .nilIface ∨ r = false ∧ v = .nilFunc ∧ ∃ y : ByteArray, u = .iface 140 (.agg #[.string y])) := hvu
  clear hvu hb2
  go_wp2_with fail
  go_ret2
  exact ⟨HB.out, v, u, rfl, HVU.out⟩

end Go.Proofs.YtfbfchffnapnnaaGreatDoor
