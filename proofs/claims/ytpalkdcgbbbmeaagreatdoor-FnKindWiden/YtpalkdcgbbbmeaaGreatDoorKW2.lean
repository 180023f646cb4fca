/-
  The program's widenings: what ofLists makes.
-/
import Derived.Test.YtpalkdcgbbbmeaaGreatDoorKW1
import Derived.Deep.RegionHeld
namespace Go.Proofs.YtpalkdcgbbbmeaaGreatDoor
open Go.RowKit

set_option maxRecDepth 20000 in
set_option maxHeartbeats 4000000 in
theorem ofLists_any (m n : Nat) (hm : FitSaid m) (S : Nat → Prop) (a : K (n + 1)) (b : K (m + 1)) (va vb : Value) (d d' : Int) (R : Nat) (x : ByteArray) (w : World) (ha : InnerK S w (n + 1) a va) (hb : InnerK S w (m + 1) b vb) (hB : ∀ b, S b → b < w.heap.size) (hT : TabW w R) (hR : R < w.heap.size)
    (hga : goodK (n + 1) a d = true) (hgb : goodK (m + 1) b d' = true) (hc40 : cntK (m + 1) b ≤ 40) (hd : 1 ≤ d') (hx : (x.size : Int) ≤ 20 * d') (sa : Kd.sort a = 4) (sb : Kd.sort b = 4) :
    Calls Tryz.prog 74 #[.pointer (some ⟨R, 0, none⟩), .agg #[va, vb, .string x]] w fun e w' => Below w.heap.size w w' ∧ FitEnd (m + 1) b (n + 1) a e := by
  have hd6 : d' ≤ 6 := by simp only [goodK, Bool.and_eq_true, decide_eq_true_eq] at hgb; exact hgb.1.1
  have hs2 : (⟨#[91, 93]⟩ : ByteArray).size = 2 := rfl
  have hgka : ∀ k, k ∈ Kd.kids a → goodK n k (d + 1) = true := by simp only [goodK, Bool.and_eq_true] at hga; exact List.all_eq_true.1 hga.2
  have hgkb : ∀ k, k ∈ Kd.kids b → goodK m k (d' + 1) = true := by simp only [goodK, Bool.and_eq_true] at hgb; exact List.all_eq_true.1 hgb.2
  obtain ⟨ka, hka⟩ : ∃ ka, Kd.kids a = [ka] := by
    rcases goodK_kids hga with ⟨h, -⟩ | ⟨-, -, h⟩ | ⟨h, -⟩
    · omega
    · exact h
    · omega
  obtain ⟨kb, hkb⟩ : ∃ kb, Kd.kids b = [kb] := by
    rcases goodK_kids hgb with ⟨h, -⟩ | ⟨-, -, h⟩ | ⟨h, -⟩
    · omega
    · exact h
    · omega
  have HF : Hid (fitsK (m + 1) b (n + 1) a = fitsK m kb n ka) := fitsK_ll sb sa hkb hka
  have hgA := hgka ka (by rw [hka]; exact List.mem_cons_self ..)
  have hgB := hgkb kb (by rw [hkb]; exact List.mem_cons_self ..)
  have hcB := cnt_kid hc40 (by rw [hkb]; exact List.mem_cons_self .. : kb ∈ Kd.kids b)
  obtain ⟨pa, nva, pva, kva, rfl, hSa, hca, -, -, hra⟩ := ha
  rw [hka] at hra
  obtain ⟨aoa, capa, rfl, -, hra⟩ := hra
  obtain ⟨ga, oa, rfl, hSga, hra⟩ := hra (by simp)
  obtain ⟨ca, ea, hia⟩ := hra 0 (by simp)
  simp only [List.getElem_cons_zero] at hia
  obtain ⟨qa, rfl, -⟩ := id hia.ptr
  have hla := hB pa hSa
  have hlga := hB ga hSga
  obtain ⟨pb, nvb, pvb, kvb, rfl, hSb, hcb, -, -, hrb⟩ := hb
  rw [hkb] at hrb
  obtain ⟨aob, capb, rfl, -, hrb⟩ := hrb
  obtain ⟨gb, ob, rfl, hSgb, hrb⟩ := hrb (by simp)
  obtain ⟨cb, eb, hib⟩ := hrb 0 (by simp)
  simp only [List.getElem_cons_zero] at hib
  obtain ⟨qb, rfl, -⟩ := id hib.ptr
  have hlb := hB pb hSb
  have hlgb := hB gb hSgb
  have HWa : Hid (∀ W, Below w.heap.size w W → Calls Tryz.prog 70 #[.pointer (some ⟨pa, 0, none⟩)] W fun e w' => e = .returned (.pointer (some ⟨qa, 0, none⟩)) ∧ w' = W) := fun W hW =>
    within_any W pa ga oa 0 capa qa ((hW.cell (p := ⟨pa, 3, none⟩) hla).trans (by simp [World.cell?, hca])) ((hW.cell (p := ⟨ga, oa, none⟩) hlga).trans (by simpa using ea)) (by omega)
  have HWb : Hid (∀ W, Below w.heap.size w W → Calls Tryz.prog 70 #[.pointer (some ⟨pb, 0, none⟩)] W fun e w' => e = .returned (.pointer (some ⟨qb, 0, none⟩)) ∧ w' = W) := fun W hW =>
    within_any W pb gb ob 0 capb qb ((hW.cell (p := ⟨pb, 3, none⟩) hlb).trans (by simp [World.cell?, hcb])) ((hW.cell (p := ⟨gb, ob, none⟩) hlgb).trans (by simpa using eb)) (by omega)
  have HBe : Hid (∀ W, Below w.heap.size w W → (W.cell? ⟨w.heap.size, 0, none⟩ = some (.pointer (some ⟨pa, 0, none⟩)) ∧ W.cell? ⟨w.heap.size, 1, none⟩ = some (.pointer (some ⟨pb, 0, none⟩)) ∧ W.cell? ⟨w.heap.size, 2, none⟩ = some (.string x)) → Calls Tryz.prog 98 #[.agg #[.pointer (some ⟨pa, 0, none⟩), .pointer (some ⟨pb, 0, none⟩), .string x], .string ⟨#[91, 93]⟩, .pointer (some ⟨qa, 0, none⟩), .pointer (some ⟨qb, 0, none⟩)] W fun e w' => e = .returned (.agg #[.pointer (some ⟨qa, 0, none⟩), .pointer (some ⟨qb, 0, none⟩), .string (pathTo x ⟨#[91, 93]⟩)]) ∧ Below w.heap.size w w' ∧ Below W.heap.size W w' ∧ (w'.cell? ⟨w.heap.size, 0, none⟩ = some (.pointer (some ⟨pa, 0, none⟩)) ∧ w'.cell? ⟨w.heap.size, 1, none⟩ = some (.pointer (some ⟨pb, 0, none⟩)) ∧ w'.cell? ⟨w.heap.size, 2, none⟩ = some (.string x))) := fun W hW hP =>
    (below_any x _ _ _ _ _ W (by omega)).mono fun e w' h => ⟨h.1, below_step hW hW.size h.2, h.2, pair_kept hP h.2⟩
  have HOf : Hid (∀ W, Below w.heap.size w W → Calls Tryz.prog 38 #[.pointer (some ⟨R, 0, none⟩), .agg #[.pointer (some ⟨qa, 0, none⟩), .pointer (some ⟨qb, 0, none⟩), .string (pathTo x ⟨#[91, 93]⟩)]] W fun e w' => (Below w.heap.size w w' ∧ Below W.heap.size W w') ∧ FitEnd m kb n ka e) := fun W hW =>
    (hm S n ka kb _ _ (d + 1) (d' + 1) R _ W (hia.keep (same_below hW hB) (fun _ h => h)) (hib.keep (same_below hW hB) (fun _ h => h)) (fun b hb => Nat.lt_of_lt_of_le (hB b hb) hW.size) (hT.keep (hW.block R hR)) (Nat.lt_of_lt_of_le hR hW.size) hgA hgB hcB (by omega) (by rw [pathTo_size]; omega)).mono fun e w' h => ⟨⟨below_step hW hW.size h.1, h.1⟩, h.2⟩
  generalize pathTo x ⟨#[91, 93]⟩ = y at *
  have hst : ∀ (a : Addr) (md : Mode) (fn : Fn) (first cap : Array Value) (w : World), (store a (.func fn first cap) md).run Tryz.prog w = stored Tryz.prog w a (.func fn first cap) md := fun a md _ _ _ w => run_store _ w a _ md rfl
  have hstN : ∀ (a : Addr) (md : Mode) (w : World), (store a .nilFunc md).run Tryz.prog w = stored Tryz.prog w a .nilFunc md := fun a md w => run_store _ w a _ md rfl
  have hmf : ∀ (fn : Fn) (first cap : Array Value) (w : World), (Instr.makeFunc fn first cap).run Tryz.prog w = .ok (.func fn first cap) w := fun _ _ _ _ => rfl
  have hbA : Below w.heap.size w (w.alloc (.cells #[.pointer (some ⟨pa, 0, none⟩), .pointer (some ⟨pb, 0, none⟩), .string x] 67)).drew := ((Below.refl _ _).alloc (Nat.le_refl _) _).drew
  clear hm hT hga hgb hgkb hkb hgB hrb hib eb hcb hgka hka hgA hra hia ea hca
  cases hfit : fitsK m kb n ka
  · have HOf : Hid (∀ W, Below w.heap.size w W → (W.cell? ⟨w.heap.size, 0, none⟩ = some (.pointer (some ⟨pa, 0, none⟩)) ∧ W.cell? ⟨w.heap.size, 1, none⟩ = some (.pointer (some ⟨pb, 0, none⟩)) ∧ W.cell? ⟨w.heap.size, 2, none⟩ = some (.string x)) → Calls Tryz.prog 38 #[.pointer (some ⟨R, 0, none⟩), .agg #[.pointer (some ⟨qa, 0, none⟩), .pointer (some ⟨qb, 0, none⟩), .string y]] W fun e w' => (Below w.heap.size w w' ∧ Below W.heap.size W w' ∧ (w'.cell? ⟨w.heap.size, 0, none⟩ = some (.pointer (some ⟨pa, 0, none⟩)) ∧ w'.cell? ⟨w.heap.size, 1, none⟩ = some (.pointer (some ⟨pb, 0, none⟩)) ∧ w'.cell? ⟨w.heap.size, 2, none⟩ = some (.string x))) ∧ ∃ z : ByteArray, e = .returned (.tuple #[.nilFunc, .iface 132 (.agg #[.string z])])) := fun W hW hP => (HOf.out W hW).mono fun e w' h => ⟨⟨h.1.1, h.1.2, pair_kept hP h.1.2⟩, h.2.elim (fun h => by rw [hfit] at h; exact absurd h.1 (by simp)) (fun h => h.2)⟩
    have HF : Hid (fitsK (m + 1) b (n + 1) a = false) := HF.out.trans hfit
    clear hfit
    go_enter Tryz.func74, Tryz.ntmps74
    go_upto_region 1 with fail
    go_region_held (fun w' => w'.cell? ⟨w.heap.size, 0, none⟩ = some (.pointer (some ⟨pa, 0, none⟩)) ∧ w'.cell? ⟨w.heap.size, 1, none⟩ = some (.pointer (some ⟨pb, 0, none⟩)) ∧ w'.cell? ⟨w.heap.size, 2, none⟩ = some (.string x)) (first | with_reducible assumption | (with_reducible refine pair_alloc ?_; with_reducible assumption) | (with_reducible refine pair_set (by assumption) ?_; first | with_reducible assumption | omega) | (with_reducible refine pair_set (pair_alloc (by assumption)) ?_; first | with_reducible assumption | omega) | (refine ⟨?_, ?_, ?_⟩ <;> go_keep)) (first
      | (go_at_call_of 70 (Value.pointer (some ⟨pa, 0, none⟩)); refine (HWa.out _ ?_).mono ?_; (first | with_reducible assumption | (with_reducible refine below_alloc ?_ _; with_reducible assumption) | (with_reducible refine below_allocD ?_ _; with_reducible assumption)); rintro e w7 ⟨rfl, rfl⟩)
      | (go_at_call_of 70 (Value.pointer (some ⟨pb, 0, none⟩)); refine (HWb.out _ ?_).mono ?_; (first | with_reducible assumption | (with_reducible refine below_alloc ?_ _; with_reducible assumption) | (with_reducible refine below_allocD ?_ _; with_reducible assumption)); rintro e w8 ⟨rfl, rfl⟩)
      | (go_at_call 98; refine (HBe.out _ ?_ ?_).mono ?_; (first | with_reducible assumption | (with_reducible refine below_alloc ?_ _; with_reducible assumption) | (with_reducible refine below_allocD ?_ _; with_reducible assumption)); (first | assumption | simp [*]); rintro e w9 ⟨rfl, hb9, hc9, hp9⟩; have hne9 := World.new_ne w9 ⟨w.heap.size, 0, none⟩ hp9.1; first | ((with_reducible (have hk9 := kept_new hc9)); obtain ⟨k91, k92, k93⟩ := id hk9) | ((with_reducible (have hk9 := kept_newD hc9)); simp at hk9; obtain ⟨k91, k92, k93⟩ := id hk9) | skip)
      | (go_at_call 38; refine (HOf.out _ ?_ ?_).mono ?_; (first | with_reducible assumption | (with_reducible refine below_alloc ?_ _; with_reducible assumption) | (with_reducible refine below_allocD ?_ _; with_reducible assumption)); (first | assumption | simp [*]); rintro e w10 ⟨⟨hb10, hc10, hp10⟩, z, rfl⟩; have hne10 := World.new_ne w10 ⟨w.heap.size, 0, none⟩ hp10.1; first | ((with_reducible (have hk10 := kept_new hc10)); obtain ⟨ka1, ka2, ka3⟩ := id hk10) | ((with_reducible (have hk10 := kept_more (by assumption) hc10)); obtain ⟨ka1, ka2, ka3⟩ := id hk10) | skip))
    all_goals
      go_wp2_with fail
      go_ret2
      refine ⟨?_, .inr ⟨HF.out, _, rfl⟩⟩
      first | with_reducible exact hb10 | with_reducible exact below_alloc hb10 _ | ((with_reducible refine Below.setCell hb10 ?_ _); have h9 := hb9.size; first | exact h9 | exact Nat.le_succ _) | (with_reducible refine Below.setCell (below_alloc hb10 _) ?_ _; have := hb10.size; omega)
  · have HOf : Hid (∀ W, Below w.heap.size w W → (W.cell? ⟨w.heap.size, 0, none⟩ = some (.pointer (some ⟨pa, 0, none⟩)) ∧ W.cell? ⟨w.heap.size, 1, none⟩ = some (.pointer (some ⟨pb, 0, none⟩)) ∧ W.cell? ⟨w.heap.size, 2, none⟩ = some (.string x)) → Calls Tryz.prog 38 #[.pointer (some ⟨R, 0, none⟩), .agg #[.pointer (some ⟨qa, 0, none⟩), .pointer (some ⟨qb, 0, none⟩), .string y]] W fun e w' => (Below w.heap.size w w' ∧ Below W.heap.size W w' ∧ (w'.cell? ⟨w.heap.size, 0, none⟩ = some (.pointer (some ⟨pa, 0, none⟩)) ∧ w'.cell? ⟨w.heap.size, 1, none⟩ = some (.pointer (some ⟨pb, 0, none⟩)) ∧ w'.cell? ⟨w.heap.size, 2, none⟩ = some (.string x))) ∧ ∃ fn first cap, e = .returned (.tuple #[.func fn first cap, .nilIface])) := fun W hW hP => (HOf.out W hW).mono fun e w' h => ⟨⟨h.1.1, h.1.2, pair_kept hP h.1.2⟩, h.2.elim (fun h => h.2) (fun h => by rw [hfit] at h; exact absurd h.1 (by simp))⟩
    have HF : Hid (fitsK (m + 1) b (n + 1) a = true) := HF.out.trans hfit
    clear hfit
    go_enter Tryz.func74, Tryz.ntmps74
    go_upto_region 1 with fail
    go_region_held (fun w' => w'.cell? ⟨w.heap.size, 0, none⟩ = some (.pointer (some ⟨pa, 0, none⟩)) ∧ w'.cell? ⟨w.heap.size, 1, none⟩ = some (.pointer (some ⟨pb, 0, none⟩)) ∧ w'.cell? ⟨w.heap.size, 2, none⟩ = some (.string x)) (first | with_reducible assumption | (with_reducible refine pair_alloc ?_; with_reducible assumption) | (with_reducible refine pair_set (by assumption) ?_; first | with_reducible assumption | omega) | (with_reducible refine pair_set (pair_alloc (by assumption)) ?_; first | with_reducible assumption | omega) | (refine ⟨?_, ?_, ?_⟩ <;> go_keep)) (first
      | (go_at_call_of 70 (Value.pointer (some ⟨pa, 0, none⟩)); refine (HWa.out _ ?_).mono ?_; (first | with_reducible assumption | (with_reducible refine below_alloc ?_ _; with_reducible assumption) | (with_reducible refine below_allocD ?_ _; with_reducible assumption)); rintro e w7 ⟨rfl, rfl⟩)
      | (go_at_call_of 70 (Value.pointer (some ⟨pb, 0, none⟩)); refine (HWb.out _ ?_).mono ?_; (first | with_reducible assumption | (with_reducible refine below_alloc ?_ _; with_reducible assumption) | (with_reducible refine below_allocD ?_ _; with_reducible assumption)); rintro e w8 ⟨rfl, rfl⟩)
      | (go_at_call 98; refine (HBe.out _ ?_ ?_).mono ?_; (first | with_reducible assumption | (with_reducible refine below_alloc ?_ _; with_reducible assumption) | (with_reducible refine below_allocD ?_ _; with_reducible assumption)); (first | assumption | simp [*]); rintro e w9 ⟨rfl, hb9, hc9, hp9⟩; have hne9 := World.new_ne w9 ⟨w.heap.size, 0, none⟩ hp9.1; first | ((with_reducible (have hk9 := kept_new hc9)); obtain ⟨k91, k92, k93⟩ := id hk9) | ((with_reducible (have hk9 := kept_newD hc9)); simp at hk9; obtain ⟨k91, k92, k93⟩ := id hk9) | skip)
      | (go_at_call 38; refine (HOf.out _ ?_ ?_).mono ?_; (first | with_reducible assumption | (with_reducible refine below_alloc ?_ _; with_reducible assumption) | (with_reducible refine below_allocD ?_ _; with_reducible assumption)); (first | assumption | simp [*]); rintro e w10 ⟨⟨hb10, hc10, hp10⟩, fn, first, cap, rfl⟩; have hne10 := World.new_ne w10 ⟨w.heap.size, 0, none⟩ hp10.1; first | ((with_reducible (have hk10 := kept_new hc10)); obtain ⟨ka1, ka2, ka3⟩ := id hk10) | ((with_reducible (have hk10 := kept_more (by assumption) hc10)); obtain ⟨ka1, ka2, ka3⟩ := id hk10) | skip))
    all_goals
      go_wp2_with fail
      go_ret2
      refine ⟨?_, .inl ⟨HF.out, _, _, _, rfl⟩⟩
      first | with_reducible exact hb10 | with_reducible exact below_alloc hb10 _ | ((with_reducible refine Below.setCell hb10 ?_ _); have h9 := hb9.size; first | exact h9 | exact Nat.le_succ _) | (with_reducible refine Below.setCell (below_alloc hb10 _) ?_ _; have := hb10.size; omega)

end Go.Proofs.YtpalkdcgbbbmeaaGreatDoor
