/-
 Several texts in one, in their order.
-/
import Derived.Test.YtpalkdcgbbbmeaaGreatDoorKV3
import Derived.Test.YtpalkdcgbbbmeaaGreatDoorB21
import Derived.Deep.RegionHeld
import Derived.Test.YtpalkdcgbbbmeaaGreatDoorB19
import Derived.Deep.RegionLaw
import Derived.BigQuiet

/-
 The program's widenings: how the making of one ends, with what the function value that is made does.
-/
namespace Go.Proofs.YtpalkdcgbbbmeaaGreatDoor
open Go.RowKit

def EndV (m : Nat) (r : Bool) (R : (Nat → Prop) → World → Value → T m → Prop) (S : Nat → Prop) (w : World) (e : Ending) (w' : World) : Prop :=
 (r = true ∧ ∃ fn first cap, e = .returned (.tuple #[.func fn first cap, .nilIface]) ∧ Fv (fun b => S b ∨ (w.heap.size ≤ b ∧ b < w'.heap.size)) m w' (.func fn first cap) R) ∨
 (r = false ∧ ∃ y : ByteArray, e = .returned (.tuple #[.nilFunc, .iface 132 (.agg #[.string y])]))

theorem EndV.wide {m : Nat} {r : Bool} {R : (Nat → Prop) → World → Value → T m → Prop} {S : Nat → Prop} {w W : World} {e : Ending} {w' : World} (h : EndV m r R S W e w') (hz : w.heap.size ≤ W.heap.size) : EndV m r R S w e w' := by
 rcases h with ⟨h, fn, first, cap, rfl, hF⟩ | h
 · exact .inl ⟨h, fn, first, cap, rfl, hF.keep (fun _ _ => rfl) (fun b hb => hb.elim .inl (fun h => .inr ⟨by omega, h.2⟩))⟩
 · exact .inr h

def FitSaidV (m : Nat) : Prop := ∀ (S : Nat → Prop) (n : Nat) (a : K n) (b : K m) (va vb : Value) (d d' : Int) (R : Nat) (x : ByteArray) (w : World), InnerK S w n a va → InnerK S w m b vb → (∀ b, S b → b < w.heap.size) → TabW w R → R < w.heap.size →
 goodK n a d = true → goodK m b d' = true → cntK m b ≤ 40 → 1 ≤ d' → (x.size : Int) ≤ 20 * d' →
 Calls Tryz.prog 38 #[.pointer (some ⟨R, 0, none⟩), .agg #[va, vb, .string x]] w fun e w' => Below w.heap.size w w' ∧ EndV m (fitsK m b n a) (WidR m b n a) S w e w'

set_option maxRecDepth 20000 in
set_option maxHeartbeats 400000 in
theorem ofLeaves_v (R : Nat) (va vb : Value) (x : ByteArray) (w : World) (ha : ∃ p, va = .pointer p) (hb : ∃ p, vb = .pointer p) :
  Calls Tryz.prog 73 #[.pointer (some ⟨R, 0, none⟩), .agg #[va, vb, .string x]] w fun e w' => e = .returned (.tuple #[.func (.func 97) #[] #[], .nilIface]) ∧ Below w.heap.size w w' := by
 obtain ⟨pa, rfl⟩ := ha
 obtain ⟨pb, rfl⟩ := hb
 go_enter Tryz.func73, Tryz.ntmps73
 go_wp2_with fail
 go_ret2
 exact ⟨rfl, (Below.refl _ _).alloc (Nat.le_refl _) _⟩

theorem cell_set {w : World} {g : Nat} {u v : Value} (h : w.cell? ⟨g, 0, none⟩ = some u) : (w.setCell ⟨g, 0, none⟩ v).cell? ⟨g, 0, none⟩ = some v := by
 simp [go_sem, h]

theorem fin_set {S : Nat → Prop} {m : Nat} {R : (Nat → Prop) → World → Value → T m → Prop} {w W w10 : World} {g : Nat} {kv : Value} (hb : Below w.heap.size w w10) (hS : ∀ b, S b → b < w.heap.size) (hk : NewF w10 g) (hF : Fv (fun b => S b ∨ (W.heap.size ≤ b ∧ b < w10.heap.size)) m w10 kv R) (hw : w.heap.size ≤ g) (hg : g < W.heap.size) :
  Below w.heap.size w (w10.setCell ⟨g, 0, none⟩ kv) ∧ Fv (fun b => S b ∨ (w.heap.size ≤ b ∧ b < (w10.setCell ⟨g, 0, none⟩ kv).heap.size)) m (w10.setCell ⟨g, 0, none⟩ kv) kv R ∧ (w10.setCell ⟨g, 0, none⟩ kv).cell? ⟨g, 0, none⟩ = some kv ∧ (w.heap.size ≤ g ∧ g < (w10.setCell ⟨g, 0, none⟩ kv).heap.size) := by
 have hz : (w10.setCell ⟨g, 0, none⟩ kv).heap.size = w10.heap.size := by simp
 refine ⟨hb.setCell hw _, hF.keep (fun b hb => ?_) (fun b hb => ?_), ?_, hw, by rw [hz]; exact hk.2.2⟩
 ·
  refine Below.heap_setCell _ _ _ _ ?_
  rcases hb with hb | hb
  · have := hS b hb; show b ≠ g; omega
  · show b ≠ g; omega
 ·
  rcases hb with hb | hb
  · exact .inl hb
  · exact .inr ⟨by omega, by rw [hz]; exact hb.2⟩
 · exact cell_set hk.1

theorem fin_alloc {S : Nat → Prop} {m : Nat} {R : (Nat → Prop) → World → Value → T m → Prop} {w W w10 : World} {t : TypeId} {kv : Value} (hb : Below w.heap.size w w10) (hS : ∀ b, S b → b < w.heap.size) (hF : Fv (fun b => S b ∨ (W.heap.size ≤ b ∧ b < w10.heap.size)) m w10 kv R) (hW : w.heap.size ≤ W.heap.size) :
  Below w.heap.size w (w10.alloc (.cells #[kv] t)) ∧ Fv (fun b => S b ∨ (w.heap.size ≤ b ∧ b < (w10.alloc (.cells #[kv] t)).heap.size)) m (w10.alloc (.cells #[kv] t)) kv R ∧
   (w10.alloc (.cells #[kv] t)).cell? ⟨w10.heap.size, 0, none⟩ = some kv ∧ (w.heap.size ≤ w10.heap.size ∧ w10.heap.size < (w10.alloc (.cells #[kv] t)).heap.size) := by
 have hz : (w10.alloc (.cells #[kv] t)).heap.size = w10.heap.size + 1 := by simp
 have hs := hb.size
 refine ⟨below_alloc hb _, hF.keep (fun b hb => ?_) (fun b hb => ?_), by simp [go_sem], hs, by omega⟩
 ·
  have hlt : b < w10.heap.size := by
   rcases hb with hb | hb
   · have := hS b hb; omega
   · exact hb.2
  exact Below.heap_alloc _ _ _ hlt
 ·
  rcases hb with hb | hb
  · exact .inl hb
  · exact .inr ⟨by omega, by rw [hz]; omega⟩

end Go.Proofs.YtpalkdcgbbbmeaaGreatDoor

/-
 The program's widenings: what ofLists makes.
-/
namespace Go.Proofs.YtpalkdcgbbbmeaaGreatDoor
open Go.RowKit

set_option maxRecDepth 20000 in
set_option maxHeartbeats 4000000 in
theorem ofLists_v (m n : Nat) (hm : FitSaidV m) (S : Nat → Prop) (a : K (n + 1)) (b : K (m + 1)) (va vb : Value) (d d' : Int) (R : Nat) (x : ByteArray) (w : World) (ha : InnerK S w (n + 1) a va) (hb : InnerK S w (m + 1) b vb) (hB : ∀ b, S b → b < w.heap.size) (hT : TabW w R) (hR : R < w.heap.size)
  (hga : goodK (n + 1) a d = true) (hgb : goodK (m + 1) b d' = true) (hc40 : cntK (m + 1) b ≤ 40) (hd : 1 ≤ d') (hx : (x.size : Int) ≤ 20 * d') (sa : Kd.sort a = 4) (sb : Kd.sort b = 4) :
  Calls Tryz.prog 74 #[.pointer (some ⟨R, 0, none⟩), .agg #[va, vb, .string x]] w fun e w' => Below w.heap.size w w' ∧ EndV (m + 1) (fitsK (m + 1) b (n + 1) a) (WidR (m + 1) b (n + 1) a) S w e w' := by
 have hd6 : d' ≤ 6 := by simp only [goodK, Bool.and_eq_true, decide_eq_true_eq] at hgb; exact hgb.1.1
 have hs2 : (⟨#[91, 93]⟩ : ByteArray).size = 2 := rfl
 have hgka : ∀ k, k ∈ Kd.kids a → goodK n k (d + 1) = true := by simp only [goodK, Bool.and_eq_true] at hga; exact List.all_eq_true.1 hga.2
 have hgkb : ∀ k, k ∈ Kd.kids b → goodK m k (d' + 1) = true := by simp only [goodK, Bool.and_eq_true] at hgb; exact List.all_eq_true.1 hgb.2
 obtain ⟨ka, hka⟩ : ∃ ka, Kd.kids a = [ka] := by
  rcases goodK_kids hga with ⟨h, -⟩ | ⟨-, -, h⟩ | ⟨h, -⟩
  · omega
  · exact h
  · omega
 obtain ⟨kb, hkb⟩ : ∃ kb, Kd.kids b = [kb] := by
  rcases goodK_kids hgb with ⟨h, -⟩ | ⟨-, -, h⟩ | ⟨h, -⟩
  · omega
  · exact h
  · omega
 have HF : Hid (fitsK (m + 1) b (n + 1) a = fitsK m kb n ka) := fitsK_ll sb sa hkb hka
 have hgA := hgka ka (by rw [hka]; exact List.mem_cons_self ..)
 have hgB := hgkb kb (by rw [hkb]; exact List.mem_cons_self ..)
 have hcB := cnt_kid hc40 (by rw [hkb]; exact List.mem_cons_self .. : kb ∈ Kd.kids b)
 obtain ⟨pa, nva, pva, kva, rfl, hSa, hca, -, -, hra⟩ := ha
 rw [hka] at hra
 obtain ⟨aoa, capa, rfl, -, hra⟩ := hra
 obtain ⟨ga, oa, rfl, hSga, hra⟩ := hra (by simp)
 obtain ⟨ca, ea, hia⟩ := hra 0 (by simp)
 simp only [List.getElem_cons_zero] at hia
 obtain ⟨qa, rfl, -⟩ := id hia.ptr
 have hla := hB pa hSa
 have hlga := hB ga hSga
 obtain ⟨pb, nvb, pvb, kvb, rfl, hSb, hcb, -, -, hrb⟩ := hb
 rw [hkb] at hrb
 obtain ⟨aob, capb, rfl, -, hrb⟩ := hrb
 obtain ⟨gb, ob, rfl, hSgb, hrb⟩ := hrb (by simp)
 obtain ⟨cb, eb, hib⟩ := hrb 0 (by simp)
 simp only [List.getElem_cons_zero] at hib
 obtain ⟨qb, rfl, -⟩ := id hib.ptr
 have hlb := hB pb hSb
 have hlgb := hB gb hSgb
 have HWa : Hid (∀ W, Below w.heap.size w W → Calls Tryz.prog 70 #[.pointer (some ⟨pa, 0, none⟩)] W fun e w' => e = .returned (.pointer (some ⟨qa, 0, none⟩)) ∧ w' = W) := fun W hW =>
  within_any W pa ga oa 0 capa qa ((hW.cell (p := ⟨pa, 3, none⟩) hla).trans (by simp [World.cell?, hca])) ((hW.cell (p := ⟨ga, oa, none⟩) hlga).trans (by simpa using ea)) (by omega)
 have HWb : Hid (∀ W, Below w.heap.size w W → Calls Tryz.prog 70 #[.pointer (some ⟨pb, 0, none⟩)] W fun e w' => e = .returned (.pointer (some ⟨qb, 0, none⟩)) ∧ w' = W) := fun W hW =>
  within_any W pb gb ob 0 capb qb ((hW.cell (p := ⟨pb, 3, none⟩) hlb).trans (by simp [World.cell?, hcb])) ((hW.cell (p := ⟨gb, ob, none⟩) hlgb).trans (by simpa using eb)) (by omega)
 have HBe : Hid (∀ W, Below w.heap.size w W → (W.cell? ⟨w.heap.size, 0, none⟩ = some (.pointer (some ⟨pa, 0, none⟩)) ∧ W.cell? ⟨w.heap.size, 1, none⟩ = some (.pointer (some ⟨pb, 0, none⟩)) ∧ W.cell? ⟨w.heap.size, 2, none⟩ = some (.string x)) → Calls Tryz.prog 98 #[.agg #[.pointer (some ⟨pa, 0, none⟩), .pointer (some ⟨pb, 0, none⟩), .string x], .string ⟨#[91, 93]⟩, .pointer (some ⟨qa, 0, none⟩), .pointer (some ⟨qb, 0, none⟩)] W fun e w' => e = .returned (.agg #[.pointer (some ⟨qa, 0, none⟩), .pointer (some ⟨qb, 0, none⟩), .string (pathTo x ⟨#[91, 93]⟩)]) ∧ Below w.heap.size w w' ∧ Below W.heap.size W w' ∧ (w'.cell? ⟨w.heap.size, 0, none⟩ = some (.pointer (some ⟨pa, 0, none⟩)) ∧ w'.cell? ⟨w.heap.size, 1, none⟩ = some (.pointer (some ⟨pb, 0, none⟩)) ∧ w'.cell? ⟨w.heap.size, 2, none⟩ = some (.string x))) := fun W hW hP =>
  (below_any x _ _ _ _ _ W (by omega)).mono fun e w' h => ⟨h.1, below_step hW hW.size h.2, h.2, pair_kept hP h.2⟩
 have HOf : Hid (∀ W, Below w.heap.size w W → Calls Tryz.prog 38 #[.pointer (some ⟨R, 0, none⟩), .agg #[.pointer (some ⟨qa, 0, none⟩), .pointer (some ⟨qb, 0, none⟩), .string (pathTo x ⟨#[91, 93]⟩)]] W fun e w' => (Below w.heap.size w w' ∧ Below W.heap.size W w') ∧ EndV m (fitsK m kb n ka) (WidR m kb n ka) S W e w') := fun W hW =>
  (hm S n ka kb _ _ (d + 1) (d' + 1) R _ W (hia.keep (same_below hW hB) (fun _ h => h)) (hib.keep (same_below hW hB) (fun _ h => h)) (fun b hb => Nat.lt_of_lt_of_le (hB b hb) hW.size) (hT.keep (hW.block R hR)) (Nat.lt_of_lt_of_le hR hW.size) hgA hgB hcB (by omega) (by rw [pathTo_size]; omega)).mono fun e w' h => ⟨⟨below_step hW hW.size h.1, h.1⟩, h.2⟩
 generalize pathTo x ⟨#[91, 93]⟩ = y at *
 have hst : ∀ (a : Addr) (md : Mode) (fn : Fn) (first cap : Array Value) (w : World), (store a (.func fn first cap) md).run Tryz.prog w = stored Tryz.prog w a (.func fn first cap) md := fun a md _ _ _ w => run_store _ w a _ md rfl
 have hstN : ∀ (a : Addr) (md : Mode) (w : World), (store a .nilFunc md).run Tryz.prog w = stored Tryz.prog w a .nilFunc md := fun a md w => run_store _ w a _ md rfl
 have hmf : ∀ (fn : Fn) (first cap : Array Value) (w : World), (Instr.makeFunc fn first cap).run Tryz.prog w = .ok (.func fn first cap) w := fun _ _ _ _ => rfl
 have hbA : Below w.heap.size w (w.alloc (.cells #[.pointer (some ⟨pa, 0, none⟩), .pointer (some ⟨pb, 0, none⟩), .string x] 67)).drew := ((Below.refl _ _).alloc (Nat.le_refl _) _).drew
 have HKB : Hid (Kd.kids b = [kb] ∧ Kd.kids a = [ka]) := ⟨hkb, hka⟩
 clear hm hT hga hgb hgkb hkb hgB hrb hib eb hcb hgka hka hgA hra hia ea hca
 cases hfit : fitsK m kb n ka
 ·
  have HOf : Hid (∀ W, Below w.heap.size w W → (W.cell? ⟨w.heap.size, 0, none⟩ = some (.pointer (some ⟨pa, 0, none⟩)) ∧ W.cell? ⟨w.heap.size, 1, none⟩ = some (.pointer (some ⟨pb, 0, none⟩)) ∧ W.cell? ⟨w.heap.size, 2, none⟩ = some (.string x)) → Calls Tryz.prog 38 #[.pointer (some ⟨R, 0, none⟩), .agg #[.pointer (some ⟨qa, 0, none⟩), .pointer (some ⟨qb, 0, none⟩), .string y]] W fun e w' => (Below w.heap.size w w' ∧ Below W.heap.size W w' ∧ (w'.cell? ⟨w.heap.size, 0, none⟩ = some (.pointer (some ⟨pa, 0, none⟩)) ∧ w'.cell? ⟨w.heap.size, 1, none⟩ = some (.pointer (some ⟨pb, 0, none⟩)) ∧ w'.cell? ⟨w.heap.size, 2, none⟩ = some (.string x))) ∧ ∃ z : ByteArray, e = .returned (.tuple #[.nilFunc, .iface 132 (.agg #[.string z])])) := fun W hW hP => (HOf.out W hW).mono fun e w' h => ⟨⟨h.1.1, h.1.2, pair_kept hP h.1.2⟩, h.2.elim (fun h => by rw [hfit] at h; exact absurd h.1 (by simp)) (fun h => h.2)⟩
  have HF : Hid (fitsK (m + 1) b (n + 1) a = false) := HF.out.trans hfit
  clear hfit
  go_enter Tryz.func74, Tryz.ntmps74
  go_upto_region 1 with fail
  go_region_held (fun w' => w'.cell? ⟨w.heap.size, 0, none⟩ = some (.pointer (some ⟨pa, 0, none⟩)) ∧ w'.cell? ⟨w.heap.size, 1, none⟩ = some (.pointer (some ⟨pb, 0, none⟩)) ∧ w'.cell? ⟨w.heap.size, 2, none⟩ = some (.string x)) (first | with_reducible assumption | (with_reducible refine pair_alloc ?_; with_reducible assumption) | (with_reducible refine pair_set (by assumption) ?_; first | with_reducible assumption | omega) | (with_reducible refine pair_set (pair_alloc (by assumption)) ?_; first | with_reducible assumption | omega) | (refine ⟨?_, ?_, ?_⟩ <;> go_keep)) (first
   | (go_at_call_of 70 (Value.pointer (some ⟨pa, 0, none⟩)); refine (HWa.out _ ?_).mono ?_; (first | with_reducible assumption | (with_reducible refine below_alloc ?_ _; with_reducible assumption) | (with_reducible refine below_allocD ?_ _; with_reducible assumption)); rintro e w7 ⟨rfl, rfl⟩)
   | (go_at_call_of 70 (Value.pointer (some ⟨pb, 0, none⟩)); refine (HWb.out _ ?_).mono ?_; (first | with_reducible assumption | (with_reducible refine below_alloc ?_ _; with_reducible assumption) | (with_reducible refine below_allocD ?_ _; with_reducible assumption)); rintro e w8 ⟨rfl, rfl⟩)
   | (go_at_call 98; refine (HBe.out _ ?_ ?_).mono ?_; (first | with_reducible assumption | (with_reducible refine below_alloc ?_ _; with_reducible assumption) | (with_reducible refine below_allocD ?_ _; with_reducible assumption)); (first | assumption | simp [*]); rintro e w9 ⟨rfl, hb9, hc9, hp9⟩; have hne9 := World.new_ne w9 ⟨w.heap.size, 0, none⟩ hp9.1; first | ((with_reducible (have hk9 := kept_new hc9)); obtain ⟨k91, k92, k93⟩ := id hk9) | ((with_reducible (have hk9 := kept_newD hc9)); simp at hk9; obtain ⟨k91, k92, k93⟩ := id hk9) | skip)
   | (go_at_call 38; refine (HOf.out _ ?_ ?_).mono ?_; (first | with_reducible assumption | (with_reducible refine below_alloc ?_ _; with_reducible assumption) | (with_reducible refine below_allocD ?_ _; with_reducible assumption)); (first | assumption | simp [*]); rintro e w10 ⟨⟨hb10, hc10, hp10⟩, z, rfl⟩; have hne10 := World.new_ne w10 ⟨w.heap.size, 0, none⟩ hp10.1; first | ((with_reducible (have hk10 := kept_new hc10)); obtain ⟨ka1, ka2, ka3⟩ := id hk10) | ((with_reducible (have hk10 := kept_more (by assumption) hc10)); obtain ⟨ka1, ka2, ka3⟩ := id hk10) | skip))
  all_goals
   go_wp2_with fail
   go_ret2
   refine ⟨?_, .inr ⟨HF.out, _, rfl⟩⟩
   first | with_reducible exact hb10 | with_reducible exact below_alloc hb10 _ | ((with_reducible refine Below.setCell hb10 ?_ _); have h9 := hb9.size; first | exact h9 | exact Nat.le_succ _) | (with_reducible refine Below.setCell (below_alloc hb10 _) ?_ _; have := hb10.size; omega)
 ·
  have HOf : Hid (∀ W, Below w.heap.size w W → (W.cell? ⟨w.heap.size, 0, none⟩ = some (.pointer (some ⟨pa, 0, none⟩)) ∧ W.cell? ⟨w.heap.size, 1, none⟩ = some (.pointer (some ⟨pb, 0, none⟩)) ∧ W.cell? ⟨w.heap.size, 2, none⟩ = some (.string x)) → Calls Tryz.prog 38 #[.pointer (some ⟨R, 0, none⟩), .agg #[.pointer (some ⟨qa, 0, none⟩), .pointer (some ⟨qb, 0, none⟩), .string y]] W fun e w' => (Below w.heap.size w w' ∧ Below W.heap.size W w' ∧ (w'.cell? ⟨w.heap.size, 0, none⟩ = some (.pointer (some ⟨pa, 0, none⟩)) ∧ w'.cell? ⟨w.heap.size, 1, none⟩ = some (.pointer (some ⟨pb, 0, none⟩)) ∧ w'.cell? ⟨w.heap.size, 2, none⟩ = some (.string x))) ∧ ∃ fn first cap, e = .returned (.tuple #[.func fn first cap, .nilIface]) ∧ Hid (Fv (fun b => S b ∨ (W.heap.size ≤ b ∧ b < w'.heap.size)) m w' (.func fn first cap) (WidR m kb n ka))) := fun W hW hP => (HOf.out W hW).mono fun e w' h => ⟨⟨h.1.1, h.1.2, pair_kept hP h.1.2⟩, h.2.elim (fun h => h.2) (fun h => by rw [hfit] at h; exact absurd h.1 (by simp))⟩
  have HF : Hid (fitsK (m + 1) b (n + 1) a = true) := HF.out.trans hfit
  clear hfit
  go_enter Tryz.func74, Tryz.ntmps74
  go_upto_region 1 with fail
  go_region_held (fun w' => w'.cell? ⟨w.heap.size, 0, none⟩ = some (.pointer (some ⟨pa, 0, none⟩)) ∧ w'.cell? ⟨w.heap.size, 1, none⟩ = some (.pointer (some ⟨pb, 0, none⟩)) ∧ w'.cell? ⟨w.heap.size, 2, none⟩ = some (.string x)) (first | with_reducible assumption | (with_reducible refine pair_alloc ?_; with_reducible assumption) | (with_reducible refine pair_set (by assumption) ?_; first | with_reducible assumption | omega) | (with_reducible refine pair_set (pair_alloc (by assumption)) ?_; first | with_reducible assumption | omega) | (refine ⟨?_, ?_, ?_⟩ <;> go_keep)) (first
   | (go_at_call_of 70 (Value.pointer (some ⟨pa, 0, none⟩)); refine (HWa.out _ ?_).mono ?_; (first | with_reducible assumption | (with_reducible refine below_alloc ?_ _; with_reducible assumption) | (with_reducible refine below_allocD ?_ _; with_reducible assumption)); rintro e w7 ⟨rfl, rfl⟩)
   | (go_at_call_of 70 (Value.pointer (some ⟨pb, 0, none⟩)); refine (HWb.out _ ?_).mono ?_; (first | with_reducible assumption | (with_reducible refine below_alloc ?_ _; with_reducible assumption) | (with_reducible refine below_allocD ?_ _; with_reducible assumption)); rintro e w8 ⟨rfl, rfl⟩)
   | (go_at_call 98; refine (HBe.out _ ?_ ?_).mono ?_; (first | with_reducible assumption | (with_reducible refine below_alloc ?_ _; with_reducible assumption) | (with_reducible refine below_allocD ?_ _; with_reducible assumption)); (first | assumption | simp [*]); rintro e w9 ⟨rfl, hb9, hc9, hp9⟩; have hne9 := World.new_ne w9 ⟨w.heap.size, 0, none⟩ hp9.1; first | ((with_reducible (have hk9 := kept_new hc9)); obtain ⟨k91, k92, k93⟩ := id hk9) | ((with_reducible (have hk9 := kept_newD hc9)); simp at hk9; obtain ⟨k91, k92, k93⟩ := id hk9) | skip)
   | (go_at_call 38; refine (HOf.out _ ?_ ?_).mono ?_; (first | with_reducible assumption | (with_reducible refine below_alloc ?_ _; with_reducible assumption) | (with_reducible refine below_allocD ?_ _; with_reducible assumption)); (first | assumption | simp [*]); rintro e w10 ⟨⟨hb10, hc10, hp10⟩, fn, first, cap, rfl, hF10⟩; have hne10 := World.new_ne w10 ⟨w.heap.size, 0, none⟩ hp10.1; first | ((with_reducible (have hk10 := kept_new hc10)); obtain ⟨ka1, ka2, ka3⟩ := id hk10) | ((with_reducible (have hk10 := kept_more (by assumption) hc10)); obtain ⟨ka1, ka2, ka3⟩ := id hk10) | skip))
  all_goals
   go_wp2_with fail
   go_ret2
   first
    | (have hX := fin_alloc (t := 76) hb10 hB hF10.out (by have := hb9.size; omega); exact ⟨hX.1, .inl ⟨HF.out, .func 99, #[], #[.pointer (some ⟨w10.heap.size, 0, none⟩)], rfl, fv_list _ m n _ b a kb ka _ _ hX.2.1 hX.2.2.1 (.inr hX.2.2.2) sb sa HKB.out.1 HKB.out.2⟩⟩)
    | (have hX := fin_set (g := w9.heap.size) (W := w9.alloc (.cells #[.nilFunc] 76)) hb10 hB hk10 hF10.out (by have := hb9.size; omega) (by simp); exact ⟨hX.1, .inl ⟨HF.out, .func 99, #[], #[.pointer (some ⟨w9.heap.size, 0, none⟩)], rfl, fv_list _ m n _ b a kb ka _ _ hX.2.1 hX.2.2.1 (.inr hX.2.2.2) sb sa HKB.out.1 HKB.out.2⟩⟩)
    | (have hX := fin_set (g := w.heap.size + 1) hb10 hB hk10 hF10.out (by omega) k93; exact ⟨hX.1, .inl ⟨HF.out, .func 99, #[], #[.pointer (some ⟨w.heap.size + 1, 0, none⟩)], rfl, fv_list _ m n _ b a kb ka _ _ hX.2.1 hX.2.2.1 (.inr hX.2.2.2) sb sa HKB.out.1 HKB.out.2⟩⟩)

end Go.Proofs.YtpalkdcgbbbmeaaGreatDoor

/-
 The program's widenings: what ofMaybes makes.
-/
namespace Go.Proofs.YtpalkdcgbbbmeaaGreatDoor
open Go.RowKit

set_option maxRecDepth 20000 in
set_option maxHeartbeats 4000000 in
theorem ofMaybes_v (m n : Nat) (hm : FitSaidV m) (S : Nat → Prop) (a : K (n + 1)) (b : K (m + 1)) (va vb : Value) (d d' : Int) (R : Nat) (x : ByteArray) (w : World) (ha : InnerK S w (n + 1) a va) (hb : InnerK S w (m + 1) b vb) (hB : ∀ b, S b → b < w.heap.size) (hT : TabW w R) (hR : R < w.heap.size)
  (hga : goodK (n + 1) a d = true) (hgb : goodK (m + 1) b d' = true) (hc40 : cntK (m + 1) b ≤ 40) (hd : 1 ≤ d') (hx : (x.size : Int) ≤ 20 * d') (sa : Kd.sort a = 6) (sb : Kd.sort b = 6) :
  Calls Tryz.prog 77 #[.pointer (some ⟨R, 0, none⟩), .agg #[va, vb, .string x]] w fun e w' => Below w.heap.size w w' ∧ EndV (m + 1) (fitsK (m + 1) b (n + 1) a) (WidR (m + 1) b (n + 1) a) S w e w' := by
 have hd6 : d' ≤ 6 := by simp only [goodK, Bool.and_eq_true, decide_eq_true_eq] at hgb; exact hgb.1.1
 have hs2 : (⟨#[63]⟩ : ByteArray).size = 1 := rfl
 have hgka : ∀ k, k ∈ Kd.kids a → goodK n k (d + 1) = true := by simp only [goodK, Bool.and_eq_true] at hga; exact List.all_eq_true.1 hga.2
 have hgkb : ∀ k, k ∈ Kd.kids b → goodK m k (d' + 1) = true := by simp only [goodK, Bool.and_eq_true] at hgb; exact List.all_eq_true.1 hgb.2
 obtain ⟨ka, hka⟩ : ∃ ka, Kd.kids a = [ka] := by
  rcases goodK_kids hga with ⟨h, -⟩ | ⟨-, -, h⟩ | ⟨h, -⟩
  · omega
  · exact h
  · omega
 obtain ⟨kb, hkb⟩ : ∃ kb, Kd.kids b = [kb] := by
  rcases goodK_kids hgb with ⟨h, -⟩ | ⟨-, -, h⟩ | ⟨h, -⟩
  · omega
  · exact h
  · omega
 have HF : Hid (fitsK (m + 1) b (n + 1) a = fitsK m kb n ka) := fitsK_mm sb sa hkb hka
 have hgA := hgka ka (by rw [hka]; exact List.mem_cons_self ..)
 have hgB := hgkb kb (by rw [hkb]; exact List.mem_cons_self ..)
 have hcB := cnt_kid hc40 (by rw [hkb]; exact List.mem_cons_self .. : kb ∈ Kd.kids b)
 obtain ⟨pa, nva, pva, kva, rfl, hSa, hca, -, -, hra⟩ := ha
 rw [hka] at hra
 obtain ⟨aoa, capa, rfl, -, hra⟩ := hra
 obtain ⟨ga, oa, rfl, hSga, hra⟩ := hra (by simp)
 obtain ⟨ca, ea, hia⟩ := hra 0 (by simp)
 simp only [List.getElem_cons_zero] at hia
 obtain ⟨qa, rfl, -⟩ := id hia.ptr
 have hla := hB pa hSa
 have hlga := hB ga hSga
 obtain ⟨pb, nvb, pvb, kvb, rfl, hSb, hcb, -, -, hrb⟩ := hb
 rw [hkb] at hrb
 obtain ⟨aob, capb, rfl, -, hrb⟩ := hrb
 obtain ⟨gb, ob, rfl, hSgb, hrb⟩ := hrb (by simp)
 obtain ⟨cb, eb, hib⟩ := hrb 0 (by simp)
 simp only [List.getElem_cons_zero] at hib
 obtain ⟨qb, rfl, -⟩ := id hib.ptr
 have hlb := hB pb hSb
 have hlgb := hB gb hSgb
 have HWa : Hid (∀ W, Below w.heap.size w W → Calls Tryz.prog 70 #[.pointer (some ⟨pa, 0, none⟩)] W fun e w' => e = .returned (.pointer (some ⟨qa, 0, none⟩)) ∧ w' = W) := fun W hW =>
  within_any W pa ga oa 0 capa qa ((hW.cell (p := ⟨pa, 3, none⟩) hla).trans (by simp [World.cell?, hca])) ((hW.cell (p := ⟨ga, oa, none⟩) hlga).trans (by simpa using ea)) (by omega)
 have HWb : Hid (∀ W, Below w.heap.size w W → Calls Tryz.prog 70 #[.pointer (some ⟨pb, 0, none⟩)] W fun e w' => e = .returned (.pointer (some ⟨qb, 0, none⟩)) ∧ w' = W) := fun W hW =>
  within_any W pb gb ob 0 capb qb ((hW.cell (p := ⟨pb, 3, none⟩) hlb).trans (by simp [World.cell?, hcb])) ((hW.cell (p := ⟨gb, ob, none⟩) hlgb).trans (by simpa using eb)) (by omega)
 have HBe : Hid (∀ W, Below w.heap.size w W → (W.cell? ⟨w.heap.size, 0, none⟩ = some (.pointer (some ⟨pa, 0, none⟩)) ∧ W.cell? ⟨w.heap.size, 1, none⟩ = some (.pointer (some ⟨pb, 0, none⟩)) ∧ W.cell? ⟨w.heap.size, 2, none⟩ = some (.string x)) → Calls Tryz.prog 98 #[.agg #[.pointer (some ⟨pa, 0, none⟩), .pointer (some ⟨pb, 0, none⟩), .string x], .string ⟨#[63]⟩, .pointer (some ⟨qa, 0, none⟩), .pointer (some ⟨qb, 0, none⟩)] W fun e w' => e = .returned (.agg #[.pointer (some ⟨qa, 0, none⟩), .pointer (some ⟨qb, 0, none⟩), .string (pathTo x ⟨#[63]⟩)]) ∧ Below w.heap.size w w' ∧ Below W.heap.size W w' ∧ (w'.cell? ⟨w.heap.size, 0, none⟩ = some (.pointer (some ⟨pa, 0, none⟩)) ∧ w'.cell? ⟨w.heap.size, 1, none⟩ = some (.pointer (some ⟨pb, 0, none⟩)) ∧ w'.cell? ⟨w.heap.size, 2, none⟩ = some (.string x))) := fun W hW hP =>
  (below_any x _ _ _ _ _ W (by omega)).mono fun e w' h => ⟨h.1, below_step hW hW.size h.2, h.2, pair_kept hP h.2⟩
 have HOf : Hid (∀ W, Below w.heap.size w W → Calls Tryz.prog 38 #[.pointer (some ⟨R, 0, none⟩), .agg #[.pointer (some ⟨qa, 0, none⟩), .pointer (some ⟨qb, 0, none⟩), .string (pathTo x ⟨#[63]⟩)]] W fun e w' => (Below w.heap.size w w' ∧ Below W.heap.size W w') ∧ EndV m (fitsK m kb n ka) (WidR m kb n ka) S W e w') := fun W hW =>
  (hm S n ka kb _ _ (d + 1) (d' + 1) R _ W (hia.keep (same_below hW hB) (fun _ h => h)) (hib.keep (same_below hW hB) (fun _ h => h)) (fun b hb => Nat.lt_of_lt_of_le (hB b hb) hW.size) (hT.keep (hW.block R hR)) (Nat.lt_of_lt_of_le hR hW.size) hgA hgB hcB (by omega) (by rw [pathTo_size]; omega)).mono fun e w' h => ⟨⟨below_step hW hW.size h.1, h.1⟩, h.2⟩
 generalize pathTo x ⟨#[63]⟩ = y at *
 have hst : ∀ (a : Addr) (md : Mode) (fn : Fn) (first cap : Array Value) (w : World), (store a (.func fn first cap) md).run Tryz.prog w = stored Tryz.prog w a (.func fn first cap) md := fun a md _ _ _ w => run_store _ w a _ md rfl
 have hstN : ∀ (a : Addr) (md : Mode) (w : World), (store a .nilFunc md).run Tryz.prog w = stored Tryz.prog w a .nilFunc md := fun a md w => run_store _ w a _ md rfl
 have hmf : ∀ (fn : Fn) (first cap : Array Value) (w : World), (Instr.makeFunc fn first cap).run Tryz.prog w = .ok (.func fn first cap) w := fun _ _ _ _ => rfl
 have hbA : Below w.heap.size w (w.alloc (.cells #[.pointer (some ⟨pa, 0, none⟩), .pointer (some ⟨pb, 0, none⟩), .string x] 67)).drew := ((Below.refl _ _).alloc (Nat.le_refl _) _).drew
 have HKB : Hid (Kd.kids b = [kb] ∧ Kd.kids a = [ka]) := ⟨hkb, hka⟩
 clear hm hT hga hgb hgkb hkb hgB hrb hib eb hcb hgka hka hgA hra hia ea hca
 cases hfit : fitsK m kb n ka
 ·
  have HOf : Hid (∀ W, Below w.heap.size w W → (W.cell? ⟨w.heap.size, 0, none⟩ = some (.pointer (some ⟨pa, 0, none⟩)) ∧ W.cell? ⟨w.heap.size, 1, none⟩ = some (.pointer (some ⟨pb, 0, none⟩)) ∧ W.cell? ⟨w.heap.size, 2, none⟩ = some (.string x)) → Calls Tryz.prog 38 #[.pointer (some ⟨R, 0, none⟩), .agg #[.pointer (some ⟨qa, 0, none⟩), .pointer (some ⟨qb, 0, none⟩), .string y]] W fun e w' => (Below w.heap.size w w' ∧ Below W.heap.size W w' ∧ (w'.cell? ⟨w.heap.size, 0, none⟩ = some (.pointer (some ⟨pa, 0, none⟩)) ∧ w'.cell? ⟨w.heap.size, 1, none⟩ = some (.pointer (some ⟨pb, 0, none⟩)) ∧ w'.cell? ⟨w.heap.size, 2, none⟩ = some (.string x))) ∧ ∃ z : ByteArray, e = .returned (.tuple #[.nilFunc, .iface 132 (.agg #[.string z])])) := fun W hW hP => (HOf.out W hW).mono fun e w' h => ⟨⟨h.1.1, h.1.2, pair_kept hP h.1.2⟩, h.2.elim (fun h => by rw [hfit] at h; exact absurd h.1 (by simp)) (fun h => h.2)⟩
  have HF : Hid (fitsK (m + 1) b (n + 1) a = false) := HF.out.trans hfit
  clear hfit
  go_enter Tryz.func77, Tryz.ntmps77
  go_upto_region 1 with fail
  go_region_held (fun w' => w'.cell? ⟨w.heap.size, 0, none⟩ = some (.pointer (some ⟨pa, 0, none⟩)) ∧ w'.cell? ⟨w.heap.size, 1, none⟩ = some (.pointer (some ⟨pb, 0, none⟩)) ∧ w'.cell? ⟨w.heap.size, 2, none⟩ = some (.string x)) (first | with_reducible assumption | (with_reducible refine pair_alloc ?_; with_reducible assumption) | (with_reducible refine pair_set (by assumption) ?_; first | with_reducible assumption | omega) | (with_reducible refine pair_set (pair_alloc (by assumption)) ?_; first | with_reducible assumption | omega) | (refine ⟨?_, ?_, ?_⟩ <;> go_keep)) (first
   | (go_at_call_of 70 (Value.pointer (some ⟨pa, 0, none⟩)); refine (HWa.out _ ?_).mono ?_; (first | with_reducible assumption | (with_reducible refine below_alloc ?_ _; with_reducible assumption) | (with_reducible refine below_allocD ?_ _; with_reducible assumption)); rintro e w7 ⟨rfl, rfl⟩)
   | (go_at_call_of 70 (Value.pointer (some ⟨pb, 0, none⟩)); refine (HWb.out _ ?_).mono ?_; (first | with_reducible assumption | (with_reducible refine below_alloc ?_ _; with_reducible assumption) | (with_reducible refine below_allocD ?_ _; with_reducible assumption)); rintro e w8 ⟨rfl, rfl⟩)
   | (go_at_call 98; refine (HBe.out _ ?_ ?_).mono ?_; (first | with_reducible assumption | (with_reducible refine below_alloc ?_ _; with_reducible assumption) | (with_reducible refine below_allocD ?_ _; with_reducible assumption)); (first | assumption | simp [*]); rintro e w9 ⟨rfl, hb9, hc9, hp9⟩; have hne9 := World.new_ne w9 ⟨w.heap.size, 0, none⟩ hp9.1; first | ((with_reducible (have hk9 := kept_new hc9)); obtain ⟨k91, k92, k93⟩ := id hk9) | ((with_reducible (have hk9 := kept_newD hc9)); simp at hk9; obtain ⟨k91, k92, k93⟩ := id hk9) | skip)
   | (go_at_call 38; refine (HOf.out _ ?_ ?_).mono ?_; (first | with_reducible assumption | (with_reducible refine below_alloc ?_ _; with_reducible assumption) | (with_reducible refine below_allocD ?_ _; with_reducible assumption)); (first | assumption | simp [*]); rintro e w10 ⟨⟨hb10, hc10, hp10⟩, z, rfl⟩; have hne10 := World.new_ne w10 ⟨w.heap.size, 0, none⟩ hp10.1; first | ((with_reducible (have hk10 := kept_new hc10)); obtain ⟨ka1, ka2, ka3⟩ := id hk10) | ((with_reducible (have hk10 := kept_more (by assumption) hc10)); obtain ⟨ka1, ka2, ka3⟩ := id hk10) | skip))
  all_goals
   go_wp2_with fail
   go_ret2
   refine ⟨?_, .inr ⟨HF.out, _, rfl⟩⟩
   first | with_reducible exact hb10 | with_reducible exact below_alloc hb10 _ | ((with_reducible refine Below.setCell hb10 ?_ _); have h9 := hb9.size; first | exact h9 | exact Nat.le_succ _) | (with_reducible refine Below.setCell (below_alloc hb10 _) ?_ _; have := hb10.size; omega)
 ·
  have HOf : Hid (∀ W, Below w.heap.size w W → (W.cell? ⟨w.heap.size, 0, none⟩ = some (.pointer (some ⟨pa, 0, none⟩)) ∧ W.cell? ⟨w.heap.size, 1, none⟩ = some (.pointer (some ⟨pb, 0, none⟩)) ∧ W.cell? ⟨w.heap.size, 2, none⟩ = some (.string x)) → Calls Tryz.prog 38 #[.pointer (some ⟨R, 0, none⟩), .agg #[.pointer (some ⟨qa, 0, none⟩), .pointer (some ⟨qb, 0, none⟩), .string y]] W fun e w' => (Below w.heap.size w w' ∧ Below W.heap.size W w' ∧ (w'.cell? ⟨w.heap.size, 0, none⟩ = some (.pointer (some ⟨pa, 0, none⟩)) ∧ w'.cell? ⟨w.heap.size, 1, none⟩ = some (.pointer (some ⟨pb, 0, none⟩)) ∧ w'.cell? ⟨w.heap.size, 2, none⟩ = some (.string x))) ∧ ∃ fn first cap, e = .returned (.tuple #[.func fn first cap, .nilIface]) ∧ Hid (Fv (fun b => S b ∨ (W.heap.size ≤ b ∧ b < w'.heap.size)) m w' (.func fn first cap) (WidR m kb n ka))) := fun W hW hP => (HOf.out W hW).mono fun e w' h => ⟨⟨h.1.1, h.1.2, pair_kept hP h.1.2⟩, h.2.elim (fun h => h.2) (fun h => by rw [hfit] at h; exact absurd h.1 (by simp))⟩
  have HF : Hid (fitsK (m + 1) b (n + 1) a = true) := HF.out.trans hfit
  clear hfit
  go_enter Tryz.func77, Tryz.ntmps77
  go_upto_region 1 with fail
  go_region_held (fun w' => w'.cell? ⟨w.heap.size, 0, none⟩ = some (.pointer (some ⟨pa, 0, none⟩)) ∧ w'.cell? ⟨w.heap.size, 1, none⟩ = some (.pointer (some ⟨pb, 0, none⟩)) ∧ w'.cell? ⟨w.heap.size, 2, none⟩ = some (.string x)) (first | with_reducible assumption | (with_reducible refine pair_alloc ?_; with_reducible assumption) | (with_reducible refine pair_set (by assumption) ?_; first | with_reducible assumption | omega) | (with_reducible refine pair_set (pair_alloc (by assumption)) ?_; first | with_reducible assumption | omega) | (refine ⟨?_, ?_, ?_⟩ <;> go_keep)) (first
   | (go_at_call_of 70 (Value.pointer (some ⟨pa, 0, none⟩)); refine (HWa.out _ ?_).mono ?_; (first | with_reducible assumption | (with_reducible refine below_alloc ?_ _; with_reducible assumption) | (with_reducible refine below_allocD ?_ _; with_reducible assumption)); rintro e w7 ⟨rfl, rfl⟩)
   | (go_at_call_of 70 (Value.pointer (some ⟨pb, 0, none⟩)); refine (HWb.out _ ?_).mono ?_; (first | with_reducible assumption | (with_reducible refine below_alloc ?_ _; with_reducible assumption) | (with_reducible refine below_allocD ?_ _; with_reducible assumption)); rintro e w8 ⟨rfl, rfl⟩)
   | (go_at_call 98; refine (HBe.out _ ?_ ?_).mono ?_; (first | with_reducible assumption | (with_reducible refine below_alloc ?_ _; with_reducible assumption) | (with_reducible refine below_allocD ?_ _; with_reducible assumption)); (first | assumption | simp [*]); rintro e w9 ⟨rfl, hb9, hc9, hp9⟩; have hne9 := World.new_ne w9 ⟨w.heap.size, 0, none⟩ hp9.1; first | ((with_reducible (have hk9 := kept_new hc9)); obtain ⟨k91, k92, k93⟩ := id hk9) | ((with_reducible (have hk9 := kept_newD hc9)); simp at hk9; obtain ⟨k91, k92, k93⟩ := id hk9) | skip)
   | (go_at_call 38; refine (HOf.out _ ?_ ?_).mono ?_; (first | with_reducible assumption | (with_reducible refine below_alloc ?_ _; with_reducible assumption) | (with_reducible refine below_allocD ?_ _; with_reducible assumption)); (first | assumption | simp [*]); rintro e w10 ⟨⟨hb10, hc10, hp10⟩, fn, first, cap, rfl, hF10⟩; have hne10 := World.new_ne w10 ⟨w.heap.size, 0, none⟩ hp10.1; first | ((with_reducible (have hk10 := kept_new hc10)); obtain ⟨ka1, ka2, ka3⟩ := id hk10) | ((with_reducible (have hk10 := kept_more (by assumption) hc10)); obtain ⟨ka1, ka2, ka3⟩ := id hk10) | skip))
  all_goals
   go_wp2_with fail
   go_ret2
   first
    | (have hX := fin_alloc (t := 76) hb10 hB hF10.out (by have := hb9.size; omega); exact ⟨hX.1, .inl ⟨HF.out, .func 105, #[], #[.pointer (some ⟨w10.heap.size, 0, none⟩)], rfl, fv_maybe _ m n _ b a kb ka _ _ hX.2.1 hX.2.2.1 (.inr hX.2.2.2) sb sa HKB.out.1 HKB.out.2⟩⟩)
    | (have hX := fin_set (g := w9.heap.size) (W := w9.alloc (.cells #[.nilFunc] 76)) hb10 hB hk10 hF10.out (by have := hb9.size; omega) (by simp); exact ⟨hX.1, .inl ⟨HF.out, .func 105, #[], #[.pointer (some ⟨w9.heap.size, 0, none⟩)], rfl, fv_maybe _ m n _ b a kb ka _ _ hX.2.1 hX.2.2.1 (.inr hX.2.2.2) sb sa HKB.out.1 HKB.out.2⟩⟩)
    | (have hX := fin_set (g := w.heap.size + 1) hb10 hB hk10 hF10.out (by omega) k93; exact ⟨hX.1, .inl ⟨HF.out, .func 105, #[], #[.pointer (some ⟨w.heap.size + 1, 0, none⟩)], rfl, fv_maybe _ m n _ b a kb ka _ _ hX.2.1 hX.2.2.1 (.inr hX.2.2.2) sb sa HKB.out.1 HKB.out.2⟩⟩)

end Go.Proofs.YtpalkdcgbbbmeaaGreatDoor

/-
 The program's widenings: what intoMaybe makes.
-/
namespace Go.Proofs.YtpalkdcgbbbmeaaGreatDoor
open Go.RowKit

set_option maxRecDepth 20000 in
set_option maxHeartbeats 4000000 in
theorem intoMaybe_v (m n : Nat) (hm : FitSaidV m) (S : Nat → Prop) (a : K (n + 1)) (b : K (m + 1)) (va vb : Value) (d d' : Int) (R : Nat) (x : ByteArray) (w : World) (ha : InnerK S w (n + 1) a va) (hb : InnerK S w (m + 1) b vb) (hB : ∀ b, S b → b < w.heap.size) (hT : TabW w R) (hR : R < w.heap.size)
  (hga : goodK (n + 1) a d = true) (hgb : goodK (m + 1) b d' = true) (hc40 : cntK (m + 1) b ≤ 40) (hd : 1 ≤ d') (hx : (x.size : Int) ≤ 20 * d') (sa : Kd.sort a ≠ 6) (sb : Kd.sort b = 6) :
  Calls Tryz.prog 76 #[.pointer (some ⟨R, 0, none⟩), .agg #[va, vb, .string x]] w fun e w' => Below w.heap.size w w' ∧ EndV (m + 1) (fitsK (m + 1) b (n + 1) a) (WidR (m + 1) b (n + 1) a) S w e w' := by
 have hd6 : d' ≤ 6 := by simp only [goodK, Bool.and_eq_true, decide_eq_true_eq] at hgb; exact hgb.1.1
 have hs2 : (⟨#[63]⟩ : ByteArray).size = 1 := rfl
 have hgkb : ∀ k, k ∈ Kd.kids b → goodK m k (d' + 1) = true := by simp only [goodK, Bool.and_eq_true] at hgb; exact List.all_eq_true.1 hgb.2
 obtain ⟨kb, hkb⟩ : ∃ kb, Kd.kids b = [kb] := by
  rcases goodK_kids hgb with ⟨h, -⟩ | ⟨-, -, h⟩ | ⟨h, -⟩
  · omega
  · exact h
  · omega
 have HF : Hid (fitsK (m + 1) b (n + 1) a = fitsK m kb (n + 1) a) := fitsK_xm sb sa hkb
 have hgB := hgkb kb (by rw [hkb]; exact List.mem_cons_self ..)
 have hcB := cnt_kid hc40 (by rw [hkb]; exact List.mem_cons_self .. : kb ∈ Kd.kids b)
 have hia := ha
 obtain ⟨pa, rfl, hSa⟩ := ha.ptr
 obtain ⟨pb, nvb, pvb, kvb, rfl, hSb, hcb, -, -, hrb⟩ := hb
 rw [hkb] at hrb
 obtain ⟨aob, capb, rfl, -, hrb⟩ := hrb
 obtain ⟨gb, ob, rfl, hSgb, hrb⟩ := hrb (by simp)
 obtain ⟨cb, eb, hib⟩ := hrb 0 (by simp)
 simp only [List.getElem_cons_zero] at hib
 obtain ⟨qb, rfl, -⟩ := id hib.ptr
 have hlb := hB pb hSb
 have hlgb := hB gb hSgb
 have HWb : Hid (∀ W, Below w.heap.size w W → Calls Tryz.prog 70 #[.pointer (some ⟨pb, 0, none⟩)] W fun e w' => e = .returned (.pointer (some ⟨qb, 0, none⟩)) ∧ w' = W) := fun W hW =>
  within_any W pb gb ob 0 capb qb ((hW.cell (p := ⟨pb, 3, none⟩) hlb).trans (by simp [World.cell?, hcb])) ((hW.cell (p := ⟨gb, ob, none⟩) hlgb).trans (by simpa using eb)) (by omega)
 have HBe : Hid (∀ W, Below w.heap.size w W → (W.cell? ⟨w.heap.size, 0, none⟩ = some (.pointer (some ⟨pa, 0, none⟩)) ∧ W.cell? ⟨w.heap.size, 1, none⟩ = some (.pointer (some ⟨pb, 0, none⟩)) ∧ W.cell? ⟨w.heap.size, 2, none⟩ = some (.string x)) → Calls Tryz.prog 98 #[.agg #[.pointer (some ⟨pa, 0, none⟩), .pointer (some ⟨pb, 0, none⟩), .string x], .string ⟨#[63]⟩, .pointer (some ⟨pa, 0, none⟩), .pointer (some ⟨qb, 0, none⟩)] W fun e w' => e = .returned (.agg #[.pointer (some ⟨pa, 0, none⟩), .pointer (some ⟨qb, 0, none⟩), .string (pathTo x ⟨#[63]⟩)]) ∧ Below w.heap.size w w' ∧ Below W.heap.size W w' ∧ (w'.cell? ⟨w.heap.size, 0, none⟩ = some (.pointer (some ⟨pa, 0, none⟩)) ∧ w'.cell? ⟨w.heap.size, 1, none⟩ = some (.pointer (some ⟨pb, 0, none⟩)) ∧ w'.cell? ⟨w.heap.size, 2, none⟩ = some (.string x))) := fun W hW hP =>
  (below_any x _ _ _ _ _ W (by omega)).mono fun e w' h => ⟨h.1, below_step hW hW.size h.2, h.2, pair_kept hP h.2⟩
 have HOf : Hid (∀ W, Below w.heap.size w W → Calls Tryz.prog 38 #[.pointer (some ⟨R, 0, none⟩), .agg #[.pointer (some ⟨pa, 0, none⟩), .pointer (some ⟨qb, 0, none⟩), .string (pathTo x ⟨#[63]⟩)]] W fun e w' => (Below w.heap.size w w' ∧ Below W.heap.size W w') ∧ EndV m (fitsK m kb (n + 1) a) (WidR m kb (n + 1) a) S W e w') := fun W hW =>
  (hm S (n + 1) a kb _ _ d (d' + 1) R _ W (hia.keep (same_below hW hB) (fun _ h => h)) (hib.keep (same_below hW hB) (fun _ h => h)) (fun b hb => Nat.lt_of_lt_of_le (hB b hb) hW.size) (hT.keep (hW.block R hR)) (Nat.lt_of_lt_of_le hR hW.size) hga hgB hcB (by omega) (by rw [pathTo_size]; omega)).mono fun e w' h => ⟨⟨below_step hW hW.size h.1, h.1⟩, h.2⟩
 generalize pathTo x ⟨#[63]⟩ = y at *
 have hst : ∀ (a : Addr) (md : Mode) (fn : Fn) (first cap : Array Value) (w : World), (store a (.func fn first cap) md).run Tryz.prog w = stored Tryz.prog w a (.func fn first cap) md := fun a md _ _ _ w => run_store _ w a _ md rfl
 have hstN : ∀ (a : Addr) (md : Mode) (w : World), (store a .nilFunc md).run Tryz.prog w = stored Tryz.prog w a .nilFunc md := fun a md w => run_store _ w a _ md rfl
 have hmf : ∀ (fn : Fn) (first cap : Array Value) (w : World), (Instr.makeFunc fn first cap).run Tryz.prog w = .ok (.func fn first cap) w := fun _ _ _ _ => rfl
 have hbA : Below w.heap.size w (w.alloc (.cells #[.pointer (some ⟨pa, 0, none⟩), .pointer (some ⟨pb, 0, none⟩), .string x] 67)).drew := ((Below.refl _ _).alloc (Nat.le_refl _) _).drew
 have HKB : Hid (Kd.kids b = [kb]) := hkb
 clear hm hT hga hgb hgkb hkb hgB hrb hib eb hcb ha hia
 cases hfit : fitsK m kb (n + 1) a
 ·
  have HOf : Hid (∀ W, Below w.heap.size w W → (W.cell? ⟨w.heap.size, 0, none⟩ = some (.pointer (some ⟨pa, 0, none⟩)) ∧ W.cell? ⟨w.heap.size, 1, none⟩ = some (.pointer (some ⟨pb, 0, none⟩)) ∧ W.cell? ⟨w.heap.size, 2, none⟩ = some (.string x)) → Calls Tryz.prog 38 #[.pointer (some ⟨R, 0, none⟩), .agg #[.pointer (some ⟨pa, 0, none⟩), .pointer (some ⟨qb, 0, none⟩), .string y]] W fun e w' => (Below w.heap.size w w' ∧ Below W.heap.size W w' ∧ (w'.cell? ⟨w.heap.size, 0, none⟩ = some (.pointer (some ⟨pa, 0, none⟩)) ∧ w'.cell? ⟨w.heap.size, 1, none⟩ = some (.pointer (some ⟨pb, 0, none⟩)) ∧ w'.cell? ⟨w.heap.size, 2, none⟩ = some (.string x))) ∧ ∃ z : ByteArray, e = .returned (.tuple #[.nilFunc, .iface 132 (.agg #[.string z])])) := fun W hW hP => (HOf.out W hW).mono fun e w' h => ⟨⟨h.1.1, h.1.2, pair_kept hP h.1.2⟩, h.2.elim (fun h => by rw [hfit] at h; exact absurd h.1 (by simp)) (fun h => h.2)⟩
  have HF : Hid (fitsK (m + 1) b (n + 1) a = false) := HF.out.trans hfit
  clear hfit
  go_enter Tryz.func76, Tryz.ntmps76
  go_upto_region 1 with fail
  go_region_held (fun w' => w'.cell? ⟨w.heap.size, 0, none⟩ = some (.pointer (some ⟨pa, 0, none⟩)) ∧ w'.cell? ⟨w.heap.size, 1, none⟩ = some (.pointer (some ⟨pb, 0, none⟩)) ∧ w'.cell? ⟨w.heap.size, 2, none⟩ = some (.string x)) (first | with_reducible assumption | (with_reducible refine pair_alloc ?_; with_reducible assumption) | (with_reducible refine pair_set (by assumption) ?_; first | with_reducible assumption | omega) | (with_reducible refine pair_set (pair_alloc (by assumption)) ?_; first | with_reducible assumption | omega) | (refine ⟨?_, ?_, ?_⟩ <;> go_keep)) (first
   | (go_at_call 70; refine (HWb.out _ ?_).mono ?_; (first | with_reducible assumption | (with_reducible refine below_alloc ?_ _; with_reducible assumption) | (with_reducible refine below_allocD ?_ _; with_reducible assumption)); rintro e w8 ⟨rfl, rfl⟩)
   | (go_at_call 98; refine (HBe.out _ ?_ ?_).mono ?_; (first | with_reducible assumption | (with_reducible refine below_alloc ?_ _; with_reducible assumption) | (with_reducible refine below_allocD ?_ _; with_reducible assumption)); (first | assumption | simp [*]); rintro e w9 ⟨rfl, hb9, hc9, hp9⟩; have hne9 := World.new_ne w9 ⟨w.heap.size, 0, none⟩ hp9.1; first | ((with_reducible (have hk9 := kept_new hc9)); obtain ⟨k91, k92, k93⟩ := id hk9) | ((with_reducible (have hk9 := kept_newD hc9)); simp at hk9; obtain ⟨k91, k92, k93⟩ := id hk9) | skip)
   | (go_at_call 38; refine (HOf.out _ ?_ ?_).mono ?_; (first | with_reducible assumption | (with_reducible refine below_alloc ?_ _; with_reducible assumption) | (with_reducible refine below_allocD ?_ _; with_reducible assumption)); (first | assumption | simp [*]); rintro e w10 ⟨⟨hb10, hc10, hp10⟩, z, rfl⟩; have hne10 := World.new_ne w10 ⟨w.heap.size, 0, none⟩ hp10.1; first | ((with_reducible (have hk10 := kept_new hc10)); obtain ⟨ka1, ka2, ka3⟩ := id hk10) | ((with_reducible (have hk10 := kept_more (by assumption) hc10)); obtain ⟨ka1, ka2, ka3⟩ := id hk10) | skip))
  all_goals
   go_wp2_with fail
   go_ret2
   refine ⟨?_, .inr ⟨HF.out, _, rfl⟩⟩
   first | with_reducible exact hb10 | with_reducible exact below_alloc hb10 _ | ((with_reducible refine Below.setCell hb10 ?_ _); have h9 := hb9.size; first | exact h9 | exact Nat.le_succ _) | (with_reducible refine Below.setCell (below_alloc hb10 _) ?_ _; have := hb10.size; omega)
 ·
  have HOf : Hid (∀ W, Below w.heap.size w W → (W.cell? ⟨w.heap.size, 0, none⟩ = some (.pointer (some ⟨pa, 0, none⟩)) ∧ W.cell? ⟨w.heap.size, 1, none⟩ = some (.pointer (some ⟨pb, 0, none⟩)) ∧ W.cell? ⟨w.heap.size, 2, none⟩ = some (.string x)) → Calls Tryz.prog 38 #[.pointer (some ⟨R, 0, none⟩), .agg #[.pointer (some ⟨pa, 0, none⟩), .pointer (some ⟨qb, 0, none⟩), .string y]] W fun e w' => (Below w.heap.size w w' ∧ Below W.heap.size W w' ∧ (w'.cell? ⟨w.heap.size, 0, none⟩ = some (.pointer (some ⟨pa, 0, none⟩)) ∧ w'.cell? ⟨w.heap.size, 1, none⟩ = some (.pointer (some ⟨pb, 0, none⟩)) ∧ w'.cell? ⟨w.heap.size, 2, none⟩ = some (.string x))) ∧ ∃ fn first cap, e = .returned (.tuple #[.func fn first cap, .nilIface]) ∧ Hid (Fv (fun b => S b ∨ (W.heap.size ≤ b ∧ b < w'.heap.size)) m w' (.func fn first cap) (WidR m kb (n + 1) a))) := fun W hW hP => (HOf.out W hW).mono fun e w' h => ⟨⟨h.1.1, h.1.2, pair_kept hP h.1.2⟩, h.2.elim (fun h => h.2) (fun h => by rw [hfit] at h; exact absurd h.1 (by simp))⟩
  have HF : Hid (fitsK (m + 1) b (n + 1) a = true) := HF.out.trans hfit
  clear hfit
  go_enter Tryz.func76, Tryz.ntmps76
  go_upto_region 1 with fail
  go_region_held (fun w' => w'.cell? ⟨w.heap.size, 0, none⟩ = some (.pointer (some ⟨pa, 0, none⟩)) ∧ w'.cell? ⟨w.heap.size, 1, none⟩ = some (.pointer (some ⟨pb, 0, none⟩)) ∧ w'.cell? ⟨w.heap.size, 2, none⟩ = some (.string x)) (first | with_reducible assumption | (with_reducible refine pair_alloc ?_; with_reducible assumption) | (with_reducible refine pair_set (by assumption) ?_; first | with_reducible assumption | omega) | (with_reducible refine pair_set (pair_alloc (by assumption)) ?_; first | with_reducible assumption | omega) | (refine ⟨?_, ?_, ?_⟩ <;> go_keep)) (first
   | (go_at_call 70; refine (HWb.out _ ?_).mono ?_; (first | with_reducible assumption | (with_reducible refine below_alloc ?_ _; with_reducible assumption) | (with_reducible refine below_allocD ?_ _; with_reducible assumption)); rintro e w8 ⟨rfl, rfl⟩)
   | (go_at_call 98; refine (HBe.out _ ?_ ?_).mono ?_; (first | with_reducible assumption | (with_reducible refine below_alloc ?_ _; with_reducible assumption) | (with_reducible refine below_allocD ?_ _; with_reducible assumption)); (first | assumption | simp [*]); rintro e w9 ⟨rfl, hb9, hc9, hp9⟩; have hne9 := World.new_ne w9 ⟨w.heap.size, 0, none⟩ hp9.1; first | ((with_reducible (have hk9 := kept_new hc9)); obtain ⟨k91, k92, k93⟩ := id hk9) | ((with_reducible (have hk9 := kept_newD hc9)); simp at hk9; obtain ⟨k91, k92, k93⟩ := id hk9) | skip)
   | (go_at_call 38; refine (HOf.out _ ?_ ?_).mono ?_; (first | with_reducible assumption | (with_reducible refine below_alloc ?_ _; with_reducible assumption) | (with_reducible refine below_allocD ?_ _; with_reducible assumption)); (first | assumption | simp [*]); rintro e w10 ⟨⟨hb10, hc10, hp10⟩, fn, first, cap, rfl, hF10⟩; have hne10 := World.new_ne w10 ⟨w.heap.size, 0, none⟩ hp10.1; first | ((with_reducible (have hk10 := kept_new hc10)); obtain ⟨ka1, ka2, ka3⟩ := id hk10) | ((with_reducible (have hk10 := kept_more (by assumption) hc10)); obtain ⟨ka1, ka2, ka3⟩ := id hk10) | skip))
  all_goals
   go_wp2_with fail
   go_ret2
   first
    | (have hX := fin_alloc (t := 76) hb10 hB hF10.out (by have := hb9.size; omega); exact ⟨hX.1, .inl ⟨HF.out, .func 104, #[], #[.pointer (some ⟨w10.heap.size, 0, none⟩)], rfl, fv_into _ m n _ b a kb _ _ hX.2.1 hX.2.2.1 (.inr hX.2.2.2) sb sa HKB.out⟩⟩)
    | (have hX := fin_set (g := w9.heap.size) (W := w9.alloc (.cells #[.nilFunc] 76)) hb10 hB hk10 hF10.out (by have := hb9.size; omega) (by simp); exact ⟨hX.1, .inl ⟨HF.out, .func 104, #[], #[.pointer (some ⟨w9.heap.size, 0, none⟩)], rfl, fv_into _ m n _ b a kb _ _ hX.2.1 hX.2.2.1 (.inr hX.2.2.2) sb sa HKB.out⟩⟩)
    | (have hX := fin_set (g := w.heap.size + 1) hb10 hB hk10 hF10.out (by omega) k93; exact ⟨hX.1, .inl ⟨HF.out, .func 104, #[], #[.pointer (some ⟨w.heap.size + 1, 0, none⟩)], rfl, fv_into _ m n _ b a kb _ _ hX.2.1 hX.2.2.1 (.inr hX.2.2.2) sb sa HKB.out⟩⟩)

end Go.Proofs.YtpalkdcgbbbmeaaGreatDoor

/-
 The function value that widens forms.
-/
namespace Go.Proofs.YtpalkdcgbbbmeaaGreatDoor
open Go.RowKit

theorem Fv.sub {S : Nat → Prop} {m : Nat} {w : World} {fv : Value} {R R' : (Nat → Prop) → World → Value → T m → Prop} (h : Fv S m w fv R) (hR : ∀ S0 W v t', R' S0 W v t' → R S0 W v t') : Fv S m w fv R' := by
 obtain ⟨f, cap, rfl, eg, hc⟩ := h
 exact ⟨f, cap, rfl, eg, fun S0 W h0 hB hW v t' h args ha => hc S0 W h0 hB hW v t' (hR _ _ _ _ h) args ha⟩

def FieldR (n : Nat) (na : List ByteArray) (ka : List (K n)) (m : Nat) (s : ByteArray) (y : K m) (S : Nat → Prop) (W : World) (v : Value) (t' : T m) : Prop :=
 match atName na ka s with | some x => WidR m y n x S W v t' | none => (v = .nilIface ∨ ∃ u z, v = .iface u z) ∧ NoneR m y S W v t'

def FieldQ (n : Nat) (na : List ByteArray) (ka : List (K n)) (m : Nat) (nb : List ByteArray) (kb : List (K m)) (j : Nat) (S : Nat → Prop) (W : World) (v : Value) (t' : T m) : Prop :=
 ∀ (h : j < nb.length) (h' : j < kb.length), FieldR n na ka m nb[j] kb[j] S W v t'

theorem fv_no (S : Nat → Prop) (m : Nat) (b : K m) (w : World) :
  Fv S m w (.func (.func 121) #[] #[]) (fun S0 W v t' => (v = .nilIface ∨ ∃ u x, v = .iface u x) ∧ NoneR m b S0 W v t') := by
 cases m with
 | zero => exact Empty.elim (show Empty from b)
 | succ m => exact fv_none S m b w

def fvAt (w : World) (fo : Option Addr) (j : Nat) : Value := match fo with | some a => (w.cell? ⟨a.block, a.off + j, none⟩).getD .nilFunc | none => .nilFunc

set_option maxRecDepth 20000 in
set_option maxHeartbeats 2000000 in
theorem fv_form (S : Nat → Prop) (m n gp gw pa pb : Nat) (fo : Option Addr) (fc : Nat) (x : ByteArray) (b : K (m + 1)) (a : K (n + 1)) (d d' : Int) (w : World) (hina : InnerK S w (n + 1) a (.pointer (some ⟨pa, 0, none⟩))) (hinb : InnerK S w (m + 1) b (.pointer (some ⟨pb, 0, none⟩)))
  (hp : w.cell? ⟨gp, 0, none⟩ = some (.pointer (some ⟨pa, 0, none⟩)) ∧ w.cell? ⟨gp, 1, none⟩ = some (.pointer (some ⟨pb, 0, none⟩)) ∧ w.cell? ⟨gp, 2, none⟩ = some (.string x)) (hgp : S gp) (hw : w.cell? ⟨gw, 0, none⟩ = some (.slice fo (Kd.names b).length fc)) (hgw : S gw)
  (hf : ∀ j (_ : j < (Kd.names b).length), ∃ fb foff fv, fo = some ⟨fb, foff, none⟩ ∧ S fb ∧ w.cell? ⟨fb, foff + j, none⟩ = some fv ∧ Fv S m w fv (FieldQ n (Kd.names a) (Kd.kids a) m (Kd.names b) (Kd.kids b) j))
  (hga : goodK (n + 1) a d = true) (hgb : goodK (m + 1) b d' = true) (h39 : (Kd.names b).length ≤ 39) (sa : Kd.sort a = 5) (sb : Kd.sort b = 5) :
  Fv S (m + 1) w (.func (.func 102) #[] #[.pointer (some ⟨gp, 0, none⟩), .pointer (some ⟨gw, 0, none⟩)]) (WidR (m + 1) b (n + 1) a) := by
 have hka : (Kd.names a).length = (Kd.kids a).length ∧ riseB (Kd.names a) = true := by
  rcases goodK_kids hga with ⟨h, -⟩ | ⟨h, -⟩ | ⟨-, h⟩
  · omega
  · omega
  · exact h
 have hkb : (Kd.names b).length = (Kd.kids b).length ∧ riseB (Kd.names b) = true := by
  rcases goodK_kids hgb with ⟨h, -⟩ | ⟨h, -⟩ | ⟨-, h⟩
  · omega
  · omega
  · exact h
 refine ⟨_, _, rfl, Tryz.call102, fun S0 W h0 hB hs v t' hR args ha => ?_⟩
 obtain ⟨p, t, e, hin, hgt, hh, rfl⟩ := hR
 cases p with
 | zero => exact hin.elim
 | succ p =>
 obtain ⟨hst, hnm, hkk0, -⟩ := hasK_get hh
 have hkk := hkk0 sa
 clear hkk0
 obtain ⟨nv, rv, rfl, hnv, hr⟩ : ∃ nv rv, v = .iface 126 (.agg #[nv, rv]) ∧ StrsIn S0 W (Nd.names t) nv ∧ Row1 S0 W (InnerT S0 W p) (Nd.kids t) rv := by
  rcases hin with ⟨h, -⟩ | ⟨h, -⟩ | ⟨h, -⟩ | ⟨h, h'⟩ | ⟨h, h'⟩ | ⟨h, h'⟩
  all_goals first | omega | exact h'
 have hkt : (Nd.kids t).length = (Kd.kids a).length := by
  have := ((goodT_kids hgt).2.2 (by omega)).1
  rw [← hka.1, hnm]; exact this.symm
 have hgk := goodT_all hgt
 have hia := hina.keep hs h0
 have hib := hinb.keep hs h0
 obtain ⟨pa0, nva, pva, kva, e1, hSa, hca, hna, hpa, -⟩ := id hia
 cases e1
 obtain ⟨pb0, nvb, pvb, kvb, e1, hSb, hcb, hnb, -, -⟩ := id hib
 cases e1
 have hpa := hpa sa
 obtain ⟨nbo, nbc, rfl, hnbl, -, -⟩ := id hnb
 obtain ⟨nao, nac, rfl, -, -, -⟩ := id hnv
 obtain ⟨ko, kc, rfl, -, hkc⟩ := id hr
 have hwW := cell_same hs hgw hw
 have hgpW : gp < W.heap.size := hB gp (h0 gp hgp)
 have hgwW : gw < W.heap.size := hB gw (h0 gw hgw)
 have c0 : W.cell? ⟨gp, 0, none⟩ = some (.pointer (some ⟨pa, 0, none⟩)) := (World.cell?_of_block (a := ⟨gp, 0, none⟩) (hs gp hgp)).trans hp.1
 have c1 : W.cell? ⟨gp, 1, none⟩ = some (.pointer (some ⟨pb, 0, none⟩)) := (World.cell?_of_block (a := ⟨gp, 1, none⟩) (hs gp hgp)).trans hp.2.1
 have c2 : W.cell? ⟨gp, 2, none⟩ = some (.string x) := (World.cell?_of_block (a := ⟨gp, 2, none⟩) (hs gp hgp)).trans hp.2.2
 have HH : Hid (∀ V, Below W.heap.size W V → V.cell? ⟨gp, 0, none⟩ = some (.pointer (some ⟨pa, 0, none⟩)) ∧ V.cell? ⟨gp, 1, none⟩ = some (.pointer (some ⟨pb, 0, none⟩)) ∧ V.cell? ⟨gp, 2, none⟩ = some (.string x) ∧ V.cell? ⟨gw, 0, none⟩ = some (.slice fo (Kd.names b).length fc)) := fun V hV =>
  ⟨(hV.cell (p := ⟨gp, 0, none⟩) hgpW).trans c0, (hV.cell (p := ⟨gp, 1, none⟩) hgpW).trans c1, (hV.cell (p := ⟨gp, 2, none⟩) hgpW).trans c2, (hV.cell (p := ⟨gw, 0, none⟩) hgwW).trans hwW⟩
 obtain ⟨ts, hts⟩ : ∃ ts, ts = mapW (fun y x u => widT m y n x p u) (noneT m) (Kd.names a) (Kd.kids a) (Nd.kids t) (Kd.names b) (Kd.kids b) := ⟨_, rfl⟩
 have htl : ts.length = (Kd.names b).length := by rw [hts, mapW_length _ _ hkb.1, hkb.1]
 have hAa := asc_of _ hka.2
 have HA : Hid (∀ V, Below W.heap.size W V → Calls Tryz.prog 103 #[.slice ko (Nd.kids t).length kc, .agg #[.pointer (some ⟨pa, 0, none⟩), .pointer (some ⟨pb, 0, none⟩), .string x], .slice fo (Kd.names b).length fc] V fun e w' => (Below W.heap.size W w' ∧ (w'.cell? ⟨gp, 0, none⟩ = some (.pointer (some ⟨pa, 0, none⟩)) ∧ w'.cell? ⟨gp, 1, none⟩ = some (.pointer (some ⟨pb, 0, none⟩)) ∧ w'.cell? ⟨gp, 2, none⟩ = some (.string x) ∧ w'.cell? ⟨gw, 0, none⟩ = some (.slice fo (Kd.names b).length fc))) ∧ ∃ va vl vc, e = .returned (.iface 126 (.agg #[.slice nbo (Kd.names b).length nbc, .slice va vl vc])) ∧ Hid (InnerT (fun b => S0 b ∨ (W.heap.size ≤ b ∧ b < w'.heap.size)) w' (m + 1) (mkT m 5 0 ByteArray.empty (Kd.names b) ts) (.iface 126 (.agg #[.slice nbo (Kd.names b).length nbc, .slice va vl vc])))) := fun V hV => by
  have hVB : ∀ b, S0 b → b < V.heap.size := fun b hb => Nat.lt_of_lt_of_le (hB b hb) hV.size
  have hsV : Same S w V := fun b hb => (hV.block b (hB b (h0 b hb))).trans (hs b hb)
  refine (widenForm_any m S S0 (Kd.names a) (Kd.names b) ts (fvAt V fo) (fun j => FieldQ n (Kd.names a) (Kd.kids a) m (Kd.names b) (Kd.kids b) j) pa pb nbo ko fo nbc (Nd.kids t).length kc fc pva x V h0 hVB (hVB pa hSa) (hVB pb hSb) ((hV.cell (p := ⟨pa, 2, none⟩) (hB pa hSa)).trans (by simp [World.cell?, hca])) ((hV.cell (p := ⟨pb, 1, none⟩) (hB pb hSb)).trans (by simp [World.cell?, hcb])) (hpa.keep (same_below hV hB) (fun _ h => h)) hAa (hnb.keep (same_below hV hB) (fun _ h => h)) h39 htl (fun s hs => ?_) (fun j hj => ?_) (fun j hj hj' => ?_)).mono ?_
  ·
   obtain ⟨i, hi, rfl⟩ := List.getElem_of_mem hs
   exact name_short hkb.2 i hi
  ·
   obtain ⟨fb, foff, fv, hfo, hSf, hcf, hF⟩ := hf j hj
   have hfV : V.cell? ⟨fb, foff + j, none⟩ = some fv := (World.cell?_of_block (a := ⟨fb, foff + j, none⟩) (hsV fb hSf)).trans hcf
   have e : fvAt V fo j = fv := by rw [hfo]; simp only [fvAt]; rw [hfV]; rfl
   exact ⟨fb, foff, hfo, hVB fb (h0 fb hSf), by rw [e]; exact hfV, by rw [e]; exact hF.keep hsV (fun _ h => h)⟩
  ·
   have hjk : j < (Kd.kids b).length := by rw [← hkb.1]; exact hj
   have etj0 := mapW_get (f := fun y x u => widT m y n x p u) (z := noneT m) (ns := Kd.names a) (xs := Kd.kids a) (us := Nd.kids t) (Kd.names b) (Kd.kids b) j hj hjk (by rw [← hts]; exact hj')
   have etj := Eq.trans (show ts[j] = (mapW (fun y x u => widT m y n x p u) (noneT m) (Kd.names a) (Kd.kids a) (Nd.kids t) (Kd.names b) (Kd.kids b))[j]'(by rw [← hts]; exact hj') by simp only [hts]) etj0
   by_cases hmem : (Kd.names b)[j] ∈ Kd.names a
   ·
    obtain ⟨q, hq, heq⟩ := List.getElem_of_mem hmem
    have hqa : q < (Kd.kids a).length := by rw [← hka.1]; exact hq
    have hqt : q < (Nd.kids t).length := by rw [hkt]; exact hqa
    obtain ⟨kb, koff, hko, hSk, hkcell⟩ := hkc (by intro h; rw [h] at hqt; simp at hqt)
    obtain ⟨c, ec, hic⟩ := hkcell q hqt
    obtain ⟨u, z, rfl⟩ := hic.iface
    refine .inl ⟨q, hq, heq, hqt, kb, koff, u, z, hko, hVB kb hSk, (hV.cell (p := ⟨kb, koff + q, none⟩) (hB kb hSk)).trans ec, fun W' hW' h h' => ?_⟩
    rw [etj, ← heq, atName2_yes _ _ _ q hq hqa hqt hAa]
    unfold FieldR
    rw [atName_yes _ _ q hq hqa hAa]
    exact ⟨p, (Nd.kids t)[q], _, hic.keep (same_below (below_step hV hV.size hW') hB) (fun _ h => h), hgk _ (List.getElem_mem hqt), hkk q hqa hqt, rfl⟩
   ·
    refine .inr ⟨hmem, fun W' h h' => ?_⟩
    rw [etj, atName2_no _ _ _ _ hmem]
    unfold FieldR
    rw [atName_no _ _ _ hmem]
    exact ⟨.inl rfl, rfl⟩
  ·
   rintro e w' ⟨hb, kv, rfl, hrow⟩
   have hz := hV.size
   have hW := below_step hV hV.size hb
   obtain ⟨va, vc, rfl, -⟩ := id hrow
   refine ⟨⟨hW, HH.out w' hW⟩, va, _, vc, rfl, .inr (.inr (.inr (.inr (.inl ⟨rfl, _, _, rfl, hnb.keep (same_below hW hB) (fun _ h => .inl h), hrow.keep (fun _ _ => rfl) (fun b hb => ?_) (fun _ _ _ hx => hx.keep (fun _ _ => rfl) (fun b hb => ?_))⟩))))⟩
   · exact hb.elim .inl (fun h => .inr ⟨by omega, h.2⟩)
   · exact hb.elim .inl (fun h => .inr ⟨by omega, h.2⟩)
 rw [show args = #[Value.iface 126 (.agg #[.slice nao (Nd.names t).length nac, .slice ko (Nd.kids t).length kc]), .pointer (some ⟨gp, 0, none⟩), .pointer (some ⟨gw, 0, none⟩)] from ha, widT_ff sb, ← hts]
 have HK : Hid (∀ V, Below W.heap.size W V → Calls Tryz.prog 154 #[.agg #[.slice nao (Nd.names t).length nac, .slice ko (Nd.kids t).length kc]] V fun e w' => e = .returned (.slice ko (Nd.kids t).length kc) ∧ Below W.heap.size W w' ∧ (w'.cell? ⟨gp, 0, none⟩ = some (.pointer (some ⟨pa, 0, none⟩)) ∧ w'.cell? ⟨gp, 1, none⟩ = some (.pointer (some ⟨pb, 0, none⟩)) ∧ w'.cell? ⟨gp, 2, none⟩ = some (.string x) ∧ w'.cell? ⟨gw, 0, none⟩ = some (.slice fo (Kd.names b).length fc))) := fun V hV =>
  (kids_form nao ko _ _ _ _ V).mono fun e w' h => by
   obtain ⟨rfl, rfl⟩ := h
   have := hV.alloc hV.size (.cells #[.slice nao (Nd.names t).length nac, .slice ko (Nd.kids t).length kc] 126)
   exact ⟨rfl, this, HH.out _ this⟩
 have hb0 := (Below.refl W.heap.size W).drew
 have hbr := Below.refl W.heap.size W
 clear hs hgt hh hin hr hkk hf hina hinb hia hib hca hcb hna hnb hpa hkc hnv hts htl hp hw hgk hnm hAa hka hkb hkt HH
 generalize (Nd.kids t).length = lk at *
 generalize (Nd.names t).length = ln at *
 generalize (Kd.names b).length = lb at *
 go_enter Tryz.func102, Tryz.ntmps102
 go_upto_region 1 with fail
 go_region_held (fun w' => w'.cell? ⟨gp, 0, none⟩ = some (.pointer (some ⟨pa, 0, none⟩)) ∧ w'.cell? ⟨gp, 1, none⟩ = some (.pointer (some ⟨pb, 0, none⟩)) ∧ w'.cell? ⟨gp, 2, none⟩ = some (.string x) ∧ w'.cell? ⟨gw, 0, none⟩ = some (.slice fo lb fc)) (first | with_reducible assumption | (refine ⟨?_, ?_, ?_, ?_⟩ <;> go_keep)) (first
  | (go_at_call 154; refine (HK.out _ (by with_reducible assumption)).mono ?_; rintro e w7 ⟨rfl, hb7, hp7⟩)
  | (go_at_call 103; refine (HA.out _ (by with_reducible assumption)).mono ?_; rintro e w10 ⟨⟨hb10, hp10⟩, va, vl, vc, rfl, hr10⟩))
 all_goals
  go_wp2_with fail
  go_ret
  exact ⟨hb10, _, rfl, hr10.out⟩

end Go.Proofs.YtpalkdcgbbbmeaaGreatDoor

/-
 The program's widenings: what is made of a name of two forms, with what it does.
-/
namespace Go.Proofs.YtpalkdcgbbbmeaaGreatDoor
open Go.RowKit

set_option maxRecDepth 20000 in
set_option maxHeartbeats 4000000 in
theorem ofFields_v (m n : Nat) (hm : FitSaidV m) (S : Nat → Prop) (a : K (n + 1)) (b : K (m + 1)) (va vb : Value) (d d' : Int) (R : Nat) (x : ByteArray) (w : World) (ha : InnerK S w (n + 1) a va) (hb : InnerK S w (m + 1) b vb) (hB : ∀ b, S b → b < w.heap.size) (hT : TabW w R) (hR : R < w.heap.size)
  (hga : goodK (n + 1) a d = true) (hgb : goodK (m + 1) b d' = true) (hc40 : cntK (m + 1) b ≤ 40) (hd : 1 ≤ d') (hx : (x.size : Int) ≤ 20 * d') (sa : Kd.sort a = 5) (sb : Kd.sort b = 5) (j : Nat) (hj : j < (Kd.names b).length) (hj' : j < (Kd.kids b).length) :
  Calls Tryz.prog 101 #[.pointer (some ⟨R, 0, none⟩), .agg #[va, vb, .string x], .string (Kd.names b)[j]] w fun e w' => Below w.heap.size w w' ∧ EndV m (fieldFits n (Kd.names a) (Kd.kids a) m (Kd.names b)[j] (Kd.kids b)[j]) (FieldR n (Kd.names a) (Kd.kids a) m (Kd.names b)[j] (Kd.kids b)[j]) S w e w' := by
 have hd6 : d' ≤ 6 := by simp only [goodK, Bool.and_eq_true, decide_eq_true_eq] at hgb; exact hgb.1.1
 have hgka : ∀ k, k ∈ Kd.kids a → goodK n k (d + 1) = true := by simp only [goodK, Bool.and_eq_true] at hga; exact List.all_eq_true.1 hga.2
 have hgkb : ∀ k, k ∈ Kd.kids b → goodK m k (d' + 1) = true := by simp only [goodK, Bool.and_eq_true] at hgb; exact List.all_eq_true.1 hgb.2
 have hka : (Kd.names a).length = (Kd.kids a).length ∧ riseB (Kd.names a) = true := by
  rcases goodK_kids hga with ⟨h, -⟩ | ⟨h, -⟩ | ⟨-, h⟩
  · omega
  · omega
  · exact h
 have hkb : riseB (Kd.names b) = true := by
  rcases goodK_kids hgb with ⟨h, -⟩ | ⟨h, -⟩ | ⟨-, -, h⟩
  · omega
  · omega
  · exact h
 have hs8 := name_short hkb j hj
 have hsm : (Kd.names b)[j].size ≤ maxLen := by unfold maxLen; omega
 have hgB := hgkb _ (List.getElem_mem hj')
 have hcB := cnt_kid hc40 (List.getElem_mem hj')
 obtain ⟨pa, nva, pva, kva, rfl, hSa, hca, -, hpa, hra⟩ := ha
 obtain ⟨pb, nvb, pvb, kvb, rfl, hSb, hcb, -, hpb, hrb⟩ := hb
 have hpa := hpa sa
 have hpb := hpb sb
 obtain ⟨aob, capb, rfl, -, hrb⟩ := hrb
 obtain ⟨gb, ob, rfl, hSgb, hrb⟩ := hrb (by intro h; rw [h] at hj'; simp at hj')
 obtain ⟨cb, eb, hib⟩ := hrb j hj'
 obtain ⟨qb, rfl, hSqb⟩ := id hib.ptr
 have hla := hB pa hSa
 have hlb := hB pb hSb
 have hlgb := hB gb hSgb
 have hlqb := hB qb hSqb
 have HFb : Hid (∀ W, Below w.heap.size w W → Calls Tryz.prog 96 #[.pointer (some ⟨pb, 0, none⟩), .string (Kd.names b)[j]] W fun e w' => e = .returned (.pointer (some ⟨qb, 0, none⟩)) ∧ w' = W) := fun W hW =>
  field_yes S W (Kd.names b) pvb pb gb ob (Kd.kids b).length capb qb j ((hW.cell (p := ⟨pb, 2, none⟩) hlb).trans (by simp [World.cell?, hcb])) (hpb.keep (same_below hW hB) (fun _ h => h)) (asc_of _ hkb) hj hsm ((hW.cell (p := ⟨pb, 3, none⟩) hlb).trans (by simp [World.cell?, hcb])) hj' ((hW.cell (p := ⟨gb, ob + j, none⟩) hlgb).trans eb)
 have hb0 : Below w.heap.size w (w.alloc (.cells #[.pointer (some ⟨pa, 0, none⟩), .pointer (some ⟨pb, 0, none⟩), .string x] 67)) := (Below.refl _ _).alloc (Nat.le_refl _) _
 have hbN : ∀ k, Below w.heap.size w ((w.alloc (.cells #[.pointer (some ⟨pa, 0, none⟩), .pointer (some ⟨pb, 0, none⟩), .string x] 67)).drewN k) := fun k => below_drewN hb0 k
 by_cases hmem : (Kd.names b)[j] ∈ Kd.names a
 ·
  obtain ⟨q, hq, heq⟩ := List.getElem_of_mem hmem
  have hqk : q < (Kd.kids a).length := by omega
  obtain ⟨aoa, capa, rfl, -, hra⟩ := hra
  obtain ⟨ga, oa, rfl, hSga, hra⟩ := hra (by intro h; rw [h] at hqk; simp at hqk)
  obtain ⟨ca, ea, hia⟩ := hra q hqk
  obtain ⟨qa, rfl, -⟩ := id hia.ptr
  have hlga := hB ga hSga
  have HFa : Hid (∀ W, Below w.heap.size w W → Calls Tryz.prog 96 #[.pointer (some ⟨pa, 0, none⟩), .string (Kd.names b)[j]] W fun e w' => e = .returned (.pointer (some ⟨qa, 0, none⟩)) ∧ w' = W) := fun W hW => by
   have := field_yes S W (Kd.names a) pva pa ga oa (Kd.kids a).length capa qa q ((hW.cell (p := ⟨pa, 2, none⟩) hla).trans (by simp [World.cell?, hca])) (hpa.keep (same_below hW hB) (fun _ h => h)) (asc_of _ hka.2) hq (by rw [heq]; exact hsm) ((hW.cell (p := ⟨pa, 3, none⟩) hla).trans (by simp [World.cell?, hca])) hqk ((hW.cell (p := ⟨ga, oa + q, none⟩) hlga).trans ea)
   rwa [heq] at this
  have HF : Hid (fieldFits n (Kd.names a) (Kd.kids a) m (Kd.names b)[j] (Kd.kids b)[j] = fitsK m (Kd.kids b)[j] n (Kd.kids a)[q]) := by
   show _ = _
   unfold fieldFits
   rw [← heq, atName_yes _ _ q hq hqk (asc_of _ hka.2)]
  have HOf : Hid (∀ W, Below w.heap.size w W → Calls Tryz.prog 38 #[.pointer (some ⟨R, 0, none⟩), .agg #[.pointer (some ⟨qa, 0, none⟩), .pointer (some ⟨qb, 0, none⟩), .string (pathTo x (Kd.names b)[j])]] W fun e w' => Below w.heap.size w w' ∧ EndV m (fitsK m (Kd.kids b)[j] n (Kd.kids a)[q]) (WidR m (Kd.kids b)[j] n (Kd.kids a)[q]) S w e w') := fun W hW =>
   (hm S n _ _ _ _ (d + 1) (d' + 1) R _ W (hia.keep (same_below hW hB) (fun _ h => h)) (hib.keep (same_below hW hB) (fun _ h => h)) (fun b hb => Nat.lt_of_lt_of_le (hB b hb) hW.size) (hT.keep (hW.block R hR)) (Nat.lt_of_lt_of_le hR hW.size) (hgka _ (List.getElem_mem hqk)) hgB hcB (by omega) (by rw [pathTo_size]; omega)).mono fun e w' h => ⟨below_step hW hW.size h.1, h.2.wide hW.size⟩
  have HBe : Hid (∀ W, Below w.heap.size w W → Calls Tryz.prog 98 #[.agg #[.pointer (some ⟨pa, 0, none⟩), .pointer (some ⟨pb, 0, none⟩), .string x], .string (Kd.names b)[j], .pointer (some ⟨qa, 0, none⟩), .pointer (some ⟨qb, 0, none⟩)] W fun e w' => e = .returned (.agg #[.pointer (some ⟨qa, 0, none⟩), .pointer (some ⟨qb, 0, none⟩), .string (pathTo x (Kd.names b)[j])]) ∧ Below w.heap.size w w') := fun W hW =>
   (below_any x _ _ _ _ _ W (by omega)).mono fun e w' h => ⟨h.1, below_step hW hW.size h.2⟩
  have HRR : FieldR n (Kd.names a) (Kd.kids a) m (Kd.names b)[j] (Kd.kids b)[j] = WidR m (Kd.kids b)[j] n (Kd.kids a)[q] := by
   funext S1 W1 v1 t1
   unfold FieldR
   rw [← heq, atName_yes _ _ q hq hqk (asc_of _ hka.2)]
  rw [HRR]
  clear hm hT hga hgb hgka hgkb hka hkb hgB hra hrb hia hib ea eb hca hcb hpa hpb hmem heq hs8 hsm HRR
  generalize WidR m (Kd.kids b)[j] n (Kd.kids a)[q] = Rr at *
  generalize fieldFits n (Kd.names a) (Kd.kids a) m (Kd.names b)[j] (Kd.kids b)[j] = r at *
  generalize pathTo x (Kd.names b)[j] = y at *
  generalize (Kd.names b)[j] = s at *
  have HF' := HF.out
  cases hfit : fitsK m (Kd.kids b)[j] n (Kd.kids a)[q]
  ·
   have HOf : Hid (∀ W, Below w.heap.size w W → Calls Tryz.prog 38 #[.pointer (some ⟨R, 0, none⟩), .agg #[.pointer (some ⟨qa, 0, none⟩), .pointer (some ⟨qb, 0, none⟩), .string y]] W fun e w' => Below w.heap.size w w' ∧ ∃ z : ByteArray, e = .returned (.tuple #[.nilFunc, .iface 132 (.agg #[.string z])])) := fun W hW => (HOf.out W hW).mono fun e w' h => ⟨h.1, h.2.elim (fun h => by rw [hfit] at h; exact absurd h.1 (by simp)) (fun h => h.2)⟩
   have HF : Hid (r = false) := HF'.trans hfit
   clear hfit HF'
   go_enter Tryz.func101, Tryz.ntmps101
   go_wp2_with fail
   go_quiet (first | (go_at_call_of 96 (Value.pointer (some ⟨pa, 0, none⟩)); refine Calls.quiet_of_same (HFa.out _ (hbN _))) | (go_at_call_of 96 (Value.pointer (some ⟨pb, 0, none⟩)); refine Calls.quiet_of_same (HFb.out _ (hbN _))))
   have hbq := hbN nq
   have hbq' := hbq.drew
   go_wp2_with fail
   go_region_law (first
    | (go_simp; go_at_call 98; refine (HBe.out _ (by assumption)).mono ?_; rintro e w9 ⟨rfl, hb9⟩)
    | (go_simp; go_at_call 38; refine (HOf.out _ (by assumption)).mono ?_; rintro e w10 ⟨hb10, z, rfl⟩))
   all_goals
    go_wp2_with fail
    go_ret2
    exact ⟨hb10, .inr ⟨HF.out, _, rfl⟩⟩
  ·
   have HOf : Hid (∀ W, Below w.heap.size w W → Calls Tryz.prog 38 #[.pointer (some ⟨R, 0, none⟩), .agg #[.pointer (some ⟨qa, 0, none⟩), .pointer (some ⟨qb, 0, none⟩), .string y]] W fun e w' => Below w.heap.size w w' ∧ ∃ fn first cap, e = .returned (.tuple #[.func fn first cap, .nilIface]) ∧ Hid (Fv (fun b => S b ∨ (w.heap.size ≤ b ∧ b < w'.heap.size)) m w' (.func fn first cap) Rr)) := fun W hW => (HOf.out W hW).mono fun e w' h => ⟨h.1, h.2.elim (fun h => h.2) (fun h => by rw [hfit] at h; exact absurd h.1 (by simp))⟩
   have HF : Hid (r = true) := HF'.trans hfit
   clear hfit HF'
   go_enter Tryz.func101, Tryz.ntmps101
   go_wp2_with fail
   go_quiet (first | (go_at_call_of 96 (Value.pointer (some ⟨pa, 0, none⟩)); refine Calls.quiet_of_same (HFa.out _ (hbN _))) | (go_at_call_of 96 (Value.pointer (some ⟨pb, 0, none⟩)); refine Calls.quiet_of_same (HFb.out _ (hbN _))))
   have hbq := hbN nq
   have hbq' := hbq.drew
   go_wp2_with fail
   go_region_law (first
    | (go_simp; go_at_call 98; refine (HBe.out _ (by assumption)).mono ?_; rintro e w9 ⟨rfl, hb9⟩)
    | (go_simp; go_at_call 38; refine (HOf.out _ (by assumption)).mono ?_; rintro e w10 ⟨hb10, fn, first, cap, rfl, hF10⟩))
   all_goals
    go_wp2_with fail
    go_ret2
    exact ⟨hb10, .inl ⟨HF.out, _, _, _, rfl, hF10.out⟩⟩
 ·
  have HFa : Hid (∀ W, Below w.heap.size w W → Calls Tryz.prog 96 #[.pointer (some ⟨pa, 0, none⟩), .string (Kd.names b)[j]] W fun e w' => e = .returned (.pointer none) ∧ w' = W) := fun W hW =>
   field_no S W (Kd.names a) pva pa _ ((hW.cell (p := ⟨pa, 2, none⟩) hla).trans (by simp [World.cell?, hca])) (hpa.keep (same_below hW hB) (fun _ h => h)) hmem hsm
  have HF : Hid (fieldFits n (Kd.names a) (Kd.kids a) m (Kd.names b)[j] (Kd.kids b)[j] = (srtK m (Kd.kids b)[j] == 6)) := by
   show _ = _
   unfold fieldFits
   rw [atName_no _ _ _ hmem]
  obtain ⟨s6, h6, hs6⟩ : ∃ s6, w.cell? ⟨qb, 0, none⟩ = some (.int .i64 s6) ∧ s6 = srtK m (Kd.kids b)[j] := by
   cases m with
   | zero => exact hib.elim
   | succ m =>
    obtain ⟨bb, nv, pv, kv, hv, -, hcell, -⟩ := hib
    cases hv
    exact ⟨Kd.sort (Kd.kids b)[j], zeroD_W4 hcell, rfl⟩
  have HRR : FieldR n (Kd.names a) (Kd.kids a) m (Kd.names b)[j] (Kd.kids b)[j] = fun S0 W v t' => (v = .nilIface ∨ ∃ u x, v = .iface u x) ∧ NoneR m (Kd.kids b)[j] S0 W v t' := by
   funext S1 W1 v1 t1
   unfold FieldR
   rw [atName_no _ _ _ hmem]
  rw [HRR]
  have HFv : Hid (∀ W, Fv (fun b => S b ∨ (w.heap.size ≤ b ∧ b < W.heap.size)) m W (.func (.func 121) #[] #[]) (fun S0 W v t' => (v = .nilIface ∨ ∃ u x, v = .iface u x) ∧ NoneR m (Kd.kids b)[j] S0 W v t')) := fun W => fv_no _ m _ W
  clear HRR
  generalize (fun (S0 : Nat → Prop) (W : World) (v : Value) (t' : T m) => (v = .nilIface ∨ ∃ u x, v = .iface u x) ∧ NoneR m (Kd.kids b)[j] S0 W v t') = Rr at *
  have HF' := HF.out
  rw [← hs6] at HF'
  have h6N : ∀ k, ((w.alloc (.cells #[.pointer (some ⟨pa, 0, none⟩), .pointer (some ⟨pb, 0, none⟩), .string x] 67)).drewN k).cell? ⟨qb, 0, none⟩ = some (.int .i64 s6) := fun k => ((hbN k).cell (p := ⟨qb, 0, none⟩) hlqb).trans h6
  clear hm hT hga hgb hgka hgkb hka hkb hgB hra hrb hib eb hca hcb hpa hpb hmem hs8 hsm HF hs6 h6
  generalize fieldFits n (Kd.names a) (Kd.kids a) m (Kd.names b)[j] (Kd.kids b)[j] = r at *
  generalize (Kd.names b)[j] = s at *
  by_cases h66 : s6 = 6
  ·
   subst h66
   have HF : Hid (r = true) := HF'
   clear HF'
   go_enter Tryz.func101, Tryz.ntmps101
   go_wp2_with fail
   go_quiet (first | (go_at_call_of 96 (Value.pointer (some ⟨pa, 0, none⟩)); refine Calls.quiet_of_same (HFa.out _ (hbN _))) | (go_at_call_of 96 (Value.pointer (some ⟨pb, 0, none⟩)); refine Calls.quiet_of_same (HFb.out _ (hbN _))))
   have hbq := hbN nq
   have h6q := h6N nq
   go_wp2_with fail
   go_ret2
   exact ⟨hbq, .inl ⟨HF.out, .func 121, #[], #[], rfl, HFv.out _⟩⟩
  ·
   have HF : Hid (r = false) := HF'.trans (by simp [h66])
   have h6b : (s6 != 6) = true := by simp [h66]
   clear HF' h66
   go_enter Tryz.func101, Tryz.ntmps101
   go_wp2_with fail
   go_quiet (first | (go_at_call_of 96 (Value.pointer (some ⟨pa, 0, none⟩)); refine Calls.quiet_of_same (HFa.out _ (hbN _))) | (go_at_call_of 96 (Value.pointer (some ⟨pb, 0, none⟩)); refine Calls.quiet_of_same (HFb.out _ (hbN _))))
   have hbq := hbN nq
   have h6q := h6N nq
   go_wp2_with fail
   go_quiet (fail)
   go_wp2_with fail
   go_ret2
   exact ⟨below_drewN hbq _, .inr ⟨HF.out, _, rfl⟩⟩

end Go.Proofs.YtpalkdcgbbbmeaaGreatDoor

/-
 The program's widenings: the table is asked; any of its functions.
-/
namespace Go.Proofs.YtpalkdcgbbbmeaaGreatDoor
open Go.RowKit

set_option maxRecDepth 20000 in
set_option maxHeartbeats 1000000 in
theorem of_v (R pa pb i j N : Nat) (P : Value → Value → World → Prop) (x : ByteArray) (w : World) (h1 : 1 ≤ i) (h2 : i ≤ 6) (h3 : 1 ≤ j) (h4 : j ≤ 6) (eg : ∀ (args : Array Value) (W : World), (callFunc N args).run Tryz.prog W = .ok (.enter N args) W) (ha : w.cell? ⟨pa, 0, none⟩ = some (.int .i64 (i : Int))) (hb : w.cell? ⟨pb, 0, none⟩ = some (.int .i64 (j : Int))) (hT : w.cell? ⟨R, i * 7 + j, none⟩ = some (widF R N))
  (hla : pa < w.heap.size) (hlb : pb < w.heap.size) (hlR : R < w.heap.size)
  (hC : ∀ W, Below w.heap.size w W → Calls Tryz.prog N #[.pointer (some ⟨R, 0, none⟩), .agg #[.pointer (some ⟨pa, 0, none⟩), .pointer (some ⟨pb, 0, none⟩), .string x]] W fun e w' => Below W.heap.size W w' ∧ ∃ v u, e = .returned (.tuple #[v, u]) ∧ P v u w') :
  Calls Tryz.prog 38 #[.pointer (some ⟨R, 0, none⟩), .agg #[.pointer (some ⟨pa, 0, none⟩), .pointer (some ⟨pb, 0, none⟩), .string x]] w fun e w' => Below w.heap.size w w' ∧ ∃ v u, e = .returned (.tuple #[v, u]) ∧ P v u w' := by
 have hb0 : Below w.heap.size w (w.alloc (.cells #[.pointer (some ⟨pa, 0, none⟩), .pointer (some ⟨pb, 0, none⟩), .string x] 67)) := (Below.refl _ _).alloc (Nat.le_refl _) _
 have ha' := (hb0.cell (p := ⟨pa, 0, none⟩) hla).trans ha
 have hb' := (hb0.cell (p := ⟨pb, 0, none⟩) hlb).trans hb
 have hT' := (hb0.cell (p := ⟨R, i * 7 + j, none⟩) hlR).trans hT
 have hq1 := Tryz.wfunc_nil
 have hq2 := Tryz.wfunc_eq
 have hi7 : (i : Int) < 7 := by omega
 have hj7 : (j : Int) < 7 := by omega
 have HC := hidF hC
 clear ha hb hT hC
 unfold widF at hT'
 go_enter Tryz.func38, Tryz.ntmps38
 go_wp2_with fail
 go_quiet (fail)
 go_wp2_with fail
 refine (HC.out _ (below_drewN hb0 _)).mono ?_
 rintro e w2 ⟨hb2, v, u, rfl, hvu⟩
 have HB : Hid (Below w.heap.size w w2) := below_step (below_drewN hb0 _) (below_drewN hb0 _).size hb2
 have HVU : Hid (P v u w2) := hvu
 clear hvu hb2
 go_wp2_with fail
 go_ret2
 exact ⟨HB.out, v, u, rfl, HVU.out⟩

end Go.Proofs.YtpalkdcgbbbmeaaGreatDoor
