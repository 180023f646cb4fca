/-
  The program's widenings: what is made of a name of two forms, with what it does.
-/
import Derived.Test.YtpalkdcgbbbmeaaGreatDoorKX1
import Derived.Test.YtpalkdcgbbbmeaaGreatDoorKV6
import Derived.Deep.RegionLaw
import Derived.BigQuiet
namespace Go.Proofs.YtpalkdcgbbbmeaaGreatDoor
open Go.RowKit

set_option maxRecDepth 20000 in
set_option maxHeartbeats 4000000 in
theorem ofFields_v (m n : Nat) (hm : FitSaidV m) (S : Nat → Prop) (a : K (n + 1)) (b : K (m + 1)) (va vb : Value) (d d' : Int) (R : Nat) (x : ByteArray) (w : World) (ha : InnerK S w (n + 1) a va) (hb : InnerK S w (m + 1) b vb) (hB : ∀ b, S b → b < w.heap.size) (hT : TabW w R) (hR : R < w.heap.size)
    (hga : goodK (n + 1) a d = true) (hgb : goodK (m + 1) b d' = true) (hc40 : cntK (m + 1) b ≤ 40) (hd : 1 ≤ d') (hx : (x.size : Int) ≤ 20 * d') (sa : Kd.sort a = 5) (sb : Kd.sort b = 5) (j : Nat) (hj : j < (Kd.names b).length) (hj' : j < (Kd.kids b).length) :
    Calls Tryz.prog 101 #[.pointer (some ⟨R, 0, none⟩), .agg #[va, vb, .string x], .string (Kd.names b)[j]] w fun e w' => Below w.heap.size w w' ∧ EndV m (fieldFits n (Kd.names a) (Kd.kids a) m (Kd.names b)[j] (Kd.kids b)[j]) (FieldR n (Kd.names a) (Kd.kids a) m (Kd.names b)[j] (Kd.kids b)[j]) S w e w' := by
  have hd6 : d' ≤ 6 := by simp only [goodK, Bool.and_eq_true, decide_eq_true_eq] at hgb; exact hgb.1.1
  have hgka : ∀ k, k ∈ Kd.kids a → goodK n k (d + 1) = true := by simp only [goodK, Bool.and_eq_true] at hga; exact List.all_eq_true.1 hga.2
  have hgkb : ∀ k, k ∈ Kd.kids b → goodK m k (d' + 1) = true := by simp only [goodK, Bool.and_eq_true] at hgb; exact List.all_eq_true.1 hgb.2
  have hka : (Kd.names a).length = (Kd.kids a).length ∧ riseB (Kd.names a) = true := by
    rcases goodK_kids hga with ⟨h, -⟩ | ⟨h, -⟩ | ⟨-, h⟩
    · omega
    · omega
    · exact h
  have hkb : riseB (Kd.names b) = true := by
    rcases goodK_kids hgb with ⟨h, -⟩ | ⟨h, -⟩ | ⟨-, -, h⟩
    · omega
    · omega
    · exact h
  have hs8 := name_short hkb j hj
  have hsm : (Kd.names b)[j].size ≤ maxLen := by unfold maxLen; omega
  have hgB := hgkb _ (List.getElem_mem hj')
  have hcB := cnt_kid hc40 (List.getElem_mem hj')
  obtain ⟨pa, nva, pva, kva, rfl, hSa, hca, -, hpa, hra⟩ := ha
  obtain ⟨pb, nvb, pvb, kvb, rfl, hSb, hcb, -, hpb, hrb⟩ := hb
  have hpa := hpa sa
  have hpb := hpb sb
  obtain ⟨aob, capb, rfl, -, hrb⟩ := hrb
  obtain ⟨gb, ob, rfl, hSgb, hrb⟩ := hrb (by intro h; rw [h] at hj'; simp at hj')
  obtain ⟨cb, eb, hib⟩ := hrb j hj'
  obtain ⟨qb, rfl, hSqb⟩ := id hib.ptr
  have hla := hB pa hSa
  have hlb := hB pb hSb
  have hlgb := hB gb hSgb
  have hlqb := hB qb hSqb
  have HFb : Hid (∀ W, Below w.heap.size w W → Calls Tryz.prog 96 #[.pointer (some ⟨pb, 0, none⟩), .string (Kd.names b)[j]] W fun e w' => e = .returned (.pointer (some ⟨qb, 0, none⟩)) ∧ w' = W) := fun W hW =>
    field_yes S W (Kd.names b) pvb pb gb ob (Kd.kids b).length capb qb j ((hW.cell (p := ⟨pb, 2, none⟩) hlb).trans (by simp [World.cell?, hcb])) (hpb.keep (same_below hW hB) (fun _ h => h)) (asc_of _ hkb) hj hsm ((hW.cell (p := ⟨pb, 3, none⟩) hlb).trans (by simp [World.cell?, hcb])) hj' ((hW.cell (p := ⟨gb, ob + j, none⟩) hlgb).trans eb)
  have hb0 : Below w.heap.size w (w.alloc (.cells #[.pointer (some ⟨pa, 0, none⟩), .pointer (some ⟨pb, 0, none⟩), .string x] 67)) := (Below.refl _ _).alloc (Nat.le_refl _) _
  have hbN : ∀ k, Below w.heap.size w ((w.alloc (.cells #[.pointer (some ⟨pa, 0, none⟩), .pointer (some ⟨pb, 0, none⟩), .string x] 67)).drewN k) := fun k => below_drewN hb0 k
  by_cases hmem : (Kd.names b)[j] ∈ Kd.names a
  · obtain ⟨q, hq, heq⟩ := List.getElem_of_mem hmem
    have hqk : q < (Kd.kids a).length := by omega
    obtain ⟨aoa, capa, rfl, -, hra⟩ := hra
    obtain ⟨ga, oa, rfl, hSga, hra⟩ := hra (by intro h; rw [h] at hqk; simp at hqk)
    obtain ⟨ca, ea, hia⟩ := hra q hqk
    obtain ⟨qa, rfl, -⟩ := id hia.ptr
    have hlga := hB ga hSga
    have HFa : Hid (∀ W, Below w.heap.size w W → Calls Tryz.prog 96 #[.pointer (some ⟨pa, 0, none⟩), .string (Kd.names b)[j]] W fun e w' => e = .returned (.pointer (some ⟨qa, 0, none⟩)) ∧ w' = W) := fun W hW => by
      have := field_yes S W (Kd.names a) pva pa ga oa (Kd.kids a).length capa qa q ((hW.cell (p := ⟨pa, 2, none⟩) hla).trans (by simp [World.cell?, hca])) (hpa.keep (same_below hW hB) (fun _ h => h)) (asc_of _ hka.2) hq (by rw [heq]; exact hsm) ((hW.cell (p := ⟨pa, 3, none⟩) hla).trans (by simp [World.cell?, hca])) hqk ((hW.cell (p := ⟨ga, oa + q, none⟩) hlga).trans ea)
      rwa [heq] at this
    have HF : Hid (fieldFits n (Kd.names a) (Kd.kids a) m (Kd.names b)[j] (Kd.kids b)[j] = fitsK m (Kd.kids b)[j] n (Kd.kids a)[q]) := by
      show _ = _
      unfold fieldFits
      rw [← heq, atName_yes _ _ q hq hqk (asc_of _ hka.2)]
    have HOf : Hid (∀ W, Below w.heap.size w W → Calls Tryz.prog 38 #[.pointer (some ⟨R, 0, none⟩), .agg #[.pointer (some ⟨qa, 0, none⟩), .pointer (some ⟨qb, 0, none⟩), .string (pathTo x (Kd.names b)[j])]] W fun e w' => Below w.heap.size w w' ∧ EndV m (fitsK m (Kd.kids b)[j] n (Kd.kids a)[q]) (WidR m (Kd.kids b)[j] n (Kd.kids a)[q]) S w e w') := fun W hW =>
      (hm S n _ _ _ _ (d + 1) (d' + 1) R _ W (hia.keep (same_below hW hB) (fun _ h => h)) (hib.keep (same_below hW hB) (fun _ h => h)) (fun b hb => Nat.lt_of_lt_of_le (hB b hb) hW.size) (hT.keep (hW.block R hR)) (Nat.lt_of_lt_of_le hR hW.size) (hgka _ (List.getElem_mem hqk)) hgB hcB (by omega) (by rw [pathTo_size]; omega)).mono fun e w' h => ⟨below_step hW hW.size h.1, h.2.wide hW.size⟩
    have HBe : Hid (∀ W, Below w.heap.size w W → Calls Tryz.prog 98 #[.agg #[.pointer (some ⟨pa, 0, none⟩), .pointer (some ⟨pb, 0, none⟩), .string x], .string (Kd.names b)[j], .pointer (some ⟨qa, 0, none⟩), .pointer (some ⟨qb, 0, none⟩)] W fun e w' => e = .returned (.agg #[.pointer (some ⟨qa, 0, none⟩), .pointer (some ⟨qb, 0, none⟩), .string (pathTo x (Kd.names b)[j])]) ∧ Below w.heap.size w w') := fun W hW =>
      (below_any x _ _ _ _ _ W (by omega)).mono fun e w' h => ⟨h.1, below_step hW hW.size h.2⟩
    have HRR : FieldR n (Kd.names a) (Kd.kids a) m (Kd.names b)[j] (Kd.kids b)[j] = WidR m (Kd.kids b)[j] n (Kd.kids a)[q] := by
      funext S1 W1 v1 t1
      unfold FieldR
      rw [← heq, atName_yes _ _ q hq hqk (asc_of _ hka.2)]
    rw [HRR]
    clear hm hT hga hgb hgka hgkb hka hkb hgB hra hrb hia hib ea eb hca hcb hpa hpb hmem heq hs8 hsm HRR
    generalize WidR m (Kd.kids b)[j] n (Kd.kids a)[q] = Rr at *
    generalize fieldFits n (Kd.names a) (Kd.kids a) m (Kd.names b)[j] (Kd.kids b)[j] = r at *
    generalize pathTo x (Kd.names b)[j] = y at *
    generalize (Kd.names b)[j] = s at *
    have HF' := HF.out
    cases hfit : fitsK m (Kd.kids b)[j] n (Kd.kids a)[q]
    · have HOf : Hid (∀ W, Below w.heap.size w W → Calls Tryz.prog 38 #[.pointer (some ⟨R, 0, none⟩), .agg #[.pointer (some ⟨qa, 0, none⟩), .pointer (some ⟨qb, 0, none⟩), .string y]] W fun e w' => Below w.heap.size w w' ∧ ∃ z : ByteArray, e = .returned (.tuple #[.nilFunc, .iface 132 (.agg #[.string z])])) := fun W hW => (HOf.out W hW).mono fun e w' h => ⟨h.1, h.2.elim (fun h => by rw [hfit] at h; exact absurd h.1 (by simp)) (fun h => h.2)⟩
      have HF : Hid (r = false) := HF'.trans hfit
      clear hfit HF'
      go_enter Tryz.func101, Tryz.ntmps101
      go_wp2_with fail
      go_quiet (first | (go_at_call_of 96 (Value.pointer (some ⟨pa, 0, none⟩)); refine Calls.quiet_of_same (HFa.out _ (hbN _))) | (go_at_call_of 96 (Value.pointer (some ⟨pb, 0, none⟩)); refine Calls.quiet_of_same (HFb.out _ (hbN _))))
      have hbq := hbN nq
      have hbq' := hbq.drew
      go_wp2_with fail
      go_region_law (first
        | (go_simp; go_at_call 98; refine (HBe.out _ (by assumption)).mono ?_; rintro e w9 ⟨rfl, hb9⟩)
        | (go_simp; go_at_call 38; refine (HOf.out _ (by assumption)).mono ?_; rintro e w10 ⟨hb10, z, rfl⟩))
      all_goals
        go_wp2_with fail
        go_ret2
        exact ⟨hb10, .inr ⟨HF.out, _, rfl⟩⟩
    · have HOf : Hid (∀ W, Below w.heap.size w W → Calls Tryz.prog 38 #[.pointer (some ⟨R, 0, none⟩), .agg #[.pointer (some ⟨qa, 0, none⟩), .pointer (some ⟨qb, 0, none⟩), .string y]] W fun e w' => Below w.heap.size w w' ∧ ∃ fn first cap, e = .returned (.tuple #[.func fn first cap, .nilIface]) ∧ Hid (Fv (fun b => S b ∨ (w.heap.size ≤ b ∧ b < w'.heap.size)) m w' (.func fn first cap) Rr)) := fun W hW => (HOf.out W hW).mono fun e w' h => ⟨h.1, h.2.elim (fun h => h.2) (fun h => by rw [hfit] at h; exact absurd h.1 (by simp))⟩
      have HF : Hid (r = true) := HF'.trans hfit
      clear hfit HF'
      go_enter Tryz.func101, Tryz.ntmps101
      go_wp2_with fail
      go_quiet (first | (go_at_call_of 96 (Value.pointer (some ⟨pa, 0, none⟩)); refine Calls.quiet_of_same (HFa.out _ (hbN _))) | (go_at_call_of 96 (Value.pointer (some ⟨pb, 0, none⟩)); refine Calls.quiet_of_same (HFb.out _ (hbN _))))
      have hbq := hbN nq
      have hbq' := hbq.drew
      go_wp2_with fail
      go_region_law (first
        | (go_simp; go_at_call 98; refine (HBe.out _ (by assumption)).mono ?_; rintro e w9 ⟨rfl, hb9⟩)
        | (go_simp; go_at_call 38; refine (HOf.out _ (by assumption)).mono ?_; rintro e w10 ⟨hb10, fn, first, cap, rfl, hF10⟩))
      all_goals
        go_wp2_with fail
        go_ret2
        exact ⟨hb10, .inl ⟨HF.out, _, _, _, rfl, hF10.out⟩⟩
  · have HFa : Hid (∀ W, Below w.heap.size w W → Calls Tryz.prog 96 #[.pointer (some ⟨pa, 0, none⟩), .string (Kd.names b)[j]] W fun e w' => e = .returned (.pointer none) ∧ w' = W) := fun W hW =>
      field_no S W (Kd.names a) pva pa _ ((hW.cell (p := ⟨pa, 2, none⟩) hla).trans (by simp [World.cell?, hca])) (hpa.keep (same_below hW hB) (fun _ h => h)) hmem hsm
    have HF : Hid (fieldFits n (Kd.names a) (Kd.kids a) m (Kd.names b)[j] (Kd.kids b)[j] = (srtK m (Kd.kids b)[j] == 6)) := by
      show _ = _
      unfold fieldFits
      rw [atName_no _ _ _ hmem]
    obtain ⟨s6, h6, hs6⟩ : ∃ s6, w.cell? ⟨qb, 0, none⟩ = some (.int .i64 s6) ∧ s6 = srtK m (Kd.kids b)[j] := by
      cases m with
      | zero => exact hib.elim
      | succ m =>
        obtain ⟨bb, nv, pv, kv, hv, -, hcell, -⟩ := hib
        cases hv
        exact ⟨Kd.sort (Kd.kids b)[j], zeroD_W4 hcell, rfl⟩
    have HRR : FieldR n (Kd.names a) (Kd.kids a) m (Kd.names b)[j] (Kd.kids b)[j] = fun S0 W v t' => (v = .nilIface ∨ ∃ u x, v = .iface u x) ∧ NoneR m (Kd.kids b)[j] S0 W v t' := by
      funext S1 W1 v1 t1
      unfold FieldR
      rw [atName_no _ _ _ hmem]
    rw [HRR]
    have HFv : Hid (∀ W, Fv (fun b => S b ∨ (w.heap.size ≤ b ∧ b < W.heap.size)) m W (.func (.func 121) #[] #[]) (fun S0 W v t' => (v = .nilIface ∨ ∃ u x, v = .iface u x) ∧ NoneR m (Kd.kids b)[j] S0 W v t')) := fun W => fv_no _ m _ W
    clear HRR
    generalize (fun (S0 : Nat → Prop) (W : World) (v : Value) (t' : T m) => (v = .nilIface ∨ ∃ u x, v = .iface u x) ∧ NoneR m (Kd.kids b)[j] S0 W v t') = Rr at *
    have HF' := HF.out
    rw [← hs6] at HF'
    have h6N : ∀ k, ((w.alloc (.cells #[.pointer (some ⟨pa, 0, none⟩), .pointer (some ⟨pb, 0, none⟩), .string x] 67)).drewN k).cell? ⟨qb, 0, none⟩ = some (.int .i64 s6) := fun k => ((hbN k).cell (p := ⟨qb, 0, none⟩) hlqb).trans h6
    clear hm hT hga hgb hgka hgkb hka hkb hgB hra hrb hib eb hca hcb hpa hpb hmem hs8 hsm HF hs6 h6
    generalize fieldFits n (Kd.names a) (Kd.kids a) m (Kd.names b)[j] (Kd.kids b)[j] = r at *
    generalize (Kd.names b)[j] = s at *
    by_cases h66 : s6 = 6
    · subst h66
      have HF : Hid (r = true) := HF'
      clear HF'
      go_enter Tryz.func101, Tryz.ntmps101
      go_wp2_with fail
      go_quiet (first | (go_at_call_of 96 (Value.pointer (some ⟨pa, 0, none⟩)); refine Calls.quiet_of_same (HFa.out _ (hbN _))) | (go_at_call_of 96 (Value.pointer (some ⟨pb, 0, none⟩)); refine Calls.quiet_of_same (HFb.out _ (hbN _))))
      have hbq := hbN nq
      have h6q := h6N nq
      go_wp2_with fail
      go_ret2
      exact ⟨hbq, .inl ⟨HF.out, .func 121, #[], #[], rfl, HFv.out _⟩⟩
    · have HF : Hid (r = false) := HF'.trans (by simp [h66])
      have h6b : (s6 != 6) = true := by simp [h66]
      clear HF' h66
      go_enter Tryz.func101, Tryz.ntmps101
      go_wp2_with fail
      go_quiet (first | (go_at_call_of 96 (Value.pointer (some ⟨pa, 0, none⟩)); refine Calls.quiet_of_same (HFa.out _ (hbN _))) | (go_at_call_of 96 (Value.pointer (some ⟨pb, 0, none⟩)); refine Calls.quiet_of_same (HFb.out _ (hbN _))))
      have hbq := hbN nq
      have h6q := h6N nq
      go_wp2_with fail
      go_quiet (fail)
      go_wp2_with fail
      go_ret2
      exact ⟨below_drewN hbq _, .inr ⟨HF.out, _, rfl⟩⟩

end Go.Proofs.YtpalkdcgbbbmeaaGreatDoor
