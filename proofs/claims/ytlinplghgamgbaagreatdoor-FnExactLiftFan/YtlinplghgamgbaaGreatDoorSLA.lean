/-
  The specification on upcasters' nodes: how long the texts of ops with a word are; l11Text, l11Is, LiftOk.
-/
import Derived.Test.YtlinplghgamgbaaGreatDoorSL8
import Derived.Test.YtlinplghgamgbaaGreatDoorB25
namespace Go.Proofs.YtlinplghgamgbaaGreatDoor
open Go.RowKit

set_option maxRecDepth 20000 in
set_option maxHeartbeats 4000000 in
theorem textS_op (m : Nat) (hn : TextS m) (S : Nat → Prop) (n : Nd (T m)) (na ka : Option Addr) (nc kc k : Nat) (d : Int) (w : World) (hk44 : k < 44) (hk5 : 5 ≤ k) (h24 : k ≠ 24) (hB : ∀ b, S b → b < w.heap.size) (h3 : StrsIn S w n.names (.slice na n.names.length nc)) (h4 : RowIn S w (NodeIn S w m) n.kids (.slice ka n.kids.length kc))
    (hg : n.kids.all (fun x => goodN m x d) = true) (hnum : (k = 37 ∨ k = 39) → 0 ≤ n.num ∧ n.num ≤ 99)
    (hl : (wrd k).size + szN n.names + (if n.text.size = 0 then 0 else n.text.size + 1) + (if k = 37 ∨ k = 39 then (Lib.itoa n.num).length + 1 else 0) + sumL (fun x => lenN m x + 1) n.kids ≤ 800000) :
    Calls Tryz.prog 29 #[.agg #[.int .i64 (k : Int), .int .i64 n.num, .string n.text, .slice na n.names.length nc, .slice ka n.kids.length kc]] w fun e w' => Below w.heap.size w w' ∧ ∃ s, e = .returned (.string s) ∧ s.size = (wrd k).size + szN n.names + (if n.text.size = 0 then 0 else n.text.size + 1) + (if k = 37 ∨ k = 39 then (Lib.itoa n.num).length + 1 else 0) + sumL (fun x => lenN m x + 1) n.kids := by
  obtain ⟨W, hW⟩ : ∃ W, W = w.alloc (.cells #[.int .i64 (k : Int), .int .i64 n.num, .string n.text, .slice na n.names.length nc, .slice ka n.kids.length kc] 30) := ⟨_, rfl⟩
  have hbW : Below w.heap.size w W := by rw [hW]; exact (Below.refl _ _).alloc (Nat.le_refl _) _
  have hzW : w.heap.size < W.heap.size := by rw [hW]; simp
  have hbox : W.heap[w.heap.size]? = some (.cells #[.int .i64 (k : Int), .int .i64 n.num, .string n.text, .slice na n.names.length nc, .slice ka n.kids.length kc] 30 (0, 0)) := by rw [hW]; exact heap_alloc_last _ _
  obtain ⟨_, _, hv, hl3, hs3, hc3⟩ := h3.keep (same_below hbW hB) (fun _ h => h)
  cases hv
  obtain ⟨_, _, hv, hl4, hc4⟩ := h4.keepN (same_below hbW hB) (fun _ h => h)
  cases hv
  have HG : Hid (∀ k (h : k < n.kids.length), goodN m n.kids[k] d = true) := fun k h => List.all_eq_true.1 hg _ (List.getElem_mem h)
  have HWd : Hid (∀ w, Calls Tryz.prog 37 #[.int .i64 (k : Int)] w _) := fun w => l11Word_any k hk44 w
  have d1 : ((k : Int) == 1) = false := by simp; omega
  have d2 : ((k : Int) == 2) = false := by simp; omega
  have d3 : ((k : Int) == 3) = false := by simp; omega
  have d4 : ((k : Int) == 4) = false := by simp; omega
  have d24 : ((k : Int) == 24) = false := by simp; omega
  obtain ⟨A, hA⟩ : ∃ A, A = (wrd k).size := ⟨_, rfl⟩
  obtain ⟨Bx, hBx⟩ : ∃ Bx, Bx = (if n.text.size = 0 then 0 else n.text.size + 1) := ⟨_, rfl⟩
  obtain ⟨C, hC⟩ : ∃ C, C = (if k = 37 ∨ k = 39 then (Lib.itoa n.num).length + 1 else 0) := ⟨_, rfl⟩
  rw [← hA, ← hBx, ← hC] at hl ⊢
  have HA := hidF hA
  have HBx := hidF hBx
  have HCx := hidF hC
  have HL := hidF hl
  have HBW := hidF hbW
  have HNum := hidF hnum
  have HBox := hidF hbox
  unfold maxLen at hl3 hl4
  clear hg hl h3 h4 hbW hA hBx hC hnum hbox h24
  subst hW
  go_enter Tryz.func29, Tryz.ntmps29
  go_wp2_with fail
  refine (HWd.out _).mono ?_
  rintro e w1 ⟨rfl, hb1⟩
  have HW1 := hidF hb1
  have HS0 : Hid ((wrd k).size = A) := HA.out.symm
  clear hb1 HWd
  generalize wrd k = s0 at *
  go_wp2_with fail
  go_loopw [5, 6] (fun a i wr => ∃ (j : Nat) (s : ByteArray), j ≤ n.names.length ∧ i = .int .i64 j ∧ a = .string s ∧ Hid (s.size = A + szN (n.names.take j)) ∧ Below (w.heap.size + 1) (w.alloc (.cells #[.int .i64 (k : Int), .int .i64 n.num, .string n.text, .slice na n.names.length nc, .slice ka n.kids.length kc] 30)) wr) (fun _ i _ => n.names.length - (intOf i).toNat)
  case atStart => exact ⟨0, s0, Nat.zero_le _, rfl, rfl, by show _ = _; rw [HS0.out]; simp [szN], by have := HW1.out; simpa using this⟩
  case round =>
    obtain ⟨j, s, hj, rfl, rfl, HS, hwr⟩ := hrel
    obtain ⟨z0, z1, z2, z3, z4⟩ := five_of ((hwr.block w.heap.size (by omega)).trans HBox.out)
    by_cases hlt : j < n.names.length
    · obtain ⟨b, off, rfl, hSb, hcell⟩ := hc3 (by intro h; rw [h] at hlt; simp at hlt)
      have hbb := hB b hSb
      have e0 := (hwr.cell (p := ⟨b, off + j, none⟩) (by show b < _; omega)).trans (hcell j hlt)
      have HN : Hid (szN (n.names.take (j + 1)) = szN (n.names.take j) + (n.names[j].size + 1)) := szN_take_succ _ _ hlt
      have hbd : s.size + n.names[j].size + 1 ≤ 900000 := by
        have h1 := szN_take_le n.names (j + 1)
        have h3 := HL.out
        rw [HN.out] at h1
        rw [HS.out]; omega
      have HWr := hidF hwr
      clear hcell hwr
      generalize n.names[j] = nm at *
      have HS2 : Hid (((s ++ ⟨#[32]⟩) ++ nm).size = A + szN (n.names.take (j + 1))) := by
        show _ = _
        rw [HN.out, app_size, app_size, HS.out]
        show _ + 1 + _ = _
        omega
      go_wp2_with fail
      go_roundw
      case rel => exact ⟨j + 1, _, by omega, by go_num, rfl, HS2, HWr.out⟩
      case measure => simp [intOf]; omega
    · have hjl : j = n.names.length := by omega
      have HSn : Hid (s.size = A + szN n.names) := by
        show _ = _
        have := HS.out
        rw [hjl, List.take_length] at this
        exact this
      have hbd : s.size ≤ 800000 := by rw [HSn.out]; have := HL.out; omega
      clear hjl hc3 hs3 HS
      have HWr := hidF hwr
      have hz := hwr.size
      simp at hz
      clear hwr
      have hB9 : s.size + Bx + C ≤ 800000 := by rw [HSn.out]; have := HL.out; omega
      by_cases ht : n.text.size = 0
      · by_cases hnm : k = 37 ∨ k = 39
        · have ht1 : n.text.toList = [] := by rw [ByteArray.toList_eq]; exact List.eq_nil_of_length_eq_zero (by simpa using ht)
          have ht2 : (n.text.toList == []) = true := by rw [ht1]; rfl
          have hb1 : Bx = 0 := by rw [HBx.out, if_pos ht]
          have hnn := HNum.out hnm
          obtain ⟨x, hx⟩ : ∃ x : Nat, n.num = (x : Int) := ⟨n.num.toNat, by omega⟩
          have hc1 : C = (Lib.decDigits x).length + 1 := by
            rw [HCx.out, if_pos hnm]
            unfold Lib.itoa
            rw [if_neg (by omega), show n.num.toNat = x by omega]
          have HD : Hid (∀ w, Calls Tryz.prog 38 #[.int .i64 (x : Int)] w _) := fun w => l6Dec_nat x x w (Nat.le_refl _) (by omega)
          rw [hx] at z1
          have HDs : Hid ((bs (Lib.decDigits x)).size + 1 = C) := by show _ = _; rw [bs_size]; omega
          generalize bs (Lib.decDigits x) = sd at *
          have hsd : sd.size ≤ 900000 := by have := HDs.out; have := HL.out; omega
          clear hc1 hnn
          have d37 : (((k : Int) == 37) || ((k : Int) == 39)) = true := by rcases hnm with h | h <;> simp [h]
          clear d37
          rcases hnm with h37 | h37
          · have d37 : ((k : Int) == 37) = true := by simp [h37]
            clear h37
            go_wp2_with fail
            refine (HD.out _).mono ?_
            rintro e w5 ⟨rfl, hb5⟩
            have HWX : Hid (Below (w.heap.size + 1) _ w5) := HWr.out.trans (hb5.mono hz)
            have HSX : Hid (((s ++ ⟨#[32]⟩) ++ sd).size = A + szN n.names + Bx + C) := by
              show _ = _
              rw [app_size, app_size, HSn.out, hb1, ← HDs.out]; show _ + 1 + _ = _; omega
            clear hb5 HD ht1 hb1 ht
            go_wp2_with fail
            go_loopw [5, 7] (fun a i wr => ∃ (j : Nat) (s : ByteArray), j ≤ n.kids.length ∧ i = .int .i64 j ∧ a = .string s ∧ Hid (s.size = A + szN n.names + Bx + C + sumL (fun x => lenN m x + 1) (n.kids.take j)) ∧ Below (w.heap.size + 1) (w.alloc (.cells #[.int .i64 (k : Int), .int .i64 n.num, .string n.text, .slice na n.names.length nc, .slice ka n.kids.length kc] 30)) wr) (fun _ i _ => n.kids.length - (intOf i).toNat)
            case atStart => exact ⟨0, ((s ++ ⟨#[32]⟩) ++ sd), Nat.zero_le _, rfl, rfl, by show _ = _; rw [HSX.out]; simp [sumL], HWX.out⟩
            case round =>
              obtain ⟨j, s, hj, rfl, rfl, HS, hwr⟩ := hrel
              obtain ⟨z0, z1, z2, z3, z4⟩ := five_of ((hwr.block w.heap.size (by omega)).trans HBox.out)
              have hz := hwr.size
              simp at hz
              by_cases hlt : j < n.kids.length
              · obtain ⟨b2, off2, rfl, hSb2, hcell2⟩ := hc4 (by intro h; have := List.length_eq_zero_iff.2 h; omega)
                have hbb2 := hB b2 hSb2
                obtain ⟨d0, d1', d2', d3', d4', k0, k1, k2, k3, k4, hin⟩ := hcell2 j hlt
                obtain ⟨x0, x1, x2, xa, xl, xc, ya, yl, yc, rfl, rfl, rfl, rfl, rfl⟩ := hin.shape
                have f0 := (hwr.cell (p := ⟨b2, off2 + j * 5, none⟩) (by show b2 < _; omega)).trans k0
                have f1 := (hwr.cell (p := ⟨b2, off2 + j * 5 + 1, none⟩) (by show b2 < _; omega)).trans k1
                have f2 := (hwr.cell (p := ⟨b2, off2 + j * 5 + 2, none⟩) (by show b2 < _; omega)).trans k2
                have f3 := (hwr.cell (p := ⟨b2, off2 + j * 5 + 3, none⟩) (by show b2 < _; omega)).trans k3
                have f4 := (hwr.cell (p := ⟨b2, off2 + j * 5 + 4, none⟩) (by show b2 < _; omega)).trans k4
                have HN : Hid (sumL (fun x => lenN m x + 1) (n.kids.take (j + 1)) = sumL (fun x => lenN m x + 1) (n.kids.take j) + (lenN m n.kids[j] + 1)) := sumL_take_succ _ _ _ hlt
                have hbd : s.size + lenN m n.kids[j] + 1 ≤ 800000 := by
                  have h2 := sumL_take_le (fun x => lenN m x + 1) n.kids (j + 1)
                  have h3 := HL.out
                  rw [HN.out] at h2
                  rw [HS.out]; omega
                have HC : Hid (Calls Tryz.prog 29 _ wr _) := hn S n.kids[j] _ _ _ _ _ d wr (hin.keep (same_below hwr (fun b hb => by have := hB b hb; omega)) (fun _ h => h)) (fun b hb => by have := hB b hb; omega) (HG.out j hlt) (by omega)
                have HWr := hidF hwr
                have hji : (j : Int) < (n.kids.length : Int) := by omega
                clear hcell2 hin k0 k1 k2 k3 k4 hwr
                generalize lenN m n.kids[j] = lk at *
                go_wp2_with fail
                refine HC.out.mono ?_
                rintro e w2 ⟨hb2, s2, rfl, hs2⟩
                have HB2 : Hid (Below (w.heap.size + 1) _ w2) := HWr.out.trans (hb2.mono hz)
                have HS2 : Hid (((s ++ ⟨#[32]⟩) ++ s2).size = A + szN n.names + Bx + C + sumL (fun x => lenN m x + 1) (n.kids.take (j + 1))) := by
                  show _ = _
                  rw [HN.out, app_size, app_size, HS.out, hs2]
                  show _ + 1 + _ = _
                  omega
                clear hb2 HC f0 f1 f2 f3 f4 z0 z1 z2 z3 z4
                go_wp2_with fail
                go_roundw
                case rel => exact ⟨j + 1, _, by omega, by go_num, rfl, HS2, HB2.out⟩
                case measure => simp [intOf]; omega
              · have hjl : j = n.kids.length := by omega
                have HE : Hid (s.size = A + szN n.names + Bx + C + sumL (fun x => lenN m x + 1) n.kids) := by
                  show _ = _
                  have := HS.out
                  rw [hjl, List.take_length] at this
                  exact this
                have HB := hidF (HBW.out.trans (hwr.mono (by omega)))
                clear hc4 hjl hwr HS
                go_wp2_with fail
                go_ret
                exact ⟨HB.out, _, rfl, HE.out⟩
          · have d37 : ((k : Int) == 37) = false := by simp [h37]
            have d39 : ((k : Int) == 39) = true := by simp [h37]
            clear h37
            go_wp2_with fail
            refine (HD.out _).mono ?_
            rintro e w5 ⟨rfl, hb5⟩
            have HWX : Hid (Below (w.heap.size + 1) _ w5) := HWr.out.trans (hb5.mono hz)
            have HSX : Hid (((s ++ ⟨#[32]⟩) ++ sd).size = A + szN n.names + Bx + C) := by
              show _ = _
              rw [app_size, app_size, HSn.out, hb1, ← HDs.out]; show _ + 1 + _ = _; omega
            clear hb5 HD ht1 hb1 ht
            go_wp2_with fail
            go_loopw [5, 7] (fun a i wr => ∃ (j : Nat) (s : ByteArray), j ≤ n.kids.length ∧ i = .int .i64 j ∧ a = .string s ∧ Hid (s.size = A + szN n.names + Bx + C + sumL (fun x => lenN m x + 1) (n.kids.take j)) ∧ Below (w.heap.size + 1) (w.alloc (.cells #[.int .i64 (k : Int), .int .i64 n.num, .string n.text, .slice na n.names.length nc, .slice ka n.kids.length kc] 30)) wr) (fun _ i _ => n.kids.length - (intOf i).toNat)
            case atStart => exact ⟨0, ((s ++ ⟨#[32]⟩) ++ sd), Nat.zero_le _, rfl, rfl, by show _ = _; rw [HSX.out]; simp [sumL], HWX.out⟩
            case round =>
              obtain ⟨j, s, hj, rfl, rfl, HS, hwr⟩ := hrel
              obtain ⟨z0, z1, z2, z3, z4⟩ := five_of ((hwr.block w.heap.size (by omega)).trans HBox.out)
              have hz := hwr.size
              simp at hz
              by_cases hlt : j < n.kids.length
              · obtain ⟨b2, off2, rfl, hSb2, hcell2⟩ := hc4 (by intro h; have := List.length_eq_zero_iff.2 h; omega)
                have hbb2 := hB b2 hSb2
                obtain ⟨d0, d1', d2', d3', d4', k0, k1, k2, k3, k4, hin⟩ := hcell2 j hlt
                obtain ⟨x0, x1, x2, xa, xl, xc, ya, yl, yc, rfl, rfl, rfl, rfl, rfl⟩ := hin.shape
                have f0 := (hwr.cell (p := ⟨b2, off2 + j * 5, none⟩) (by show b2 < _; omega)).trans k0
                have f1 := (hwr.cell (p := ⟨b2, off2 + j * 5 + 1, none⟩) (by show b2 < _; omega)).trans k1
                have f2 := (hwr.cell (p := ⟨b2, off2 + j * 5 + 2, none⟩) (by show b2 < _; omega)).trans k2
                have f3 := (hwr.cell (p := ⟨b2, off2 + j * 5 + 3, none⟩) (by show b2 < _; omega)).trans k3
                have f4 := (hwr.cell (p := ⟨b2, off2 + j * 5 + 4, none⟩) (by show b2 < _; omega)).trans k4
                have HN : Hid (sumL (fun x => lenN m x + 1) (n.kids.take (j + 1)) = sumL (fun x => lenN m x + 1) (n.kids.take j) + (lenN m n.kids[j] + 1)) := sumL_take_succ _ _ _ hlt
                have hbd : s.size + lenN m n.kids[j] + 1 ≤ 800000 := by
                  have h2 := sumL_take_le (fun x => lenN m x + 1) n.kids (j + 1)
                  have h3 := HL.out
                  rw [HN.out] at h2
                  rw [HS.out]; omega
                have HC : Hid (Calls Tryz.prog 29 _ wr _) := hn S n.kids[j] _ _ _ _ _ d wr (hin.keep (same_below hwr (fun b hb => by have := hB b hb; omega)) (fun _ h => h)) (fun b hb => by have := hB b hb; omega) (HG.out j hlt) (by omega)
                have HWr := hidF hwr
                have hji : (j : Int) < (n.kids.length : Int) := by omega
                clear hcell2 hin k0 k1 k2 k3 k4 hwr
                generalize lenN m n.kids[j] = lk at *
                go_wp2_with fail
                refine HC.out.mono ?_
                rintro e w2 ⟨hb2, s2, rfl, hs2⟩
                have HB2 : Hid (Below (w.heap.size + 1) _ w2) := HWr.out.trans (hb2.mono hz)
                have HS2 : Hid (((s ++ ⟨#[32]⟩) ++ s2).size = A + szN n.names + Bx + C + sumL (fun x => lenN m x + 1) (n.kids.take (j + 1))) := by
                  show _ = _
                  rw [HN.out, app_size, app_size, HS.out, hs2]
                  show _ + 1 + _ = _
                  omega
                clear hb2 HC f0 f1 f2 f3 f4 z0 z1 z2 z3 z4
                go_wp2_with fail
                go_roundw
                case rel => exact ⟨j + 1, _, by omega, by go_num, rfl, HS2, HB2.out⟩
                case measure => simp [intOf]; omega
              · have hjl : j = n.kids.length := by omega
                have HE : Hid (s.size = A + szN n.names + Bx + C + sumL (fun x => lenN m x + 1) n.kids) := by
                  show _ = _
                  have := HS.out
                  rw [hjl, List.take_length] at this
                  exact this
                have HB := hidF (HBW.out.trans (hwr.mono (by omega)))
                clear hc4 hjl hwr HS
                go_wp2_with fail
                go_ret
                exact ⟨HB.out, _, rfl, HE.out⟩
        · have ht1 : n.text.toList = [] := by rw [ByteArray.toList_eq]; exact List.eq_nil_of_length_eq_zero (by simpa using ht)
          have ht2 : (n.text.toList == []) = true := by rw [ht1]; rfl
          have hb1 : Bx = 0 := by rw [HBx.out, if_pos ht]
          have hc1 : C = 0 := by rw [HCx.out, if_neg hnm]
          have d37 : ((k : Int) == 37) = false := by simp; omega
          have d39 : ((k : Int) == 39) = false := by simp; omega
          have HSX : Hid (s.size = A + szN n.names + Bx + C) := by
            show _ = _
            rw [HSn.out, hb1, hc1]; omega
          have HWX := HWr
          clear ht1 hb1 hc1 ht hnm
          go_wp2_with fail
          go_loopw [5, 7] (fun a i wr => ∃ (j : Nat) (s : ByteArray), j ≤ n.kids.length ∧ i = .int .i64 j ∧ a = .string s ∧ Hid (s.size = A + szN n.names + Bx + C + sumL (fun x => lenN m x + 1) (n.kids.take j)) ∧ Below (w.heap.size + 1) (w.alloc (.cells #[.int .i64 (k : Int), .int .i64 n.num, .string n.text, .slice na n.names.length nc, .slice ka n.kids.length kc] 30)) wr) (fun _ i _ => n.kids.length - (intOf i).toNat)
          case atStart => exact ⟨0, s, Nat.zero_le _, rfl, rfl, by show _ = _; rw [HSX.out]; simp [sumL], HWX.out⟩
          case round =>
            obtain ⟨j, s, hj, rfl, rfl, HS, hwr⟩ := hrel
            obtain ⟨z0, z1, z2, z3, z4⟩ := five_of ((hwr.block w.heap.size (by omega)).trans HBox.out)
            have hz := hwr.size
            simp at hz
            by_cases hlt : j < n.kids.length
            · obtain ⟨b2, off2, rfl, hSb2, hcell2⟩ := hc4 (by intro h; have := List.length_eq_zero_iff.2 h; omega)
              have hbb2 := hB b2 hSb2
              obtain ⟨d0, d1', d2', d3', d4', k0, k1, k2, k3, k4, hin⟩ := hcell2 j hlt
              obtain ⟨x0, x1, x2, xa, xl, xc, ya, yl, yc, rfl, rfl, rfl, rfl, rfl⟩ := hin.shape
              have f0 := (hwr.cell (p := ⟨b2, off2 + j * 5, none⟩) (by show b2 < _; omega)).trans k0
              have f1 := (hwr.cell (p := ⟨b2, off2 + j * 5 + 1, none⟩) (by show b2 < _; omega)).trans k1
              have f2 := (hwr.cell (p := ⟨b2, off2 + j * 5 + 2, none⟩) (by show b2 < _; omega)).trans k2
              have f3 := (hwr.cell (p := ⟨b2, off2 + j * 5 + 3, none⟩) (by show b2 < _; omega)).trans k3
              have f4 := (hwr.cell (p := ⟨b2, off2 + j * 5 + 4, none⟩) (by show b2 < _; omega)).trans k4
              have HN : Hid (sumL (fun x => lenN m x + 1) (n.kids.take (j + 1)) = sumL (fun x => lenN m x + 1) (n.kids.take j) + (lenN m n.kids[j] + 1)) := sumL_take_succ _ _ _ hlt
              have hbd : s.size + lenN m n.kids[j] + 1 ≤ 800000 := by
                have h2 := sumL_take_le (fun x => lenN m x + 1) n.kids (j + 1)
                have h3 := HL.out
                rw [HN.out] at h2
                rw [HS.out]; omega
              have HC : Hid (Calls Tryz.prog 29 _ wr _) := hn S n.kids[j] _ _ _ _ _ d wr (hin.keep (same_below hwr (fun b hb => by have := hB b hb; omega)) (fun _ h => h)) (fun b hb => by have := hB b hb; omega) (HG.out j hlt) (by omega)
              have HWr := hidF hwr
              have hji : (j : Int) < (n.kids.length : Int) := by omega
              clear hcell2 hin k0 k1 k2 k3 k4 hwr
              generalize lenN m n.kids[j] = lk at *
              go_wp2_with fail
              refine HC.out.mono ?_
              rintro e w2 ⟨hb2, s2, rfl, hs2⟩
              have HB2 : Hid (Below (w.heap.size + 1) _ w2) := HWr.out.trans (hb2.mono hz)
              have HS2 : Hid (((s ++ ⟨#[32]⟩) ++ s2).size = A + szN n.names + Bx + C + sumL (fun x => lenN m x + 1) (n.kids.take (j + 1))) := by
                show _ = _
                rw [HN.out, app_size, app_size, HS.out, hs2]
                show _ + 1 + _ = _
                omega
              clear hb2 HC f0 f1 f2 f3 f4 z0 z1 z2 z3 z4
              go_wp2_with fail
              go_roundw
              case rel => exact ⟨j + 1, _, by omega, by go_num, rfl, HS2, HB2.out⟩
              case measure => simp [intOf]; omega
            · have hjl : j = n.kids.length := by omega
              have HE : Hid (s.size = A + szN n.names + Bx + C + sumL (fun x => lenN m x + 1) n.kids) := by
                show _ = _
                have := HS.out
                rw [hjl, List.take_length] at this
                exact this
              have HB := hidF (HBW.out.trans (hwr.mono (by omega)))
              clear hc4 hjl hwr HS
              go_wp2_with fail
              go_ret
              exact ⟨HB.out, _, rfl, HE.out⟩
      · by_cases hnm : k = 37 ∨ k = 39
        · have ht1 : ¬ n.text.toList = [] := by
            rw [ByteArray.toList_eq]; intro e; exact ht (by have h1 : n.text.data.toList.length = 0 := by rw [e]; rfl
                                                            simpa using h1)
          have ht2 : (n.text.toList == []) = false := by simpa using ht1
          have hb1 : Bx = n.text.size + 1 := by rw [HBx.out, if_neg ht]
          have hbt : s.size + n.text.size + 1 ≤ 800000 := by omega
          have hnn := HNum.out hnm
          obtain ⟨x, hx⟩ : ∃ x : Nat, n.num = (x : Int) := ⟨n.num.toNat, by omega⟩
          have hc1 : C = (Lib.decDigits x).length + 1 := by
            rw [HCx.out, if_pos hnm]
            unfold Lib.itoa
            rw [if_neg (by omega), show n.num.toNat = x by omega]
          have HD : Hid (∀ w, Calls Tryz.prog 38 #[.int .i64 (x : Int)] w _) := fun w => l6Dec_nat x x w (Nat.le_refl _) (by omega)
          rw [hx] at z1
          have HDs : Hid ((bs (Lib.decDigits x)).size + 1 = C) := by show _ = _; rw [bs_size]; omega
          generalize bs (Lib.decDigits x) = sd at *
          have hsd : sd.size ≤ 900000 := by have := HDs.out; have := HL.out; omega
          clear hc1 hnn
          have d37 : (((k : Int) == 37) || ((k : Int) == 39)) = true := by rcases hnm with h | h <;> simp [h]
          clear d37
          rcases hnm with h37 | h37
          · have d37 : ((k : Int) == 37) = true := by simp [h37]
            clear h37
            go_wp2_with fail
            refine (HD.out _).mono ?_
            rintro e w5 ⟨rfl, hb5⟩
            have HWX : Hid (Below (w.heap.size + 1) _ w5) := HWr.out.trans (hb5.mono hz)
            have HSX : Hid (((((s ++ ⟨#[32]⟩) ++ n.text) ++ ⟨#[32]⟩) ++ sd).size = A + szN n.names + Bx + C) := by
              show _ = _
              rw [app_size, app_size, app_size, app_size, HSn.out, hb1, ← HDs.out]; show _ + 1 + _ + 1 + _ = _; omega
            clear hb5 HD hb1 ht
            go_wp2_with fail
            go_loopw [5, 7] (fun a i wr => ∃ (j : Nat) (s : ByteArray), j ≤ n.kids.length ∧ i = .int .i64 j ∧ a = .string s ∧ Hid (s.size = A + szN n.names + Bx + C + sumL (fun x => lenN m x + 1) (n.kids.take j)) ∧ Below (w.heap.size + 1) (w.alloc (.cells #[.int .i64 (k : Int), .int .i64 n.num, .string n.text, .slice na n.names.length nc, .slice ka n.kids.length kc] 30)) wr) (fun _ i _ => n.kids.length - (intOf i).toNat)
            case atStart => exact ⟨0, ((((s ++ ⟨#[32]⟩) ++ n.text) ++ ⟨#[32]⟩) ++ sd), Nat.zero_le _, rfl, rfl, by show _ = _; rw [HSX.out]; simp [sumL], HWX.out⟩
            case round =>
              obtain ⟨j, s, hj, rfl, rfl, HS, hwr⟩ := hrel
              obtain ⟨z0, z1, z2, z3, z4⟩ := five_of ((hwr.block w.heap.size (by omega)).trans HBox.out)
              have hz := hwr.size
              simp at hz
              by_cases hlt : j < n.kids.length
              · obtain ⟨b2, off2, rfl, hSb2, hcell2⟩ := hc4 (by intro h; have := List.length_eq_zero_iff.2 h; omega)
                have hbb2 := hB b2 hSb2
                obtain ⟨d0, d1', d2', d3', d4', k0, k1, k2, k3, k4, hin⟩ := hcell2 j hlt
                obtain ⟨x0, x1, x2, xa, xl, xc, ya, yl, yc, rfl, rfl, rfl, rfl, rfl⟩ := hin.shape
                have f0 := (hwr.cell (p := ⟨b2, off2 + j * 5, none⟩) (by show b2 < _; omega)).trans k0
                have f1 := (hwr.cell (p := ⟨b2, off2 + j * 5 + 1, none⟩) (by show b2 < _; omega)).trans k1
                have f2 := (hwr.cell (p := ⟨b2, off2 + j * 5 + 2, none⟩) (by show b2 < _; omega)).trans k2
                have f3 := (hwr.cell (p := ⟨b2, off2 + j * 5 + 3, none⟩) (by show b2 < _; omega)).trans k3
                have f4 := (hwr.cell (p := ⟨b2, off2 + j * 5 + 4, none⟩) (by show b2 < _; omega)).trans k4
                have HN : Hid (sumL (fun x => lenN m x + 1) (n.kids.take (j + 1)) = sumL (fun x => lenN m x + 1) (n.kids.take j) + (lenN m n.kids[j] + 1)) := sumL_take_succ _ _ _ hlt
                have hbd : s.size + lenN m n.kids[j] + 1 ≤ 800000 := by
                  have h2 := sumL_take_le (fun x => lenN m x + 1) n.kids (j + 1)
                  have h3 := HL.out
                  rw [HN.out] at h2
                  rw [HS.out]; omega
                have HC : Hid (Calls Tryz.prog 29 _ wr _) := hn S n.kids[j] _ _ _ _ _ d wr (hin.keep (same_below hwr (fun b hb => by have := hB b hb; omega)) (fun _ h => h)) (fun b hb => by have := hB b hb; omega) (HG.out j hlt) (by omega)
                have HWr := hidF hwr
                have hji : (j : Int) < (n.kids.length : Int) := by omega
                clear hcell2 hin k0 k1 k2 k3 k4 hwr
                generalize lenN m n.kids[j] = lk at *
                go_wp2_with fail
                refine HC.out.mono ?_
                rintro e w2 ⟨hb2, s2, rfl, hs2⟩
                have HB2 : Hid (Below (w.heap.size + 1) _ w2) := HWr.out.trans (hb2.mono hz)
                have HS2 : Hid (((s ++ ⟨#[32]⟩) ++ s2).size = A + szN n.names + Bx + C + sumL (fun x => lenN m x + 1) (n.kids.take (j + 1))) := by
                  show _ = _
                  rw [HN.out, app_size, app_size, HS.out, hs2]
                  show _ + 1 + _ = _
                  omega
                clear hb2 HC f0 f1 f2 f3 f4 z0 z1 z2 z3 z4
                go_wp2_with fail
                go_roundw
                case rel => exact ⟨j + 1, _, by omega, by go_num, rfl, HS2, HB2.out⟩
                case measure => simp [intOf]; omega
              · have hjl : j = n.kids.length := by omega
                have HE : Hid (s.size = A + szN n.names + Bx + C + sumL (fun x => lenN m x + 1) n.kids) := by
                  show _ = _
                  have := HS.out
                  rw [hjl, List.take_length] at this
                  exact this
                have HB := hidF (HBW.out.trans (hwr.mono (by omega)))
                clear hc4 hjl hwr HS
                go_wp2_with fail
                go_ret
                exact ⟨HB.out, _, rfl, HE.out⟩
          · have d37 : ((k : Int) == 37) = false := by simp [h37]
            have d39 : ((k : Int) == 39) = true := by simp [h37]
            clear h37
            go_wp2_with fail
            refine (HD.out _).mono ?_
            rintro e w5 ⟨rfl, hb5⟩
            have HWX : Hid (Below (w.heap.size + 1) _ w5) := HWr.out.trans (hb5.mono hz)
            have HSX : Hid (((((s ++ ⟨#[32]⟩) ++ n.text) ++ ⟨#[32]⟩) ++ sd).size = A + szN n.names + Bx + C) := by
              show _ = _
              rw [app_size, app_size, app_size, app_size, HSn.out, hb1, ← HDs.out]; show _ + 1 + _ + 1 + _ = _; omega
            clear hb5 HD hb1 ht
            go_wp2_with fail
            go_loopw [5, 7] (fun a i wr => ∃ (j : Nat) (s : ByteArray), j ≤ n.kids.length ∧ i = .int .i64 j ∧ a = .string s ∧ Hid (s.size = A + szN n.names + Bx + C + sumL (fun x => lenN m x + 1) (n.kids.take j)) ∧ Below (w.heap.size + 1) (w.alloc (.cells #[.int .i64 (k : Int), .int .i64 n.num, .string n.text, .slice na n.names.length nc, .slice ka n.kids.length kc] 30)) wr) (fun _ i _ => n.kids.length - (intOf i).toNat)
            case atStart => exact ⟨0, ((((s ++ ⟨#[32]⟩) ++ n.text) ++ ⟨#[32]⟩) ++ sd), Nat.zero_le _, rfl, rfl, by show _ = _; rw [HSX.out]; simp [sumL], HWX.out⟩
            case round =>
              obtain ⟨j, s, hj, rfl, rfl, HS, hwr⟩ := hrel
              obtain ⟨z0, z1, z2, z3, z4⟩ := five_of ((hwr.block w.heap.size (by omega)).trans HBox.out)
              have hz := hwr.size
              simp at hz
              by_cases hlt : j < n.kids.length
              · obtain ⟨b2, off2, rfl, hSb2, hcell2⟩ := hc4 (by intro h; have := List.length_eq_zero_iff.2 h; omega)
                have hbb2 := hB b2 hSb2
                obtain ⟨d0, d1', d2', d3', d4', k0, k1, k2, k3, k4, hin⟩ := hcell2 j hlt
                obtain ⟨x0, x1, x2, xa, xl, xc, ya, yl, yc, rfl, rfl, rfl, rfl, rfl⟩ := hin.shape
                have f0 := (hwr.cell (p := ⟨b2, off2 + j * 5, none⟩) (by show b2 < _; omega)).trans k0
                have f1 := (hwr.cell (p := ⟨b2, off2 + j * 5 + 1, none⟩) (by show b2 < _; omega)).trans k1
                have f2 := (hwr.cell (p := ⟨b2, off2 + j * 5 + 2, none⟩) (by show b2 < _; omega)).trans k2
                have f3 := (hwr.cell (p := ⟨b2, off2 + j * 5 + 3, none⟩) (by show b2 < _; omega)).trans k3
                have f4 := (hwr.cell (p := ⟨b2, off2 + j * 5 + 4, none⟩) (by show b2 < _; omega)).trans k4
                have HN : Hid (sumL (fun x => lenN m x + 1) (n.kids.take (j + 1)) = sumL (fun x => lenN m x + 1) (n.kids.take j) + (lenN m n.kids[j] + 1)) := sumL_take_succ _ _ _ hlt
                have hbd : s.size + lenN m n.kids[j] + 1 ≤ 800000 := by
                  have h2 := sumL_take_le (fun x => lenN m x + 1) n.kids (j + 1)
                  have h3 := HL.out
                  rw [HN.out] at h2
                  rw [HS.out]; omega
                have HC : Hid (Calls Tryz.prog 29 _ wr _) := hn S n.kids[j] _ _ _ _ _ d wr (hin.keep (same_below hwr (fun b hb => by have := hB b hb; omega)) (fun _ h => h)) (fun b hb => by have := hB b hb; omega) (HG.out j hlt) (by omega)
                have HWr := hidF hwr
                have hji : (j : Int) < (n.kids.length : Int) := by omega
                clear hcell2 hin k0 k1 k2 k3 k4 hwr
                generalize lenN m n.kids[j] = lk at *
                go_wp2_with fail
                refine HC.out.mono ?_
                rintro e w2 ⟨hb2, s2, rfl, hs2⟩
                have HB2 : Hid (Below (w.heap.size + 1) _ w2) := HWr.out.trans (hb2.mono hz)
                have HS2 : Hid (((s ++ ⟨#[32]⟩) ++ s2).size = A + szN n.names + Bx + C + sumL (fun x => lenN m x + 1) (n.kids.take (j + 1))) := by
                  show _ = _
                  rw [HN.out, app_size, app_size, HS.out, hs2]
                  show _ + 1 + _ = _
                  omega
                clear hb2 HC f0 f1 f2 f3 f4 z0 z1 z2 z3 z4
                go_wp2_with fail
                go_roundw
                case rel => exact ⟨j + 1, _, by omega, by go_num, rfl, HS2, HB2.out⟩
                case measure => simp [intOf]; omega
              · have hjl : j = n.kids.length := by omega
                have HE : Hid (s.size = A + szN n.names + Bx + C + sumL (fun x => lenN m x + 1) n.kids) := by
                  show _ = _
                  have := HS.out
                  rw [hjl, List.take_length] at this
                  exact this
                have HB := hidF (HBW.out.trans (hwr.mono (by omega)))
                clear hc4 hjl hwr HS
                go_wp2_with fail
                go_ret
                exact ⟨HB.out, _, rfl, HE.out⟩
        · have ht1 : ¬ n.text.toList = [] := by
            rw [ByteArray.toList_eq]; intro e; exact ht (by have h1 : n.text.data.toList.length = 0 := by rw [e]; rfl
                                                            simpa using h1)
          have ht2 : (n.text.toList == []) = false := by simpa using ht1
          have hb1 : Bx = n.text.size + 1 := by rw [HBx.out, if_neg ht]
          have hbt : s.size + n.text.size + 1 ≤ 800000 := by omega
          have hc1 : C = 0 := by rw [HCx.out, if_neg hnm]
          have d37 : ((k : Int) == 37) = false := by simp; omega
          have d39 : ((k : Int) == 39) = false := by simp; omega
          have HSX : Hid (((s ++ ⟨#[32]⟩) ++ n.text).size = A + szN n.names + Bx + C) := by
            show _ = _
            rw [app_size, app_size, HSn.out, hb1, hc1]; show _ + 1 + _ = _; omega
          have HWX := HWr
          clear hb1 hc1 ht hnm
          go_wp2_with fail
          go_loopw [5, 7] (fun a i wr => ∃ (j : Nat) (s : ByteArray), j ≤ n.kids.length ∧ i = .int .i64 j ∧ a = .string s ∧ Hid (s.size = A + szN n.names + Bx + C + sumL (fun x => lenN m x + 1) (n.kids.take j)) ∧ Below (w.heap.size + 1) (w.alloc (.cells #[.int .i64 (k : Int), .int .i64 n.num, .string n.text, .slice na n.names.length nc, .slice ka n.kids.length kc] 30)) wr) (fun _ i _ => n.kids.length - (intOf i).toNat)
          case atStart => exact ⟨0, ((s ++ ⟨#[32]⟩) ++ n.text), Nat.zero_le _, rfl, rfl, by show _ = _; rw [HSX.out]; simp [sumL], HWX.out⟩
          case round =>
            obtain ⟨j, s, hj, rfl, rfl, HS, hwr⟩ := hrel
            obtain ⟨z0, z1, z2, z3, z4⟩ := five_of ((hwr.block w.heap.size (by omega)).trans HBox.out)
            have hz := hwr.size
            simp at hz
            by_cases hlt : j < n.kids.length
            · obtain ⟨b2, off2, rfl, hSb2, hcell2⟩ := hc4 (by intro h; have := List.length_eq_zero_iff.2 h; omega)
              have hbb2 := hB b2 hSb2
              obtain ⟨d0, d1', d2', d3', d4', k0, k1, k2, k3, k4, hin⟩ := hcell2 j hlt
              obtain ⟨x0, x1, x2, xa, xl, xc, ya, yl, yc, rfl, rfl, rfl, rfl, rfl⟩ := hin.shape
              have f0 := (hwr.cell (p := ⟨b2, off2 + j * 5, none⟩) (by show b2 < _; omega)).trans k0
              have f1 := (hwr.cell (p := ⟨b2, off2 + j * 5 + 1, none⟩) (by show b2 < _; omega)).trans k1
              have f2 := (hwr.cell (p := ⟨b2, off2 + j * 5 + 2, none⟩) (by show b2 < _; omega)).trans k2
              have f3 := (hwr.cell (p := ⟨b2, off2 + j * 5 + 3, none⟩) (by show b2 < _; omega)).trans k3
              have f4 := (hwr.cell (p := ⟨b2, off2 + j * 5 + 4, none⟩) (by show b2 < _; omega)).trans k4
              have HN : Hid (sumL (fun x => lenN m x + 1) (n.kids.take (j + 1)) = sumL (fun x => lenN m x + 1) (n.kids.take j) + (lenN m n.kids[j] + 1)) := sumL_take_succ _ _ _ hlt
              have hbd : s.size + lenN m n.kids[j] + 1 ≤ 800000 := by
                have h2 := sumL_take_le (fun x => lenN m x + 1) n.kids (j + 1)
                have h3 := HL.out
                rw [HN.out] at h2
                rw [HS.out]; omega
              have HC : Hid (Calls Tryz.prog 29 _ wr _) := hn S n.kids[j] _ _ _ _ _ d wr (hin.keep (same_below hwr (fun b hb => by have := hB b hb; omega)) (fun _ h => h)) (fun b hb => by have := hB b hb; omega) (HG.out j hlt) (by omega)
              have HWr := hidF hwr
              have hji : (j : Int) < (n.kids.length : Int) := by omega
              clear hcell2 hin k0 k1 k2 k3 k4 hwr
              generalize lenN m n.kids[j] = lk at *
              go_wp2_with fail
              refine HC.out.mono ?_
              rintro e w2 ⟨hb2, s2, rfl, hs2⟩
              have HB2 : Hid (Below (w.heap.size + 1) _ w2) := HWr.out.trans (hb2.mono hz)
              have HS2 : Hid (((s ++ ⟨#[32]⟩) ++ s2).size = A + szN n.names + Bx + C + sumL (fun x => lenN m x + 1) (n.kids.take (j + 1))) := by
                show _ = _
                rw [HN.out, app_size, app_size, HS.out, hs2]
                show _ + 1 + _ = _
                omega
              clear hb2 HC f0 f1 f2 f3 f4 z0 z1 z2 z3 z4
              go_wp2_with fail
              go_roundw
              case rel => exact ⟨j + 1, _, by omega, by go_num, rfl, HS2, HB2.out⟩
              case measure => simp [intOf]; omega
            · have hjl : j = n.kids.length := by omega
              have HE : Hid (s.size = A + szN n.names + Bx + C + sumL (fun x => lenN m x + 1) n.kids) := by
                show _ = _
                have := HS.out
                rw [hjl, List.take_length] at this
                exact this
              have HB := hidF (HBW.out.trans (hwr.mono (by omega)))
              clear hc4 hjl hwr HS
              go_wp2_with fail
              go_ret
              exact ⟨HB.out, _, rfl, HE.out⟩

end Go.Proofs.YtlinplghgamgbaaGreatDoor
