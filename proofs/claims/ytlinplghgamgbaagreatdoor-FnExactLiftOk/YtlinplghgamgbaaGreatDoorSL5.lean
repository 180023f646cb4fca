/-
  The specification on upcasters' nodes: whether a node of an op is ok but for its kids.
-/
import Derived.Test.YtlinplghgamgbaaGreatDoorSL4
import Derived.Deep.RegionHeld3
namespace Go.Proofs.YtlinplghgamgbaaGreatDoor
open Go.RowKit

theorem pre_else : ∀ k, k < 44 → k = 0 ∨ k = 24 ∨ k = 1 ∨ k = 2 ∨ k = 3 ∨ k = 5 ∨ k = 6 ∨ k = 37 ∨ k = 39 ∨ preL k = [] ∨ preL k = [88] ∨ preL k = [78] ∨ preL k = [88, 88] := by decide

theorem undef_yieldsS : yielded.match_1 (fun _ => Option Bool) (some undef) (fun b => some b) (fun _ => none) = none := rfl

theorem nm_two_most : ∀ k, k < 44 → nmS k ≤ 2 := by decide

theorem bd_one : ∀ k, k < 44 → bdS k = false → nmS k ≤ 1 := by decide

theorem kdT_len (k : Nat) (h : k ≠ 24) : (bs (kdT k)).size = (kdV k).length := by
  rw [bs_size]; unfold kdT; rw [if_neg h]; unfold kdS; simp

set_option maxRecDepth 20000 in
set_option maxHeartbeats 8000000 in
theorem l11Alone_op (S : Nat → Prop) (m : Nat) (n : Nd (T m)) (na ka : Option Addr) (nc kc k : Nat) (a : Bool) (ha : decide ((36 : Int) ≤ (k : Int)) = a) (w : World) (hk : n.sort = (k : Int)) (hk44 : k < 44) (hk1 : 1 ≤ k) (h24 : k ≠ 24) (h3 : StrsIn S w n.names (.slice na n.names.length nc)) (_hl4 : n.kids.length ≤ maxLen) (hB : ∀ b, S b → b < w.heap.size)
    (hx : n.text.size ≤ 1048576) :
    Calls Tryz.prog 34 #[.agg #[.int .i64 (k : Int), .int .i64 n.num, .string n.text, .slice na n.names.length nc, .slice ka n.kids.length kc], .bool a] w fun e w' => e = .returned (.bool ((n.kids.length == (kdV k).length) && preC n (preL k))) ∧ Below w.heap.size w w' := by
  have hb0 := (Below.refl w.heap.size w).alloc (Nat.le_refl _) (.cells #[.int .i64 (k : Int), .int .i64 n.num, .string n.text, .slice na n.names.length nc, .slice ka n.kids.length kc] 30)
  have HIn : Hid (∀ w, Calls Tryz.prog 45 #[.int .i64 (k : Int), .int .i64 1, .int .i64 43] w fun e w' => e = .returned (.bool true) ∧ w' = w) := fun w => by
    have := l6In_any k 1 43 w
    rw [decide_eq_true (by omega)] at this
    exact this
  have hkT := kdT_len k h24
  have HKd : Hid (∀ w, Calls Tryz.prog 35 #[.int .i64 (k : Int)] w _) := fun w => l11Kids_any k hk44 w
  have HNm : Hid (∀ w, Calls Tryz.prog 48 #[.int .i64 (k : Int)] w _) := fun w => l11Names_any k hk44 w
  generalize bs (kdT k) = q at *
  have HPre := hidF (preC_eq n k hk44 h24)
  have h24i : ((k : Int) == 24) = false := by simp; omega
  obtain ⟨_, _, hv, hl3, -, -⟩ := id h3
  cases hv
  unfold maxLen at hl3 _hl4
  by_cases hkl : n.kids.length = (kdV k).length
  case neg =>
    have hne : ((n.kids.length : Int) != (q.size : Int)) = true := by rw [hkT]; simp; omega
    have HF : Hid (((n.kids.length == (kdV k).length) && preC n (preL k)) = false) := by
      show _ = _
      have : (n.kids.length == (kdV k).length) = false := by simp [hkl]
      rw [this]; rfl
    clear hkl hkT HPre
    go_enter Tryz.func34, Tryz.ntmps34
    go_wp2_with fail
    refine (HIn.out _).mono ?_
    rintro e w1 ⟨rfl, rfl⟩
    go_wp2_with fail
    go_quiet (first
      | (go_at_call 35; refine Calls.quiet_of_same (HKd.out _))
      | (go_at_call 48; refine Calls.quiet_of_same (HNm.out _)))
    all_goals
      go_wp2_with fail
      go_ret
      exact ⟨bool_ret HF.out.symm, by first | exact hb0 | exact hb0.drew | exact ⟨hb0.os, hb0.tape, hb0.output, hb0.size, hb0.block⟩⟩
  have hnk : ((n.kids.length : Int) != (q.size : Int)) = false := by rw [hkT]; simp [hkl]
  have hkb : (n.kids.length == (kdV k).length) = true := by simp [hkl]
  rw [hkb, Bool.true_and]
  by_cases hnl : n.names.length = nmS k
  case neg =>
    have hne : ((n.names.length : Int) != ((nmS k : Nat) : Int)) = true := by simp; omega
    have HF : Hid (preC n (preL k) = false) := by
      show _ = _
      have : (n.names.length == nmS k) = false := by simp [hnl]
      rw [HPre.out, this]; rfl
    clear hkl hkT HPre hnl hkb
    go_enter Tryz.func34, Tryz.ntmps34
    go_wp2_with fail
    refine (HIn.out _).mono ?_
    rintro e w1 ⟨rfl, rfl⟩
    go_wp2_with fail
    go_quiet (first
      | (go_at_call 35; refine Calls.quiet_of_same (HKd.out _))
      | (go_at_call 48; refine Calls.quiet_of_same (HNm.out _)))
    all_goals
      go_wp2_with fail
      go_ret
      exact ⟨bool_ret HF.out.symm, by first | exact hb0 | exact hb0.drew | exact ⟨hb0.os, hb0.tape, hb0.output, hb0.size, hb0.block⟩⟩
  have hnn : ((n.names.length : Int) != ((nmS k : Nat) : Int)) = false := by simp [hnl]
  have HPr : Hid (preC n (preL k) = (nmTo (bdS k) n.names n.names.length && tailP n (preL k))) := by
    show _ = _
    have : (n.names.length == nmS k) = true := by simp [hnl]
    rw [HPre.out, this]; rfl
  obtain ⟨W, hW⟩ : ∃ W, W = w.alloc (.cells #[.int .i64 (k : Int), .int .i64 n.num, .string n.text, .slice na n.names.length nc, .slice ka n.kids.length kc] 30) := ⟨_, rfl⟩
  have hbW : Below w.heap.size w W := by rw [hW]; exact hb0
  have hzW : w.heap.size < W.heap.size := by rw [hW]; simp
  have hbox : W.heap[w.heap.size]? = some (.cells #[.int .i64 (k : Int), .int .i64 n.num, .string n.text, .slice na n.names.length nc, .slice ka n.kids.length kc] 30 (0, 0)) := by rw [hW]; exact heap_alloc_last _ _
  have HNl := hidF hnl
  clear hkl hkT HPre hnl hkb hb0
  go_enter Tryz.func34, Tryz.ntmps34
  go_wp2_with fail
  refine (HIn.out _).mono ?_
  rintro e w1 ⟨rfl, rfl⟩
  go_wp2_with fail
  go_quiet (first
    | (go_at_call 35; refine Calls.quiet_of_same (HKd.out _))
    | (go_at_call 48; refine Calls.quiet_of_same (HNm.out _)))
  go_wp2_with fail
  rw [← hW]
  have hbdW : Hid (∀ j, Below W.heap.size W (W.drewN j)) := fun j => ⟨rfl, rfl, rfl, Nat.le_refl _, fun _ _ => rfl⟩
  have HBd : Hid (∀ w, Calls Tryz.prog 50 #[.int .i64 (k : Int)] w _) := fun w => l11Binds_any k hk44 w
  have HBS : Hid (bdS k = false → n.names.length ≤ 1) := fun h => by
    rw [HNl.out]; exact bd_one k hk44 h
  obtain ⟨_, _, hv, -, hs3, hc3⟩ := h3.keep (same_below hbW hB) (fun _ h => h)
  cases hv
  have HDn : Hid (∀ (V : World) (j : Nat), Below W.heap.size W V → Below W.heap.size W (V.drewN j)) := fun V j h => ⟨h.os, h.tape, h.output, h.size, h.block⟩
  have HDm : Hid (∀ (V : World) (j : Nat), Below w.heap.size w V → Below w.heap.size w (V.drewN j)) := fun V j h => ⟨h.os, h.tape, h.output, h.size, h.block⟩
  have HBx := hidF hbox
  have HBW := hidF hbW
  clear hW hbox hbW hnn hnk HKd HNm HIn
  go_loopw [5] (fun i wr => ∃ j : Nat, j ≤ n.names.length ∧ i = .int .i64 j ∧ Hid (nmTo (bdS k) n.names j = true) ∧ Below W.heap.size W wr) (fun i _ => n.names.length - (intOf i).toNat)
  case atStart => exact ⟨0, Nat.zero_le _, rfl, rfl, hbdW.out _⟩
  case round =>
    obtain ⟨j, hj, rfl, HA, hwr⟩ := hrel
    obtain ⟨z0, z1, z2, z3, z4⟩ := five_of ((hwr.block w.heap.size hzW).trans HBx.out)
    by_cases hlt : j < n.names.length
    · obtain ⟨b, off, rfl, hSb, hcell⟩ := hc3 (by intro h; rw [h] at hlt; simp at hlt)
      have hblt := hB b hSb
      have ej := (hwr.cell (p := ⟨b, off + j, none⟩) (by show b < W.heap.size; omega)).trans (hcell j hlt)
      have e0 := (hwr.cell (p := ⟨b, off, none⟩) (by show b < W.heap.size; omega)).trans (hcell 0 (by omega))
      have hsj := hs3 n.names[j] (List.getElem_mem hlt)
      have hgj : n.names.getD j ByteArray.empty = n.names[j] := by simp [List.getD, hlt]
      have hg0 : n.names.getD 0 ByteArray.empty = n.names[0] := by
        have h0 : 0 < n.names.length := by omega
        simp [List.getD, h0]
      have HOk : Hid (nmOk (bdS k) n.names j = (nameB n.names[j] && (!bdS k || freeB n.names[j]) && !(decide (0 < j) && (n.names[j] == n.names[0])))) := by
        show _ = _
        unfold nmOk
        rw [hgj, hg0]
      have HNo : Hid (nmOk (bdS k) n.names j = false → nmTo (bdS k) n.names n.names.length = false) := fun h => nmTo_false _ _ j _ hlt h
      have HYe : Hid (nmOk (bdS k) n.names j = true → nmTo (bdS k) n.names (j + 1) = true) := fun h => by rw [nmTo_succ, HA.out, h]; rfl
      have heq := eq_toList n.names[j] n.names[0]
      have hj0 : j = 0 → n.names[j] = n.names[0] := fun h => by subst h; rfl
      have HNk : Hid (∀ w, Calls Tryz.prog 49 #[.string n.names[j]] w _) := fun w => l6NameOk_any n.names[j] w hsj
      have HFr : Hid (∀ W', Below wr.heap.size wr W' → Calls Tryz.prog 51 #[.string n.names[j]] W' fun e w' => e = .returned (.bool (freeB n.names[j])) ∧ Below wr.heap.size wr w' ∧ w'.cell? ⟨w.heap.size, 0, none⟩ = some (.int .i64 (k : Int)) ∧ w'.cell? ⟨w.heap.size, 3, none⟩ = some (.slice (some ⟨b, off, none⟩) n.names.length nc) ∧ w'.cell? ⟨b, off + j, none⟩ = some (.string n.names[j]) ∧ w'.cell? ⟨b, off, none⟩ = some (.string n.names[0])) := by
        intro W' hW'
        refine (l11FreeName_any n.names[j] W' hsj).mono ?_
        rintro e w' ⟨rfl, hb⟩
        have hbb : Below wr.heap.size wr w' := hW'.trans (hb.mono hW'.size)
        have hz := hwr.size
        exact ⟨rfl, hbb, (hbb.cell (p := ⟨w.heap.size, 0, none⟩) (by show w.heap.size < _; omega)).trans z0, (hbb.cell (p := ⟨w.heap.size, 3, none⟩) (by show w.heap.size < _; omega)).trans z3, (hbb.cell (p := ⟨b, off + j, none⟩) (by show b < _; omega)).trans ej, (hbb.cell (p := ⟨b, off, none⟩) (by show b < _; omega)).trans e0⟩
      have HBw := hidF (HBW.out.trans (hwr.mono HBW.out.size))
      have HWr := hidF hwr
      have hbd := HBS.out
      have hj2 : j = 0 ∨ j = 1 := by have h2 := nm_two_most k hk44; have h3 := HNl.out; omega
      have hD : Below wr.heap.size wr wr.drew := (Below.refl _ _).drew
      have hun := undef_yieldsS
      have hl1 : 1 ≤ n.names.length := by omega
      clear hc3 hcell hs3 hsj hgj hg0 hwr HBS z1 z2 z4 _hl4 h24i HNl
      rcases hj2 with rfl | rfl
      · have hxy0 := hj0 rfl
        clear hj0
        generalize n.names[0] = x at *
        clear e0 heq
        rw [Nat.add_zero] at ej
        simp only [Nat.add_zero] at HFr
        obtain ⟨y, hy⟩ : ∃ y, y = x := ⟨_, rfl⟩
        have e0 : wr.cell? ⟨b, off, none⟩ = some (.string y) := by rw [hy]; exact ej
        generalize bdS k = bd at *
        cases hnm : nameB x with
        | false =>
          rw [hnm] at HNk HOk
          have HNo2 : Hid (nmTo bd n.names n.names.length = false) := HNo.out (by rw [HOk.out]; rfl)
          clear HFr HNo HYe HOk hD
          go_wp2_with fail
          go_quiet (first | (go_at_call 49; refine Calls.quiet_of_same (HNk.out _)) | (go_at_call 50; refine Calls.quiet_of_same (HBd.out _)))
          go_wp2_with fail
          go_ret
          exact ⟨bool_ret (by rw [HPr.out, HNo2.out]; rfl), HDm.out _ _ HBw.out⟩
        | true =>
          rw [hnm] at HNk HOk
          cases hbdv : bd with
          | false =>
            subst hbdv
            have HY2 : Hid (nmTo false n.names (0 + 1) = true) := HYe.out (by rw [HOk.out]; rfl)
            clear HFr HNo HYe HOk hD hbd
            go_wp2_with fail
            go_quiet (first | (go_at_call 49; refine Calls.quiet_of_same (HNk.out _)) | (go_at_call 50; refine Calls.quiet_of_same (HBd.out _)))
            go_wp2_with fail
            go_roundw
            case rel => exact ⟨0 + 1, by omega, by go_num, HY2, HDn.out _ _ HWr.out⟩
            case measure => simp [intOf]; omega
          | true =>
            subst hbdv
            clear hbd
            subst hy
            cases hfr : freeB y with
            | false =>
              rw [hfr] at HFr HOk
              have HNo2 : Hid (nmTo true n.names n.names.length = false) := HNo.out (by rw [HOk.out]; rfl)
              clear HNo HYe HOk
              go_wp2_with fail
              refine wp_region_held_drew (S := (fun w' => w'.cell? ⟨w.heap.size, 0, none⟩ = some (.int .i64 (k : Int)) ∧ w'.cell? ⟨w.heap.size, 3, none⟩ = some (.slice (some ⟨b, off, none⟩) n.names.length nc) ∧ w'.cell? ⟨b, off, none⟩ = some (.string y) ∧ w'.cell? ⟨b, off, none⟩ = some (.string y))) (by kernel_rfl) (by exact ⟨z0, z3, e0, e0⟩) (fun hHeld => ?_)
              refine wpAnyH_take (i := 0) (v := ?_) rfl (by kernel_rfl) (by kernel_rfl) (by kernel_rfl) (fun _ _ _ h => h) (Or.inl ⟨by kernel_rfl, ?_⟩) (by assumption) ?_
              rotate_left 1
              · (intro wq hSw; (try dsimp only at hSw); go_simp; first | done | with_reducible rfl)
              refine wpAnyH_take (i := 1) (v := ?_) rfl (by kernel_rfl) (by kernel_rfl) (by kernel_rfl) (fun _ _ _ h => h) (Or.inl ⟨by kernel_rfl, ?_⟩) (by assumption) ?_
              rotate_left 1
              · (intro wq hSw; (try dsimp only at hSw); go_simp; first | done | with_reducible rfl)
              refine wpAnyH_take (i := 2) (v := ?_) rfl (by kernel_rfl) (by kernel_rfl) (by kernel_rfl) (fun _ _ _ h => h) (Or.inl ⟨by kernel_rfl, ?_⟩) (by assumption) ?_
              rotate_left 1
              · (intro wq hSw; (try dsimp only at hSw); go_simp; first | done | with_reducible rfl)
              refine wpAnyH_take (i := 3) (v := ?_) rfl (by kernel_rfl) (by kernel_rfl) (by kernel_rfl) (fun _ _ _ h => h) (Or.inl ⟨by kernel_rfl, ?_⟩) (by assumption) ?_
              rotate_left 1
              · (intro wq hSw; (try dsimp only at hSw); go_simp; first | done | with_reducible rfl)
              refine wpAnyH_take (i := 4) (v := ?_) rfl (by kernel_rfl) (by kernel_rfl) (by kernel_rfl) (fun _ _ _ h => h) (Or.inl ⟨by kernel_rfl, ?_⟩) (by assumption) ?_
              rotate_left 1
              · (intro wq hSw; (try dsimp only at hSw); go_simp; first | done | with_reducible rfl)
              refine wpAnyH_ready (rs := [5]) (by kernel_rfl) (by simp) ?_
              refine AllReadyH.cons rfl (fun K hK => ?_) AllReadyH.nil
              go_simp
              go_at_call 49
              refine (HNk.out _).mono ?_
              rintro e w1 ⟨rfl, rfl⟩
              refine hK.out _ _ (hHeld) (fun hHeld => ?_)
              clear hK K
              refine wpAnyH_take (i := 6) (v := ?_) rfl (by kernel_rfl) (by kernel_rfl) (by kernel_rfl) (fun _ _ _ h => h) (Or.inl ⟨by kernel_rfl, ?_⟩) (by assumption) ?_
              rotate_left 1
              · (intro wq hSw; (try dsimp only at hSw); go_simp; first | done | with_reducible rfl)
              refine wpAnyH_take (i := 7) (v := ?_) rfl (by kernel_rfl) (by kernel_rfl) (by kernel_rfl) (fun _ _ _ h => h) (Or.inl ⟨by kernel_rfl, ?_⟩) (by assumption) ?_
              rotate_left 1
              · (intro wq hSw; (try dsimp only at hSw); go_simp; first | done | with_reducible rfl)
              refine wpAnyH_take (i := 8) (v := ?_) rfl (by kernel_rfl) (by kernel_rfl) (by kernel_rfl) (fun _ _ _ h => h) (Or.inl ⟨by kernel_rfl, ?_⟩) (by assumption) ?_
              rotate_left 1
              · (intro wq hSw; (try dsimp only at hSw); go_simp; first | done | with_reducible rfl)
              refine wpAnyH_take (i := 9) (v := ?_) rfl (by kernel_rfl) (by kernel_rfl) (by kernel_rfl) (fun _ _ _ h => h) (Or.inl ⟨by kernel_rfl, ?_⟩) (by assumption) ?_
              rotate_left 1
              · (intro wq hSw; (try dsimp only at hSw); go_simp; first | done | with_reducible rfl)
              refine wpAnyH_ready (rs := [10]) (by kernel_rfl) (by simp) ?_
              refine AllReadyH.cons rfl (fun K hK => ?_) AllReadyH.nil
              go_simp
              go_at_call 50
              refine (HBd.out _).mono ?_
              rintro e w1 ⟨rfl, rfl⟩
              refine hK.out _ _ (hHeld) (fun hHeld => ?_)
              clear hK K
              refine wpAnyH_take (i := 11) (v := ?_) rfl (by kernel_rfl) (by kernel_rfl) (by kernel_rfl) (fun _ _ _ h => h) (Or.inl ⟨by kernel_rfl, ?_⟩) (by assumption) ?_
              rotate_left 1
              · (intro wq hSw; (try dsimp only at hSw); go_simp; first | done | with_reducible rfl)
              refine wpAnyH_take (i := 12) (v := ?_) rfl (by kernel_rfl) (by kernel_rfl) (by kernel_rfl) (fun _ _ _ h => h) (Or.inl ⟨by kernel_rfl, ?_⟩) (by assumption) ?_
              rotate_left 1
              · (intro wq hSw; (try dsimp only at hSw); go_simp; first | done | with_reducible rfl)
              refine wpAnyH_take (i := 13) (v := ?_) rfl (by kernel_rfl) (by kernel_rfl) (by kernel_rfl) (fun _ _ _ h => h) (Or.inl ⟨by kernel_rfl, ?_⟩) (by assumption) ?_
              rotate_left 1
              · (intro wq hSw; (try dsimp only at hSw); go_simp; first | done | with_reducible rfl)
              refine wpAnyH_take (i := 14) (v := ?_) rfl (by kernel_rfl) (by kernel_rfl) (by kernel_rfl) (fun _ _ _ h => h) (Or.inl ⟨by kernel_rfl, ?_⟩) (by assumption) ?_
              rotate_left 1
              · (intro wq hSw; (try dsimp only at hSw); go_simp; first | done | with_reducible rfl)
              refine wpAnyH_take (i := 15) (v := ?_) rfl (by kernel_rfl) (by kernel_rfl) (by kernel_rfl) (fun _ _ _ h => h) (Or.inl ⟨by kernel_rfl, ?_⟩) (by assumption) ?_
              rotate_left 1
              · (intro wq hSw; (try dsimp only at hSw); go_simp; first | done | with_reducible rfl)
              refine wpAnyH_take (i := 16) (v := ?_) rfl (by kernel_rfl) (by kernel_rfl) (by kernel_rfl) (fun _ _ _ h => h) (Or.inl ⟨by kernel_rfl, ?_⟩) (by assumption) ?_
              rotate_left 1
              · (intro wq hSw; (try dsimp only at hSw); go_simp; first | done | with_reducible rfl)
              refine wpAnyH_ready (rs := [17]) (by kernel_rfl) (by simp) ?_
              refine AllReadyH.cons rfl (fun K hK => ?_) AllReadyH.nil
              go_simp
              go_at_call 51
              refine (HFr.out _ hD).mono ?_
              rintro e w2 ⟨rfl, hb2, hSS⟩
              refine hK.out _ _ (hSS) (fun hHeld => ?_)
              clear hK K
              refine wpAnyH_take (i := 18) (v := ?_) rfl (by kernel_rfl) (by kernel_rfl) (by kernel_rfl) (fun _ _ _ h => h) (Or.inl ⟨by kernel_rfl, ?_⟩) (by assumption) ?_
              rotate_left 1
              · (intro wq hSw; (try dsimp only at hSw); go_simp; first | done | with_reducible rfl)
              refine wpAnyH_take (i := 19) (v := ?_) rfl (by kernel_rfl) (by kernel_rfl) (by kernel_rfl) (fun _ _ _ h => h) (Or.inl ⟨by kernel_rfl, ?_⟩) (by assumption) ?_
              rotate_left 1
              · (intro wq hSw; (try dsimp only at hSw); go_simp; first | done | with_reducible rfl)
              refine wpAnyH_take (i := 20) (v := ?_) rfl (by kernel_rfl) (by kernel_rfl) (by kernel_rfl) (fun _ _ _ h => h) (Or.inl ⟨by kernel_rfl, ?_⟩) (by assumption) ?_
              rotate_left 1
              · (intro wq hSw; (try dsimp only at hSw); go_simp; first | done | with_reducible rfl)
              refine wpAnyH_take (i := 21) (v := ?_) rfl (by kernel_rfl) (by kernel_rfl) (by kernel_rfl) (fun _ _ _ h => h) (Or.inl ⟨by kernel_rfl, ?_⟩) (by assumption) ?_
              rotate_left 1
              · (intro wq hSw; (try dsimp only at hSw); go_simp; first | done | with_reducible rfl)
              refine wpAnyH_take (i := 22) (v := undef) rfl (by kernel_rfl) (by kernel_rfl) (by kernel_rfl) (fun _ _ _ h => h) (Or.inr ⟨by kernel_rfl, rfl⟩) (by assumption) ?_
              refine wpAnyH_take (i := 23) (v := undef) rfl (by kernel_rfl) (by kernel_rfl) (by kernel_rfl) (fun _ _ _ h => h) (Or.inr ⟨by kernel_rfl, rfl⟩) (by assumption) ?_
              refine wpAnyH_take (i := 24) (v := undef) rfl (by kernel_rfl) (by kernel_rfl) (by kernel_rfl) (fun _ _ _ h => h) (Or.inr ⟨by kernel_rfl, rfl⟩) (by assumption) ?_
              refine wpAnyH_take (i := 25) (v := undef) rfl (by kernel_rfl) (by kernel_rfl) (by kernel_rfl) (fun _ _ _ h => h) (Or.inr ⟨by kernel_rfl, rfl⟩) (by assumption) ?_
              refine wpAnyH_take (i := 26) (v := undef) rfl (by kernel_rfl) (by kernel_rfl) (by kernel_rfl) (fun _ _ _ h => h) (Or.inr ⟨by kernel_rfl, rfl⟩) (by assumption) ?_
              refine wpAnyH_take (i := 27) (v := undef) rfl (by kernel_rfl) (by kernel_rfl) (by kernel_rfl) (fun _ _ _ h => h) (Or.inr ⟨by kernel_rfl, rfl⟩) (by assumption) ?_
              refine wpAnyH_take (i := 28) (v := undef) rfl (by kernel_rfl) (by kernel_rfl) (by kernel_rfl) (fun _ _ _ h => h) (Or.inr ⟨by kernel_rfl, rfl⟩) (by assumption) ?_
              refine wpAnyH_take (i := 29) (v := undef) rfl (by kernel_rfl) (by kernel_rfl) (by kernel_rfl) (fun _ _ _ h => h) (Or.inr ⟨by kernel_rfl, rfl⟩) (by assumption) ?_
              refine wpAnyH_take (i := 30) (v := undef) rfl (by kernel_rfl) (by kernel_rfl) (by kernel_rfl) (fun _ _ _ h => h) (Or.inr ⟨by kernel_rfl, rfl⟩) (by assumption) ?_
              refine wpAnyH_take (i := 31) (v := undef) rfl (by kernel_rfl) (by kernel_rfl) (by kernel_rfl) (fun _ _ _ h => h) (Or.inr ⟨by kernel_rfl, rfl⟩) (by assumption) ?_
              refine wpAnyH_take (i := 32) (v := undef) rfl (by kernel_rfl) (by kernel_rfl) (by kernel_rfl) (fun _ _ _ h => h) (Or.inr ⟨by kernel_rfl, rfl⟩) (by assumption) ?_
              refine wpAnyH_take (i := 33) (v := undef) rfl (by kernel_rfl) (by kernel_rfl) (by kernel_rfl) (fun _ _ _ h => h) (Or.inr ⟨by kernel_rfl, rfl⟩) (by assumption) ?_
              refine wpAnyH_take (i := 34) (v := undef) rfl (by kernel_rfl) (by kernel_rfl) (by kernel_rfl) (fun _ _ _ h => h) (Or.inr ⟨by kernel_rfl, rfl⟩) (by assumption) ?_
              refine wpAnyH_take (i := 35) (v := undef) rfl (by kernel_rfl) (by kernel_rfl) (by kernel_rfl) (fun _ _ _ h => h) (Or.inr ⟨by kernel_rfl, rfl⟩) (by assumption) ?_
              refine wpAnyH_take (i := 36) (v := ?_) rfl (by kernel_rfl) (by kernel_rfl) (by kernel_rfl) (fun _ _ _ h => h) (Or.inl ⟨by kernel_rfl, ?_⟩) (by assumption) ?_
              rotate_left 1
              · (intro wq hSw; (try dsimp only at hSw); go_simp; first | done | with_reducible rfl)
              refine wpAnyH_done (by kernel_rfl) ?_ _
              go_simp
              all_goals
                have HB2 := hidF (HBw.out.trans (hb2.mono HBw.out.size))
                clear hb2 hSS
                go_wp2_with fail
                go_ret
                exact ⟨bool_ret (by rw [HPr.out, HNo2.out]; rfl), HB2.out⟩
            | true =>
              rw [hfr] at HFr HOk
              have HY2 : Hid (nmTo true n.names (0 + 1) = true) := HYe.out (by rw [HOk.out]; rfl)
              clear HNo HYe HOk
              go_wp2_with fail
              refine wp_region_held_drew (S := (fun w' => w'.cell? ⟨w.heap.size, 0, none⟩ = some (.int .i64 (k : Int)) ∧ w'.cell? ⟨w.heap.size, 3, none⟩ = some (.slice (some ⟨b, off, none⟩) n.names.length nc) ∧ w'.cell? ⟨b, off, none⟩ = some (.string y) ∧ w'.cell? ⟨b, off, none⟩ = some (.string y))) (by kernel_rfl) (by exact ⟨z0, z3, e0, e0⟩) (fun hHeld => ?_)
              refine wpAnyH_take (i := 0) (v := ?_) rfl (by kernel_rfl) (by kernel_rfl) (by kernel_rfl) (fun _ _ _ h => h) (Or.inl ⟨by kernel_rfl, ?_⟩) (by assumption) ?_
              rotate_left 1
              · (intro wq hSw; (try dsimp only at hSw); go_simp; first | done | with_reducible rfl)
              refine wpAnyH_take (i := 1) (v := ?_) rfl (by kernel_rfl) (by kernel_rfl) (by kernel_rfl) (fun _ _ _ h => h) (Or.inl ⟨by kernel_rfl, ?_⟩) (by assumption) ?_
              rotate_left 1
              · (intro wq hSw; (try dsimp only at hSw); go_simp; first | done | with_reducible rfl)
              refine wpAnyH_take (i := 2) (v := ?_) rfl (by kernel_rfl) (by kernel_rfl) (by kernel_rfl) (fun _ _ _ h => h) (Or.inl ⟨by kernel_rfl, ?_⟩) (by assumption) ?_
              rotate_left 1
              · (intro wq hSw; (try dsimp only at hSw); go_simp; first | done | with_reducible rfl)
              refine wpAnyH_take (i := 3) (v := ?_) rfl (by kernel_rfl) (by kernel_rfl) (by kernel_rfl) (fun _ _ _ h => h) (Or.inl ⟨by kernel_rfl, ?_⟩) (by assumption) ?_
              rotate_left 1
              · (intro wq hSw; (try dsimp only at hSw); go_simp; first | done | with_reducible rfl)
              refine wpAnyH_take (i := 4) (v := ?_) rfl (by kernel_rfl) (by kernel_rfl) (by kernel_rfl) (fun _ _ _ h => h) (Or.inl ⟨by kernel_rfl, ?_⟩) (by assumption) ?_
              rotate_left 1
              · (intro wq hSw; (try dsimp only at hSw); go_simp; first | done | with_reducible rfl)
              refine wpAnyH_ready (rs := [5]) (by kernel_rfl) (by simp) ?_
              refine AllReadyH.cons rfl (fun K hK => ?_) AllReadyH.nil
              go_simp
              go_at_call 49
              refine (HNk.out _).mono ?_
              rintro e w1 ⟨rfl, rfl⟩
              refine hK.out _ _ (hHeld) (fun hHeld => ?_)
              clear hK K
              refine wpAnyH_take (i := 6) (v := ?_) rfl (by kernel_rfl) (by kernel_rfl) (by kernel_rfl) (fun _ _ _ h => h) (Or.inl ⟨by kernel_rfl, ?_⟩) (by assumption) ?_
              rotate_left 1
              · (intro wq hSw; (try dsimp only at hSw); go_simp; first | done | with_reducible rfl)
              refine wpAnyH_take (i := 7) (v := ?_) rfl (by kernel_rfl) (by kernel_rfl) (by kernel_rfl) (fun _ _ _ h => h) (Or.inl ⟨by kernel_rfl, ?_⟩) (by assumption) ?_
              rotate_left 1
              · (intro wq hSw; (try dsimp only at hSw); go_simp; first | done | with_reducible rfl)
              refine wpAnyH_take (i := 8) (v := ?_) rfl (by kernel_rfl) (by kernel_rfl) (by kernel_rfl) (fun _ _ _ h => h) (Or.inl ⟨by kernel_rfl, ?_⟩) (by assumption) ?_
              rotate_left 1
              · (intro wq hSw; (try dsimp only at hSw); go_simp; first | done | with_reducible rfl)
              refine wpAnyH_take (i := 9) (v := ?_) rfl (by kernel_rfl) (by kernel_rfl) (by kernel_rfl) (fun _ _ _ h => h) (Or.inl ⟨by kernel_rfl, ?_⟩) (by assumption) ?_
              rotate_left 1
              · (intro wq hSw; (try dsimp only at hSw); go_simp; first | done | with_reducible rfl)
              refine wpAnyH_ready (rs := [10]) (by kernel_rfl) (by simp) ?_
              refine AllReadyH.cons rfl (fun K hK => ?_) AllReadyH.nil
              go_simp
              go_at_call 50
              refine (HBd.out _).mono ?_
              rintro e w1 ⟨rfl, rfl⟩
              refine hK.out _ _ (hHeld) (fun hHeld => ?_)
              clear hK K
              refine wpAnyH_take (i := 11) (v := ?_) rfl (by kernel_rfl) (by kernel_rfl) (by kernel_rfl) (fun _ _ _ h => h) (Or.inl ⟨by kernel_rfl, ?_⟩) (by assumption) ?_
              rotate_left 1
              · (intro wq hSw; (try dsimp only at hSw); go_simp; first | done | with_reducible rfl)
              refine wpAnyH_take (i := 12) (v := ?_) rfl (by kernel_rfl) (by kernel_rfl) (by kernel_rfl) (fun _ _ _ h => h) (Or.inl ⟨by kernel_rfl, ?_⟩) (by assumption) ?_
              rotate_left 1
              · (intro wq hSw; (try dsimp only at hSw); go_simp; first | done | with_reducible rfl)
              refine wpAnyH_take (i := 13) (v := ?_) rfl (by kernel_rfl) (by kernel_rfl) (by kernel_rfl) (fun _ _ _ h => h) (Or.inl ⟨by kernel_rfl, ?_⟩) (by assumption) ?_
              rotate_left 1
              · (intro wq hSw; (try dsimp only at hSw); go_simp; first | done | with_reducible rfl)
              refine wpAnyH_take (i := 14) (v := ?_) rfl (by kernel_rfl) (by kernel_rfl) (by kernel_rfl) (fun _ _ _ h => h) (Or.inl ⟨by kernel_rfl, ?_⟩) (by assumption) ?_
              rotate_left 1
              · (intro wq hSw; (try dsimp only at hSw); go_simp; first | done | with_reducible rfl)
              refine wpAnyH_take (i := 15) (v := ?_) rfl (by kernel_rfl) (by kernel_rfl) (by kernel_rfl) (fun _ _ _ h => h) (Or.inl ⟨by kernel_rfl, ?_⟩) (by assumption) ?_
              rotate_left 1
              · (intro wq hSw; (try dsimp only at hSw); go_simp; first | done | with_reducible rfl)
              refine wpAnyH_take (i := 16) (v := ?_) rfl (by kernel_rfl) (by kernel_rfl) (by kernel_rfl) (fun _ _ _ h => h) (Or.inl ⟨by kernel_rfl, ?_⟩) (by assumption) ?_
              rotate_left 1
              · (intro wq hSw; (try dsimp only at hSw); go_simp; first | done | with_reducible rfl)
              refine wpAnyH_ready (rs := [17]) (by kernel_rfl) (by simp) ?_
              refine AllReadyH.cons rfl (fun K hK => ?_) AllReadyH.nil
              go_simp
              go_at_call 51
              refine (HFr.out _ hD).mono ?_
              rintro e w2 ⟨rfl, hb2, hSS⟩
              refine hK.out _ _ (hSS) (fun hHeld => ?_)
              clear hK K
              refine wpAnyH_take (i := 18) (v := ?_) rfl (by kernel_rfl) (by kernel_rfl) (by kernel_rfl) (fun _ _ _ h => h) (Or.inl ⟨by kernel_rfl, ?_⟩) (by assumption) ?_
              rotate_left 1
              · (intro wq hSw; (try dsimp only at hSw); go_simp; first | done | with_reducible rfl)
              refine wpAnyH_take (i := 19) (v := ?_) rfl (by kernel_rfl) (by kernel_rfl) (by kernel_rfl) (fun _ _ _ h => h) (Or.inl ⟨by kernel_rfl, ?_⟩) (by assumption) ?_
              rotate_left 1
              · (intro wq hSw; (try dsimp only at hSw); go_simp; first | done | with_reducible rfl)
              refine wpAnyH_take (i := 20) (v := ?_) rfl (by kernel_rfl) (by kernel_rfl) (by kernel_rfl) (fun _ _ _ h => h) (Or.inl ⟨by kernel_rfl, ?_⟩) (by assumption) ?_
              rotate_left 1
              · (intro wq hSw; (try dsimp only at hSw); go_simp; first | done | with_reducible rfl)
              refine wpAnyH_take (i := 21) (v := ?_) rfl (by kernel_rfl) (by kernel_rfl) (by kernel_rfl) (fun _ _ _ h => h) (Or.inl ⟨by kernel_rfl, ?_⟩) (by assumption) ?_
              rotate_left 1
              · (intro wq hSw; (try dsimp only at hSw); go_simp; first | done | with_reducible rfl)
              refine wpAnyH_take (i := 22) (v := ?_) rfl (by kernel_rfl) (by kernel_rfl) (by kernel_rfl) (fun _ _ _ h => h) (Or.inl ⟨by kernel_rfl, ?_⟩) (by assumption) ?_
              rotate_left 1
              · (intro wq hSw; (try dsimp only at hSw); go_simp; first | done | with_reducible rfl)
              refine wpAnyH_take (i := 23) (v := ?_) rfl (by kernel_rfl) (by kernel_rfl) (by kernel_rfl) (fun _ _ _ h => h) (Or.inl ⟨by kernel_rfl, ?_⟩) (by assumption) ?_
              rotate_left 1
              · (intro wq hSw; (try dsimp only at hSw); go_simp; first | done | with_reducible rfl)
              refine wpAnyH_take (i := 24) (v := ?_) rfl (by kernel_rfl) (by kernel_rfl) (by kernel_rfl) (fun _ _ _ h => h) (Or.inl ⟨by kernel_rfl, ?_⟩) (by assumption) ?_
              rotate_left 1
              · (intro wq hSw; (try dsimp only at hSw); go_simp; first | done | with_reducible rfl)
              refine wpAnyH_take (i := 25) (v := undef) rfl (by kernel_rfl) (by kernel_rfl) (by kernel_rfl) (fun _ _ _ h => h) (Or.inr ⟨by kernel_rfl, rfl⟩) (by assumption) ?_
              refine wpAnyH_take (i := 26) (v := undef) rfl (by kernel_rfl) (by kernel_rfl) (by kernel_rfl) (fun _ _ _ h => h) (Or.inr ⟨by kernel_rfl, rfl⟩) (by assumption) ?_
              refine wpAnyH_take (i := 27) (v := undef) rfl (by kernel_rfl) (by kernel_rfl) (by kernel_rfl) (fun _ _ _ h => h) (Or.inr ⟨by kernel_rfl, rfl⟩) (by assumption) ?_
              refine wpAnyH_take (i := 28) (v := undef) rfl (by kernel_rfl) (by kernel_rfl) (by kernel_rfl) (fun _ _ _ h => h) (Or.inr ⟨by kernel_rfl, rfl⟩) (by assumption) ?_
              refine wpAnyH_take (i := 29) (v := undef) rfl (by kernel_rfl) (by kernel_rfl) (by kernel_rfl) (fun _ _ _ h => h) (Or.inr ⟨by kernel_rfl, rfl⟩) (by assumption) ?_
              refine wpAnyH_take (i := 30) (v := undef) rfl (by kernel_rfl) (by kernel_rfl) (by kernel_rfl) (fun _ _ _ h => h) (Or.inr ⟨by kernel_rfl, rfl⟩) (by assumption) ?_
              refine wpAnyH_take (i := 31) (v := undef) rfl (by kernel_rfl) (by kernel_rfl) (by kernel_rfl) (fun _ _ _ h => h) (Or.inr ⟨by kernel_rfl, rfl⟩) (by assumption) ?_
              refine wpAnyH_take (i := 32) (v := undef) rfl (by kernel_rfl) (by kernel_rfl) (by kernel_rfl) (fun _ _ _ h => h) (Or.inr ⟨by kernel_rfl, rfl⟩) (by assumption) ?_
              refine wpAnyH_take (i := 33) (v := undef) rfl (by kernel_rfl) (by kernel_rfl) (by kernel_rfl) (fun _ _ _ h => h) (Or.inr ⟨by kernel_rfl, rfl⟩) (by assumption) ?_
              refine wpAnyH_take (i := 34) (v := undef) rfl (by kernel_rfl) (by kernel_rfl) (by kernel_rfl) (fun _ _ _ h => h) (Or.inr ⟨by kernel_rfl, rfl⟩) (by assumption) ?_
              refine wpAnyH_take (i := 35) (v := ?_) rfl (by kernel_rfl) (by kernel_rfl) (by kernel_rfl) (fun _ _ _ h => h) (Or.inl ⟨by kernel_rfl, ?_⟩) (by assumption) ?_
              rotate_left 1
              · (intro wq hSw; (try dsimp only at hSw); go_simp; first | done | with_reducible rfl)
              refine wpAnyH_take (i := 36) (v := ?_) rfl (by kernel_rfl) (by kernel_rfl) (by kernel_rfl) (fun _ _ _ h => h) (Or.inl ⟨by kernel_rfl, ?_⟩) (by assumption) ?_
              rotate_left 1
              · (intro wq hSw; (try dsimp only at hSw); go_simp; first | done | with_reducible rfl)
              refine wpAnyH_done (by kernel_rfl) ?_ _
              go_simp
              all_goals
                have HB2 := hidF (HWr.out.trans (hb2.mono HWr.out.size))
                clear hb2 hSS
                go_wp2_with fail
                go_roundw
                case rel => exact ⟨0 + 1, by omega, by go_num, HY2, HB2.out⟩
                case measure => simp [intOf]; omega
      · generalize n.names[1] = x at *
        generalize n.names[0] = y at *
        clear hj0
        generalize bdS k = bd at *
        cases hnm : nameB x with
        | false =>
          rw [hnm] at HNk HOk
          have HNo2 : Hid (nmTo bd n.names n.names.length = false) := HNo.out (by rw [HOk.out]; rfl)
          clear HFr HNo HYe HOk hD
          go_wp2_with fail
          go_quiet (first | (go_at_call 49; refine Calls.quiet_of_same (HNk.out _)) | (go_at_call 50; refine Calls.quiet_of_same (HBd.out _)))
          go_wp2_with fail
          go_ret
          exact ⟨bool_ret (by rw [HPr.out, HNo2.out]; rfl), HDm.out _ _ HBw.out⟩
        | true =>
          rw [hnm] at HNk HOk
          cases hbdv : bd with
          | false => subst hbdv; exact absurd (hbd rfl) (by omega)
          | true =>
            subst hbdv
            clear hbd
            cases hfr : freeB x with
            | false =>
              rw [hfr] at HFr HOk
              have HNo2 : Hid (nmTo true n.names n.names.length = false) := HNo.out (by rw [HOk.out]; rfl)
              clear HNo HYe HOk
              go_wp2_with fail
              refine wp_region_held_drew (S := (fun w' => w'.cell? ⟨w.heap.size, 0, none⟩ = some (.int .i64 (k : Int)) ∧ w'.cell? ⟨w.heap.size, 3, none⟩ = some (.slice (some ⟨b, off, none⟩) n.names.length nc) ∧ w'.cell? ⟨b, off + 1, none⟩ = some (.string x) ∧ w'.cell? ⟨b, off, none⟩ = some (.string y))) (by kernel_rfl) (by exact ⟨z0, z3, ej, e0⟩) (fun hHeld => ?_)
              refine wpAnyH_take (i := 0) (v := ?_) rfl (by kernel_rfl) (by kernel_rfl) (by kernel_rfl) (fun _ _ _ h => h) (Or.inl ⟨by kernel_rfl, ?_⟩) (by assumption) ?_
              rotate_left 1
              · (intro wq hSw; (try dsimp only at hSw); go_simp; first | done | with_reducible rfl)
              refine wpAnyH_take (i := 1) (v := ?_) rfl (by kernel_rfl) (by kernel_rfl) (by kernel_rfl) (fun _ _ _ h => h) (Or.inl ⟨by kernel_rfl, ?_⟩) (by assumption) ?_
              rotate_left 1
              · (intro wq hSw; (try dsimp only at hSw); go_simp; first | done | with_reducible rfl)
              refine wpAnyH_take (i := 2) (v := ?_) rfl (by kernel_rfl) (by kernel_rfl) (by kernel_rfl) (fun _ _ _ h => h) (Or.inl ⟨by kernel_rfl, ?_⟩) (by assumption) ?_
              rotate_left 1
              · (intro wq hSw; (try dsimp only at hSw); go_simp; first | done | with_reducible rfl)
              refine wpAnyH_take (i := 3) (v := ?_) rfl (by kernel_rfl) (by kernel_rfl) (by kernel_rfl) (fun _ _ _ h => h) (Or.inl ⟨by kernel_rfl, ?_⟩) (by assumption) ?_
              rotate_left 1
              · (intro wq hSw; (try dsimp only at hSw); go_simp; first | done | with_reducible rfl)
              refine wpAnyH_take (i := 4) (v := ?_) rfl (by kernel_rfl) (by kernel_rfl) (by kernel_rfl) (fun _ _ _ h => h) (Or.inl ⟨by kernel_rfl, ?_⟩) (by assumption) ?_
              rotate_left 1
              · (intro wq hSw; (try dsimp only at hSw); go_simp; first | done | with_reducible rfl)
              refine wpAnyH_ready (rs := [5]) (by kernel_rfl) (by simp) ?_
              refine AllReadyH.cons rfl (fun K hK => ?_) AllReadyH.nil
              go_simp
              go_at_call 49
              refine (HNk.out _).mono ?_
              rintro e w1 ⟨rfl, rfl⟩
              refine hK.out _ _ (hHeld) (fun hHeld => ?_)
              clear hK K
              refine wpAnyH_take (i := 6) (v := ?_) rfl (by kernel_rfl) (by kernel_rfl) (by kernel_rfl) (fun _ _ _ h => h) (Or.inl ⟨by kernel_rfl, ?_⟩) (by assumption) ?_
              rotate_left 1
              · (intro wq hSw; (try dsimp only at hSw); go_simp; first | done | with_reducible rfl)
              refine wpAnyH_take (i := 7) (v := ?_) rfl (by kernel_rfl) (by kernel_rfl) (by kernel_rfl) (fun _ _ _ h => h) (Or.inl ⟨by kernel_rfl, ?_⟩) (by assumption) ?_
              rotate_left 1
              · (intro wq hSw; (try dsimp only at hSw); go_simp; first | done | with_reducible rfl)
              refine wpAnyH_take (i := 8) (v := ?_) rfl (by kernel_rfl) (by kernel_rfl) (by kernel_rfl) (fun _ _ _ h => h) (Or.inl ⟨by kernel_rfl, ?_⟩) (by assumption) ?_
              rotate_left 1
              · (intro wq hSw; (try dsimp only at hSw); go_simp; first | done | with_reducible rfl)
              refine wpAnyH_take (i := 9) (v := ?_) rfl (by kernel_rfl) (by kernel_rfl) (by kernel_rfl) (fun _ _ _ h => h) (Or.inl ⟨by kernel_rfl, ?_⟩) (by assumption) ?_
              rotate_left 1
              · (intro wq hSw; (try dsimp only at hSw); go_simp; first | done | with_reducible rfl)
              refine wpAnyH_ready (rs := [10]) (by kernel_rfl) (by simp) ?_
              refine AllReadyH.cons rfl (fun K hK => ?_) AllReadyH.nil
              go_simp
              go_at_call 50
              refine (HBd.out _).mono ?_
              rintro e w1 ⟨rfl, rfl⟩
              refine hK.out _ _ (hHeld) (fun hHeld => ?_)
              clear hK K
              refine wpAnyH_take (i := 11) (v := ?_) rfl (by kernel_rfl) (by kernel_rfl) (by kernel_rfl) (fun _ _ _ h => h) (Or.inl ⟨by kernel_rfl, ?_⟩) (by assumption) ?_
              rotate_left 1
              · (intro wq hSw; (try dsimp only at hSw); go_simp; first | done | with_reducible rfl)
              refine wpAnyH_take (i := 12) (v := ?_) rfl (by kernel_rfl) (by kernel_rfl) (by kernel_rfl) (fun _ _ _ h => h) (Or.inl ⟨by kernel_rfl, ?_⟩) (by assumption) ?_
              rotate_left 1
              · (intro wq hSw; (try dsimp only at hSw); go_simp; first | done | with_reducible rfl)
              refine wpAnyH_take (i := 13) (v := ?_) rfl (by kernel_rfl) (by kernel_rfl) (by kernel_rfl) (fun _ _ _ h => h) (Or.inl ⟨by kernel_rfl, ?_⟩) (by assumption) ?_
              rotate_left 1
              · (intro wq hSw; (try dsimp only at hSw); go_simp; first | done | with_reducible rfl)
              refine wpAnyH_take (i := 14) (v := ?_) rfl (by kernel_rfl) (by kernel_rfl) (by kernel_rfl) (fun _ _ _ h => h) (Or.inl ⟨by kernel_rfl, ?_⟩) (by assumption) ?_
              rotate_left 1
              · (intro wq hSw; (try dsimp only at hSw); go_simp; first | done | with_reducible rfl)
              refine wpAnyH_take (i := 15) (v := ?_) rfl (by kernel_rfl) (by kernel_rfl) (by kernel_rfl) (fun _ _ _ h => h) (Or.inl ⟨by kernel_rfl, ?_⟩) (by assumption) ?_
              rotate_left 1
              · (intro wq hSw; (try dsimp only at hSw); go_simp; first | done | with_reducible rfl)
              refine wpAnyH_take (i := 16) (v := ?_) rfl (by kernel_rfl) (by kernel_rfl) (by kernel_rfl) (fun _ _ _ h => h) (Or.inl ⟨by kernel_rfl, ?_⟩) (by assumption) ?_
              rotate_left 1
              · (intro wq hSw; (try dsimp only at hSw); go_simp; first | done | with_reducible rfl)
              refine wpAnyH_ready (rs := [17]) (by kernel_rfl) (by simp) ?_
              refine AllReadyH.cons rfl (fun K hK => ?_) AllReadyH.nil
              go_simp
              go_at_call 51
              refine (HFr.out _ hD).mono ?_
              rintro e w2 ⟨rfl, hb2, hSS⟩
              refine hK.out _ _ (hSS) (fun hHeld => ?_)
              clear hK K
              refine wpAnyH_take (i := 18) (v := ?_) rfl (by kernel_rfl) (by kernel_rfl) (by kernel_rfl) (fun _ _ _ h => h) (Or.inl ⟨by kernel_rfl, ?_⟩) (by assumption) ?_
              rotate_left 1
              · (intro wq hSw; (try dsimp only at hSw); go_simp; first | done | with_reducible rfl)
              refine wpAnyH_take (i := 19) (v := ?_) rfl (by kernel_rfl) (by kernel_rfl) (by kernel_rfl) (fun _ _ _ h => h) (Or.inl ⟨by kernel_rfl, ?_⟩) (by assumption) ?_
              rotate_left 1
              · (intro wq hSw; (try dsimp only at hSw); go_simp; first | done | with_reducible rfl)
              refine wpAnyH_take (i := 20) (v := ?_) rfl (by kernel_rfl) (by kernel_rfl) (by kernel_rfl) (fun _ _ _ h => h) (Or.inl ⟨by kernel_rfl, ?_⟩) (by assumption) ?_
              rotate_left 1
              · (intro wq hSw; (try dsimp only at hSw); go_simp; first | done | with_reducible rfl)
              refine wpAnyH_take (i := 21) (v := ?_) rfl (by kernel_rfl) (by kernel_rfl) (by kernel_rfl) (fun _ _ _ h => h) (Or.inl ⟨by kernel_rfl, ?_⟩) (by assumption) ?_
              rotate_left 1
              · (intro wq hSw; (try dsimp only at hSw); go_simp; first | done | with_reducible rfl)
              refine wpAnyH_take (i := 22) (v := undef) rfl (by kernel_rfl) (by kernel_rfl) (by kernel_rfl) (fun _ _ _ h => h) (Or.inr ⟨by kernel_rfl, rfl⟩) (by assumption) ?_
              refine wpAnyH_take (i := 23) (v := undef) rfl (by kernel_rfl) (by kernel_rfl) (by kernel_rfl) (fun _ _ _ h => h) (Or.inr ⟨by kernel_rfl, rfl⟩) (by assumption) ?_
              refine wpAnyH_take (i := 24) (v := undef) rfl (by kernel_rfl) (by kernel_rfl) (by kernel_rfl) (fun _ _ _ h => h) (Or.inr ⟨by kernel_rfl, rfl⟩) (by assumption) ?_
              refine wpAnyH_take (i := 25) (v := undef) rfl (by kernel_rfl) (by kernel_rfl) (by kernel_rfl) (fun _ _ _ h => h) (Or.inr ⟨by kernel_rfl, rfl⟩) (by assumption) ?_
              refine wpAnyH_take (i := 26) (v := undef) rfl (by kernel_rfl) (by kernel_rfl) (by kernel_rfl) (fun _ _ _ h => h) (Or.inr ⟨by kernel_rfl, rfl⟩) (by assumption) ?_
              refine wpAnyH_take (i := 27) (v := undef) rfl (by kernel_rfl) (by kernel_rfl) (by kernel_rfl) (fun _ _ _ h => h) (Or.inr ⟨by kernel_rfl, rfl⟩) (by assumption) ?_
              refine wpAnyH_take (i := 28) (v := undef) rfl (by kernel_rfl) (by kernel_rfl) (by kernel_rfl) (fun _ _ _ h => h) (Or.inr ⟨by kernel_rfl, rfl⟩) (by assumption) ?_
              refine wpAnyH_take (i := 29) (v := undef) rfl (by kernel_rfl) (by kernel_rfl) (by kernel_rfl) (fun _ _ _ h => h) (Or.inr ⟨by kernel_rfl, rfl⟩) (by assumption) ?_
              refine wpAnyH_take (i := 30) (v := undef) rfl (by kernel_rfl) (by kernel_rfl) (by kernel_rfl) (fun _ _ _ h => h) (Or.inr ⟨by kernel_rfl, rfl⟩) (by assumption) ?_
              refine wpAnyH_take (i := 31) (v := undef) rfl (by kernel_rfl) (by kernel_rfl) (by kernel_rfl) (fun _ _ _ h => h) (Or.inr ⟨by kernel_rfl, rfl⟩) (by assumption) ?_
              refine wpAnyH_take (i := 32) (v := undef) rfl (by kernel_rfl) (by kernel_rfl) (by kernel_rfl) (fun _ _ _ h => h) (Or.inr ⟨by kernel_rfl, rfl⟩) (by assumption) ?_
              refine wpAnyH_take (i := 33) (v := undef) rfl (by kernel_rfl) (by kernel_rfl) (by kernel_rfl) (fun _ _ _ h => h) (Or.inr ⟨by kernel_rfl, rfl⟩) (by assumption) ?_
              refine wpAnyH_take (i := 34) (v := undef) rfl (by kernel_rfl) (by kernel_rfl) (by kernel_rfl) (fun _ _ _ h => h) (Or.inr ⟨by kernel_rfl, rfl⟩) (by assumption) ?_
              refine wpAnyH_take (i := 35) (v := undef) rfl (by kernel_rfl) (by kernel_rfl) (by kernel_rfl) (fun _ _ _ h => h) (Or.inr ⟨by kernel_rfl, rfl⟩) (by assumption) ?_
              refine wpAnyH_take (i := 36) (v := ?_) rfl (by kernel_rfl) (by kernel_rfl) (by kernel_rfl) (fun _ _ _ h => h) (Or.inl ⟨by kernel_rfl, ?_⟩) (by assumption) ?_
              rotate_left 1
              · (intro wq hSw; (try dsimp only at hSw); go_simp; first | done | with_reducible rfl)
              refine wpAnyH_done (by kernel_rfl) ?_ _
              go_simp
              all_goals
                have HB2 := hidF (HBw.out.trans (hb2.mono HBw.out.size))
                clear hb2 hSS
                go_wp2_with fail
                go_ret
                exact ⟨bool_ret (by rw [HPr.out, HNo2.out]; rfl), HB2.out⟩
            | true =>
              rw [hfr] at HFr HOk
              cases hxy : (x == y) with
              | true =>
                rw [hxy] at HOk heq
                have HNo2 : Hid (nmTo true n.names n.names.length = false) := HNo.out (by rw [HOk.out]; rfl)
                clear HNo HYe HOk
                go_wp2_with fail
                have h0l : 0 < n.names.length := by omega
                refine wp_region_held_drew (S := (fun w' => w'.cell? ⟨w.heap.size, 0, none⟩ = some (.int .i64 (k : Int)) ∧ w'.cell? ⟨w.heap.size, 3, none⟩ = some (.slice (some ⟨b, off, none⟩) n.names.length nc) ∧ w'.cell? ⟨b, off + 1, none⟩ = some (.string x) ∧ w'.cell? ⟨b, off, none⟩ = some (.string y))) (by kernel_rfl) (by exact ⟨z0, z3, ej, e0⟩) (fun hHeld => ?_)
                refine wpAnyH_take (i := 0) (v := ?_) rfl (by kernel_rfl) (by kernel_rfl) (by kernel_rfl) (fun _ _ _ h => h) (Or.inl ⟨by kernel_rfl, ?_⟩) (by assumption) ?_
                rotate_left 1
                · (intro wq hSw; (try dsimp only at hSw); go_simp; first | done | with_reducible rfl)
                refine wpAnyH_take (i := 1) (v := ?_) rfl (by kernel_rfl) (by kernel_rfl) (by kernel_rfl) (fun _ _ _ h => h) (Or.inl ⟨by kernel_rfl, ?_⟩) (by assumption) ?_
                rotate_left 1
                · (intro wq hSw; (try dsimp only at hSw); go_simp; first | done | with_reducible rfl)
                refine wpAnyH_take (i := 2) (v := ?_) rfl (by kernel_rfl) (by kernel_rfl) (by kernel_rfl) (fun _ _ _ h => h) (Or.inl ⟨by kernel_rfl, ?_⟩) (by assumption) ?_
                rotate_left 1
                · (intro wq hSw; (try dsimp only at hSw); go_simp; first | done | with_reducible rfl)
                refine wpAnyH_take (i := 3) (v := ?_) rfl (by kernel_rfl) (by kernel_rfl) (by kernel_rfl) (fun _ _ _ h => h) (Or.inl ⟨by kernel_rfl, ?_⟩) (by assumption) ?_
                rotate_left 1
                · (intro wq hSw; (try dsimp only at hSw); go_simp; first | done | with_reducible rfl)
                refine wpAnyH_take (i := 4) (v := ?_) rfl (by kernel_rfl) (by kernel_rfl) (by kernel_rfl) (fun _ _ _ h => h) (Or.inl ⟨by kernel_rfl, ?_⟩) (by assumption) ?_
                rotate_left 1
                · (intro wq hSw; (try dsimp only at hSw); go_simp; first | done | with_reducible rfl)
                refine wpAnyH_ready (rs := [5]) (by kernel_rfl) (by simp) ?_
                refine AllReadyH.cons rfl (fun K hK => ?_) AllReadyH.nil
                go_simp
                go_at_call 49
                refine (HNk.out _).mono ?_
                rintro e w1 ⟨rfl, rfl⟩
                refine hK.out _ _ (hHeld) (fun hHeld => ?_)
                clear hK K
                refine wpAnyH_take (i := 6) (v := ?_) rfl (by kernel_rfl) (by kernel_rfl) (by kernel_rfl) (fun _ _ _ h => h) (Or.inl ⟨by kernel_rfl, ?_⟩) (by assumption) ?_
                rotate_left 1
                · (intro wq hSw; (try dsimp only at hSw); go_simp; first | done | with_reducible rfl)
                refine wpAnyH_take (i := 7) (v := ?_) rfl (by kernel_rfl) (by kernel_rfl) (by kernel_rfl) (fun _ _ _ h => h) (Or.inl ⟨by kernel_rfl, ?_⟩) (by assumption) ?_
                rotate_left 1
                · (intro wq hSw; (try dsimp only at hSw); go_simp; first | done | with_reducible rfl)
                refine wpAnyH_take (i := 8) (v := ?_) rfl (by kernel_rfl) (by kernel_rfl) (by kernel_rfl) (fun _ _ _ h => h) (Or.inl ⟨by kernel_rfl, ?_⟩) (by assumption) ?_
                rotate_left 1
                · (intro wq hSw; (try dsimp only at hSw); go_simp; first | done | with_reducible rfl)
                refine wpAnyH_take (i := 9) (v := ?_) rfl (by kernel_rfl) (by kernel_rfl) (by kernel_rfl) (fun _ _ _ h => h) (Or.inl ⟨by kernel_rfl, ?_⟩) (by assumption) ?_
                rotate_left 1
                · (intro wq hSw; (try dsimp only at hSw); go_simp; first | done | with_reducible rfl)
                refine wpAnyH_ready (rs := [10]) (by kernel_rfl) (by simp) ?_
                refine AllReadyH.cons rfl (fun K hK => ?_) AllReadyH.nil
                go_simp
                go_at_call 50
                refine (HBd.out _).mono ?_
                rintro e w1 ⟨rfl, rfl⟩
                refine hK.out _ _ (hHeld) (fun hHeld => ?_)
                clear hK K
                refine wpAnyH_take (i := 11) (v := ?_) rfl (by kernel_rfl) (by kernel_rfl) (by kernel_rfl) (fun _ _ _ h => h) (Or.inl ⟨by kernel_rfl, ?_⟩) (by assumption) ?_
                rotate_left 1
                · (intro wq hSw; (try dsimp only at hSw); go_simp; first | done | with_reducible rfl)
                refine wpAnyH_take (i := 12) (v := ?_) rfl (by kernel_rfl) (by kernel_rfl) (by kernel_rfl) (fun _ _ _ h => h) (Or.inl ⟨by kernel_rfl, ?_⟩) (by assumption) ?_
                rotate_left 1
                · (intro wq hSw; (try dsimp only at hSw); go_simp; first | done | with_reducible rfl)
                refine wpAnyH_take (i := 13) (v := ?_) rfl (by kernel_rfl) (by kernel_rfl) (by kernel_rfl) (fun _ _ _ h => h) (Or.inl ⟨by kernel_rfl, ?_⟩) (by assumption) ?_
                rotate_left 1
                · (intro wq hSw; (try dsimp only at hSw); go_simp; first | done | with_reducible rfl)
                refine wpAnyH_take (i := 14) (v := ?_) rfl (by kernel_rfl) (by kernel_rfl) (by kernel_rfl) (fun _ _ _ h => h) (Or.inl ⟨by kernel_rfl, ?_⟩) (by assumption) ?_
                rotate_left 1
                · (intro wq hSw; (try dsimp only at hSw); go_simp; first | done | with_reducible rfl)
                refine wpAnyH_take (i := 15) (v := ?_) rfl (by kernel_rfl) (by kernel_rfl) (by kernel_rfl) (fun _ _ _ h => h) (Or.inl ⟨by kernel_rfl, ?_⟩) (by assumption) ?_
                rotate_left 1
                · (intro wq hSw; (try dsimp only at hSw); go_simp; first | done | with_reducible rfl)
                refine wpAnyH_take (i := 16) (v := ?_) rfl (by kernel_rfl) (by kernel_rfl) (by kernel_rfl) (fun _ _ _ h => h) (Or.inl ⟨by kernel_rfl, ?_⟩) (by assumption) ?_
                rotate_left 1
                · (intro wq hSw; (try dsimp only at hSw); go_simp; first | done | with_reducible rfl)
                refine wpAnyH_ready (rs := [17]) (by kernel_rfl) (by simp) ?_
                refine AllReadyH.cons rfl (fun K hK => ?_) AllReadyH.nil
                go_simp
                go_at_call 51
                refine (HFr.out _ hD).mono ?_
                rintro e w2 ⟨rfl, hb2, hSS⟩
                refine hK.out _ _ (hSS) (fun hHeld => ?_)
                clear hK K
                refine wpAnyH_take (i := 18) (v := ?_) rfl (by kernel_rfl) (by kernel_rfl) (by kernel_rfl) (fun _ _ _ h => h) (Or.inl ⟨by kernel_rfl, ?_⟩) (by assumption) ?_
                rotate_left 1
                · (intro wq hSw; (try dsimp only at hSw); go_simp; first | done | with_reducible rfl)
                refine wpAnyH_take (i := 19) (v := ?_) rfl (by kernel_rfl) (by kernel_rfl) (by kernel_rfl) (fun _ _ _ h => h) (Or.inl ⟨by kernel_rfl, ?_⟩) (by assumption) ?_
                rotate_left 1
                · (intro wq hSw; (try dsimp only at hSw); go_simp; first | done | with_reducible rfl)
                refine wpAnyH_take (i := 20) (v := ?_) rfl (by kernel_rfl) (by kernel_rfl) (by kernel_rfl) (fun _ _ _ h => h) (Or.inl ⟨by kernel_rfl, ?_⟩) (by assumption) ?_
                rotate_left 1
                · (intro wq hSw; (try dsimp only at hSw); go_simp; first | done | with_reducible rfl)
                refine wpAnyH_take (i := 21) (v := ?_) rfl (by kernel_rfl) (by kernel_rfl) (by kernel_rfl) (fun _ _ _ h => h) (Or.inl ⟨by kernel_rfl, ?_⟩) (by assumption) ?_
                rotate_left 1
                · (intro wq hSw; (try dsimp only at hSw); go_simp; first | done | with_reducible rfl)
                refine wpAnyH_take (i := 22) (v := ?_) rfl (by kernel_rfl) (by kernel_rfl) (by kernel_rfl) (fun _ _ _ h => h) (Or.inl ⟨by kernel_rfl, ?_⟩) (by assumption) ?_
                rotate_left 1
                · (intro wq hSw; (try dsimp only at hSw); go_simp; first | done | with_reducible rfl)
                refine wpAnyH_take (i := 23) (v := ?_) rfl (by kernel_rfl) (by kernel_rfl) (by kernel_rfl) (fun _ _ _ h => h) (Or.inl ⟨by kernel_rfl, ?_⟩) (by assumption) ?_
                rotate_left 1
                · (intro wq hSw; (try dsimp only at hSw); go_simp; first | done | with_reducible rfl)
                refine wpAnyH_take (i := 24) (v := ?_) rfl (by kernel_rfl) (by kernel_rfl) (by kernel_rfl) (fun _ _ _ h => h) (Or.inl ⟨by kernel_rfl, ?_⟩) (by assumption) ?_
                rotate_left 1
                · (intro wq hSw; (try dsimp only at hSw); go_simp; first | done | with_reducible rfl)
                refine wpAnyH_take (i := 25) (v := ?_) rfl (by kernel_rfl) (by kernel_rfl) (by kernel_rfl) (fun _ _ _ h => h) (Or.inl ⟨by kernel_rfl, ?_⟩) (by assumption) ?_
                rotate_left 1
                · (intro wq hSw; (try dsimp only at hSw); go_simp; first | done | with_reducible rfl)
                refine wpAnyH_take (i := 26) (v := ?_) rfl (by kernel_rfl) (by kernel_rfl) (by kernel_rfl) (fun _ _ _ h => h) (Or.inl ⟨by kernel_rfl, ?_⟩) (by assumption) ?_
                rotate_left 1
                · (intro wq hSw; (try dsimp only at hSw); go_simp; first | done | with_reducible rfl)
                refine wpAnyH_take (i := 27) (v := ?_) rfl (by kernel_rfl) (by kernel_rfl) (by kernel_rfl) (fun _ _ _ h => h) (Or.inl ⟨by kernel_rfl, ?_⟩) (by assumption) ?_
                rotate_left 1
                · (intro wq hSw; (try dsimp only at hSw); go_simp; first | done | with_reducible rfl)
                refine wpAnyH_take (i := 28) (v := ?_) rfl (by kernel_rfl) (by kernel_rfl) (by kernel_rfl) (fun _ _ _ h => h) (Or.inl ⟨by kernel_rfl, ?_⟩) (by assumption) ?_
                rotate_left 1
                · (intro wq hSw; (try dsimp only at hSw); go_simp; first | done | with_reducible rfl)
                refine wpAnyH_take (i := 29) (v := ?_) rfl (by kernel_rfl) (by kernel_rfl) (by kernel_rfl) (fun _ _ _ h => h) (Or.inl ⟨by kernel_rfl, ?_⟩) (by assumption) ?_
                rotate_left 1
                · (intro wq hSw; (try dsimp only at hSw); go_simp; first | done | with_reducible rfl)
                refine wpAnyH_take (i := 30) (v := ?_) rfl (by kernel_rfl) (by kernel_rfl) (by kernel_rfl) (fun _ _ _ h => h) (Or.inl ⟨by kernel_rfl, ?_⟩) (by assumption) ?_
                rotate_left 1
                · (intro wq hSw; (try dsimp only at hSw); go_simp; first | done | with_reducible rfl)
                refine wpAnyH_take (i := 31) (v := ?_) rfl (by kernel_rfl) (by kernel_rfl) (by kernel_rfl) (fun _ _ _ h => h) (Or.inl ⟨by kernel_rfl, ?_⟩) (by assumption) ?_
                rotate_left 1
                · (intro wq hSw; (try dsimp only at hSw); go_simp; first | done | with_reducible rfl)
                refine wpAnyH_take (i := 32) (v := ?_) rfl (by kernel_rfl) (by kernel_rfl) (by kernel_rfl) (fun _ _ _ h => h) (Or.inl ⟨by kernel_rfl, ?_⟩) (by assumption) ?_
                rotate_left 1
                · (intro wq hSw; (try dsimp only at hSw); go_simp; first | done | with_reducible rfl)
                refine wpAnyH_take (i := 33) (v := ?_) rfl (by kernel_rfl) (by kernel_rfl) (by kernel_rfl) (fun _ _ _ h => h) (Or.inl ⟨by kernel_rfl, ?_⟩) (by assumption) ?_
                rotate_left 1
                · (intro wq hSw; (try dsimp only at hSw); go_simp; first | done | with_reducible rfl)
                refine wpAnyH_take (i := 34) (v := ?_) rfl (by kernel_rfl) (by kernel_rfl) (by kernel_rfl) (fun _ _ _ h => h) (Or.inl ⟨by kernel_rfl, ?_⟩) (by assumption) ?_
                rotate_left 1
                · (intro wq hSw; (try dsimp only at hSw); go_simp; first | done | with_reducible rfl)
                refine wpAnyH_take (i := 35) (v := ?_) rfl (by kernel_rfl) (by kernel_rfl) (by kernel_rfl) (fun _ _ _ h => h) (Or.inl ⟨by kernel_rfl, ?_⟩) (by assumption) ?_
                rotate_left 1
                · (intro wq hSw; (try dsimp only at hSw); go_simp; first | done | with_reducible rfl)
                refine wpAnyH_take (i := 36) (v := ?_) rfl (by kernel_rfl) (by kernel_rfl) (by kernel_rfl) (fun _ _ _ h => h) (Or.inl ⟨by kernel_rfl, ?_⟩) (by assumption) ?_
                rotate_left 1
                · (intro wq hSw; (try dsimp only at hSw); go_simp; first | done | with_reducible rfl)
                refine wpAnyH_done (by kernel_rfl) ?_ _
                go_simp
                all_goals
                  have HB2 := hidF (HBw.out.trans (hb2.mono HBw.out.size))
                  clear hb2 hSS
                  go_wp2_with fail
                  go_ret
                  exact ⟨bool_ret (by rw [HPr.out, HNo2.out]; rfl), HB2.out⟩
              | false =>
                rw [hxy] at HOk heq
                have HY2 : Hid (nmTo true n.names (1 + 1) = true) := HYe.out (by rw [HOk.out]; rfl)
                clear HNo HYe HOk
                go_wp2_with fail
                have h0l : 0 < n.names.length := by omega
                refine wp_region_held_drew (S := (fun w' => w'.cell? ⟨w.heap.size, 0, none⟩ = some (.int .i64 (k : Int)) ∧ w'.cell? ⟨w.heap.size, 3, none⟩ = some (.slice (some ⟨b, off, none⟩) n.names.length nc) ∧ w'.cell? ⟨b, off + 1, none⟩ = some (.string x) ∧ w'.cell? ⟨b, off, none⟩ = some (.string y))) (by kernel_rfl) (by exact ⟨z0, z3, ej, e0⟩) (fun hHeld => ?_)
                refine wpAnyH_take (i := 0) (v := ?_) rfl (by kernel_rfl) (by kernel_rfl) (by kernel_rfl) (fun _ _ _ h => h) (Or.inl ⟨by kernel_rfl, ?_⟩) (by assumption) ?_
                rotate_left 1
                · (intro wq hSw; (try dsimp only at hSw); go_simp; first | done | with_reducible rfl)
                refine wpAnyH_take (i := 1) (v := ?_) rfl (by kernel_rfl) (by kernel_rfl) (by kernel_rfl) (fun _ _ _ h => h) (Or.inl ⟨by kernel_rfl, ?_⟩) (by assumption) ?_
                rotate_left 1
                · (intro wq hSw; (try dsimp only at hSw); go_simp; first | done | with_reducible rfl)
                refine wpAnyH_take (i := 2) (v := ?_) rfl (by kernel_rfl) (by kernel_rfl) (by kernel_rfl) (fun _ _ _ h => h) (Or.inl ⟨by kernel_rfl, ?_⟩) (by assumption) ?_
                rotate_left 1
                · (intro wq hSw; (try dsimp only at hSw); go_simp; first | done | with_reducible rfl)
                refine wpAnyH_take (i := 3) (v := ?_) rfl (by kernel_rfl) (by kernel_rfl) (by kernel_rfl) (fun _ _ _ h => h) (Or.inl ⟨by kernel_rfl, ?_⟩) (by assumption) ?_
                rotate_left 1
                · (intro wq hSw; (try dsimp only at hSw); go_simp; first | done | with_reducible rfl)
                refine wpAnyH_take (i := 4) (v := ?_) rfl (by kernel_rfl) (by kernel_rfl) (by kernel_rfl) (fun _ _ _ h => h) (Or.inl ⟨by kernel_rfl, ?_⟩) (by assumption) ?_
                rotate_left 1
                · (intro wq hSw; (try dsimp only at hSw); go_simp; first | done | with_reducible rfl)
                refine wpAnyH_ready (rs := [5]) (by kernel_rfl) (by simp) ?_
                refine AllReadyH.cons rfl (fun K hK => ?_) AllReadyH.nil
                go_simp
                go_at_call 49
                refine (HNk.out _).mono ?_
                rintro e w1 ⟨rfl, rfl⟩
                refine hK.out _ _ (hHeld) (fun hHeld => ?_)
                clear hK K
                refine wpAnyH_take (i := 6) (v := ?_) rfl (by kernel_rfl) (by kernel_rfl) (by kernel_rfl) (fun _ _ _ h => h) (Or.inl ⟨by kernel_rfl, ?_⟩) (by assumption) ?_
                rotate_left 1
                · (intro wq hSw; (try dsimp only at hSw); go_simp; first | done | with_reducible rfl)
                refine wpAnyH_take (i := 7) (v := ?_) rfl (by kernel_rfl) (by kernel_rfl) (by kernel_rfl) (fun _ _ _ h => h) (Or.inl ⟨by kernel_rfl, ?_⟩) (by assumption) ?_
                rotate_left 1
                · (intro wq hSw; (try dsimp only at hSw); go_simp; first | done | with_reducible rfl)
                refine wpAnyH_take (i := 8) (v := ?_) rfl (by kernel_rfl) (by kernel_rfl) (by kernel_rfl) (fun _ _ _ h => h) (Or.inl ⟨by kernel_rfl, ?_⟩) (by assumption) ?_
                rotate_left 1
                · (intro wq hSw; (try dsimp only at hSw); go_simp; first | done | with_reducible rfl)
                refine wpAnyH_take (i := 9) (v := ?_) rfl (by kernel_rfl) (by kernel_rfl) (by kernel_rfl) (fun _ _ _ h => h) (Or.inl ⟨by kernel_rfl, ?_⟩) (by assumption) ?_
                rotate_left 1
                · (intro wq hSw; (try dsimp only at hSw); go_simp; first | done | with_reducible rfl)
                refine wpAnyH_ready (rs := [10]) (by kernel_rfl) (by simp) ?_
                refine AllReadyH.cons rfl (fun K hK => ?_) AllReadyH.nil
                go_simp
                go_at_call 50
                refine (HBd.out _).mono ?_
                rintro e w1 ⟨rfl, rfl⟩
                refine hK.out _ _ (hHeld) (fun hHeld => ?_)
                clear hK K
                refine wpAnyH_take (i := 11) (v := ?_) rfl (by kernel_rfl) (by kernel_rfl) (by kernel_rfl) (fun _ _ _ h => h) (Or.inl ⟨by kernel_rfl, ?_⟩) (by assumption) ?_
                rotate_left 1
                · (intro wq hSw; (try dsimp only at hSw); go_simp; first | done | with_reducible rfl)
                refine wpAnyH_take (i := 12) (v := ?_) rfl (by kernel_rfl) (by kernel_rfl) (by kernel_rfl) (fun _ _ _ h => h) (Or.inl ⟨by kernel_rfl, ?_⟩) (by assumption) ?_
                rotate_left 1
                · (intro wq hSw; (try dsimp only at hSw); go_simp; first | done | with_reducible rfl)
                refine wpAnyH_take (i := 13) (v := ?_) rfl (by kernel_rfl) (by kernel_rfl) (by kernel_rfl) (fun _ _ _ h => h) (Or.inl ⟨by kernel_rfl, ?_⟩) (by assumption) ?_
                rotate_left 1
                · (intro wq hSw; (try dsimp only at hSw); go_simp; first | done | with_reducible rfl)
                refine wpAnyH_take (i := 14) (v := ?_) rfl (by kernel_rfl) (by kernel_rfl) (by kernel_rfl) (fun _ _ _ h => h) (Or.inl ⟨by kernel_rfl, ?_⟩) (by assumption) ?_
                rotate_left 1
                · (intro wq hSw; (try dsimp only at hSw); go_simp; first | done | with_reducible rfl)
                refine wpAnyH_take (i := 15) (v := ?_) rfl (by kernel_rfl) (by kernel_rfl) (by kernel_rfl) (fun _ _ _ h => h) (Or.inl ⟨by kernel_rfl, ?_⟩) (by assumption) ?_
                rotate_left 1
                · (intro wq hSw; (try dsimp only at hSw); go_simp; first | done | with_reducible rfl)
                refine wpAnyH_take (i := 16) (v := ?_) rfl (by kernel_rfl) (by kernel_rfl) (by kernel_rfl) (fun _ _ _ h => h) (Or.inl ⟨by kernel_rfl, ?_⟩) (by assumption) ?_
                rotate_left 1
                · (intro wq hSw; (try dsimp only at hSw); go_simp; first | done | with_reducible rfl)
                refine wpAnyH_ready (rs := [17]) (by kernel_rfl) (by simp) ?_
                refine AllReadyH.cons rfl (fun K hK => ?_) AllReadyH.nil
                go_simp
                go_at_call 51
                refine (HFr.out _ hD).mono ?_
                rintro e w2 ⟨rfl, hb2, hSS⟩
                refine hK.out _ _ (hSS) (fun hHeld => ?_)
                clear hK K
                refine wpAnyH_take (i := 18) (v := ?_) rfl (by kernel_rfl) (by kernel_rfl) (by kernel_rfl) (fun _ _ _ h => h) (Or.inl ⟨by kernel_rfl, ?_⟩) (by assumption) ?_
                rotate_left 1
                · (intro wq hSw; (try dsimp only at hSw); go_simp; first | done | with_reducible rfl)
                refine wpAnyH_take (i := 19) (v := ?_) rfl (by kernel_rfl) (by kernel_rfl) (by kernel_rfl) (fun _ _ _ h => h) (Or.inl ⟨by kernel_rfl, ?_⟩) (by assumption) ?_
                rotate_left 1
                · (intro wq hSw; (try dsimp only at hSw); go_simp; first | done | with_reducible rfl)
                refine wpAnyH_take (i := 20) (v := ?_) rfl (by kernel_rfl) (by kernel_rfl) (by kernel_rfl) (fun _ _ _ h => h) (Or.inl ⟨by kernel_rfl, ?_⟩) (by assumption) ?_
                rotate_left 1
                · (intro wq hSw; (try dsimp only at hSw); go_simp; first | done | with_reducible rfl)
                refine wpAnyH_take (i := 21) (v := ?_) rfl (by kernel_rfl) (by kernel_rfl) (by kernel_rfl) (fun _ _ _ h => h) (Or.inl ⟨by kernel_rfl, ?_⟩) (by assumption) ?_
                rotate_left 1
                · (intro wq hSw; (try dsimp only at hSw); go_simp; first | done | with_reducible rfl)
                refine wpAnyH_take (i := 22) (v := ?_) rfl (by kernel_rfl) (by kernel_rfl) (by kernel_rfl) (fun _ _ _ h => h) (Or.inl ⟨by kernel_rfl, ?_⟩) (by assumption) ?_
                rotate_left 1
                · (intro wq hSw; (try dsimp only at hSw); go_simp; first | done | with_reducible rfl)
                refine wpAnyH_take (i := 23) (v := ?_) rfl (by kernel_rfl) (by kernel_rfl) (by kernel_rfl) (fun _ _ _ h => h) (Or.inl ⟨by kernel_rfl, ?_⟩) (by assumption) ?_
                rotate_left 1
                · (intro wq hSw; (try dsimp only at hSw); go_simp; first | done | with_reducible rfl)
                refine wpAnyH_take (i := 24) (v := ?_) rfl (by kernel_rfl) (by kernel_rfl) (by kernel_rfl) (fun _ _ _ h => h) (Or.inl ⟨by kernel_rfl, ?_⟩) (by assumption) ?_
                rotate_left 1
                · (intro wq hSw; (try dsimp only at hSw); go_simp; first | done | with_reducible rfl)
                refine wpAnyH_take (i := 25) (v := ?_) rfl (by kernel_rfl) (by kernel_rfl) (by kernel_rfl) (fun _ _ _ h => h) (Or.inl ⟨by kernel_rfl, ?_⟩) (by assumption) ?_
                rotate_left 1
                · (intro wq hSw; (try dsimp only at hSw); go_simp; first | done | with_reducible rfl)
                refine wpAnyH_take (i := 26) (v := ?_) rfl (by kernel_rfl) (by kernel_rfl) (by kernel_rfl) (fun _ _ _ h => h) (Or.inl ⟨by kernel_rfl, ?_⟩) (by assumption) ?_
                rotate_left 1
                · (intro wq hSw; (try dsimp only at hSw); go_simp; first | done | with_reducible rfl)
                refine wpAnyH_take (i := 27) (v := ?_) rfl (by kernel_rfl) (by kernel_rfl) (by kernel_rfl) (fun _ _ _ h => h) (Or.inl ⟨by kernel_rfl, ?_⟩) (by assumption) ?_
                rotate_left 1
                · (intro wq hSw; (try dsimp only at hSw); go_simp; first | done | with_reducible rfl)
                refine wpAnyH_take (i := 28) (v := ?_) rfl (by kernel_rfl) (by kernel_rfl) (by kernel_rfl) (fun _ _ _ h => h) (Or.inl ⟨by kernel_rfl, ?_⟩) (by assumption) ?_
                rotate_left 1
                · (intro wq hSw; (try dsimp only at hSw); go_simp; first | done | with_reducible rfl)
                refine wpAnyH_take (i := 29) (v := ?_) rfl (by kernel_rfl) (by kernel_rfl) (by kernel_rfl) (fun _ _ _ h => h) (Or.inl ⟨by kernel_rfl, ?_⟩) (by assumption) ?_
                rotate_left 1
                · (intro wq hSw; (try dsimp only at hSw); go_simp; first | done | with_reducible rfl)
                refine wpAnyH_take (i := 30) (v := ?_) rfl (by kernel_rfl) (by kernel_rfl) (by kernel_rfl) (fun _ _ _ h => h) (Or.inl ⟨by kernel_rfl, ?_⟩) (by assumption) ?_
                rotate_left 1
                · (intro wq hSw; (try dsimp only at hSw); go_simp; first | done | with_reducible rfl)
                refine wpAnyH_take (i := 31) (v := ?_) rfl (by kernel_rfl) (by kernel_rfl) (by kernel_rfl) (fun _ _ _ h => h) (Or.inl ⟨by kernel_rfl, ?_⟩) (by assumption) ?_
                rotate_left 1
                · (intro wq hSw; (try dsimp only at hSw); go_simp; first | done | with_reducible rfl)
                refine wpAnyH_take (i := 32) (v := ?_) rfl (by kernel_rfl) (by kernel_rfl) (by kernel_rfl) (fun _ _ _ h => h) (Or.inl ⟨by kernel_rfl, ?_⟩) (by assumption) ?_
                rotate_left 1
                · (intro wq hSw; (try dsimp only at hSw); go_simp; first | done | with_reducible rfl)
                refine wpAnyH_take (i := 33) (v := ?_) rfl (by kernel_rfl) (by kernel_rfl) (by kernel_rfl) (fun _ _ _ h => h) (Or.inl ⟨by kernel_rfl, ?_⟩) (by assumption) ?_
                rotate_left 1
                · (intro wq hSw; (try dsimp only at hSw); go_simp; first | done | with_reducible rfl)
                refine wpAnyH_take (i := 34) (v := ?_) rfl (by kernel_rfl) (by kernel_rfl) (by kernel_rfl) (fun _ _ _ h => h) (Or.inl ⟨by kernel_rfl, ?_⟩) (by assumption) ?_
                rotate_left 1
                · (intro wq hSw; (try dsimp only at hSw); go_simp; first | done | with_reducible rfl)
                refine wpAnyH_take (i := 35) (v := ?_) rfl (by kernel_rfl) (by kernel_rfl) (by kernel_rfl) (fun _ _ _ h => h) (Or.inl ⟨by kernel_rfl, ?_⟩) (by assumption) ?_
                rotate_left 1
                · (intro wq hSw; (try dsimp only at hSw); go_simp; first | done | with_reducible rfl)
                refine wpAnyH_take (i := 36) (v := ?_) rfl (by kernel_rfl) (by kernel_rfl) (by kernel_rfl) (fun _ _ _ h => h) (Or.inl ⟨by kernel_rfl, ?_⟩) (by assumption) ?_
                rotate_left 1
                · (intro wq hSw; (try dsimp only at hSw); go_simp; first | done | with_reducible rfl)
                refine wpAnyH_done (by kernel_rfl) ?_ _
                go_simp
                all_goals
                  have HB2 := hidF (HWr.out.trans (hb2.mono HWr.out.size))
                  clear hb2 hSS
                  go_wp2_with fail
                  go_roundw
                  case rel => exact ⟨1 + 1, by omega, by go_num, HY2, HB2.out⟩
                  case measure => simp [intOf]; omega
    · have hjl : j = n.names.length := by omega
      have HAn : Hid (preC n (preL k) = tailP n (preL k)) := by
        show _ = _
        have := HA.out
        rw [hjl] at this
        rw [HPr.out, this, Bool.true_and]
      have HBw := hidF (HBW.out.trans (hwr.mono HBW.out.size))
      have HWr := hidF hwr
      have HSo := hidF hk
      clear hc3 hs3 hjl HA HPr hwr
      by_cases c3 : k = 1 ∨ k = 2 ∨ k = 3
      · have HT : Hid (preC n (preL k) = aloneF (k : Int) n.num n.text [] 0) := by
          show _ = _
          rw [HAn.out, (pre_leaf k (by omega) hk1).1]
          show aloneF n.sort n.num n.text [] 0 = _
          rw [hk]
        have htx : n.text.size ≤ maxLen := Nat.le_trans hx (by decide)
        have HC : Hid (∀ w, Calls Tryz.prog 52 #[.agg #[.int .i64 (k : Int), .int .i64 n.num, .string n.text, .slice none 0 0, .slice none 0 0]] w fun e w' => e = .returned (.bool (aloneF (k : Int) n.num n.text [] 0)) ∧ Below w.heap.size w w') := fun w =>
          l1Alone_any (k : Int) n.num n.text [] none 0 0 w none 0 htx (fun _ => False) ⟨none, 0, rfl, by simp [maxLen], fun s hs => by simp at hs, fun h => absurd rfl h⟩ (fun _ h => h.elim)
        clear htx
        rcases c3 with rfl | rfl | rfl
        all_goals
          go_wp2_with fail
          refine (HC.out _).mono ?_
          rintro e w2 ⟨rfl, hb2⟩
          have HB2 := hidF (HBw.out.trans (hb2.mono HBw.out.size))
          clear hb2 HC
          go_wp2_with fail
          go_ret
          exact ⟨bool_ret HT.out.symm, HB2.out⟩
      have d1 : ((k : Int) == 1) = false := by simp; omega
      have d2 : ((k : Int) == 2) = false := by simp; omega
      have d3 : ((k : Int) == 3) = false := by simp; omega
      by_cases c5 : k = 5 ∨ k = 6
      · have HT : Hid (preC n (preL k) = ((n.num == 0) && kindB n.text)) := by
          show _ = _
          rw [HAn.out]
          rcases c5 with rfl | rfl <;> rfl
        have HC : Hid (∀ w, Calls Tryz.prog 53 #[.string n.text] w fun e w' => Below w.heap.size w w' ∧ ∃ (s : Int) (a1 a2 : Option Addr) (l1 l2 k1 k2 : Nat), e = .returned (.tuple #[.agg #[.int .i64 s, .slice a1 l1 k1, .slice a2 l2 k2], .bool (kindB n.text)])) := by
          intro w
          refine (specKRead_any n.text (n.text.size + 7) (by omega) hx w).mono ?_
          rintro e w' ⟨hb, c0, c1, c2, rfl, hin⟩
          refine ⟨hb, ?_⟩
          obtain ⟨s, a1, l1, k1, a2, l2, k2, rfl, rfl, rfl⟩ := hin.shape
          exact ⟨s, a1, a2, l1, l2, k1, k2, rfl⟩
        have HZ : Hid (∀ w2, Below wr.heap.size wr w2 → w2.cell? ⟨w.heap.size, 1, none⟩ = some (.int .i64 n.num)) := fun w2 h2 => (h2.cell (p := ⟨w.heap.size, 1, none⟩) (by show w.heap.size < _; have := HWr.out.size; omega)).trans z1
        generalize kindB n.text = ok at *
        cases hnz : (n.num == 0)
        all_goals
          rw [hnz] at HT
          rcases c5 with rfl | rfl
          all_goals
            go_wp2_with fail
            refine (HC.out _).mono ?_
            rintro e w2 ⟨hb2, s, a1, a2, l1, l2, k1, k2, rfl⟩
            have hb3 := hb2.alloc hb2.size (.cells #[.int .i64 s, .slice a1 l1 k1, .slice a2 l2 k2] 70)
            have y1 := HZ.out _ hb3
            have HB2 := hidF (HBw.out.trans (hb3.mono HBw.out.size))
            clear hb2 hb3 HC
            go_wp2_with fail
            go_ret
            exact ⟨bool_ret (by rw [HT.out]; rfl), HB2.out⟩
      have d5 : ((k : Int) == 5) = false := by simp; omega
      have d6 : ((k : Int) == 6) = false := by simp; omega
      have hem : (n.text.toList == []) = n.text.toList.isEmpty := by cases n.text.toList <;> rfl
      by_cases c37 : k = 37
      · have HT : Hid (preC n (preL k) = (decide (0 ≤ n.num ∧ n.num ≤ 99) && n.text.toList.isEmpty)) := by
          show _ = _
          rw [HAn.out, c37]
          show (decide (lst n.sort.toNat ≤ n.num ∧ n.num ≤ mst n.sort.toNat) && _) = _
          rw [hk, c37]; rfl
        have HC : Hid (∀ w, Calls Tryz.prog 45 #[.int .i64 n.num, .int .i64 0, .int .i64 99] w _) := fun w => l6In_any n.num 0 99 w
        generalize n.text.toList.isEmpty = em at *
        generalize decide (0 ≤ n.num ∧ n.num ≤ 99) = ok at *
        cases ok <;> cases em
        all_goals
          subst c37
          go_wp2_with fail
          refine (HC.out _).mono ?_
          rintro e w2 ⟨rfl, rfl⟩
          go_wp2_with fail
          go_ret
          exact ⟨bool_ret (by rw [HT.out]; rfl), HBw.out⟩
      by_cases c39 : k = 39
      · have HT : Hid (preC n (preL k) = (decide (1 ≤ n.num ∧ n.num ≤ 12) && n.text.toList.isEmpty)) := by
          show _ = _
          rw [HAn.out, c39]
          show (decide (lst n.sort.toNat ≤ n.num ∧ n.num ≤ mst n.sort.toNat) && _) = _
          rw [hk, c39]; rfl
        have HC : Hid (∀ w, Calls Tryz.prog 45 #[.int .i64 n.num, .int .i64 1, .int .i64 12] w _) := fun w => l6In_any n.num 1 12 w
        generalize n.text.toList.isEmpty = em at *
        generalize decide (1 ≤ n.num ∧ n.num ≤ 12) = ok at *
        cases ok <;> cases em
        all_goals
          subst c39
          go_wp2_with fail
          refine (HC.out _).mono ?_
          rintro e w2 ⟨rfl, rfl⟩
          go_wp2_with fail
          go_ret
          exact ⟨bool_ret (by rw [HT.out]; rfl), HBw.out⟩
      have d37 : ((k : Int) == 37) = false := by simp; omega
      have d39 : ((k : Int) == 39) = false := by simp; omega
      have HT : Hid (preC n (preL k) = ((n.num == 0) && n.text.toList.isEmpty)) := by
        show _ = _
        rw [HAn.out]
        rcases pre_else k hk44 with e | e | e | e | e | e | e | e | e | e | e | e | e
        all_goals first | (exfalso; omega) | (rw [e]; rfl)
      generalize n.text.toList.isEmpty = em at *
      cases hnz : (n.num == 0) <;> cases em
      all_goals
        rw [hnz] at HT
        go_wp2_with fail
        go_ret
        exact ⟨bool_ret (by rw [HT.out]; rfl), HBw.out⟩

end Go.Proofs.YtlinplghgamgbaaGreatDoor
