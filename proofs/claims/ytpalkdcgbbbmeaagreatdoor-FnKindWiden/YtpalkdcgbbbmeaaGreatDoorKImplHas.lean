/-
  The program's isOf: areAllOf, isFormOf, isOf.
-/
import Derived.Test.YtpalkdcgbbbmeaaGreatDoorKFind
import Derived.Test.YtpalkdcgbbbmeaaGreatDoorTMade2
import Derived.Test.YtpalkdcgbbbmeaaGreatDoorKSpecHas2
import Derived.Test.YtpalkdcgbbbmeaaGreatDoorKImplText
namespace Go.Proofs.YtpalkdcgbbbmeaaGreatDoor
open Go.RowKit Go.WideMaps Go.Maps

/-- isOf at schemas of at most n levels. -/
def IsOfSaid (n : Nat) : Prop := ∀ (S : Nat → Prop) (m : Nat) (k : K n) (t : T m) (kv tv : Value) (d d' : Int) (w : World), InnerK S w n k kv → InnerT S w m t tv → (∀ b, S b → b < w.heap.size) → goodK n k d = true → goodT m t d' = true →
  Calls Tryz.prog 36 #[tv, kv] w fun e w' => e = .returned (.bool (hasK n k m t)) ∧ Below w.heap.size w w'

set_option maxRecDepth 20000 in
set_option maxHeartbeats 1000000 in
theorem areAllOf_any (n : Nat) (hn : IsOfSaid n) (S : Nat → Prop) (m : Nat) (k : K n) (ts : List (T m)) (kv tv : Value) (d d' : Int) (w : World) (hk : InnerK S w n k kv) (ht : Row1 S w (InnerT S w m) ts tv) (hB : ∀ b, S b → b < w.heap.size) (hg : goodK n k d = true) (hg' : ∀ x, x ∈ ts → goodT m x d' = true) :
    Calls Tryz.prog 69 #[tv, kv] w fun e w' => e = .returned (.bool (ts.all (fun y => hasK n k m y))) ∧ Below w.heap.size w w' := by
  obtain ⟨ao, cap, rfl, hlen, hcell⟩ := ht
  unfold maxLen at hlen
  obtain ⟨kb, rfl, -⟩ := id hk.ptr
  have HG : Hid (∀ x, x ∈ ts → goodT m x d' = true) := hg'
  clear hg'
  go_enter Tryz.func69, Tryz.ntmps69
  go_wp2_with fail
  go_loopw [9] (fun i wr => ∃ j : Nat, j ≤ ts.length ∧ i = .int .i64 j ∧ (ts.take j).all (fun y => hasK n k m y) = true ∧ Below w.heap.size w wr) (fun i _ => ts.length - (intOf i).toNat)
  case atStart => exact ⟨0, Nat.zero_le _, rfl, by simp, Below.refl _ _⟩
  case round =>
    obtain ⟨j, hj, rfl, hall, hbel⟩ := hrel
    have HALL : Hid ((ts.take j).all (fun y => hasK n k m y) = true) := hall
    clear hall
    have hzr := hbel.size
    by_cases hlt : j < ts.length
    · obtain ⟨b, off, rfl, hbB, hcl⟩ := hcell (by intro h; rw [h] at hlt; simp at hlt)
      obtain ⟨c, e0, hin⟩ := hcl j hlt
      obtain ⟨ku, kx, rfl⟩ := hin.iface
      have f0 := (hbel.cell (p := ⟨b, off + j, none⟩) (hB b hbB)).trans e0
      have HC : Hid (Calls Tryz.prog 36 _ _ _) := hn S m k ts[j] _ (.iface ku kx) d d' wr (hk.keep (same_below hbel hB) (fun _ h => h)) (hin.keep (same_below hbel hB) (fun _ h => h)) (fun b hb => by have := hB b hb; omega) hg (HG.out _ (List.getElem_mem hlt))
      have HBad : Hid (hasK n k m ts[j] = false → ts.all (fun y => hasK n k m y) = false) := fun h => by rw [List.all_eq_false]; exact ⟨_, List.getElem_mem hlt, by simp [h]⟩
      have HNext : Hid (hasK n k m ts[j] = true → (ts.take (j + 1)).all (fun y => hasK n k m y) = true) := fun h => all_take_kidK j hlt HALL.out h
      clear hcell hcl e0 hin
      generalize ts[j] = tj at *
      go_wp2_with fail
      refine HC.out.mono ?_
      rintro e w2 ⟨rfl, hb2⟩
      have hb3 := below_step hbel hzr hb2
      clear hb2 HC
      cases hres : hasK n k m tj with
      | false =>
        have HF : Hid _ := HBad.out hres
        clear hres
        go_wp2_with fail
        go_ret
        exact ⟨ret_bool HF.out.symm, hb3⟩
      | true =>
        have HF : Hid _ := HNext.out hres
        clear hres
        go_wp2_with fail
        go_roundw
        case rel => exact ⟨j + 1, by omega, by go_num, HF.out, hb3⟩
        case measure => simp [intOf]; omega
    · have HF : Hid (ts.all (fun y => hasK n k m y) = true) := by
        have := HALL.out
        rwa [show j = ts.length by omega, List.take_length] at this
      clear hcell HALL
      go_wp2_with fail
      go_ret
      exact ⟨ret_bool HF.out.symm, hbel⟩

theorem hasK_form {n m : Nat} {k : K (n + 1)} {t : T (m + 1)} (h5 : Kd.sort k = 5) (_h5' : Nd.sort t = 5) (i q : Nat) (hi : i < (Nd.names t).length) (hq : q < (Kd.names k).length) (e : (Kd.names k)[q] = (Nd.names t)[i]) (ha : Asc (Kd.names k))
    (h1 : (Kd.names k).length = (Kd.kids k).length) (h2 : (Nd.names t).length = (Nd.kids t).length) (hf : hasK n ((Kd.kids k)[q]'(by omega)) m ((Nd.kids t)[i]'(by omega)) = false) : hasK (n + 1) k (m + 1) t = false := by
  by_cases hnm : Kd.names k = Nd.names t
  · have hqi : q = i := by
      have hi' : i < (Kd.names k).length := by rw [hnm]; exact hi
      refine asc_inj ha q i hq hi' ?_
      rw [e]
      simp only [hnm]
    subst hqi
    exact hasK_bad (fun _ => zipAll_false q (by omega) (by omega) hf) (fun h => absurd h5 h)
  · exact hasK_no (.inr hnm)

set_option maxRecDepth 100000 in
set_option maxHeartbeats 4000000 in
theorem isFormOf_any (n : Nat) (hn : IsOfSaid n) (S : Nat → Prop) (m : Nat) (k : K (n + 1)) (t : T (m + 1)) (kv nv tv : Value) (d d' : Int) (w : World) (hk : InnerK S w (n + 1) k kv) (hnm : StrsIn S w (Nd.names t) nv) (ht : Row1 S w (InnerT S w m) (Nd.kids t) tv)
    (hB : ∀ b, S b → b < w.heap.size) (h5 : Kd.sort k = 5) (h5' : Nd.sort t = 5) (hg : goodK (n + 1) k d = true) (hg' : goodT (m + 1) t d' = true) :
    Calls Tryz.prog 71 #[.agg #[nv, tv], kv] w fun e w' => e = .returned (.bool (hasK (n + 1) k (m + 1) t)) ∧ Below w.heap.size w w' := by
  have hkk : (Kd.names k).length = (Kd.kids k).length ∧ riseB (Kd.names k) = true := by
    rcases goodK_kids hg with ⟨h, -⟩ | ⟨h, -⟩ | ⟨-, h⟩
    · omega
    · omega
    · exact h
  have htk := (goodT_kids hg').2.2 h5'
  have HGK : Hid (∀ x, x ∈ Kd.kids k → goodK n x (d + 1) = true) := by simp only [goodK, Bool.and_eq_true] at hg; exact List.all_eq_true.1 hg.2
  have HGT : Hid (∀ x, x ∈ Nd.kids t → goodT m x (d' + 1) = true) := by simp only [goodT, Bool.and_eq_true] at hg'; exact List.all_eq_true.1 hg'.2
  have HAk : Hid (Asc (Kd.names k)) := asc_of _ hkk.2
  have HAt : Hid (Asc (Nd.names t)) := asc_of _ htk.2
  have HLk : Hid ((Kd.names k).length = (Kd.kids k).length) := hkk.1
  have HLt : Hid ((Nd.names t).length = (Nd.kids t).length) := htk.1
  have H5 : Hid (Kd.sort k = 5 ∧ Nd.sort t = 5) := ⟨h5, h5'⟩
  clear hkk htk hg hg' h5'
  obtain ⟨b, knv, pv, kkv, rfl, hbS, hcell, hkn, hpl, hkr⟩ := hk
  have hpl := hpl h5
  clear h5
  obtain ⟨q0, q1, q2, q3⟩ := four_cells hcell
  obtain ⟨kna, knc, rfl, -, hks, -⟩ := id hkn
  obtain ⟨kra, krc, rfl, hkrl, hkrc⟩ := id hkr
  obtain ⟨na, nc, rfl, hnl, hns, hnc⟩ := hnm
  obtain ⟨ta, tc, rfl, htl, htc⟩ := ht
  obtain ⟨mb, rfl, hmb, -⟩ := id hpl
  unfold maxLen at hnl hkrl htl
  have hbw := hB b hbS
  have hb0 := (Below.refl w.heap.size w).alloc (Nat.le_refl _) (.cells #[.slice na (Nd.names t).length nc, .slice ta (Nd.kids t).length tc] 126)
  have hz0 : (w.alloc (.cells #[.slice na (Nd.names t).length nc, .slice ta (Nd.kids t).length tc] 126)).heap.size = w.heap.size + 1 := by simp
  have n0 : (w.alloc (.cells #[.slice na (Nd.names t).length nc, .slice ta (Nd.kids t).length tc] 126)).cell? ⟨w.heap.size, 0, none⟩ = some (.slice na (Nd.names t).length nc) := by simp [go_sem]
  have n1 : (w.alloc (.cells #[.slice na (Nd.names t).length nc, .slice ta (Nd.kids t).length tc] 126)).cell? ⟨w.heap.size, 1, none⟩ = some (.slice ta (Nd.kids t).length tc) := by simp [go_sem]
  have r1 := (hb0.cell (p := ⟨b, 1, none⟩) hbw).trans q1
  by_cases hll : (Nd.names t).length = (Kd.names k).length
  case neg =>
    have hl' : (((Nd.names t).length : Int) != ((Kd.names k).length : Int)) = true := by simp; omega
    have HF : Hid (hasK (n + 1) k (m + 1) t = false) := hasK_no (.inr (fun e => hll (by rw [e])))
    clear hll hnc htc hkrc hkn hkr hpl hcell
    go_enter Tryz.func71, Tryz.ntmps71
    go_wp2_with fail
    go_quiet (fail)
    go_wp2_with fail
    go_ret
    exact ⟨ret_bool HF.out.symm, below_drewN hb0 _⟩
  have hl' : (((Nd.names t).length : Int) != ((Kd.names k).length : Int)) = false := by simp; omega
  have HLL : Hid ((Nd.names t).length = (Kd.names k).length) := hll
  clear hll
  go_enter Tryz.func71, Tryz.ntmps71
  go_wp2_with fail
  go_quiet (fail)
  go_wp2_with fail
  generalize (w.alloc (.cells #[.slice na (Nd.names t).length nc, .slice ta (Nd.kids t).length tc] 126)) = W0 at *
  clear hl' r1
  go_loopw [20] (fun i wr => ∃ j : Nat, j ≤ (Nd.names t).length ∧ i = .int .i64 j ∧ Below W0.heap.size W0 wr ∧ (∀ q (h : q < (Nd.names t).length), q < j → (Nd.names t)[q] ∈ Kd.names k) ∧
      (Kd.names k = Nd.names t → ∀ q (h1 : q < (Kd.kids k).length) (h2 : q < (Nd.kids t).length), q < j → hasK n (Kd.kids k)[q] m (Nd.kids t)[q] = true)) (fun i _ => (Nd.names t).length - (intOf i).toNat)
  case atStart => exact ⟨0, Nat.zero_le _, rfl, below_drewN (Below.refl _ _) _, fun q _ h => absurd h (Nat.not_lt_zero _), fun _ q _ _ h => absurd h (Nat.not_lt_zero _)⟩
  case round =>
    obtain ⟨j, hj, rfl, hbel, hmem, hgood⟩ := hrel
    have HM : Hid (∀ q (h : q < (Nd.names t).length), q < j → (Nd.names t)[q] ∈ Kd.names k) := hmem
    have HG : Hid (Kd.names k = Nd.names t → ∀ q (h1 : q < (Kd.kids k).length) (h2 : q < (Nd.kids t).length), q < j → hasK n (Kd.kids k)[q] m (Nd.kids t)[q] = true) := hgood
    clear hmem hgood
    have hzr := hbel.size
    have hbw1 : Below w.heap.size w wr := below_step hb0 (by omega) hbel
    have i0 := (hbel.cell (p := ⟨w.heap.size, 0, none⟩) (by show w.heap.size < _; omega)).trans n0
    have i1 := (hbel.cell (p := ⟨w.heap.size, 1, none⟩) (by show w.heap.size < _; omega)).trans n1
    have s2 := (hbw1.cell (p := ⟨b, 2, none⟩) hbw).trans q2
    have s3 := (hbw1.cell (p := ⟨b, 3, none⟩) hbw).trans q3
    have hplr := hpl.keep (same_below hbw1 hB) (fun _ h => h)
    by_cases hlt : j < (Nd.names t).length
    · have hltk : j < (Nd.kids t).length := by rw [← HLt.out]; exact hlt
      obtain ⟨nb, noff, rfl, hnB, hncl⟩ := hnc (by intro h; rw [h] at hlt; simp at hlt)
      obtain ⟨tb, toff, rfl, htB, htcl⟩ := htc (by intro h; rw [h] at hltk; simp at hltk)
      have f0 := (hbw1.cell (p := ⟨nb, noff + j, none⟩) (hB nb hnB)).trans (hncl j hlt)
      obtain ⟨c, e0, hin⟩ := htcl j hltk
      obtain ⟨ku, kx, rfl⟩ := hin.iface
      have f1 := (hbw1.cell (p := ⟨tb, toff + j, none⟩) (hB tb htB)).trans e0
      have hsz := hns (Nd.names t)[j] (List.getElem_mem hlt)
      by_cases hmem : (Nd.names t)[j] ∈ Kd.names k
      · obtain ⟨q, hq, heq⟩ := List.getElem_of_mem hmem
        have hqk : q < (Kd.kids k).length := by rw [← HLk.out]; exact hq
        obtain ⟨g, o, rfl, hgB, hkcl⟩ := hkrc (by intro h; rw [h] at hqk; simp at hqk)
        obtain ⟨c2, e2, hkin⟩ := hkcl q hqk
        obtain ⟨kb, rfl, -⟩ := id hkin.ptr
        have f2 := (hbw1.cell (p := ⟨g, o + q, none⟩) (hB g hgB)).trans e2
        have HCF := field_yes S wr (Kd.names k) (.map (some mb)) b g o (Kd.kids k).length krc kb q s2 hplr HAk.out hq (by rw [heq]; exact hsz) s3 hqk f2
        rw [heq] at HCF
        have HCF' : Hid (Calls Tryz.prog 96 _ _ _) := HCF
        have HC : Hid (Calls Tryz.prog 36 _ _ _) := hn S m (Kd.kids k)[q] (Nd.kids t)[j] _ (.iface ku kx) (d + 1) (d' + 1) wr (hkin.keep (same_below hbw1 hB) (fun _ h => h)) (hin.keep (same_below hbw1 hB) (fun _ h => h)) (fun b hb => by have := hB b hb; have := hbw1.size; omega) (HGK.out _ (List.getElem_mem hqk)) (HGT.out _ (List.getElem_mem hltk))
        have HBad : Hid (hasK n (Kd.kids k)[q] m (Nd.kids t)[j] = false → hasK (n + 1) k (m + 1) t = false) := fun h => hasK_form H5.out.1 H5.out.2 j q hlt hq heq HAk.out HLk.out HLt.out h
        have HNext : Hid (hasK n (Kd.kids k)[q] m (Nd.kids t)[j] = true → Kd.names k = Nd.names t → ∀ q (h1 : q < (Kd.kids k).length) (h2 : q < (Nd.kids t).length), q < j + 1 → hasK n (Kd.kids k)[q] m (Nd.kids t)[q] = true) := by
          intro h hnm q' h1 h2 hq'
          by_cases hqj : q' < j
          · exact HG.out hnm q' h1 h2 hqj
          · have e1 : q' = j := by omega
            subst e1
            have e2 : q = q' := by
              have hi' : q' < (Kd.names k).length := by rw [hnm]; exact hlt
              refine asc_inj HAk.out q q' hq hi' ?_
              rw [heq]
              simp only [hnm]
            subst e2
            exact h
        have HMN : Hid (∀ q (h : q < (Nd.names t).length), q < j + 1 → (Nd.names t)[q] ∈ Kd.names k) := by
          intro q' h1 hq'
          by_cases hqj : q' < j
          · exact HM.out q' h1 hqj
          · have e1 : q' = j := by omega
            subst e1
            exact hmem
        clear hnc hncl htc htcl hkrc hkcl e0 e2 hin hkin heq hmem HM HG hplr HCF hks hns hpl hkn hkr hcell
        generalize (Kd.kids k)[q] = kq at *
        generalize (Nd.kids t)[j] = tj at *
        generalize (Nd.names t)[j] = nmj at *
        clear hqk hq
        go_wp2_with fail
        refine HCF'.out.mono ?_
        rintro e w' ⟨rfl, rfl⟩
        go_wp2_with fail
        refine HC.out.mono ?_
        rintro e w2 ⟨rfl, hb2⟩
        have hb3 := below_step hbel hzr hb2
        have hb4 := below_step hb0 (by omega) hb3
        clear hb2 HC HCF'
        cases hres : hasK n kq m tj with
        | false =>
          have HF : Hid _ := HBad.out hres
          clear hres
          go_wp2_with fail
          go_ret
          exact ⟨ret_bool HF.out.symm, hb4⟩
        | true =>
          have HF : Hid _ := HNext.out hres
          clear hres
          go_wp2_with fail
          go_roundw
          case rel => exact ⟨j + 1, by omega, by go_num, hb3, HMN.out, HF.out⟩
          case measure => simp [intOf]; omega
      · have HCF : Hid (Calls Tryz.prog 96 _ _ _) := field_no S wr (Kd.names k) (.map (some mb)) b (Nd.names t)[j] s2 hplr hmem hsz
        have HF : Hid (hasK (n + 1) k (m + 1) t = false) := hasK_no (.inr (fun e => hmem (by rw [e]; exact List.getElem_mem hlt)))
        clear hnc hncl htc htcl hkrc e0 hin hmem HM HG hplr hks hns hpl hkn hkr hcell
        generalize (Nd.names t)[j] = nmj at *
        go_wp2_with fail
        refine HCF.out.mono ?_
        rintro e w' ⟨rfl, rfl⟩
        go_wp2_with fail
        go_ret
        exact ⟨ret_bool HF.out.symm, hbw1⟩
    · have hjl : j = (Nd.names t).length := by omega
      have HF : Hid (hasK (n + 1) k (m + 1) t = true) := by
        have hnm : Kd.names k = Nd.names t := by
          refine ((asc_sub (Kd.names k) (Nd.names t) HAt.out HAk.out (fun x hx => ?_)).2 HLL.out).symm
          obtain ⟨q, hq, rfl⟩ := List.getElem_of_mem hx
          exact HM.out q hq (by omega)
        refine hasK_yes (H5.out.1.trans H5.out.2.symm) hnm (fun _ => ?_) (fun h => absurd H5.out.1 h)
        have e1 := HLk.out
        have e2 := HLt.out
        have e3 := HLL.out
        exact zipAll_true (by omega) (fun q h1 h2 => HG.out hnm q h1 h2 (by omega))
      clear hnc htc hkrc hjl HM HG hplr hpl
      go_wp2_with fail
      go_ret
      exact ⟨ret_bool HF.out.symm, hbw1⟩

end Go.Proofs.YtpalkdcgbbbmeaaGreatDoor
