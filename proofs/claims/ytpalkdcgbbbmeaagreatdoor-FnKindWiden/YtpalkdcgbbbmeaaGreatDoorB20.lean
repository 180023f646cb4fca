/-
 Several texts in one, in their order.
-/
import Derived.Test.YtpalkdcgbbbmeaaGreatDoorB18
import Derived.Test.YtpalkdcgbbbmeaaGreatDoorB9
import Derived.Test.YtpalkdcgbbbmeaaGreatDoorB10
import Derived.Test.YtpalkdcgbbbmeaaGreatDoorB13
import Derived.Test.YtpalkdcgbbbmeaaGreatDoorB1

/-
 The program's isOf: areAllOf, isFormOf, isOf.
-/
namespace Go.Proofs.YtpalkdcgbbbmeaaGreatDoor
open Go.RowKit Go.WideMaps Go.Maps

def IsOfSaid (n : Nat) : Prop := ∀ (S : Nat → Prop) (m : Nat) (k : K n) (t : T m) (kv tv : Value) (d d' : Int) (w : World), InnerK S w n k kv → InnerT S w m t tv → (∀ b, S b → b < w.heap.size) → goodK n k d = true → goodT m t d' = true →
 Calls Tryz.prog 36 #[tv, kv] w fun e w' => e = .returned (.bool (hasK n k m t)) ∧ Below w.heap.size w w'

set_option maxRecDepth 20000 in
set_option maxHeartbeats 1000000 in
theorem areAllOf_any (n : Nat) (hn : IsOfSaid n) (S : Nat → Prop) (m : Nat) (k : K n) (ts : List (T m)) (kv tv : Value) (d d' : Int) (w : World) (hk : InnerK S w n k kv) (ht : Row1 S w (InnerT S w m) ts tv) (hB : ∀ b, S b → b < w.heap.size) (hg : goodK n k d = true) (hg' : ∀ x, x ∈ ts → goodT m x d' = true) :
  Calls Tryz.prog 69 #[tv, kv] w fun e w' => e = .returned (.bool (ts.all (fun y => hasK n k m y))) ∧ Below w.heap.size w w' := by
 obtain ⟨ao, cap, rfl, hlen, hcell⟩ := ht
 unfold maxLen at hlen
 obtain ⟨kb, rfl, -⟩ := id hk.ptr
 have HG := hidF hg'
 clear hg'
 go_enter Tryz.func69, Tryz.ntmps69
 go_wp2_with fail
 go_loopw [9] (fun i wr => ∃ j : Nat, j ≤ ts.length ∧ i = .int .i64 j ∧ (ts.take j).all (fun y => hasK n k m y) = true ∧ Below w.heap.size w wr) (fun i _ => ts.length - (intOf i).toNat)
 case atStart => exact ⟨0, Nat.zero_le _, rfl, by simp, Below.refl _ _⟩
 case round =>
  obtain ⟨j, hj, rfl, hall, hbel⟩ := hrel
  have HALL := hidF hall
  clear hall
  have hzr := hbel.size
  by_cases hlt : j < ts.length
  ·
   obtain ⟨b, off, rfl, hbB, hcl⟩ := hcell (by intro h; rw [h] at hlt; simp at hlt)
   obtain ⟨c, e0, hin⟩ := hcl j hlt
   obtain ⟨ku, kx, rfl⟩ := hin.iface
   have f0 := (hbel.cell (p := ⟨b, off + j, none⟩) (hB b hbB)).trans e0
   have HC : Hid (Calls Tryz.prog 36 _ _ _) := hn S m k ts[j] _ (.iface ku kx) d d' wr (hk.keep (same_below hbel hB) (fun _ h => h)) (hin.keep (same_below hbel hB) (fun _ h => h)) (fun b hb => by have := hB b hb; omega) hg (HG.out _ (List.getElem_mem hlt))
   have HBad : Hid (hasK n k m ts[j] = false → ts.all (fun y => hasK n k m y) = false) := fun h => by rw [List.all_eq_false]; exact ⟨_, List.getElem_mem hlt, by simp [h]⟩
   have HNext : Hid (hasK n k m ts[j] = true → (ts.take (j + 1)).all (fun y => hasK n k m y) = true) := fun h => all_take_kidK j hlt HALL.out h
   clear hcell hcl e0 hin
   generalize ts[j] = tj at *
   go_wp2_with fail
   refine HC.out.mono ?_
   rintro e w2 ⟨rfl, hb2⟩
   have hb3 := below_step hbel hzr hb2
   clear hb2 HC
   cases hres : hasK n k m tj with
   | false =>
    have HF : Hid _ := HBad.out hres
    clear hres
    go_wp2_with fail
    go_ret
    exact ⟨ret_bool HF.out.symm, hb3⟩
   | true =>
    have HF : Hid _ := HNext.out hres
    clear hres
    go_wp2_with fail
    go_roundw
    case rel => exact ⟨j + 1, by omega, by go_num, HF.out, hb3⟩
    case measure => simp [intOf]; omega
  ·
   have HF : Hid (ts.all (fun y => hasK n k m y) = true) := by
    have := HALL.out
    rwa [show j = ts.length by omega, List.take_length] at this
   clear hcell HALL
   go_wp2_with fail
   go_ret
   exact ⟨ret_bool HF.out.symm, hbel⟩

theorem hasK_form {n m : Nat} {k : K (n + 1)} {t : T (m + 1)} (h5 : Kd.sort k = 5) (_h5' : Nd.sort t = 5) (i q : Nat) (hi : i < (Nd.names t).length) (hq : q < (Kd.names k).length) (e : (Kd.names k)[q] = (Nd.names t)[i]) (ha : Asc (Kd.names k))
  (h1 : (Kd.names k).length = (Kd.kids k).length) (h2 : (Nd.names t).length = (Nd.kids t).length) (hf : hasK n ((Kd.kids k)[q]'(by omega)) m ((Nd.kids t)[i]'(by omega)) = false) : hasK (n + 1) k (m + 1) t = false := by
 by_cases hnm : Kd.names k = Nd.names t
 ·
  have hqi : q = i := by
   have hi' : i < (Kd.names k).length := by rw [hnm]; exact hi
   refine asc_inj ha q i hq hi' ?_
   rw [e]
   simp only [hnm]
  subst hqi
  exact hasK_bad (fun _ => zipAll_false q (by omega) (by omega) hf) (fun h => absurd h5 h)
 · exact hasK_no (.inr hnm)

set_option maxRecDepth 100000 in
set_option maxHeartbeats 4000000 in
theorem isFormOf_any (n : Nat) (hn : IsOfSaid n) (S : Nat → Prop) (m : Nat) (k : K (n + 1)) (t : T (m + 1)) (kv nv tv : Value) (d d' : Int) (w : World) (hk : InnerK S w (n + 1) k kv) (hnm : StrsIn S w (Nd.names t) nv) (ht : Row1 S w (InnerT S w m) (Nd.kids t) tv)
  (hB : ∀ b, S b → b < w.heap.size) (h5 : Kd.sort k = 5) (h5' : Nd.sort t = 5) (hg : goodK (n + 1) k d = true) (hg' : goodT (m + 1) t d' = true) :
  Calls Tryz.prog 71 #[.agg #[nv, tv], kv] w fun e w' => e = .returned (.bool (hasK (n + 1) k (m + 1) t)) ∧ Below w.heap.size w w' := by
 have hkk : (Kd.names k).length = (Kd.kids k).length ∧ riseB (Kd.names k) = true := by
  rcases goodK_kids hg with ⟨h, -⟩ | ⟨h, -⟩ | ⟨-, h⟩
  · omega
  · omega
  · exact h
 have htk := (goodT_kids hg').2.2 h5'
 have HGK : Hid (∀ x, x ∈ Kd.kids k → goodK n x (d + 1) = true) := by simp only [goodK, Bool.and_eq_true] at hg; exact List.all_eq_true.1 hg.2
 have HGT : Hid (∀ x, x ∈ Nd.kids t → goodT m x (d' + 1) = true) := by simp only [goodT, Bool.and_eq_true] at hg'; exact List.all_eq_true.1 hg'.2
 have HAk : Hid (Asc (Kd.names k)) := asc_of _ hkk.2
 have HAt : Hid (Asc (Nd.names t)) := asc_of _ htk.2
 have HLk : Hid ((Kd.names k).length = (Kd.kids k).length) := hkk.1
 have HLt : Hid ((Nd.names t).length = (Nd.kids t).length) := htk.1
 have H5 : Hid (Kd.sort k = 5 ∧ Nd.sort t = 5) := ⟨h5, h5'⟩
 clear hkk htk hg hg' h5'
 obtain ⟨b, knv, pv, kkv, rfl, hbS, hcell, hkn, hpl, hkr⟩ := hk
 have hpl := hpl h5
 clear h5
 obtain ⟨q0, q1, q2, q3⟩ := four_cells hcell
 obtain ⟨kna, knc, rfl, -, hks, -⟩ := id hkn
 obtain ⟨kra, krc, rfl, hkrl, hkrc⟩ := id hkr
 obtain ⟨na, nc, rfl, hnl, hns, hnc⟩ := hnm
 obtain ⟨ta, tc, rfl, htl, htc⟩ := ht
 obtain ⟨mb, rfl, hmb, -⟩ := id hpl
 unfold maxLen at hnl hkrl htl
 have hbw := hB b hbS
 have hb0 := (Below.refl w.heap.size w).alloc (Nat.le_refl _) (.cells #[.slice na (Nd.names t).length nc, .slice ta (Nd.kids t).length tc] 126)
 have hz0 : (w.alloc (.cells #[.slice na (Nd.names t).length nc, .slice ta (Nd.kids t).length tc] 126)).heap.size = w.heap.size + 1 := by simp
 have n0 : (w.alloc (.cells #[.slice na (Nd.names t).length nc, .slice ta (Nd.kids t).length tc] 126)).cell? ⟨w.heap.size, 0, none⟩ = some (.slice na (Nd.names t).length nc) := by simp [go_sem]
 have n1 : (w.alloc (.cells #[.slice na (Nd.names t).length nc, .slice ta (Nd.kids t).length tc] 126)).cell? ⟨w.heap.size, 1, none⟩ = some (.slice ta (Nd.kids t).length tc) := by simp [go_sem]
 have r1 := (hb0.cell (p := ⟨b, 1, none⟩) hbw).trans q1
 by_cases hll : (Nd.names t).length = (Kd.names k).length
 case neg =>
  have hl' : (((Nd.names t).length : Int) != ((Kd.names k).length : Int)) = true := by simp; omega
  have HF : Hid (hasK (n + 1) k (m + 1) t = false) := hasK_no (.inr (fun e => hll (by rw [e])))
  clear hll hnc htc hkrc hkn hkr hpl hcell
  go_enter Tryz.func71, Tryz.ntmps71
  go_wp2_with fail
  go_quiet (fail)
  go_wp2_with fail
  go_ret
  exact ⟨ret_bool HF.out.symm, below_drewN hb0 _⟩
 have hl' : (((Nd.names t).length : Int) != ((Kd.names k).length : Int)) = false := by simp; omega
 have HLL := hidF hll
 clear hll
 go_enter Tryz.func71, Tryz.ntmps71
 go_wp2_with fail
 go_quiet (fail)
 go_wp2_with fail
 generalize (w.alloc (.cells #[.slice na (Nd.names t).length nc, .slice ta (Nd.kids t).length tc] 126)) = W0 at *
 clear hl' r1
 go_loopw [20] (fun i wr => ∃ j : Nat, j ≤ (Nd.names t).length ∧ i = .int .i64 j ∧ Below W0.heap.size W0 wr ∧ (∀ q (h : q < (Nd.names t).length), q < j → (Nd.names t)[q] ∈ Kd.names k) ∧
   (Kd.names k = Nd.names t → ∀ q (h1 : q < (Kd.kids k).length) (h2 : q < (Nd.kids t).length), q < j → hasK n (Kd.kids k)[q] m (Nd.kids t)[q] = true)) (fun i _ => (Nd.names t).length - (intOf i).toNat)
 case atStart => exact ⟨0, Nat.zero_le _, rfl, below_drewN (Below.refl _ _) _, fun q _ h => absurd h (Nat.not_lt_zero _), fun _ q _ _ h => absurd h (Nat.not_lt_zero _)⟩
 case round =>
  obtain ⟨j, hj, rfl, hbel, hmem, hgood⟩ := hrel
  have HM := hidF hmem
  have HG := hidF hgood
  clear hmem hgood
  have hzr := hbel.size
  have hbw1 : Below w.heap.size w wr := below_step hb0 (by omega) hbel
  have i0 := (hbel.cell (p := ⟨w.heap.size, 0, none⟩) (by show w.heap.size < _; omega)).trans n0
  have i1 := (hbel.cell (p := ⟨w.heap.size, 1, none⟩) (by show w.heap.size < _; omega)).trans n1
  have s2 := (hbw1.cell (p := ⟨b, 2, none⟩) hbw).trans q2
  have s3 := (hbw1.cell (p := ⟨b, 3, none⟩) hbw).trans q3
  have hplr := hpl.keep (same_below hbw1 hB) (fun _ h => h)
  by_cases hlt : j < (Nd.names t).length
  ·
   have hltk : j < (Nd.kids t).length := by rw [← HLt.out]; exact hlt
   obtain ⟨nb, noff, rfl, hnB, hncl⟩ := hnc (by intro h; rw [h] at hlt; simp at hlt)
   obtain ⟨tb, toff, rfl, htB, htcl⟩ := htc (by intro h; rw [h] at hltk; simp at hltk)
   have f0 := (hbw1.cell (p := ⟨nb, noff + j, none⟩) (hB nb hnB)).trans (hncl j hlt)
   obtain ⟨c, e0, hin⟩ := htcl j hltk
   obtain ⟨ku, kx, rfl⟩ := hin.iface
   have f1 := (hbw1.cell (p := ⟨tb, toff + j, none⟩) (hB tb htB)).trans e0
   have hsz := hns (Nd.names t)[j] (List.getElem_mem hlt)
   by_cases hmem : (Nd.names t)[j] ∈ Kd.names k
   ·
    obtain ⟨q, hq, heq⟩ := List.getElem_of_mem hmem
    have hqk : q < (Kd.kids k).length := by rw [← HLk.out]; exact hq
    obtain ⟨g, o, rfl, hgB, hkcl⟩ := hkrc (by intro h; rw [h] at hqk; simp at hqk)
    obtain ⟨c2, e2, hkin⟩ := hkcl q hqk
    obtain ⟨kb, rfl, -⟩ := id hkin.ptr
    have f2 := (hbw1.cell (p := ⟨g, o + q, none⟩) (hB g hgB)).trans e2
    have HCF := field_yes S wr (Kd.names k) (.map (some mb)) b g o (Kd.kids k).length krc kb q s2 hplr HAk.out hq (by rw [heq]; exact hsz) s3 hqk f2
    rw [heq] at HCF
    have HCF' : Hid (Calls Tryz.prog 96 _ _ _) := HCF
    have HC : Hid (Calls Tryz.prog 36 _ _ _) := hn S m (Kd.kids k)[q] (Nd.kids t)[j] _ (.iface ku kx) (d + 1) (d' + 1) wr (hkin.keep (same_below hbw1 hB) (fun _ h => h)) (hin.keep (same_below hbw1 hB) (fun _ h => h)) (fun b hb => by have := hB b hb; have := hbw1.size; omega) (HGK.out _ (List.getElem_mem hqk)) (HGT.out _ (List.getElem_mem hltk))
    have HBad : Hid (hasK n (Kd.kids k)[q] m (Nd.kids t)[j] = false → hasK (n + 1) k (m + 1) t = false) := fun h => hasK_form H5.out.1 H5.out.2 j q hlt hq heq HAk.out HLk.out HLt.out h
    have HNext : Hid (hasK n (Kd.kids k)[q] m (Nd.kids t)[j] = true → Kd.names k = Nd.names t → ∀ q (h1 : q < (Kd.kids k).length) (h2 : q < (Nd.kids t).length), q < j + 1 → hasK n (Kd.kids k)[q] m (Nd.kids t)[q] = true) := by
     intro h hnm q' h1 h2 hq'
     by_cases hqj : q' < j
     · exact HG.out hnm q' h1 h2 hqj
     ·
      have e1 : q' = j := by omega
      subst e1
      have e2 : q = q' := by
       have hi' : q' < (Kd.names k).length := by rw [hnm]; exact hlt
       refine asc_inj HAk.out q q' hq hi' ?_
       rw [heq]
       simp only [hnm]
      subst e2
      exact h
    have HMN : Hid (∀ q (h : q < (Nd.names t).length), q < j + 1 → (Nd.names t)[q] ∈ Kd.names k) := by
     intro q' h1 hq'
     by_cases hqj : q' < j
     · exact HM.out q' h1 hqj
     ·
      have e1 : q' = j := by omega
      subst e1
      exact hmem
    clear hnc hncl htc htcl hkrc hkcl e0 e2 hin hkin heq hmem HM HG hplr HCF hks hns hpl hkn hkr hcell
    generalize (Kd.kids k)[q] = kq at *
    generalize (Nd.kids t)[j] = tj at *
    generalize (Nd.names t)[j] = nmj at *
    clear hqk hq
    go_wp2_with fail
    refine HCF'.out.mono ?_
    rintro e w' ⟨rfl, rfl⟩
    go_wp2_with fail
    refine HC.out.mono ?_
    rintro e w2 ⟨rfl, hb2⟩
    have hb3 := below_step hbel hzr hb2
    have hb4 := below_step hb0 (by omega) hb3
    clear hb2 HC HCF'
    cases hres : hasK n kq m tj with
    | false =>
     have HF : Hid _ := HBad.out hres
     clear hres
     go_wp2_with fail
     go_ret
     exact ⟨ret_bool HF.out.symm, hb4⟩
    | true =>
     have HF : Hid _ := HNext.out hres
     clear hres
     go_wp2_with fail
     go_roundw
     case rel => exact ⟨j + 1, by omega, by go_num, hb3, HMN.out, HF.out⟩
     case measure => simp [intOf]; omega
   ·
    have HCF : Hid (Calls Tryz.prog 96 _ _ _) := field_no S wr (Kd.names k) (.map (some mb)) b (Nd.names t)[j] s2 hplr hmem hsz
    have HF : Hid (hasK (n + 1) k (m + 1) t = false) := hasK_no (.inr (fun e => hmem (by rw [e]; exact List.getElem_mem hlt)))
    clear hnc hncl htc htcl hkrc e0 hin hmem HM HG hplr hks hns hpl hkn hkr hcell
    generalize (Nd.names t)[j] = nmj at *
    go_wp2_with fail
    refine HCF.out.mono ?_
    rintro e w' ⟨rfl, rfl⟩
    go_wp2_with fail
    go_ret
    exact ⟨ret_bool HF.out.symm, hbw1⟩
  ·
   have hjl : j = (Nd.names t).length := by omega
   have HF : Hid (hasK (n + 1) k (m + 1) t = true) := by
    have hnm : Kd.names k = Nd.names t := by
     refine ((asc_sub (Kd.names k) (Nd.names t) HAt.out HAk.out (fun x hx => ?_)).2 HLL.out).symm
     obtain ⟨q, hq, rfl⟩ := List.getElem_of_mem hx
     exact HM.out q hq (by omega)
    refine hasK_yes (H5.out.1.trans H5.out.2.symm) hnm (fun _ => ?_) (fun h => absurd H5.out.1 h)
    have e1 := HLk.out
    have e2 := HLt.out
    have e3 := HLL.out
    exact zipAll_true (by omega) (fun q h1 h2 => HG.out hnm q h1 h2 (by omega))
   clear hnc htc hkrc hjl HM HG hplr hpl
   go_wp2_with fail
   go_ret
   exact ⟨ret_bool HF.out.symm, hbw1⟩

end Go.Proofs.YtpalkdcgbbbmeaaGreatDoor

/-
 The program's isOf, KindHas: what they answer.
-/
namespace Go.Proofs.YtpalkdcgbbbmeaaGreatDoor
open Go.RowKit Go.WideMaps Go.Maps

set_option maxRecDepth 100000 in
set_option maxHeartbeats 2000000 in
theorem isOf_leaf (tv : Value) (b : Nat) (ks c : Int) (w : World) (h0 : w.cell? ⟨b, 0, none⟩ = some (.int .i64 ks))
  (hv : (c = 1 ∧ ∃ x, tv = .iface 114 (.int .i64 x)) ∨ (c = 2 ∧ ∃ x, tv = .iface 119 (.string x)) ∨ (c = 3 ∧ ∃ x, tv = .iface 120 (.bool x))) :
  Calls Tryz.prog 36 #[tv, .pointer (some ⟨b, 0, none⟩)] w fun e w' => e = .returned (.bool (ks == c)) ∧ w' = w := by
 have hyes_num := Tryz.yes_num
 have hno_num_text := Tryz.no_num_text
 have hyes_text := Tryz.yes_text
 have hno_num_flag := Tryz.no_num_flag
 have hno_text_flag := Tryz.no_text_flag
 have hyes_flag := Tryz.yes_flag
 rcases hv with ⟨rfl, x, rfl⟩ | ⟨rfl, x, rfl⟩ | ⟨rfl, x, rfl⟩
 all_goals
  go_enter Tryz.func36, Tryz.ntmps36
  go_wp2_with fail
  go_ret
  exact ⟨rfl, rfl⟩

set_option maxRecDepth 100000 in
set_option maxHeartbeats 2000000 in
theorem isOf_rowno (tv : Value) (b : Nat) (ks c : Int) (w : World) (h0 : w.cell? ⟨b, 0, none⟩ = some (.int .i64 ks)) (hne : (ks == c) = false)
  (hv : (c = 4 ∧ ∃ a l k, tv = .iface 122 (.slice a l k)) ∨ (c = 6 ∧ ∃ a l k, tv = .iface 128 (.slice a l k))) :
  Calls Tryz.prog 36 #[tv, .pointer (some ⟨b, 0, none⟩)] w fun e w' => e = .returned (.bool false) ∧ w' = w := by
 have hno_num_list := Tryz.no_num_list
 have hno_text_list := Tryz.no_text_list
 have hno_flag_list := Tryz.no_flag_list
 have hyes_list := Tryz.yes_list
 have hno_num_maybe := Tryz.no_num_maybe
 have hno_text_maybe := Tryz.no_text_maybe
 have hno_flag_maybe := Tryz.no_flag_maybe
 have hno_list_maybe := Tryz.no_list_maybe
 have hno_form_maybe := Tryz.no_form_maybe
 have hyes_maybe := Tryz.yes_maybe
 rcases hv with ⟨rfl, a, l, k, rfl⟩ | ⟨rfl, a, l, k, rfl⟩
 all_goals
  go_enter Tryz.func36, Tryz.ntmps36
  go_wp2_with fail
  go_ret
  exact ⟨rfl, rfl⟩

set_option maxRecDepth 100000 in
set_option maxHeartbeats 2000000 in
theorem isOf_row (tv rv : Value) (b g o cap kb : Nat) (c : Int) (r : Bool) (w : World) (h0 : w.cell? ⟨b, 0, none⟩ = some (.int .i64 c)) (hr : ∃ a l k, rv = .slice a l k)
  (h3 : w.cell? ⟨b, 3, none⟩ = some (.slice (some ⟨g, o, none⟩) (0 + 1) cap)) (hk : w.cell? ⟨g, o, none⟩ = some (.pointer (some ⟨kb, 0, none⟩)))
  (hC : Calls Tryz.prog 69 #[rv, .pointer (some ⟨kb, 0, none⟩)] w fun e w' => e = .returned (.bool r) ∧ Below w.heap.size w w')
  (hv : (c = 4 ∧ tv = .iface 122 rv) ∨ (c = 6 ∧ tv = .iface 128 rv)) :
  Calls Tryz.prog 36 #[tv, .pointer (some ⟨b, 0, none⟩)] w fun e w' => e = .returned (.bool r) ∧ Below w.heap.size w w' := by
 have HC := hidF hC
 have HW : Hid (Calls Tryz.prog 70 #[.pointer (some ⟨b, 0, none⟩)] w _) := within_any w b g o 0 cap kb h3 hk (by omega)
 obtain ⟨ra, rl, rk, rfl⟩ := hr
 clear hC h3 hk
 have hno_num_list := Tryz.no_num_list
 have hno_text_list := Tryz.no_text_list
 have hno_flag_list := Tryz.no_flag_list
 have hyes_list := Tryz.yes_list
 have hno_num_maybe := Tryz.no_num_maybe
 have hno_text_maybe := Tryz.no_text_maybe
 have hno_flag_maybe := Tryz.no_flag_maybe
 have hno_list_maybe := Tryz.no_list_maybe
 have hno_form_maybe := Tryz.no_form_maybe
 have hyes_maybe := Tryz.yes_maybe
 rcases hv with ⟨rfl, rfl⟩ | ⟨rfl, rfl⟩
 all_goals
  go_enter Tryz.func36, Tryz.ntmps36
  go_wp2_with fail
  refine HW.out.mono ?_
  rintro e w' ⟨rfl, rfl⟩
  go_wp2_with fail
  refine HC.out.mono ?_
  rintro e w2 ⟨rfl, hb2⟩
  clear HC HW
  go_wp2_with fail
  go_ret
  exact ⟨rfl, hb2⟩

set_option maxRecDepth 100000 in
set_option maxHeartbeats 2000000 in
theorem isOf_formno (na ta : Option Addr) (nl nc tl tc b : Nat) (ks : Int) (w : World) (h0 : w.cell? ⟨b, 0, none⟩ = some (.int .i64 ks)) (hb : b < w.heap.size) (hne : (ks == 5) = false) :
  Calls Tryz.prog 36 #[.iface 126 (.agg #[.slice na nl nc, .slice ta tl tc]), .pointer (some ⟨b, 0, none⟩)] w fun e w' => e = .returned (.bool false) ∧ Below w.heap.size w w' := by
 have hb0 := (Below.refl w.heap.size w).alloc (Nat.le_refl _) (.cells #[.slice na nl nc, .slice ta tl tc] 126)
 have hno_num_form := Tryz.no_num_form
 have hno_text_form := Tryz.no_text_form
 have hno_flag_form := Tryz.no_flag_form
 have hno_list_form := Tryz.no_list_form
 have hyes_form := Tryz.yes_form
 go_enter Tryz.func36, Tryz.ntmps36
 go_wp2_with fail
 go_ret
 exact ⟨rfl, hb0⟩

set_option maxRecDepth 100000 in
set_option maxHeartbeats 2000000 in
theorem isOf_form (na ta : Option Addr) (nl nc tl tc b : Nat) (r : Bool) (w : World) (h0 : w.cell? ⟨b, 0, none⟩ = some (.int .i64 5)) (hb : b < w.heap.size)
  (hC : Calls Tryz.prog 71 #[.agg #[.slice na nl nc, .slice ta tl tc], .pointer (some ⟨b, 0, none⟩)] (w.alloc (.cells #[.slice na nl nc, .slice ta tl tc] 126)) fun e w' => e = .returned (.bool r) ∧ Below (w.alloc (.cells #[.slice na nl nc, .slice ta tl tc] 126)).heap.size (w.alloc (.cells #[.slice na nl nc, .slice ta tl tc] 126)) w') :
  Calls Tryz.prog 36 #[.iface 126 (.agg #[.slice na nl nc, .slice ta tl tc]), .pointer (some ⟨b, 0, none⟩)] w fun e w' => e = .returned (.bool r) ∧ Below w.heap.size w w' := by
 have hb0 := (Below.refl w.heap.size w).alloc (Nat.le_refl _) (.cells #[.slice na nl nc, .slice ta tl tc] 126)
 have HC := hidF hC
 clear hC
 have hno_num_form := Tryz.no_num_form
 have hno_text_form := Tryz.no_text_form
 have hno_flag_form := Tryz.no_flag_form
 have hno_list_form := Tryz.no_list_form
 have hyes_form := Tryz.yes_form
 go_enter Tryz.func36, Tryz.ntmps36
 go_wp2_with fail
 refine HC.out.mono ?_
 rintro e w2 ⟨rfl, hb2⟩
 have hb3 := below_step hb0 (by simp) hb2
 clear hb2 HC
 go_wp2_with fail
 go_ret
 exact ⟨rfl, hb3⟩

theorem hasK_sort {n m : Nat} {k : K (n + 1)} {t : T (m + 1)} (h : Kd.sort k ≠ Nd.sort t) : hasK (n + 1) k (m + 1) t = false := hasK_no (.inl h)

theorem isOf_step (n : Nat) (hn : IsOfSaid n) : IsOfSaid (n + 1) := by
 intro S m k t kv tv d d' w hk ht hB hg hg'
 cases m with
 | zero => exact ht.elim
 | succ m =>
 have hk0 := hk
 have hkk := goodK_kids hg
 have htk := goodT_kids hg'
 have hgk : ∀ x, x ∈ Kd.kids k → goodK n x (d + 1) = true := by have h := hg; simp only [goodK, Bool.and_eq_true] at h; exact List.all_eq_true.1 h.2
 have hgt : ∀ x, x ∈ Nd.kids t → goodT m x (d' + 1) = true := by have h := hg'; simp only [goodT, Bool.and_eq_true] at h; exact List.all_eq_true.1 h.2
 obtain ⟨b, knv, pv, kkv, rfl, hbS, hcell, hkn, hpl, hkr⟩ := hk
 obtain ⟨q0, q1, q2, q3⟩ := four_cells hcell
 have leaf : ∀ c : Int, (c = 1 ∨ c = 2 ∨ c = 3) → Nd.sort t = c → hasK (n + 1) k (m + 1) t = (Kd.sort k == c) := by
  intro c hc hs
  by_cases h : Kd.sort k = c
  ·
   rw [show (Kd.sort k == c) = true by simpa using h]
   have ht1 := htk.1 (by omega)
   rcases hkk with ⟨-, h1, h2⟩ | ⟨h1, -⟩ | ⟨h1, -⟩
   · exact hasK_yes (by omega) (by rw [h1, ht1.1]) (fun h5 => by omega) (fun _ => by rw [ht1.2]; rfl)
   · omega
   · omega
  ·
   rw [show (Kd.sort k == c) = false by simpa using h]
   exact hasK_sort (by omega)
 have row : ∀ (c : Int) (rv : Value), (c = 4 ∨ c = 6) → Nd.sort t = c → Row1 S w (InnerT S w m) (Nd.kids t) rv → ((c = 4 ∧ tv = .iface 122 rv) ∨ (c = 6 ∧ tv = .iface 128 rv)) →
   Calls Tryz.prog 36 #[tv, .pointer (some ⟨b, 0, none⟩)] w fun e w' => e = .returned (.bool (hasK (n + 1) k (m + 1) t)) ∧ Below w.heap.size w w' := by
  intro c rv hc hs hrow hv
  obtain ⟨ra, rc, hrv, -⟩ := id hrow
  by_cases h : Kd.sort k = c
  ·
   rcases hkk with ⟨h1, -⟩ | ⟨h1, hkn0, x, hkx⟩ | ⟨h1, -⟩
   · omega
   ·
    have hval : hasK (n + 1) k (m + 1) t = (Nd.kids t).all (fun y => hasK n x m y) := by
     cases hall : (Nd.kids t).all (fun y => hasK n x m y) with
     | true => exact hasK_yes (by omega) (by rw [hkn0, htk.2.1 (by omega)]) (fun h5 => by omega) (fun _ => by rw [hkx]; exact headAll_true hall)
     | false =>
      refine hasK_bad (fun h5 => by omega) (fun _ => ?_)
      rw [List.all_eq_false] at hall
      obtain ⟨y, hy, hyf⟩ := hall
      obtain ⟨i, hi, rfl⟩ := List.getElem_of_mem hy
      rw [hkx]
      exact headAll_false i hi (by simpa using hyf)
    rw [hval]
    obtain ⟨ao, cap, rfl, -, hcl⟩ := hkr
    rw [hkx] at hcl
    obtain ⟨g, o, rfl, hgS, hcl⟩ := hcl (by simp)
    obtain ⟨c2, e2, hkin⟩ := hcl 0 (by simp)
    obtain ⟨kb, rfl, -⟩ := id hkin.ptr
    rw [hkx] at q3
    exact isOf_row tv rv b g o cap kb c _ w (by rw [← h]; exact q0) ⟨_, _, _, hrv⟩ q3 (by simpa using e2) (areAllOf_any n hn S m x (Nd.kids t) _ rv (d + 1) (d' + 1) w (by simpa using hkin) hrow hB (hgk x (by rw [hkx]; simp)) hgt) hv
   · omega
  ·
   rw [hasK_sort (show Kd.sort k ≠ Nd.sort t by omega)]
   refine (isOf_rowno tv b (Kd.sort k) c w q0 (by simpa using h) ?_).mono ?_
   ·
    rcases hv with ⟨h1, h2⟩ | ⟨h1, h2⟩
    · exact .inl ⟨h1, _, _, _, by rw [h2, hrv]⟩
    · exact .inr ⟨h1, _, _, _, by rw [h2, hrv]⟩
   ·
    rintro e w' ⟨rfl, rfl⟩
    exact ⟨rfl, Below.refl _ _⟩
 rcases ht with ⟨hs, hv⟩ | ⟨hs, hv⟩ | ⟨hs, hv⟩ | ⟨hs, rv, hv, hrow⟩ | ⟨hs, nv, rv, hv, hnm, hrow⟩ | ⟨hs, rv, hv, hrow⟩
 ·
  rw [leaf 1 (.inl rfl) hs]
  refine (isOf_leaf tv b _ 1 w q0 (.inl ⟨rfl, _, hv⟩)).mono ?_
  rintro e w' ⟨rfl, rfl⟩
  exact ⟨rfl, Below.refl _ _⟩
 ·
  rw [leaf 2 (.inr (.inl rfl)) hs]
  refine (isOf_leaf tv b _ 2 w q0 (.inr (.inl ⟨rfl, _, hv⟩))).mono ?_
  rintro e w' ⟨rfl, rfl⟩
  exact ⟨rfl, Below.refl _ _⟩
 ·
  rw [leaf 3 (.inr (.inr rfl)) hs]
  refine (isOf_leaf tv b _ 3 w q0 (.inr (.inr ⟨rfl, _, hv⟩))).mono ?_
  rintro e w' ⟨rfl, rfl⟩
  exact ⟨rfl, Below.refl _ _⟩
 · exact row 4 rv (.inl rfl) hs hrow (.inl ⟨rfl, hv⟩)
 ·
  obtain ⟨na, nc, rfl, -⟩ := id hnm
  obtain ⟨ra, rc, rfl, -⟩ := id hrow
  subst hv
  by_cases h : Kd.sort k = 5
  ·
   have hal := (Below.refl w.heap.size w).alloc (Nat.le_refl _) (.cells #[.slice na (Nd.names t).length nc, .slice ra (Nd.kids t).length rc] 126)
   exact isOf_form _ _ _ _ _ _ b _ w (by rw [← h]; exact q0) (hB b hbS) (isFormOf_any n hn S m k t _ _ _ d d' _ (hk0.keep (same_below hal hB) (fun _ h => h)) (hnm.keep (same_below hal hB) (fun _ h => h))
    (hrow.keep (same_below hal hB) (fun _ h => h) (fun _ _ _ hx => hx.keep (same_below hal hB) (fun _ h => h))) (fun b hb => by have := hB b hb; simp; omega) h hs hg hg')
  ·
   rw [hasK_sort (show Kd.sort k ≠ Nd.sort t by omega)]
   exact isOf_formno _ _ _ _ _ _ b (Kd.sort k) w q0 (hB b hbS) (by simpa using h)
 · exact row 6 rv (.inr rfl) hs hrow (.inr ⟨rfl, hv⟩)

theorem isOf_any : ∀ n, IsOfSaid n := by
 intro n
 induction n with
 | zero => intro S m k t kv tv d d' w hk; exact hk.elim
 | succ n ih => exact isOf_step n ih

set_option maxRecDepth 100000 in
set_option maxHeartbeats 1000000 in
theorem implKHas_any (n m : Nat) (S S' : Nat → Prop) (k : K n) (t : T m) (c0 c1 c2 e0 e1 e2 e3 e4 : Value) (w : World) (hk : KindIn S w n k c0 c1 c2) (ht : TreeIn S' w m t e0 e1 e2 e3 e4) (hB : ∀ b, S b → b < w.heap.size) (hB' : ∀ b, S' b → b < w.heap.size) :
  Calls Tryz.prog 11 #[.agg #[c0, c1, c2], .agg #[e0, e1, e2, e3, e4]] w fun e w' => e = .returned (.bool (hasF n k m t)) ∧ Below w.heap.size w w' := by
 obtain ⟨x0, xa, xl, xc, ya, yl, yc, rfl, rfl, rfl⟩ := hk.shape
 obtain ⟨z0, z1, z2, za, zl, zc, va, vl, vc, rfl, rfl, rfl, rfl, rfl⟩ := ht.shape
 have hb0 : Below w.heap.size w ((w.alloc (.cells #[.int .i64 x0, .slice xa xl xc, .slice ya yl yc] 26)).alloc (.cells #[.int .i64 z0, .int .i64 z1, .string z2, .slice za zl zc, .slice va vl vc] 29)) :=
  ((Below.refl _ _).alloc (Nat.le_refl _) _).alloc (by simp) _
 have hx5 := Box5.new (w.alloc (.cells #[.int .i64 x0, .slice xa xl xc, .slice ya yl yc] 26)) (.int .i64 z0) (.int .i64 z1) (.string z2) (.slice za zl zc) (.slice va vl vc) 29
 rw [show (w.alloc (.cells #[.int .i64 x0, .slice xa xl xc, .slice ya yl yc] 26)).heap.size = w.heap.size + 1 by simp] at hx5
 obtain ⟨hk0, hB0⟩ := hk.step hB hb0
 obtain ⟨ht0, hB0'⟩ := ht.step hB' hb0
 have HE : Hid (hasF n k m t = (okK n k && okT m t && hasK n k m t)) := rfl
 clear hk ht
 go_enter Tryz.func11, Tryz.ntmps11
 go_wp2_with fail
 refine (innerKind_any n S k _ _ _ _ hk0 hB0).mono ?_
 rintro e w1 ⟨hb1, hres⟩
 have hbw1 := below_step hb0 (by simp; omega) hb1
 obtain ⟨ht1, hB1'⟩ := ht0.step hB0' hb1
 obtain ⟨j0, j1, j2, j3, j4⟩ := hx5.keep hb1
 have HC : Hid (Calls Tryz.prog 35 _ _ _) := innerTree_any m S' t _ _ _ _ _ w1 ht1 hB1'
 have hz1 := hb1.size
 clear hb1 hx5 ht0 hk0 hb0 ht1
 rcases hres with ⟨hok, kv, rfl, hkin⟩ | ⟨hok, rfl⟩
 ·
  obtain ⟨kb, rfl, -⟩ := id hkin.ptr
  go_wp2_with fail
  refine HC.out.mono ?_
  rintro e w2 ⟨hb2, ⟨hokt, tv, rfl, htin⟩ | ⟨hokt, rfl⟩⟩
  ·
   have hbw2 := below_step hbw1 hbw1.size hb2
   have hz2 := hb2.size
   obtain ⟨ku, kx, rfl⟩ := id htin.iface
   have HF : Hid (hasF n k m t = hasK n k m t) := by show _ = _; rw [HE.out, hok, hokt]; rfl
   have hg1 : goodK n k 1 = true := by simp only [okK, Bool.and_eq_true] at hok; exact hok.1
   have hg2 : goodT m t 1 = true := by simp only [okT, Bool.and_eq_true] at hokt; exact hokt.1
   have HCO : Hid (Calls Tryz.prog 36 _ _ _) := isOf_any n (fun b => b < w2.heap.size) m k t _ _ 1 1 w2 (hkin.keep (same_below hb2 (fun b hb => hb.elim (fun h => Nat.lt_of_lt_of_le (hB0 b h) hz1) (fun h => h.2))) (fun b hb => Nat.lt_of_lt_of_le (hb.elim (fun h => Nat.lt_of_lt_of_le (hB0 b h) hz1) (fun h => h.2)) hz2))
    (htin.keep (fun _ _ => rfl) (fun b hb => hb.elim (fun h => Nat.lt_of_lt_of_le (hB1' b h) hz2) (fun h => h.2))) (fun _ h => h) hg1 hg2
   clear hb2 hok hokt hkin htin HC hg1 hg2
   go_wp2_with fail
   refine HCO.out.mono ?_
   rintro e w3 ⟨rfl, hb3⟩
   have hbw3 := below_step hbw2 hbw2.size hb3
   clear hb3 HCO
   go_wp2_with fail
   go_ret
   exact ⟨ret_bool HF.out.symm, hbw3⟩
  ·
   have hbw2 := below_step hbw1 hbw1.size hb2
   have HF : Hid (hasF n k m t = false) := by show _ = _; rw [HE.out, hok, hokt]; rfl
   clear hb2 hok hokt hkin HC
   go_wp2_with fail
   go_ret
   exact ⟨ret_bool HF.out.symm, hbw2⟩
 ·
  have HF : Hid (hasF n k m t = false) := by show _ = _; rw [HE.out, hok]; rfl
  clear hok
  go_wp2_with fail
  refine HC.out.mono ?_
  rintro e w2 ⟨hb2, hor⟩
  have hbw2 := below_step hbw1 hbw1.size hb2
  rcases hor with ⟨hokt, tv, rfl, htin⟩ | ⟨hokt, rfl⟩
  ·
   obtain ⟨ku, kx, rfl⟩ := id htin.iface
   clear hb2 hokt htin HC
   go_wp2_with fail
   go_ret
   exact ⟨ret_bool HF.out.symm, hbw2⟩
  ·
   clear hb2 hokt HC
   go_wp2_with fail
   go_ret
   exact ⟨ret_bool HF.out.symm, hbw2⟩

end Go.Proofs.YtpalkdcgbbbmeaaGreatDoor
