/-
  The specification's l2Has: walked.
-/
import Derived.Test.YtpalkdcgbbbmeaaGreatDoorKSpecHas
namespace Go.Proofs.YtpalkdcgbbbmeaaGreatDoor
open Go.RowKit

theorem hasK_yes {n m : Nat} {k : K (n + 1)} {t : T (m + 1)} (hs : Kd.sort k = Nd.sort t) (hn : Kd.names k = Nd.names t)
    (h5 : Kd.sort k = 5 → zipAll (fun a b => hasK n a m b) (Kd.kids k) (Nd.kids t) = true) (h4 : ¬ Kd.sort k = 5 → headAll (fun a b => hasK n a m b) (Kd.kids k) (Nd.kids t) = true) : hasK (n + 1) k (m + 1) t = true := by
  simp only [hasK]
  rw [show (Kd.sort k == Nd.sort t) = true by simpa using hs, decide_eq_true hn]
  by_cases h : Kd.sort k = 5
  · rw [if_pos h, h5 h]; rfl
  · rw [if_neg h, h4 h]; rfl

theorem hasK_bad {n m : Nat} {k : K (n + 1)} {t : T (m + 1)} (h5 : Kd.sort k = 5 → zipAll (fun a b => hasK n a m b) (Kd.kids k) (Nd.kids t) = false) (h4 : ¬ Kd.sort k = 5 → headAll (fun a b => hasK n a m b) (Kd.kids k) (Nd.kids t) = false) : hasK (n + 1) k (m + 1) t = false := by
  simp only [hasK]
  by_cases h : Kd.sort k = 5
  · rw [if_pos h, h5 h]; simp
  · rw [if_neg h, h4 h]; simp

set_option maxRecDepth 100000 in
set_option maxHeartbeats 4000000 in
theorem l2Has_step (n : Nat) (hn : HasSSaid n) : HasSSaid (n + 1) := by
  intro S S' m k t c0 c1 c2 e0 e1 e2 e3 e4 d d' w hk ht hB hB' hgk hgt
  cases m with
  | zero => exact ht.elim
  | succ m =>
  have HKK : Hid _ := goodK_kids hgk
  have HTK : Hid _ := goodT_kids hgt
  simp only [goodK, Bool.and_eq_true] at hgk
  simp only [goodT, Bool.and_eq_true] at hgt
  have HGK : Hid (∀ x, x ∈ Kd.kids k → goodK n x (d + 1) = true) := List.all_eq_true.1 hgk.2
  have HGT : Hid (∀ x, x ∈ Nd.kids t → goodT m x (d' + 1) = true) := List.all_eq_true.1 hgt.2
  clear hgk hgt
  obtain ⟨rfl, -, hk3, hk4⟩ := hk
  obtain ⟨rfl, rfl, rfl, hsx, -, -, ht3, ht4⟩ := ht
  obtain ⟨na, nc, rfl, hnl, -, hnc⟩ := id hk3
  obtain ⟨ka, kc, rfl, hkl, hkc⟩ := id hk4
  obtain ⟨ma, mc, rfl, hml, -, hmc⟩ := id ht3
  obtain ⟨la, lc, rfl, hll, hlc⟩ := id ht4
  unfold maxLen at hnl hkl hml hll
  have HNo : Hid (Kd.sort k ≠ Nd.sort t ∨ Kd.names k ≠ Nd.names t → hasK (n + 1) k (m + 1) t = false) := hasK_no
  have hb0 : Below w.heap.size w ((w.alloc (.cells #[.int .i64 (Kd.sort k), .slice na (Kd.names k).length nc, .slice ka (Kd.kids k).length kc] 26)).alloc (.cells #[.int .i64 (Nd.sort t), .int .i64 (Nd.num t), .string (Nd.text t), .slice ma (Nd.names t).length mc, .slice la (Nd.kids t).length lc] 29)) :=
    ((Below.refl _ _).alloc (Nat.le_refl _) _).alloc (by simp) _
  by_cases hs : Kd.sort k = Nd.sort t
  case neg =>
    have hs' : (Kd.sort k != Nd.sort t) = true := by simpa using hs
    have HF : Hid (hasK (n + 1) k (m + 1) t = false) := HNo.out (.inl hs)
    clear hs hkc hnc hmc hlc hk3 hk4 ht3 ht4
    go_enter Tryz.func33, Tryz.ntmps33
    go_wp2_with fail
    go_ret
    exact ⟨ret_bool HF.out.symm, hb0⟩
  have hs' : (Kd.sort k != Nd.sort t) = false := by simpa using hs
  have HS : Hid (Kd.sort k = Nd.sort t) := hs
  by_cases hln : (Kd.names k).length = (Nd.names t).length
  case neg =>
    have hl' : (((Kd.names k).length : Int) != ((Nd.names t).length : Int)) = true := by simp; omega
    have HF : Hid (hasK (n + 1) k (m + 1) t = false) := HNo.out (.inr (fun e => hln (by rw [e])))
    clear hs hkc hnc hmc hlc hk3 hk4 ht3 ht4 hln
    go_enter Tryz.func33, Tryz.ntmps33
    go_wp2_with fail
    go_ret
    exact ⟨ret_bool HF.out.symm, hb0⟩
  have hl' : (((Kd.names k).length : Int) != ((Nd.names t).length : Int)) = false := by simp; omega
  have HLN : Hid ((Kd.names k).length = (Nd.names t).length) := hln
  have hx3 : Box3 ((w.alloc (.cells #[.int .i64 (Kd.sort k), .slice na (Kd.names k).length nc, .slice ka (Kd.kids k).length kc] 26)).alloc (.cells #[.int .i64 (Nd.sort t), .int .i64 (Nd.num t), .string (Nd.text t), .slice ma (Nd.names t).length mc, .slice la (Nd.kids t).length lc] 29)) w.heap.size
      (.int .i64 (Kd.sort k)) (.slice na (Kd.names k).length nc) (.slice ka (Kd.kids k).length kc) := (Box3.new w _ _ _ 26).keep ((Below.refl _ _).alloc (Nat.le_refl _) _)
  have hx5 := Box5.new (w.alloc (.cells #[.int .i64 (Kd.sort k), .slice na (Kd.names k).length nc, .slice ka (Kd.kids k).length kc] 26)) (.int .i64 (Nd.sort t)) (.int .i64 (Nd.num t)) (.string (Nd.text t)) (.slice ma (Nd.names t).length mc) (.slice la (Nd.kids t).length lc) 29
  rw [show (w.alloc (.cells #[.int .i64 (Kd.sort k), .slice na (Kd.names k).length nc, .slice ka (Kd.kids k).length kc] 26)).heap.size = w.heap.size + 1 by simp] at hx5
  have hz0 : ((w.alloc (.cells #[.int .i64 (Kd.sort k), .slice na (Kd.names k).length nc, .slice ka (Kd.kids k).length kc] 26)).alloc (.cells #[.int .i64 (Nd.sort t), .int .i64 (Nd.num t), .string (Nd.text t), .slice ma (Nd.names t).length mc, .slice la (Nd.kids t).length lc] 29)).heap.size = w.heap.size + 1 + 1 := by simp
  clear hs hln hk3 hk4 ht3 ht4
  go_enter Tryz.func33, Tryz.ntmps33
  go_wp2_with fail
  generalize ((w.alloc (.cells #[.int .i64 (Kd.sort k), .slice na (Kd.names k).length nc, .slice ka (Kd.kids k).length kc] 26)).alloc (.cells #[.int .i64 (Nd.sort t), .int .i64 (Nd.num t), .string (Nd.text t), .slice ma (Nd.names t).length mc, .slice la (Nd.kids t).length lc] 29)) = W0 at *
  clear hl' hs'
  go_loopw [5] (fun i wr => ∃ j : Nat, j ≤ (Kd.names k).length ∧ i = .int .i64 j ∧ (∀ q (h1 : q < (Kd.names k).length) (h2 : q < (Nd.names t).length), q < j → (Kd.names k)[q] = (Nd.names t)[q]) ∧ Below W0.heap.size W0 wr) (fun i _ => (Kd.names k).length - (intOf i).toNat)
  case atStart => exact ⟨0, Nat.zero_le _, rfl, fun q _ _ h => absurd h (Nat.not_lt_zero _), Below.refl _ _⟩
  case round =>
    obtain ⟨j, hj, rfl, hall, hbel⟩ := hrel
    have HALL : Hid (∀ q (h1 : q < (Kd.names k).length) (h2 : q < (Nd.names t).length), q < j → (Kd.names k)[q] = (Nd.names t)[q]) := hall
    clear hall
    obtain ⟨i0, i1, i2⟩ := hx3.keep hbel
    obtain ⟨j0, j1, j2, j3, j4⟩ := hx5.keep hbel
    have hbw : Below w.heap.size w wr := below_step hb0 (by omega) hbel
    have hzr := hbel.size
    by_cases hlt : j < (Kd.names k).length
    · have hlt2 : j < (Nd.names t).length := by rw [← HLN.out]; exact hlt
      obtain ⟨b, off, rfl, hbB, hcl⟩ := hnc (by intro h; rw [h] at hlt; simp at hlt)
      obtain ⟨b2, off2, rfl, hbB2, hcl2⟩ := hmc (by intro h; rw [h] at hlt2; simp at hlt2)
      have f0 := (hbw.cell (p := ⟨b, off + j, none⟩) (hB b hbB)).trans (hcl j hlt)
      have f1 := (hbw.cell (p := ⟨b2, off2 + j, none⟩) (hB' b2 hbB2)).trans (hcl2 j hlt2)
      have HE : Hid ((Kd.names k)[j] ≠ (Nd.names t)[j] → hasK (n + 1) k (m + 1) t = false) := fun h => HNo.out (.inr (names_ne j hlt hlt2 h))
      have HAN : Hid ((Kd.names k)[j] = (Nd.names t)[j] → ∀ q (h1 : q < (Kd.names k).length) (h2 : q < (Nd.names t).length), q < j + 1 → (Kd.names k)[q] = (Nd.names t)[q]) := by
        intro he q h1 h2 hq
        by_cases hqj : q < j
        · exact HALL.out q h1 h2 hqj
        · have : q = j := by omega
          subst this; exact he
      clear hnc hmc hcl hcl2 hkc hlc
      generalize (Kd.names k)[j] = s1 at *
      generalize (Nd.names t)[j] = s2 at *
      cases heq : (s1.toList == s2.toList) with
      | false =>
        have HF : Hid (hasK (n + 1) k (m + 1) t = false) := HE.out (by rw [str_beq] at heq; simpa using heq)
        go_wp2_with fail
        go_quiet (fail)
        go_wp2_with fail
        go_ret
        exact ⟨ret_bool HF.out.symm, below_drewN hbw _⟩
      | true =>
        have HF : Hid (s1 = s2) := by show s1 = s2; rw [str_beq] at heq; simpa using heq
        go_wp2_with fail
        go_quiet (fail)
        go_wp2_with fail
        go_roundw
        case rel => exact ⟨j + 1, by omega, by go_num, HAN.out HF.out, below_drewN hbel _⟩
        case measure => simp [intOf]; omega
    · have HNE : Hid (Kd.names k = Nd.names t) := names_eq HLN.out (fun q h1 h2 => HALL.out q h1 h2 (by omega))
      clear hnc hmc HALL
      go_wp2_with fail
      go_loopw [6] (fun i wr' => ∃ j : Nat, j ≤ (Nd.kids t).length ∧ i = .int .i64 j ∧ Below W0.heap.size W0 wr' ∧ (Kd.sort k = 5 → ∀ q (h1 : q < (Kd.kids k).length) (h2 : q < (Nd.kids t).length), q < j → hasK n (Kd.kids k)[q] m (Nd.kids t)[q] = true) ∧
          (¬ Kd.sort k = 5 → ∀ x r, Kd.kids k = x :: r → ((Nd.kids t).take j).all (fun y => hasK n x m y) = true)) (fun i _ => (Nd.kids t).length - (intOf i).toNat)
      case atStart => exact ⟨0, Nat.zero_le _, rfl, hbel, fun _ q _ _ h => absurd h (Nat.not_lt_zero _), fun _ x r _ => by simp⟩
      case round =>
        obtain ⟨j, hj, rfl, hbel2, h5all, h4all⟩ := hrel
        have H5 : Hid (Kd.sort k = 5 → ∀ q (h1 : q < (Kd.kids k).length) (h2 : q < (Nd.kids t).length), q < j → hasK n (Kd.kids k)[q] m (Nd.kids t)[q] = true) := h5all
        have H4 : Hid (¬ Kd.sort k = 5 → ∀ x r, Kd.kids k = x :: r → ((Nd.kids t).take j).all (fun y => hasK n x m y) = true) := h4all
        clear h5all h4all hbel hbw i0 i1 i2 j0 j1 j2 j3 j4 hzr
        obtain ⟨i0, i1, i2⟩ := hx3.keep hbel2
        obtain ⟨j0, j1, j2, j3, j4⟩ := hx5.keep hbel2
        have hbw : Below w.heap.size w wr := below_step hb0 (by omega) hbel2
        have hzr := hbel2.size
        by_cases hlt : j < (Nd.kids t).length
        · obtain ⟨b2, off2, rfl, hbB2, hcl2⟩ := hlc (by intro h; rw [h] at hlt; simp at hlt)
          obtain ⟨y0, y1, y2, y3, y4, g0, g1, g2, g3, g4, hyin⟩ := hcl2 j hlt
          have hbb2 := hB' b2 hbB2
          have f0 := (hbw.cell (p := ⟨b2, off2 + j * 5, none⟩) hbb2).trans g0
          have f1 := (hbw.cell (p := ⟨b2, off2 + j * 5 + 1, none⟩) hbb2).trans g1
          have f2 := (hbw.cell (p := ⟨b2, off2 + j * 5 + 2, none⟩) hbb2).trans g2
          have f3 := (hbw.cell (p := ⟨b2, off2 + j * 5 + 3, none⟩) hbb2).trans g3
          have f4 := (hbw.cell (p := ⟨b2, off2 + j * 5 + 4, none⟩) hbb2).trans g4
          have hgt := HGT.out _ (List.getElem_mem hlt)
          rcases HKK.out with ⟨hsk, -, -⟩ | ⟨hsk, -, x, hkx⟩ | ⟨hsk, hlk, -⟩
          · exfalso
            have := (HTK.out.1 (by rw [← HS.out]; exact hsk)).2
            rw [this] at hlt
            exact absurd hlt (Nat.not_lt_zero _)
          · have h5n : ¬ Kd.sort k = 5 := by omega
            have he5 : (Kd.sort k == 5) = false := by simpa using h5n
            have hk1 : (Kd.kids k).length = 1 := by rw [hkx]; rfl
            obtain ⟨b, off, rfl, hbB, hcl⟩ := hkc (by rw [hkx]; simp)
            obtain ⟨x0, x1, x2, q0, q1, q2, hxin⟩ := hcl 0 (by omega)
            rw [Nat.zero_mul, Nat.add_zero] at q0
            rw [Nat.zero_mul, Nat.add_zero] at q1 q2
            have hxe : (Kd.kids k)[0]'(by omega) = x := by simp [hkx]
            rw [hxe] at hxin
            have hbb := hB b hbB
            have r0 := (hbw.cell (p := ⟨b, off, none⟩) hbb).trans q0
            have r1 := (hbw.cell (p := ⟨b, off + 1, none⟩) hbb).trans q1
            have r2 := (hbw.cell (p := ⟨b, off + 2, none⟩) hbb).trans q2
            obtain ⟨u0, ua, ul, uc, va, vl, vc, rfl, rfl, rfl⟩ := hxin.shape
            have hal := (Below.refl wr.heap.size wr).alloc (Nat.le_refl _) (.cells #[.int .i64 u0, .slice ua ul uc, .slice va vl vc] 26)
            have hbw' : Below w.heap.size w ((wr.alloc (.cells #[.int .i64 u0, .slice ua ul uc, .slice va vl vc] 26)).drew) := (hbw.trans (hal.mono hbw.size)).drew
            have hgx := HGK.out x (by rw [hkx]; simp)
            have HC : Hid (Calls Tryz.prog 33 _ _ _) := hn S S' m x (Nd.kids t)[j] _ _ _ _ _ _ _ _ (d + 1) (d' + 1) ((wr.alloc (.cells #[.int .i64 u0, .slice ua ul uc, .slice va vl vc] 26)).drew)
              (hxin.keep (same_below hbw' hB) (fun _ h => h)) (hyin.keep (same_below hbw' hB') (fun _ h => h)) (fun b hb => by have := hB b hb; have := hbw.size; simp; omega) (fun b hb => by have := hB' b hb; have := hbw.size; simp; omega) hgx hgt
            have HBad : Hid (hasK n x m (Nd.kids t)[j] = false → hasK (n + 1) k (m + 1) t = false) := fun h => hasK_bad (fun h => absurd h h5n) (fun _ => by rw [hkx]; exact headAll_false j hlt h)
            have HNext : Hid (hasK n x m (Nd.kids t)[j] = true → ∀ x' r', Kd.kids k = x' :: r' → ((Nd.kids t).take (j + 1)).all (fun y => hasK n x' m y) = true) := by
              intro h x' r' he
              have e : x' = x := by rw [hkx] at he; exact ((List.cons.inj he).1).symm
              subst e
              exact all_take_kidK j hlt (H4.out h5n _ _ he) h
            have hk0 : (0 : Int) < ((Kd.kids k).length : Int) := by omega
            have H5n : Hid (¬ Kd.sort k = 5) := h5n
            have hbb' : b < wr.heap.size := by have := hbw.size; omega
            have hbb2' : b2 < wr.heap.size := by have := hbw.size; omega
            have hN0 : w.heap.size < wr.heap.size := by omega
            have hN1 : w.heap.size + 1 < wr.heap.size := by omega
            clear hkc hcl hlc hcl2 hxin hyin q0 q1 q2 g0 g1 g2 g3 g4 hkx hxe hk1 h5n hsk hgx hgt
            generalize hkj : (Nd.kids t)[j] = tj at *
            clear hkj
            go_wp2_with fail
            go_region_law (go_simp; go_at_call 33; refine HC.out.mono ?_; rintro e w3 ⟨rfl, hb3⟩)
            all_goals
              have hb4 : Below W0.heap.size W0 w3 := hbel2.trans (((hal.drew).trans (hb3.mono (by simp))).mono hzr)
              have hb5 := below_step hb0 (by omega) hb4
              clear hb3
              cases hres : hasK n x m tj with
              | false =>
                have HF : Hid (hasK (n + 1) k (m + 1) t = false) := HBad.out hres
                clear hres
                go_wp2_with fail
                go_ret
                exact ⟨ret_bool HF.out.symm, hb5⟩
              | true =>
                have HF : Hid _ := HNext.out hres
                clear hres
                go_wp2_with fail
                go_roundw
                case rel => exact ⟨j + 1, by omega, by go_num, hb4, fun h => absurd h H5n.out, fun _ => HF.out⟩
                case measure => simp [intOf]; omega
          · have he5 : (Kd.sort k == 5) = true := by simpa using hsk
            have hlkt : (Kd.kids k).length = (Nd.kids t).length := by
              have h1 := (HTK.out.2.2 (by rw [← HS.out]; exact hsk)).1
              have h2 := HLN.out
              omega
            have hltk : j < (Kd.kids k).length := by omega
            obtain ⟨b, off, rfl, hbB, hcl⟩ := hkc (by intro h; rw [h] at hltk; simp at hltk)
            obtain ⟨x0, x1, x2, q0, q1, q2, hxin0⟩ := hcl 0 (by omega)
            obtain ⟨z0, z1, z2, s0, s1, s2, hxin⟩ := hcl j hltk
            rw [Nat.zero_mul, Nat.add_zero] at q0
            rw [Nat.zero_mul, Nat.add_zero] at q1 q2
            have hbb := hB b hbB
            have r0 := (hbw.cell (p := ⟨b, off, none⟩) hbb).trans q0
            have r1 := (hbw.cell (p := ⟨b, off + 1, none⟩) hbb).trans q1
            have r2 := (hbw.cell (p := ⟨b, off + 2, none⟩) hbb).trans q2
            have p0 := (hbw.cell (p := ⟨b, off + j * 3, none⟩) hbb).trans s0
            have p1 := (hbw.cell (p := ⟨b, off + j * 3 + 1, none⟩) hbb).trans s1
            have p2 := (hbw.cell (p := ⟨b, off + j * 3 + 2, none⟩) hbb).trans s2
            obtain ⟨t0, ta, tl, tc, sa, sl, sc, rfl, rfl, rfl⟩ := hxin0.shape
            obtain ⟨u0, ua, ul, uc, va, vl, vc, rfl, rfl, rfl⟩ := hxin.shape
            have hal := (Below.refl wr.heap.size wr).alloc (Nat.le_refl _) (.cells #[.int .i64 u0, .slice ua ul uc, .slice va vl vc] 26)
            have hbw' : Below w.heap.size w ((wr.alloc (.cells #[.int .i64 u0, .slice ua ul uc, .slice va vl vc] 26)).drew) := (hbw.trans (hal.mono hbw.size)).drew
            have hgx := HGK.out _ (List.getElem_mem hltk)
            have HC : Hid (Calls Tryz.prog 33 _ _ _) := hn S S' m (Kd.kids k)[j] (Nd.kids t)[j] _ _ _ _ _ _ _ _ (d + 1) (d' + 1) ((wr.alloc (.cells #[.int .i64 u0, .slice ua ul uc, .slice va vl vc] 26)).drew)
              (hxin.keep (same_below hbw' hB) (fun _ h => h)) (hyin.keep (same_below hbw' hB') (fun _ h => h)) (fun b hb => by have := hB b hb; have := hbw.size; simp; omega) (fun b hb => by have := hB' b hb; have := hbw.size; simp; omega) hgx hgt
            have HBad : Hid (hasK n (Kd.kids k)[j] m (Nd.kids t)[j] = false → hasK (n + 1) k (m + 1) t = false) := fun h => hasK_bad (fun _ => zipAll_false j hltk hlt h) (fun h' => absurd hsk h')
            have HNext : Hid (hasK n (Kd.kids k)[j] m (Nd.kids t)[j] = true → Kd.sort k = 5 → ∀ q (h1 : q < (Kd.kids k).length) (h2 : q < (Nd.kids t).length), q < j + 1 → hasK n (Kd.kids k)[q] m (Nd.kids t)[q] = true) := by
              intro h _ q h1 h2 hq
              by_cases hqj : q < j
              · exact H5.out hsk q h1 h2 hqj
              · have : q = j := by omega
                subst this; exact h
            have H5y : Hid (Kd.sort k = 5) := hsk
            have hk0 : (0 : Int) < ((Kd.kids k).length : Int) := by omega
            have hkj : (j : Int) < ((Kd.kids k).length : Int) := by omega
            have hbb' : b < wr.heap.size := by have := hbw.size; omega
            have hbb2' : b2 < wr.heap.size := by have := hbw.size; omega
            have hN0 : w.heap.size < wr.heap.size := by omega
            have hN1 : w.heap.size + 1 < wr.heap.size := by omega
            clear hkc hcl hlc hcl2 hxin hxin0 hyin q0 q1 q2 s0 s1 s2 g0 g1 g2 g3 g4 hsk hgx hgt hlk hlkt
            generalize (Kd.kids k)[j] = kj at *
            generalize (Nd.kids t)[j] = tj at *
            clear hltk
            go_wp2_with fail
            go_region_law (go_simp; go_at_call 33; refine HC.out.mono ?_; rintro e w3 ⟨rfl, hb3⟩)
            all_goals
              have hb4 : Below W0.heap.size W0 w3 := hbel2.trans (((hal.drew).trans (hb3.mono (by simp))).mono hzr)
              have hb5 := below_step hb0 (by omega) hb4
              clear hb3
              cases hres : hasK n kj m tj with
              | false =>
                have HF : Hid (hasK (n + 1) k (m + 1) t = false) := HBad.out hres
                clear hres
                go_wp2_with fail
                go_ret
                exact ⟨ret_bool HF.out.symm, hb5⟩
              | true =>
                have HF : Hid _ := HNext.out hres
                clear hres
                go_wp2_with fail
                go_roundw
                case rel => exact ⟨j + 1, by omega, by go_num, hb4, HF.out, fun h => absurd H5y.out h⟩
                case measure => simp [intOf]; omega
        · have hjl : j = (Nd.kids t).length := by omega
          have HF : Hid (hasK (n + 1) k (m + 1) t = true) := by
            refine hasK_yes HS.out HNE.out (fun h5 => ?_) (fun h5 => ?_)
            · have hlkt : (Kd.kids k).length = (Nd.kids t).length := by
                rcases HKK.out with ⟨hsk, -, -⟩ | ⟨hsk, -, x, hkx⟩ | ⟨hsk, hlk, -⟩
                · omega
                · omega
                · have h1 := (HTK.out.2.2 (by rw [← HS.out]; exact hsk)).1
                  have h2 := HLN.out
                  omega
              exact zipAll_true hlkt (fun q h1 h2 => H5.out h5 q h1 h2 (by omega))
            · rcases HKK.out with ⟨hsk, -, hkx⟩ | ⟨hsk, -, x, hkx⟩ | ⟨hsk, -⟩
              · have := (HTK.out.1 (by rw [← HS.out]; exact hsk)).2
                rw [hkx, this]; rfl
              · have := H4.out h5 x [] hkx
                rw [hjl, List.take_length] at this
                rw [hkx]; exact headAll_true this
              · exact absurd hsk h5
          clear hkc hlc hjl
          go_wp2_with fail
          go_ret
          exact ⟨ret_bool HF.out.symm, hbw⟩

theorem l2Has_any : ∀ n, HasSSaid n := by
  intro n
  induction n with
  | zero => intro S S' m k t c0 c1 c2 e0 e1 e2 e3 e4 d d' w hk; exact hk.elim
  | succ n ih => exact l2Has_step n ih

end Go.Proofs.YtpalkdcgbbbmeaaGreatDoor
