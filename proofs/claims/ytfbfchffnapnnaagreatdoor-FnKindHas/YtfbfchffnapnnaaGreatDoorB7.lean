/-
  Several texts in one, in their order.
-/
import Derived.Test.YtfbfchffnapnnaaGreatDoorB1
import Derived.Test.YtfbfchffnapnnaaGreatDoorB4
import Derived.Deep.RegionLaw
import Derived.Deep.QuietTactic
import Derived.BigQuiet

/-
  The specification's l2Has, KindHas: what they answer.
-/
namespace Go.Proofs.YtfbfchffnapnnaaGreatDoor
open Go.RowKit

theorem str_beq (a b : ByteArray) : (a.toList == b.toList) = decide (a = b) := by
  rw [ByteArray.toList_eq, ByteArray.toList_eq]
  by_cases h : a = b
  · subst h; simp
  · rw [decide_eq_false h, beq_eq_false_iff_ne]
    intro e
    exact h (WideShapes.bytes_inj e)

/-- What a good node of a schema has as kids. -/
theorem goodK_kids {n : Nat} {k : K (n + 1)} {d : Int} (h : goodK (n + 1) k d = true) :
    ((Kd.sort k = 1 ∨ Kd.sort k = 2 ∨ Kd.sort k = 3) ∧ Kd.names k = [] ∧ Kd.kids k = []) ∨ ((Kd.sort k = 4 ∨ Kd.sort k = 6) ∧ Kd.names k = [] ∧ ∃ x, Kd.kids k = [x]) ∨ (Kd.sort k = 5 ∧ (Kd.names k).length = (Kd.kids k).length ∧ riseB (Kd.names k) = true) := by
  simp only [goodK, Bool.and_eq_true] at h
  have ha : aloneKF (Kd.sort k) (Kd.names k) (Kd.kids k).length = true := h.1.2
  unfold aloneKF at ha
  by_cases h1 : Kd.sort k = 1
  · rw [if_pos h1] at ha; simp at ha; exact .inl ⟨.inl h1, ha.1, ha.2⟩
  rw [if_neg h1] at ha
  by_cases h2 : Kd.sort k = 2
  · rw [if_pos h2] at ha; simp at ha; exact .inl ⟨.inr (.inl h2), ha.1, ha.2⟩
  rw [if_neg h2] at ha
  by_cases h3 : Kd.sort k = 3
  · rw [if_pos h3] at ha; simp at ha; exact .inl ⟨.inr (.inr h3), ha.1, ha.2⟩
  rw [if_neg h3] at ha
  have one : ∀ l : List (K n), (l.length : Int) = 1 → ∃ x, l = [x] := by
    intro l hl
    match l, hl with
    | [x], _ => exact ⟨x, rfl⟩
    | x :: y :: r, hl => simp at hl; omega
  by_cases h4 : Kd.sort k = 4
  · rw [if_pos h4] at ha; simp only [Bool.and_eq_true, beq_iff_eq] at ha
    exact .inr (.inl ⟨.inl h4, List.eq_nil_of_length_eq_zero (by omega), one _ ha.2⟩)
  rw [if_neg h4] at ha
  by_cases h5 : Kd.sort k = 5
  · rw [if_pos h5] at ha; simp only [Bool.and_eq_true, beq_iff_eq] at ha
    exact .inr (.inr ⟨h5, by omega, ha.2⟩)
  rw [if_neg h5] at ha
  by_cases h6 : Kd.sort k = 6
  · rw [if_pos h6] at ha; simp only [Bool.and_eq_true, beq_iff_eq] at ha
    exact .inr (.inl ⟨.inr h6, List.eq_nil_of_length_eq_zero (by omega), one _ ha.2⟩)
  · rw [if_neg h6] at ha; cases ha

/-- What a good node of a tree has as names and kids. -/
theorem goodT_kids {n : Nat} {t : T (n + 1)} {d : Int} (h : goodT (n + 1) t d = true) :
    ((Nd.sort t = 1 ∨ Nd.sort t = 2 ∨ Nd.sort t = 3) → Nd.names t = [] ∧ Nd.kids t = []) ∧ ((Nd.sort t = 4 ∨ Nd.sort t = 6) → Nd.names t = []) ∧ (Nd.sort t = 5 → (Nd.names t).length = (Nd.kids t).length ∧ riseB (Nd.names t) = true) := by
  simp only [goodT, Bool.and_eq_true] at h
  have ha : aloneF (Nd.sort t) (Nd.num t) (Nd.text t) (Nd.names t) (Nd.kids t).length = true := h.1.2
  refine ⟨fun hs => ?_, fun hs => ?_, fun hs => ?_⟩
  · unfold aloneF at ha
    rcases hs with hs | hs | hs
    · rw [hs] at ha; simp at ha; exact ⟨ha.1.2, ha.2⟩
    · rw [hs] at ha; simp at ha; exact ⟨ha.1.2, ha.2⟩
    · rw [hs] at ha; simp at ha; exact ⟨ha.1.2, ha.2⟩
  · unfold aloneF at ha
    rcases hs with hs | hs
    · rw [hs] at ha; simp at ha; exact ha.1.2
    · rw [hs] at ha; simp at ha; exact ha.1.2
  · unfold aloneF at ha
    rw [hs] at ha; simp at ha; exact ⟨by omega, ha.2⟩

/-- l2Has at schemas of at most n levels. -/
def HasSSaid (n : Nat) : Prop := ∀ (S S' : Nat → Prop) (m : Nat) (k : K n) (t : T m) (c0 c1 c2 e0 e1 e2 e3 e4 : Value) (d d' : Int) (w : World), KindIn S w n k c0 c1 c2 → TreeIn S' w m t e0 e1 e2 e3 e4 → (∀ b, S b → b < w.heap.size) → (∀ b, S' b → b < w.heap.size) →
  goodK n k d = true → goodT m t d' = true →
  Calls Tryz.prog 21 #[.agg #[c0, c1, c2], .agg #[e0, e1, e2, e3, e4]] w fun e w' => e = .returned (.bool (hasK n k m t)) ∧ Below w.heap.size w w'

theorem hasK_no {n m : Nat} {k : K (n + 1)} {t : T (m + 1)} (h : Kd.sort k ≠ Nd.sort t ∨ Kd.names k ≠ Nd.names t) : hasK (n + 1) k (m + 1) t = false := by
  simp only [hasK]
  rcases h with h | h
  · rw [show (Kd.sort k == Nd.sort t) = false by simpa using h]; simp
  · rw [decide_eq_false h]; simp

theorem names_ne {a b : List ByteArray} (i : Nat) (h1 : i < a.length) (h2 : i < b.length) (h : a[i] ≠ b[i]) : a ≠ b := by
  intro e; subst e; exact h rfl

theorem names_eq {a b : List ByteArray} (hl : a.length = b.length) (h : ∀ i (h1 : i < a.length) (h2 : i < b.length), a[i] = b[i]) : a = b := List.ext_getElem hl (fun i h1 h2 => h i h1 h2)

end Go.Proofs.YtfbfchffnapnnaaGreatDoor

/-
  The specification's l2Has: walked.
-/
namespace Go.Proofs.YtfbfchffnapnnaaGreatDoor
open Go.RowKit

theorem hasK_yes {n m : Nat} {k : K (n + 1)} {t : T (m + 1)} (hs : Kd.sort k = Nd.sort t) (hn : Kd.names k = Nd.names t)
    (h5 : Kd.sort k = 5 → zipAll (fun a b => hasK n a m b) (Kd.kids k) (Nd.kids t) = true) (h4 : ¬ Kd.sort k = 5 → headAll (fun a b => hasK n a m b) (Kd.kids k) (Nd.kids t) = true) : hasK (n + 1) k (m + 1) t = true := by
  simp only [hasK]
  rw [show (Kd.sort k == Nd.sort t) = true by simpa using hs, decide_eq_true hn]
  by_cases h : Kd.sort k = 5
  · rw [if_pos h, h5 h]; rfl
  · rw [if_neg h, h4 h]; rfl

theorem hasK_bad {n m : Nat} {k : K (n + 1)} {t : T (m + 1)} (h5 : Kd.sort k = 5 → zipAll (fun a b => hasK n a m b) (Kd.kids k) (Nd.kids t) = false) (h4 : ¬ Kd.sort k = 5 → headAll (fun a b => hasK n a m b) (Kd.kids k) (Nd.kids t) = false) : hasK (n + 1) k (m + 1) t = false := by
  simp only [hasK]
  by_cases h : Kd.sort k = 5
  · rw [if_pos h, h5 h]; simp
  · rw [if_neg h, h4 h]; simp

set_option maxRecDepth 100000 in
set_option maxHeartbeats 4000000 in
theorem l2Has_step (n : Nat) (hn : HasSSaid n) : HasSSaid (n + 1) := by
  intro S S' m k t c0 c1 c2 e0 e1 e2 e3 e4 d d' w hk ht hB hB' hgk hgt
  cases m with
  | zero => exact ht.elim
  | succ m =>
  have HKK : Hid _ := goodK_kids hgk
  have HTK : Hid _ := goodT_kids hgt
  simp only [goodK, Bool.and_eq_true] at hgk
  simp only [goodT, Bool.and_eq_true] at hgt
  have HGK : Hid (∀ x, x ∈ Kd.kids k → goodK n x (d + 1) = true) := List.all_eq_true.1 hgk.2
  have HGT : Hid (∀ x, x ∈ Nd.kids t → goodT m x (d' + 1) = true) := List.all_eq_true.1 hgt.2
  clear hgk hgt
  obtain ⟨rfl, -, hk3, hk4⟩ := hk
  obtain ⟨rfl, rfl, rfl, hsx, -, -, ht3, ht4⟩ := ht
  obtain ⟨na, nc, rfl, hnl, -, hnc⟩ := id hk3
  obtain ⟨ka, kc, rfl, hkl, hkc⟩ := id hk4
  obtain ⟨ma, mc, rfl, hml, -, hmc⟩ := id ht3
  obtain ⟨la, lc, rfl, hll, hlc⟩ := id ht4
  unfold maxLen at hnl hkl hml hll
  have HNo : Hid (Kd.sort k ≠ Nd.sort t ∨ Kd.names k ≠ Nd.names t → hasK (n + 1) k (m + 1) t = false) := hasK_no
  have hb0 : Below w.heap.size w ((w.alloc (.cells #[.int .i64 (Kd.sort k), .slice na (Kd.names k).length nc, .slice ka (Kd.kids k).length kc] 26)).alloc (.cells #[.int .i64 (Nd.sort t), .int .i64 (Nd.num t), .string (Nd.text t), .slice ma (Nd.names t).length mc, .slice la (Nd.kids t).length lc] 29)) :=
    ((Below.refl _ _).alloc (Nat.le_refl _) _).alloc (by simp) _
  by_cases hs : Kd.sort k = Nd.sort t
  case neg =>
    have hs' : (Kd.sort k != Nd.sort t) = true := by simpa using hs
    have HF : Hid (hasK (n + 1) k (m + 1) t = false) := HNo.out (.inl hs)
    clear hs hkc hnc hmc hlc hk3 hk4 ht3 ht4
    go_enter Tryz.func21, Tryz.ntmps21
    go_wp2_with fail
    go_ret
    exact ⟨ret_bool HF.out.symm, hb0⟩
  have hs' : (Kd.sort k != Nd.sort t) = false := by simpa using hs
  have HS : Hid (Kd.sort k = Nd.sort t) := hs
  by_cases hln : (Kd.names k).length = (Nd.names t).length
  case neg =>
    have hl' : (((Kd.names k).length : Int) != ((Nd.names t).length : Int)) = true := by simp; omega
    have HF : Hid (hasK (n + 1) k (m + 1) t = false) := HNo.out (.inr (fun e => hln (by rw [e])))
    clear hs hkc hnc hmc hlc hk3 hk4 ht3 ht4 hln
    go_enter Tryz.func21, Tryz.ntmps21
    go_wp2_with fail
    go_ret
    exact ⟨ret_bool HF.out.symm, hb0⟩
  have hl' : (((Kd.names k).length : Int) != ((Nd.names t).length : Int)) = false := by simp; omega
  have HLN : Hid ((Kd.names k).length = (Nd.names t).length) := hln
  have hx3 : Box3 ((w.alloc (.cells #[.int .i64 (Kd.sort k), .slice na (Kd.names k).length nc, .slice ka (Kd.kids k).length kc] 26)).alloc (.cells #[.int .i64 (Nd.sort t), .int .i64 (Nd.num t), .string (Nd.text t), .slice ma (Nd.names t).length mc, .slice la (Nd.kids t).length lc] 29)) w.heap.size
      (.int .i64 (Kd.sort k)) (.slice na (Kd.names k).length nc) (.slice ka (Kd.kids k).length kc) := (Box3.new w _ _ _ 26).keep ((Below.refl _ _).alloc (Nat.le_refl _) _)
  have hx5 := Box5.new (w.alloc (.cells #[.int .i64 (Kd.sort k), .slice na (Kd.names k).length nc, .slice ka (Kd.kids k).length kc] 26)) (.int .i64 (Nd.sort t)) (.int .i64 (Nd.num t)) (.string (Nd.text t)) (.slice ma (Nd.names t).length mc) (.slice la (Nd.kids t).length lc) 29
  rw [show (w.alloc (.cells #[.int .i64 (Kd.sort k), .slice na (Kd.names k).length nc, .slice ka (Kd.kids k).length kc] 26)).heap.size = w.heap.size + 1 by simp] at hx5
  have hz0 : ((w.alloc (.cells #[.int .i64 (Kd.sort k), .slice na (Kd.names k).length nc, .slice ka (Kd.kids k).length kc] 26)).alloc (.cells #[.int .i64 (Nd.sort t), .int .i64 (Nd.num t), .string (Nd.text t), .slice ma (Nd.names t).length mc, .slice la (Nd.kids t).length lc] 29)).heap.size = w.heap.size + 1 + 1 := by simp
  clear hs hln hk3 hk4 ht3 ht4
  go_enter Tryz.func21, Tryz.ntmps21
  go_wp2_with fail
  generalize ((w.alloc (.cells #[.int .i64 (Kd.sort k), .slice na (Kd.names k).length nc, .slice ka (Kd.kids k).length kc] 26)).alloc (.cells #[.int .i64 (Nd.sort t), .int .i64 (Nd.num t), .string (Nd.text t), .slice ma (Nd.names t).length mc, .slice la (Nd.kids t).length lc] 29)) = W0 at *
  clear hl' hs'
  go_loopw [5] (fun i wr => ∃ j : Nat, j ≤ (Kd.names k).length ∧ i = .int .i64 j ∧ (∀ q (h1 : q < (Kd.names k).length) (h2 : q < (Nd.names t).length), q < j → (Kd.names k)[q] = (Nd.names t)[q]) ∧ Below W0.heap.size W0 wr) (fun i _ => (Kd.names k).length - (intOf i).toNat)
  case atStart => exact ⟨0, Nat.zero_le _, rfl, fun q _ _ h => absurd h (Nat.not_lt_zero _), Below.refl _ _⟩
  case round =>
    obtain ⟨j, hj, rfl, hall, hbel⟩ := hrel
    have HALL : Hid (∀ q (h1 : q < (Kd.names k).length) (h2 : q < (Nd.names t).length), q < j → (Kd.names k)[q] = (Nd.names t)[q]) := hall
    clear hall
    obtain ⟨i0, i1, i2⟩ := hx3.keep hbel
    obtain ⟨j0, j1, j2, j3, j4⟩ := hx5.keep hbel
    have hbw : Below w.heap.size w wr := below_step hb0 (by omega) hbel
    have hzr := hbel.size
    by_cases hlt : j < (Kd.names k).length
    · have hlt2 : j < (Nd.names t).length := by rw [← HLN.out]; exact hlt
      obtain ⟨b, off, rfl, hbB, hcl⟩ := hnc (by intro h; rw [h] at hlt; simp at hlt)
      obtain ⟨b2, off2, rfl, hbB2, hcl2⟩ := hmc (by intro h; rw [h] at hlt2; simp at hlt2)
      have f0 := (hbw.cell (p := ⟨b, off + j, none⟩) (hB b hbB)).trans (hcl j hlt)
      have f1 := (hbw.cell (p := ⟨b2, off2 + j, none⟩) (hB' b2 hbB2)).trans (hcl2 j hlt2)
      have HE : Hid ((Kd.names k)[j] ≠ (Nd.names t)[j] → hasK (n + 1) k (m + 1) t = false) := fun h => HNo.out (.inr (names_ne j hlt hlt2 h))
      have HAN : Hid ((Kd.names k)[j] = (Nd.names t)[j] → ∀ q (h1 : q < (Kd.names k).length) (h2 : q < (Nd.names t).length), q < j + 1 → (Kd.names k)[q] = (Nd.names t)[q]) := by
        intro he q h1 h2 hq
        by_cases hqj : q < j
        · exact HALL.out q h1 h2 hqj
        · have : q = j := by omega
          subst this; exact he
      clear hnc hmc hcl hcl2 hkc hlc
      generalize (Kd.names k)[j] = s1 at *
      generalize (Nd.names t)[j] = s2 at *
      cases heq : (s1.toList == s2.toList) with
      | false =>
        have HF : Hid (hasK (n + 1) k (m + 1) t = false) := HE.out (by rw [str_beq] at heq; simpa using heq)
        go_wp2_with fail
        go_quiet (fail)
        go_wp2_with fail
        go_ret
        exact ⟨ret_bool HF.out.symm, below_drewN hbw _⟩
      | true =>
        have HF : Hid (s1 = s2) := by show s1 = s2; rw [str_beq] at heq; simpa using heq
        go_wp2_with fail
        go_quiet (fail)
        go_wp2_with fail
        go_roundw
        case rel => exact ⟨j + 1, by omega, by go_num, HAN.out HF.out, below_drewN hbel _⟩
        case measure => simp [intOf]; omega
    · have HNE : Hid (Kd.names k = Nd.names t) := names_eq HLN.out (fun q h1 h2 => HALL.out q h1 h2 (by omega))
      clear hnc hmc HALL
      go_wp2_with fail
      go_loopw [6] (fun i wr' => ∃ j : Nat, j ≤ (Nd.kids t).length ∧ i = .int .i64 j ∧ Below W0.heap.size W0 wr' ∧ (Kd.sort k = 5 → ∀ q (h1 : q < (Kd.kids k).length) (h2 : q < (Nd.kids t).length), q < j → hasK n (Kd.kids k)[q] m (Nd.kids t)[q] = true) ∧
          (¬ Kd.sort k = 5 → ∀ x r, Kd.kids k = x :: r → ((Nd.kids t).take j).all (fun y => hasK n x m y) = true)) (fun i _ => (Nd.kids t).length - (intOf i).toNat)
      case atStart => exact ⟨0, Nat.zero_le _, rfl, hbel, fun _ q _ _ h => absurd h (Nat.not_lt_zero _), fun _ x r _ => by simp⟩
      case round =>
        obtain ⟨j, hj, rfl, hbel2, h5all, h4all⟩ := hrel
        have H5 : Hid (Kd.sort k = 5 → ∀ q (h1 : q < (Kd.kids k).length) (h2 : q < (Nd.kids t).length), q < j → hasK n (Kd.kids k)[q] m (Nd.kids t)[q] = true) := h5all
        have H4 : Hid (¬ Kd.sort k = 5 → ∀ x r, Kd.kids k = x :: r → ((Nd.kids t).take j).all (fun y => hasK n x m y) = true) := h4all
        clear h5all h4all hbel hbw i0 i1 i2 j0 j1 j2 j3 j4 hzr
        obtain ⟨i0, i1, i2⟩ := hx3.keep hbel2
        obtain ⟨j0, j1, j2, j3, j4⟩ := hx5.keep hbel2
        have hbw : Below w.heap.size w wr := below_step hb0 (by omega) hbel2
        have hzr := hbel2.size
        by_cases hlt : j < (Nd.kids t).length
        · obtain ⟨b2, off2, rfl, hbB2, hcl2⟩ := hlc (by intro h; rw [h] at hlt; simp at hlt)
          obtain ⟨y0, y1, y2, y3, y4, g0, g1, g2, g3, g4, hyin⟩ := hcl2 j hlt
          have hbb2 := hB' b2 hbB2
          have f0 := (hbw.cell (p := ⟨b2, off2 + j * 5, none⟩) hbb2).trans g0
          have f1 := (hbw.cell (p := ⟨b2, off2 + j * 5 + 1, none⟩) hbb2).trans g1
          have f2 := (hbw.cell (p := ⟨b2, off2 + j * 5 + 2, none⟩) hbb2).trans g2
          have f3 := (hbw.cell (p := ⟨b2, off2 + j * 5 + 3, none⟩) hbb2).trans g3
          have f4 := (hbw.cell (p := ⟨b2, off2 + j * 5 + 4, none⟩) hbb2).trans g4
          have hgt := HGT.out _ (List.getElem_mem hlt)
          rcases HKK.out with ⟨hsk, -, -⟩ | ⟨hsk, -, x, hkx⟩ | ⟨hsk, hlk, -⟩
          · exfalso
            have := (HTK.out.1 (by rw [← HS.out]; exact hsk)).2
            rw [this] at hlt
            exact absurd hlt (Nat.not_lt_zero _)
          · have h5n : ¬ Kd.sort k = 5 := by omega
            have he5 : (Kd.sort k == 5) = false := by simpa using h5n
            have hk1 : (Kd.kids k).length = 1 := by rw [hkx]; rfl
            obtain ⟨b, off, rfl, hbB, hcl⟩ := hkc (by rw [hkx]; simp)
            obtain ⟨x0, x1, x2, q0, q1, q2, hxin⟩ := hcl 0 (by omega)
            rw [Nat.zero_mul, Nat.add_zero] at q0
            rw [Nat.zero_mul, Nat.add_zero] at q1 q2
            have hxe : (Kd.kids k)[0]'(by omega) = x := by simp [hkx]
            rw [hxe] at hxin
            have hbb := hB b hbB
            have r0 := (hbw.cell (p := ⟨b, off, none⟩) hbb).trans q0
            have r1 := (hbw.cell (p := ⟨b, off + 1, none⟩) hbb).trans q1
            have r2 := (hbw.cell (p := ⟨b, off + 2, none⟩) hbb).trans q2
            obtain ⟨u0, ua, ul, uc, va, vl, vc, rfl, rfl, rfl⟩ := hxin.shape
            have hal := (Below.refl wr.heap.size wr).alloc (Nat.le_refl _) (.cells #[.int .i64 u0, .slice ua ul uc, .slice va vl vc] 26)
            have hbw' : Below w.heap.size w ((wr.alloc (.cells #[.int .i64 u0, .slice ua ul uc, .slice va vl vc] 26)).drew) := (hbw.trans (hal.mono hbw.size)).drew
            have hgx := HGK.out x (by rw [hkx]; simp)
            have HC : Hid (Calls Tryz.prog 21 _ _ _) := hn S S' m x (Nd.kids t)[j] _ _ _ _ _ _ _ _ (d + 1) (d' + 1) ((wr.alloc (.cells #[.int .i64 u0, .slice ua ul uc, .slice va vl vc] 26)).drew)
              (hxin.keep (same_below hbw' hB) (fun _ h => h)) (hyin.keep (same_below hbw' hB') (fun _ h => h)) (fun b hb => by have := hB b hb; have := hbw.size; simp; omega) (fun b hb => by have := hB' b hb; have := hbw.size; simp; omega) hgx hgt
            have HBad : Hid (hasK n x m (Nd.kids t)[j] = false → hasK (n + 1) k (m + 1) t = false) := fun h => hasK_bad (fun h => absurd h h5n) (fun _ => by rw [hkx]; exact headAll_false j hlt h)
            have HNext : Hid (hasK n x m (Nd.kids t)[j] = true → ∀ x' r', Kd.kids k = x' :: r' → ((Nd.kids t).take (j + 1)).all (fun y => hasK n x' m y) = true) := by
              intro h x' r' he
              have e : x' = x := by rw [hkx] at he; exact ((List.cons.inj he).1).symm
              subst e
              exact all_take_kidK j hlt (H4.out h5n _ _ he) h
            have hk0 : (0 : Int) < ((Kd.kids k).length : Int) := by omega
            have H5n : Hid (¬ Kd.sort k = 5) := h5n
            have hbb' : b < wr.heap.size := by have := hbw.size; omega
            have hbb2' : b2 < wr.heap.size := by have := hbw.size; omega
            have hN0 : w.heap.size < wr.heap.size := by omega
            have hN1 : w.heap.size + 1 < wr.heap.size := by omega
            clear hkc hcl hlc hcl2 hxin hyin q0 q1 q2 g0 g1 g2 g3 g4 hkx hxe hk1 h5n hsk hgx hgt
            generalize hkj : (Nd.kids t)[j] = tj at *
            clear hkj
            go_wp2_with fail
            go_region_law (go_simp; go_at_call 21; refine HC.out.mono ?_; rintro e w3 ⟨rfl, hb3⟩)
            all_goals
              have hb4 : Below W0.heap.size W0 w3 := hbel2.trans (((hal.drew).trans (hb3.mono (by simp))).mono hzr)
              have hb5 := below_step hb0 (by omega) hb4
              clear hb3
              cases hres : hasK n x m tj with
              | false =>
                have HF : Hid (hasK (n + 1) k (m + 1) t = false) := HBad.out hres
                clear hres
                go_wp2_with fail
                go_ret
                exact ⟨ret_bool HF.out.symm, hb5⟩
              | true =>
                have HF : Hid _ := HNext.out hres
                clear hres
                go_wp2_with fail
                go_roundw
                case rel => exact ⟨j + 1, by omega, by go_num, hb4, fun h => absurd h H5n.out, fun _ => HF.out⟩
                case measure => simp [intOf]; omega
          · have he5 : (Kd.sort k == 5) = true := by simpa using hsk
            have hlkt : (Kd.kids k).length = (Nd.kids t).length := by
              have h1 := (HTK.out.2.2 (by rw [← HS.out]; exact hsk)).1
              have h2 := HLN.out
              omega
            have hltk : j < (Kd.kids k).length := by omega
            obtain ⟨b, off, rfl, hbB, hcl⟩ := hkc (by intro h; rw [h] at hltk; simp at hltk)
            obtain ⟨x0, x1, x2, q0, q1, q2, hxin0⟩ := hcl 0 (by omega)
            obtain ⟨z0, z1, z2, s0, s1, s2, hxin⟩ := hcl j hltk
            rw [Nat.zero_mul, Nat.add_zero] at q0
            rw [Nat.zero_mul, Nat.add_zero] at q1 q2
            have hbb := hB b hbB
            have r0 := (hbw.cell (p := ⟨b, off, none⟩) hbb).trans q0
            have r1 := (hbw.cell (p := ⟨b, off + 1, none⟩) hbb).trans q1
            have r2 := (hbw.cell (p := ⟨b, off + 2, none⟩) hbb).trans q2
            have p0 := (hbw.cell (p := ⟨b, off + j * 3, none⟩) hbb).trans s0
            have p1 := (hbw.cell (p := ⟨b, off + j * 3 + 1, none⟩) hbb).trans s1
            have p2 := (hbw.cell (p := ⟨b, off + j * 3 + 2, none⟩) hbb).trans s2
            obtain ⟨t0, ta, tl, tc, sa, sl, sc, rfl, rfl, rfl⟩ := hxin0.shape
            obtain ⟨u0, ua, ul, uc, va, vl, vc, rfl, rfl, rfl⟩ := hxin.shape
            have hal := (Below.refl wr.heap.size wr).alloc (Nat.le_refl _) (.cells #[.int .i64 u0, .slice ua ul uc, .slice va vl vc] 26)
            have hbw' : Below w.heap.size w ((wr.alloc (.cells #[.int .i64 u0, .slice ua ul uc, .slice va vl vc] 26)).drew) := (hbw.trans (hal.mono hbw.size)).drew
            have hgx := HGK.out _ (List.getElem_mem hltk)
            have HC : Hid (Calls Tryz.prog 21 _ _ _) := hn S S' m (Kd.kids k)[j] (Nd.kids t)[j] _ _ _ _ _ _ _ _ (d + 1) (d' + 1) ((wr.alloc (.cells #[.int .i64 u0, .slice ua ul uc, .slice va vl vc] 26)).drew)
              (hxin.keep (same_below hbw' hB) (fun _ h => h)) (hyin.keep (same_below hbw' hB') (fun _ h => h)) (fun b hb => by have := hB b hb; have := hbw.size; simp; omega) (fun b hb => by have := hB' b hb; have := hbw.size; simp; omega) hgx hgt
            have HBad : Hid (hasK n (Kd.kids k)[j] m (Nd.kids t)[j] = false → hasK (n + 1) k (m + 1) t = false) := fun h => hasK_bad (fun _ => zipAll_false j hltk hlt h) (fun h' => absurd hsk h')
            have HNext : Hid (hasK n (Kd.kids k)[j] m (Nd.kids t)[j] = true → Kd.sort k = 5 → ∀ q (h1 : q < (Kd.kids k).length) (h2 : q < (Nd.kids t).length), q < j + 1 → hasK n (Kd.kids k)[q] m (Nd.kids t)[q] = true) := by
              intro h _ q h1 h2 hq
              by_cases hqj : q < j
              · exact H5.out hsk q h1 h2 hqj
              · have : q = j := by omega
                subst this; exact h
            have H5y : Hid (Kd.sort k = 5) := hsk
            have hk0 : (0 : Int) < ((Kd.kids k).length : Int) := by omega
            have hkj : (j : Int) < ((Kd.kids k).length : Int) := by omega
            have hbb' : b < wr.heap.size := by have := hbw.size; omega
            have hbb2' : b2 < wr.heap.size := by have := hbw.size; omega
            have hN0 : w.heap.size < wr.heap.size := by omega
            have hN1 : w.heap.size + 1 < wr.heap.size := by omega
            clear hkc hcl hlc hcl2 hxin hxin0 hyin q0 q1 q2 s0 s1 s2 g0 g1 g2 g3 g4 hsk hgx hgt hlk hlkt
            generalize (Kd.kids k)[j] = kj at *
            generalize (Nd.kids t)[j] = tj at *
            clear hltk
            go_wp2_with fail
            go_region_law (go_simp; go_at_call 21; refine HC.out.mono ?_; rintro e w3 ⟨rfl, hb3⟩)
            all_goals
              have hb4 : Below W0.heap.size W0 w3 := hbel2.trans (((hal.drew).trans (hb3.mono (by simp))).mono hzr)
              have hb5 := below_step hb0 (by omega) hb4
              clear hb3
              cases hres : hasK n kj m tj with
              | false =>
                have HF : Hid (hasK (n + 1) k (m + 1) t = false) := HBad.out hres
                clear hres
                go_wp2_with fail
                go_ret
                exact ⟨ret_bool HF.out.symm, hb5⟩
              | true =>
                have HF : Hid _ := HNext.out hres
                clear hres
                go_wp2_with fail
                go_roundw
                case rel => exact ⟨j + 1, by omega, by go_num, hb4, HF.out, fun h => absurd H5y.out h⟩
                case measure => simp [intOf]; omega
        · have hjl : j = (Nd.kids t).length := by omega
          have HF : Hid (hasK (n + 1) k (m + 1) t = true) := by
            refine hasK_yes HS.out HNE.out (fun h5 => ?_) (fun h5 => ?_)
            · have hlkt : (Kd.kids k).length = (Nd.kids t).length := by
                rcases HKK.out with ⟨hsk, -, -⟩ | ⟨hsk, -, x, hkx⟩ | ⟨hsk, hlk, -⟩
                · omega
                · omega
                · have h1 := (HTK.out.2.2 (by rw [← HS.out]; exact hsk)).1
                  have h2 := HLN.out
                  omega
              exact zipAll_true hlkt (fun q h1 h2 => H5.out h5 q h1 h2 (by omega))
            · rcases HKK.out with ⟨hsk, -, hkx⟩ | ⟨hsk, -, x, hkx⟩ | ⟨hsk, -⟩
              · have := (HTK.out.1 (by rw [← HS.out]; exact hsk)).2
                rw [hkx, this]; rfl
              · have := H4.out h5 x [] hkx
                rw [hjl, List.take_length] at this
                rw [hkx]; exact headAll_true this
              · exact absurd hsk h5
          clear hkc hlc hjl
          go_wp2_with fail
          go_ret
          exact ⟨ret_bool HF.out.symm, hbw⟩

theorem l2Has_any : ∀ n, HasSSaid n := by
  intro n
  induction n with
  | zero => intro S S' m k t c0 c1 c2 e0 e1 e2 e3 e4 d d' w hk; exact hk.elim
  | succ n ih => exact l2Has_step n ih

end Go.Proofs.YtfbfchffnapnnaaGreatDoor

/-
  The specification's KindHas: what it answers.
-/
namespace Go.Proofs.YtfbfchffnapnnaaGreatDoor
open Go.RowKit

/-- What KindHas answers. -/
def hasF (n : Nat) (k : K n) (m : Nat) (t : T m) : Bool := okK n k && okT m t && hasK n k m t

set_option maxRecDepth 100000 in
set_option maxHeartbeats 1000000 in
theorem specKHas_any (n m : Nat) (S S' : Nat → Prop) (k : K n) (t : T m) (c0 c1 c2 e0 e1 e2 e3 e4 : Value) (w : World) (hk : KindIn S w n k c0 c1 c2) (ht : TreeIn S' w m t e0 e1 e2 e3 e4) (hB : ∀ b, S b → b < w.heap.size) (hB' : ∀ b, S' b → b < w.heap.size) :
    Calls Tryz.prog 5 #[.agg #[c0, c1, c2], .agg #[e0, e1, e2, e3, e4]] w fun e w' => e = .returned (.bool (hasF n k m t)) ∧ Below w.heap.size w w' := by
  obtain ⟨x0, xa, xl, xc, ya, yl, yc, rfl, rfl, rfl⟩ := hk.shape
  obtain ⟨z0, z1, z2, za, zl, zc, va, vl, vc, rfl, rfl, rfl, rfl, rfl⟩ := ht.shape
  have hb0 : Below w.heap.size w ((w.alloc (.cells #[.int .i64 x0, .slice xa xl xc, .slice ya yl yc] 26)).alloc (.cells #[.int .i64 z0, .int .i64 z1, .string z2, .slice za zl zc, .slice va vl vc] 29)) :=
    ((Below.refl _ _).alloc (Nat.le_refl _) _).alloc (by simp) _
  have hx3 : Box3 ((w.alloc (.cells #[.int .i64 x0, .slice xa xl xc, .slice ya yl yc] 26)).alloc (.cells #[.int .i64 z0, .int .i64 z1, .string z2, .slice za zl zc, .slice va vl vc] 29)) w.heap.size
      (.int .i64 x0) (.slice xa xl xc) (.slice ya yl yc) := (Box3.new w _ _ _ 26).keep ((Below.refl _ _).alloc (Nat.le_refl _) _)
  have hx5 := Box5.new (w.alloc (.cells #[.int .i64 x0, .slice xa xl xc, .slice ya yl yc] 26)) (.int .i64 z0) (.int .i64 z1) (.string z2) (.slice za zl zc) (.slice va vl vc) 29
  rw [show (w.alloc (.cells #[.int .i64 x0, .slice xa xl xc, .slice ya yl yc] 26)).heap.size = w.heap.size + 1 by simp] at hx5
  obtain ⟨hk0, hB0⟩ := hk.step hB hb0
  obtain ⟨ht0, hB0'⟩ := ht.step hB' hb0
  have HE : Hid (hasF n k m t = (okK n k && okT m t && hasK n k m t)) := rfl
  clear hk ht
  go_enter Tryz.func5, Tryz.ntmps5
  go_wp2_with fail
  refine (specKOk_any n S k _ _ _ _ hk0 hB0).mono ?_
  rintro e w1 ⟨rfl, hb1⟩
  have hbw1 := below_step hb0 (by simp; omega) hb1
  obtain ⟨hk1, hB1⟩ := hk0.step hB0 hb1
  obtain ⟨ht1, hB1'⟩ := ht0.step hB0' hb1
  have hx31 := hx3.keep hb1
  have hx51 := hx5.keep hb1
  obtain ⟨i0, i1, i2⟩ := id hx31
  obtain ⟨j0, j1, j2, j3, j4⟩ := id hx51
  clear hb0 hb1 hx3 hx5 hk0 ht0 hB0 hB0'
  cases hokk : okK n k with
  | false =>
    have HF : Hid (hasF n k m t = false) := by show _ = _; rw [HE.out, hokk]; rfl
    clear hokk
    go_wp2_with fail
    go_ret
    exact ⟨ret_bool HF.out.symm, hbw1⟩
  | true =>
    have HOK : Hid (okK n k = true) := hokk
    clear hokk
    go_wp2_with fail
    refine (specOk_any m S' t _ _ _ _ _ _ ht1 hB1').mono ?_
    rintro e w2 ⟨rfl, hb2⟩
    have hbw2 := below_step hbw1 hbw1.size hb2
    obtain ⟨hk2, hB2⟩ := hk1.step hB1 hb2
    obtain ⟨ht2, hB2'⟩ := ht1.step hB1' hb2
    clear i0 i1 i2 j0 j1 j2 j3 j4
    obtain ⟨i0, i1, i2⟩ := hx31.keep hb2
    obtain ⟨j0, j1, j2, j3, j4⟩ := hx51.keep hb2
    clear hb2 hx31 hx51 hk1 ht1 hB1 hB1'
    cases hokt : okT m t with
    | false =>
      have HF : Hid (hasF n k m t = false) := by show _ = _; rw [HE.out, HOK.out, hokt]; rfl
      clear hokt
      go_wp2_with fail
      go_ret
      exact ⟨ret_bool HF.out.symm, hbw2⟩
    | true =>
      have HF : Hid (hasF n k m t = hasK n k m t) := by show _ = _; rw [HE.out, HOK.out, hokt]; rfl
      have hg1 : goodK n k 1 = true := by have := HOK.out; simp only [okK, Bool.and_eq_true] at this; exact this.1
      have hg2 : goodT m t 1 = true := by simp only [okT, Bool.and_eq_true] at hokt; exact hokt.1
      have HC : Hid (Calls Tryz.prog 21 _ _ _) := l2Has_any n S S' m k t _ _ _ _ _ _ _ _ 1 1 w2 hk2 ht2 hB2 hB2' hg1 hg2
      clear hokt hk2 ht2 hg1 hg2
      go_wp2_with fail
      refine HC.out.mono ?_
      rintro e w3 ⟨rfl, hb3⟩
      have hbw3 := below_step hbw2 hbw2.size hb3
      clear hb3 HC
      go_wp2_with fail
      go_ret
      exact ⟨ret_bool HF.out.symm, hbw3⟩

end Go.Proofs.YtfbfchffnapnnaaGreatDoor

/-
  Plain mathematics: when a schema fits into another one.
-/
namespace Go.Proofs.YtfbfchffnapnnaaGreatDoor
open Go.RowKit

/-- The kid at a name. -/
def atName {α : Type} : List ByteArray → List α → ByteArray → Option α
  | s :: r, k :: ks, x => if s = x then some k else atName r ks x
  | _, _, _ => none

theorem atName_no {α : Type} : ∀ (l : List ByteArray) (ks : List α) (x : ByteArray), x ∉ l → atName l ks x = none := by
  intro l
  induction l with
  | nil => intro ks x _; cases ks <;> rfl
  | cons s r ih =>
    intro ks x h
    cases ks with
    | nil => rfl
    | cons k ks =>
      rw [atName, if_neg (fun e => h (by rw [e]; exact List.mem_cons_self ..))]
      exact ih ks x (fun hm => h (List.mem_cons_of_mem _ hm))

theorem atName_yes {α : Type} : ∀ (l : List ByteArray) (ks : List α) (i : Nat) (h1 : i < l.length) (h2 : i < ks.length), Asc l → atName l ks l[i] = some ks[i] := by
  intro l
  induction l with
  | nil => intro ks i h1; exact absurd h1 (Nat.not_lt_zero _)
  | cons s r ih =>
    intro ks i h1 h2 ha
    cases ks with
    | nil => exact absurd h2 (Nat.not_lt_zero _)
    | cons k ks =>
      have ha' := List.pairwise_cons.1 ha
      cases i with
      | zero => simp [atName]
      | succ i =>
        have hi : i < r.length := by simpa using h1
        simp only [List.getElem_cons_succ]
        rw [atName, if_neg (lt_ne (ha'.1 _ (List.getElem_mem hi)))]
        exact ih ks i hi (by simpa using h2) ha'.2

/-- A name is among others. -/
def memB (s : ByteArray) (l : List ByteArray) : Bool := l.any (fun x => decide (x = s))

theorem memB_yes {s : ByteArray} {l : List ByteArray} (h : s ∈ l) : memB s l = true := List.any_eq_true.2 ⟨s, h, by simp⟩
theorem memB_no {s : ByteArray} {l : List ByteArray} (h : s ∉ l) : memB s l = false := by
  unfold memB
  rw [List.any_eq_false]
  intro x hx
  simp only [decide_eq_true_eq]
  exact fun e => h (e ▸ hx)

/-- Each name with its kid. -/
def pairAll {α : Type} (f : ByteArray → α → Bool) : List ByteArray → List α → Bool
  | s :: r, k :: ks => f s k && pairAll f r ks
  | _, _ => true

theorem pairAll_false {α : Type} {f : ByteArray → α → Bool} : ∀ {l : List ByteArray} {ks : List α} (i : Nat) (h1 : i < l.length) (h2 : i < ks.length), f l[i] ks[i] = false → pairAll f l ks = false := by
  intro l
  induction l with
  | nil => intro ks i h1; exact absurd h1 (Nat.not_lt_zero _)
  | cons s r ih =>
    intro ks i h1 h2 hf
    cases ks with
    | nil => exact absurd h2 (Nat.not_lt_zero _)
    | cons k ks =>
      cases i with
      | zero => simp only [List.getElem_cons_zero] at hf; simp [pairAll, hf]
      | succ i =>
        simp only [List.getElem_cons_succ] at hf
        simp only [pairAll, ih i (by simpa using h1) (by simpa using h2) hf, Bool.and_false]

theorem pairAll_true {α : Type} {f : ByteArray → α → Bool} : ∀ {l : List ByteArray} {ks : List α}, (∀ i (h1 : i < l.length) (h2 : i < ks.length), f l[i] ks[i] = true) → pairAll f l ks = true := by
  intro l
  induction l with
  | nil => intro ks _; cases ks <;> rfl
  | cons s r ih =>
    intro ks hf
    cases ks with
    | nil => rfl
    | cons k ks =>
      have h0 := hf 0 (by simp) (by simp)
      simp only [List.getElem_cons_zero] at h0
      rw [pairAll, h0, ih (fun i h1 h2 => by have := hf (i + 1) (by simpa using h1) (by simpa using h2); simpa using this)]
      rfl

/-- The sort of a schema. -/
def srtK : (n : Nat) → K n → Int
  | 0, _ => 0
  | _ + 1, k => Kd.sort k

/-- The first of two lists held against each other. -/
def head2 {α β : Type} (f : α → β → Bool) : List α → List β → Bool
  | y :: _, x :: _ => f y x
  | _, _ => false

def head1 {α : Type} (f : α → Bool) : List α → Bool
  | y :: _ => f y
  | _ => false

/-- The second schema (from) fits into the first (to). -/
def fitsK : (m : Nat) → K m → (n : Nat) → K n → Bool
  | 0, _, _, _ => false
  | _ + 1, _, 0, _ => false
  | m + 1, b, n + 1, a =>
    if Kd.sort b = 6 then
      if Kd.sort a = 6 then head2 (fun y x => fitsK m y n x) (Kd.kids b) (Kd.kids a) else head1 (fun y => fitsK m y (n + 1) a) (Kd.kids b)
    else if Kd.sort a = Kd.sort b then
      if Kd.sort a = 4 then head2 (fun y x => fitsK m y n x) (Kd.kids b) (Kd.kids a)
      else (Kd.names a).all (fun s => memB s (Kd.names b)) && pairAll (fun s y => match atName (Kd.names a) (Kd.kids a) s with | some x => fitsK m y n x | none => srtK m y == 6) (Kd.names b) (Kd.kids b)
    else false

theorem fitsK_mm {m n : Nat} {b : K (m + 1)} {a : K (n + 1)} {y : K m} {x : K n} (hb : Kd.sort b = 6) (ha : Kd.sort a = 6) (ky : Kd.kids b = [y]) (kx : Kd.kids a = [x]) : fitsK (m + 1) b (n + 1) a = fitsK m y n x := by
  rw [fitsK, if_pos hb, if_pos ha, ky, kx, head2]

theorem fitsK_xm {m n : Nat} {b : K (m + 1)} {a : K (n + 1)} {y : K m} (hb : Kd.sort b = 6) (ha : Kd.sort a ≠ 6) (ky : Kd.kids b = [y]) : fitsK (m + 1) b (n + 1) a = fitsK m y (n + 1) a := by
  rw [fitsK, if_pos hb, if_neg ha, ky, head1]

theorem fitsK_ll {m n : Nat} {b : K (m + 1)} {a : K (n + 1)} {y : K m} {x : K n} (hb : Kd.sort b = 4) (ha : Kd.sort a = 4) (ky : Kd.kids b = [y]) (kx : Kd.kids a = [x]) : fitsK (m + 1) b (n + 1) a = fitsK m y n x := by
  rw [fitsK, if_neg (by omega), if_pos (by omega), if_pos ha, ky, kx, head2]

theorem fitsK_no {m n : Nat} {b : K (m + 1)} {a : K (n + 1)} (hb : Kd.sort b ≠ 6) (ha : Kd.sort a ≠ Kd.sort b) : fitsK (m + 1) b (n + 1) a = false := by
  rw [fitsK, if_neg hb, if_neg ha]

theorem fitsK_leaf {m n : Nat} {b : K (m + 1)} {a : K (n + 1)} (hs : Kd.sort b = 1 ∨ Kd.sort b = 2 ∨ Kd.sort b = 3) (ha : Kd.sort a = Kd.sort b) (na : Kd.names a = []) (nb : Kd.names b = []) : fitsK (m + 1) b (n + 1) a = true := by
  rw [fitsK, if_neg (by omega), if_pos ha, if_neg (by omega), na, nb]
  rfl

/-- What a name of the second form asks. -/
def fieldFits (n : Nat) (ns : List ByteArray) (ks : List (K n)) (m : Nat) (s : ByteArray) (y : K m) : Bool :=
  match atName ns ks s with | some x => fitsK m y n x | none => srtK m y == 6

theorem fitsK_form {m n : Nat} {b : K (m + 1)} {a : K (n + 1)} (hb : Kd.sort b = 5) (ha : Kd.sort a = 5) :
    fitsK (m + 1) b (n + 1) a = ((Kd.names a).all (fun s => memB s (Kd.names b)) && pairAll (fieldFits n (Kd.names a) (Kd.kids a) m) (Kd.names b) (Kd.kids b)) := by
  rw [fitsK, if_neg (by omega), if_pos (by omega), if_neg (by omega)]
  rfl

theorem fitsK_form_no {m n : Nat} {b : K (m + 1)} {a : K (n + 1)} (hb : Kd.sort b = 5) (ha : Kd.sort a = 5) (i : Nat) (hi : i < (Kd.names a).length) (h : (Kd.names a)[i] ∉ Kd.names b) : fitsK (m + 1) b (n + 1) a = false := by
  rw [fitsK_form hb ha]
  have : (Kd.names a).all (fun s => memB s (Kd.names b)) = false := by
    rw [List.all_eq_false]
    exact ⟨_, List.getElem_mem hi, by simp [memB_no h]⟩
  rw [this]; rfl

theorem fitsK_form_bad {m n : Nat} {b : K (m + 1)} {a : K (n + 1)} (hb : Kd.sort b = 5) (ha : Kd.sort a = 5) (j : Nat) (hj : j < (Kd.names b).length) (hk : j < (Kd.kids b).length) (h : fieldFits n (Kd.names a) (Kd.kids a) m (Kd.names b)[j] (Kd.kids b)[j] = false) :
    fitsK (m + 1) b (n + 1) a = false := by
  rw [fitsK_form hb ha, pairAll_false j hj hk h, Bool.and_false]

theorem fitsK_form_yes {m n : Nat} {b : K (m + 1)} {a : K (n + 1)} (hb : Kd.sort b = 5) (ha : Kd.sort a = 5) (h1 : ∀ i (h : i < (Kd.names a).length), (Kd.names a)[i] ∈ Kd.names b)
    (h2 : ∀ j (h : j < (Kd.names b).length) (h' : j < (Kd.kids b).length), fieldFits n (Kd.names a) (Kd.kids a) m (Kd.names b)[j] (Kd.kids b)[j] = true) : fitsK (m + 1) b (n + 1) a = true := by
  rw [fitsK_form hb ha, pairAll_true h2]
  have : (Kd.names a).all (fun s => memB s (Kd.names b)) = true := by
    rw [List.all_eq_true]
    intro s hs
    obtain ⟨i, hi, rfl⟩ := List.getElem_of_mem hs
    exact memB_yes (h1 i hi)
  rw [this]; rfl

/-- Each schema that is ok fits into itself. -/
theorem fitsK_self : ∀ (n : Nat) (k : K n) (d : Int), goodK n k d = true → fitsK n k n k = true := by
  intro n
  induction n with
  | zero => intro k d h; exact absurd h (by simp [goodK])
  | succ n ih =>
    intro k d h
    have hk : ∀ x, x ∈ Kd.kids k → goodK n x (d + 1) = true := by simp only [goodK, Bool.and_eq_true] at h; exact List.all_eq_true.1 h.2
    rcases goodK_kids h with ⟨hs, hn, -⟩ | ⟨hs, -, x, hx⟩ | ⟨hs, hl, hr⟩
    · exact fitsK_leaf hs rfl hn hn
    · have hg := ih x (d + 1) (hk x (by rw [hx]; exact List.mem_cons_self ..))
      rcases hs with hs | hs
      · rw [fitsK_ll hs hs hx hx]; exact hg
      · rw [fitsK_mm hs hs hx hx]; exact hg
    · refine fitsK_form_yes hs hs (fun i hi => List.getElem_mem hi) (fun j hj hj' => ?_)
      unfold fieldFits
      rw [atName_yes _ _ j hj hj' (asc_of _ hr)]
      exact ih _ (d + 1) (hk _ (List.getElem_mem hj'))

end Go.Proofs.YtfbfchffnapnnaaGreatDoor
