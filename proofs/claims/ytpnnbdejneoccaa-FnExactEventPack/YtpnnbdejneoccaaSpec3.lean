/-
  The specification's own functions on trees, more: l1Parts, TreeOk, TreeParts.
-/
import Derived.Test.YtpnnbdejneoccaaSpec2
import Derived.Test.YtpnnbdejneoccaaSz
namespace Go.Proofs.Ytpnnbdejneoccaa
open Go.RowKit

/-- What l1Parts answers. -/
def partsF (n : Nat) (t : T n) (d : Int) : Int := if goodT n t d = true ∧ cntT n t ≤ 120 then (cntT n t : Int) else -1

theorem partsF_no (n : Nat) (t : T (n + 1)) (d : Int) (h : (decide (d ≤ 6) && aloneB (show Nd (T n) from t)) = false) : partsF (n + 1) t d = -1 := by
  unfold partsF; rw [if_neg]; rintro ⟨h1, -⟩; simp only [goodT, h, Bool.false_and] at h1; cases h1

theorem partsF_kid (n : Nat) (t : T (n + 1)) (d : Int) (k : Nat) (hk : k < (Nd.kids t).length) (h : partsF n (Nd.kids t)[k] (d + 1) < 0) : partsF (n + 1) t d = -1 := by
  unfold partsF; rw [if_neg]
  rintro ⟨h1, h2⟩
  simp only [goodT, Bool.and_eq_true, List.all_eq_true] at h1
  have hg := h1.2 _ (List.getElem_mem hk)
  have hc := sumL_mono (fun k => cntT n k) (Nd.kids t) _ (List.getElem_mem hk)
  simp only [cntT] at h2
  unfold partsF at h
  rw [if_pos ⟨hg, by omega⟩] at h
  omega

theorem partsF_many (n : Nat) (t : T (n + 1)) (d : Int) (k : Nat) (h : 120 < 1 + sumL (fun k => cntT n k) ((Nd.kids t).take k)) : partsF (n + 1) t d = -1 := by
  unfold partsF; rw [if_neg]
  rintro ⟨-, h2⟩
  have := sumL_append (fun k => cntT n k) ((Nd.kids t).take k) ((Nd.kids t).drop k)
  rw [List.take_append_drop] at this
  simp only [cntT] at h2
  omega

theorem partsF_yes (n : Nat) (t : T (n + 1)) (d : Int) (h : (decide (d ≤ 6) && aloneB (show Nd (T n) from t)) = true) (hall : (Nd.kids t).all (fun k => goodT n k (d + 1)) = true) (hs : 1 + sumL (fun k => cntT n k) (Nd.kids t) ≤ 120) :
    partsF (n + 1) t d = 1 + (sumL (fun k => cntT n k) (Nd.kids t) : Int) := by
  unfold partsF; rw [if_pos]
  · simp only [cntT]; omega
  · exact ⟨by simp only [goodT, h, hall, Bool.and_self], by simp only [cntT]; omega⟩

theorem partsF_get (n : Nat) (t : T n) (d : Int) (h : 0 ≤ partsF n t d) : partsF n t d = cntT n t ∧ goodT n t d = true ∧ cntT n t ≤ 120 := by
  unfold partsF at h ⊢
  by_cases hc : goodT n t d = true ∧ cntT n t ≤ 120
  · rw [if_pos hc]; exact ⟨rfl, hc⟩
  · rw [if_neg hc] at h; omega

theorem partsF_le (n : Nat) (t : T n) (d : Int) : -1 ≤ partsF n t d ∧ partsF n t d ≤ 120 := by
  unfold partsF; split <;> omega

theorem all_take_kid {α : Type} {p : α → Bool} {l : List α} (k : Nat) (h : k < l.length) (ht : (l.take k).all p = true) (hf : p l[k] = true) : (l.take (k + 1)).all p = true := by
  rw [List.take_succ_eq_append_getElem h, List.all_append, ht]; simpa using hf

/-- l1Parts at trees of at most n levels. -/
def PartsSaid (n : Nat) : Prop := ∀ (S : Nat → Prop) (t : T n) (c0 c1 c2 c3 c4 : Value) (d : Int) (w : World), TreeIn S w n t c0 c1 c2 c3 c4 → (∀ b, S b → b < w.heap.size) → 1 ≤ d → d ≤ 7 →
  Calls Try.prog 61 #[.agg #[c0, c1, c2, c3, c4], .int .i64 d] w fun e w' => e = .returned (.int .i64 (partsF n t d)) ∧ Below w.heap.size w w'

set_option maxHeartbeats 1000000 in
theorem l1Parts_step (n : Nat) (hn : PartsSaid n) : PartsSaid (n + 1) := by
  intro S t c0 c1 c2 c3 c4 d w ht hB hd1 hd7
  obtain ⟨rfl, rfl, rfl, hs, -, -, h3, h4⟩ := ht
  obtain ⟨na, nc, rfl, -, -, -⟩ := id h3
  obtain ⟨ka, kc, rfl, hlen, hkids⟩ := id h4
  unfold maxLen at hlen
  have hb0 := (Below.refl w.heap.size w).alloc (Nat.le_refl _) (.cells #[.int .i64 (Nd.sort t), .int .i64 (Nd.num t), .string (Nd.text t), .slice na (Nd.names t).length nc, .slice ka (Nd.kids t).length kc] 33)
  by_cases hd6 : d ≤ 6
  case neg =>
    have HF : Hid (partsF (n + 1) t d = -1) := partsF_no n t d (by simp [hd6])
    go_enter Try.func61, Try.ntmps61
    go_wp2_with fail
    go_ret
    exact ⟨ret_int HF.out.symm, hb0⟩
  have hl' := h3.keep (same_below hb0 hB) (fun _ h => h)
  have HC : Hid (Calls Try.prog 74 _ _ _) := l1Alone_any (Nd.sort t) (Nd.num t) (Nd.text t) (Nd.names t) ka (Nd.kids t).length kc _ na nc hs S hl' (fun b hb => by have := hB b hb; simp; omega)
  have hK := h4.keepT (same_below hb0 hB) (fun _ h => h)
  have HD : Hid (d ≤ 6) := hd6
  go_enter Try.func61, Try.ntmps61
  go_wp2_with fail
  refine HC.out.mono ?_
  rintro e w1 ⟨rfl, hb1⟩
  obtain ⟨hc, hf⟩ := bcell hb1
  have hz1 := hb1.size
  simp at hz1
  have hb2 := below_step hb0 (by simp) hb1
  have m4 : w1.cell? ⟨w.heap.size, 4, none⟩ = some (.slice ka (Nd.kids t).length kc) := by rw [hc _ _ (by simp)]; simp [go_sem]
  have hK1 := hK.keepT (same_below hb1 (fun b hb => by have := hB b hb; simp; omega)) (fun _ h => h)
  clear hb0 hl' HC hK hb1 hc hf h3 h4 hkids
  cases hal : aloneF (Nd.sort t) (Nd.num t) (Nd.text t) (Nd.names t) (Nd.kids t).length with
  | false =>
    have HF : Hid (partsF (n + 1) t d = -1) := partsF_no n t d (by show (_ && aloneF _ _ _ _ _) = _; rw [hal]; simp)
    clear hal
    go_wp2_with fail
    go_ret
    exact ⟨ret_int HF.out.symm, hb2⟩
  | true =>
    have HAL : Hid ((decide (d ≤ 6) && aloneB (show Nd (T n) from t)) = true) := by show (_ && aloneF _ _ _ _ _) = _; rw [hal]; simp [hd6]
    clear hal
    obtain ⟨_, _, hkv, -, hkids⟩ := hK1
    cases hkv
    go_wp2_with fail
    go_loopw [5, 6] (fun a i wr => ∃ k : Nat, k ≤ (Nd.kids t).length ∧ i = .int .i64 k ∧ a = .int .i64 (1 + (sumL (fun k => cntT n k) ((Nd.kids t).take k) : Int)) ∧ 1 + sumL (fun k => cntT n k) ((Nd.kids t).take k) ≤ 120 ∧
        ((Nd.kids t).take k).all (fun k => goodT n k (d + 1)) = true ∧ Below w1.heap.size w1 wr) (fun _ i _ => (Nd.kids t).length - (intOf i).toNat)
    case atStart => exact ⟨0, Nat.zero_le _, rfl, by simp [sumL], by simp [sumL], by simp, Below.refl _ _⟩
    case round =>
      obtain ⟨k, hk, rfl, rfl, hsum, hall, hbel⟩ := hrel
      have HALL := hidF hall
      clear hall
      have hsz := hbel.size
      have q4 : wr.cell? ⟨w.heap.size, 4, none⟩ = some (.slice ka (Nd.kids t).length kc) := (hbel.cell (p := ⟨w.heap.size, 4, none⟩) (by show w.heap.size < _; omega)).trans m4
      have HSum := hidF hsum
      generalize hgs : sumL (fun k => cntT n k) ((Nd.kids t).take k) = sm at *
      have HGS := hidF hgs
      clear hgs HSum
      by_cases hlt : k < (Nd.kids t).length
      · obtain ⟨b, off, rfl, hbB, hcell⟩ := hkids (by intro h; rw [h] at hlt; simp at hlt)
        obtain ⟨x0, x1, x2, x3, x4, e0, e1, e2, e3, e4, hr⟩ := hcell k hlt
        have hbb := hB b hbB
        have f0 := (hbel.cell (p := ⟨b, off + k * 5, none⟩) (by show b < _; omega)).trans e0
        have f1 := (hbel.cell (p := ⟨b, off + k * 5 + 1, none⟩) (by show b < _; omega)).trans e1
        have f2 := (hbel.cell (p := ⟨b, off + k * 5 + 2, none⟩) (by show b < _; omega)).trans e2
        have f3 := (hbel.cell (p := ⟨b, off + k * 5 + 3, none⟩) (by show b < _; omega)).trans e3
        have f4 := (hbel.cell (p := ⟨b, off + k * 5 + 4, none⟩) (by show b < _; omega)).trans e4
        have q := hr.keep (same_below hbel (fun b hb => by have := hB b hb; omega)) (fun _ h => h)
        clear hkids hcell e0 e1 e2 e3 e4 hr
        go_wp2_with fail
        refine (hn S (Nd.kids t)[k] x0 x1 x2 x3 x4 (d + 1) wr q (fun b hb => by have := hB b hb; omega) (by omega) (by omega)).mono ?_
        rintro e w2 ⟨rfl, hb3⟩
        have hb4 := below_step hbel hsz hb3
        have hle := partsF_le n (Nd.kids t)[k] (d + 1)
        have HKid : Hid (partsF n (Nd.kids t)[k] (d + 1) < 0 → partsF (n + 1) t d = -1) := fun h => partsF_kid n t d k hlt h
        have HGet : Hid (0 ≤ partsF n (Nd.kids t)[k] (d + 1) → partsF n (Nd.kids t)[k] (d + 1) = cntT n (Nd.kids t)[k] ∧ goodT n (Nd.kids t)[k] (d + 1) = true) := fun h => ⟨(partsF_get n _ _ h).1, (partsF_get n _ _ h).2.1⟩
        have HNext : Hid (sumL (fun k => cntT n k) ((Nd.kids t).take (k + 1)) = sm + cntT n (Nd.kids t)[k]) := by show _ = _; rw [sumL_take_succ _ _ _ hlt, HGS.out]
        have hb5 := below_step hb2 (by omega) hb4
        clear hb3 q f0 f1 f2 f3 f4 hbel q4
        generalize partsF n (Nd.kids t)[k] (d + 1) = r at *
        by_cases hr0 : r < 0
        · go_wp2_with fail
          go_ret
          exact ⟨ret_int (HKid.out hr0).symm, hb5⟩
        · by_cases hmany : 120 < 1 + (sm : Int) + r
          · go_wp2_with fail
            go_ret
            refine ⟨ret_int (partsF_many n t d (k + 1) ?_).symm, hb5⟩
            have := HGet.out (by omega)
            rw [HNext.out]; omega
          · go_wp2_with fail
            go_roundw
            case rel =>
              have hg := HGet.out (by omega)
              refine ⟨k + 1, by omega, by go_num, ?_, ?_, all_take_kid k hlt HALL.out hg.2, hb4⟩
              · rw [HNext.out, hg.1]; go_num
              · rw [HNext.out]; omega
            case measure => simp [intOf]; omega
      · have hkl : k = (Nd.kids t).length := by omega
        have HF : Hid (partsF (n + 1) t d = 1 + (sm : Int)) := by
          show _ = _
          have h1 := HALL.out
          have h2 := HGS.out
          rw [hkl, List.take_length] at h1 h2
          rw [partsF_yes n t d HAL.out h1 (by rw [h2]; omega), h2]
        have hb5 := below_step hb2 (by omega) hbel
        clear hkl hkids
        go_wp2_with fail
        go_ret
        exact ⟨ret_int HF.out.symm, hb5⟩

theorem l1Parts_any : ∀ n, PartsSaid n := by
  intro n
  induction n with
  | zero => intro S t c0 c1 c2 c3 c4 d w ht; exact ht.elim
  | succ n ih => exact l1Parts_step n ih

theorem okT_eq (n : Nat) (t : T n) : decide (0 < partsF n t 1) = okT n t := by
  unfold partsF okT
  by_cases hc : goodT n t 1 = true ∧ cntT n t ≤ 120
  · rw [if_pos hc, hc.1]
    have := cntT_pos n t 1 hc.1
    simp [hc.2]; omega
  · rw [if_neg hc]
    cases hg : goodT n t 1 with
    | false => simp
    | true => simp [hg] at hc; simp; omega

set_option maxHeartbeats 400000 in
theorem specOk_any (n : Nat) (S : Nat → Prop) (t : T n) (c0 c1 c2 c3 c4 : Value) (w : World) (ht : TreeIn S w n t c0 c1 c2 c3 c4) (hB : ∀ b, S b → b < w.heap.size) :
    Calls Try.prog 39 #[.agg #[c0, c1, c2, c3, c4]] w fun e w' => e = .returned (.bool (okT n t)) ∧ Below w.heap.size w w' := by
  obtain ⟨x0, x1, x2, xa, xl, xc, ya, yl, yc, rfl, rfl, rfl, rfl, rfl⟩ := ht.shape
  have hb0 := (Below.refl w.heap.size w).alloc (Nat.le_refl _) (.cells #[.int .i64 x0, .int .i64 x1, .string x2, .slice xa xl xc, .slice ya yl yc] 33)
  have ht' := ht.keep (same_below hb0 hB) (fun _ h => h)
  have HE := okT_eq n t
  have HE' : Hid (decide (0 < partsF n t 1) = okT n t) := HE
  clear HE ht
  go_enter Try.func39, Try.ntmps39
  go_wp2_with fail
  refine (l1Parts_any n S t _ _ _ _ _ 1 _ ht' (fun b hb => by have := hB b hb; simp; omega) (by omega) (by omega)).mono ?_
  rintro e w1 ⟨rfl, hb1⟩
  have hb2 := below_step hb0 (by simp) hb1
  clear hb0 hb1 ht'
  go_wp2_with fail
  go_ret
  exact ⟨ret_bool HE'.out, hb2⟩

end Go.Proofs.Ytpnnbdejneoccaa
