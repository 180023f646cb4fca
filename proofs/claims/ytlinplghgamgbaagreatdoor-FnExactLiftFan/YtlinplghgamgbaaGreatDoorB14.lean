/-
  Several texts in one, in their order.
-/
import Derived.Test.YtlinplghgamgbaaGreatDoorDec
import Derived.Test.YtlinplghgamgbaaGreatDoorB3
import Derived.Test.YtlinplghgamgbaaGreatDoorB1

/-
  The text of a tree, by the specification: l1Text, TreeWrite.
-/
namespace Go.Proofs.YtlinplghgamgbaaGreatDoor
open Go.RowKit

/-- l1Text at trees of at most n levels. -/
def TextSaid (n : Nat) : Prop := ∀ (S : Nat → Prop) (t : T n) (c0 c1 c2 c3 c4 : Value) (d : Int) (w : World), TreeIn S w n t c0 c1 c2 c3 c4 → (∀ b, S b → b < w.heap.size) → goodT n t d = true → cntT n t ≤ 120 →
  Calls Tryz.prog 36 #[.agg #[c0, c1, c2, c3, c4]] w fun e w' => e = .returned (.string (bs (txtL n t))) ∧ Below w.heap.size w w'

set_option maxRecDepth 20000 in
set_option maxHeartbeats 1000000 in
theorem text_num (m : Int) (x : ByteArray) (na ka : Option Addr) (nl nc kl kc : Nat) (w : World) (h0 : -999999999 ≤ m) (h1 : m ≤ 999999999) :
    Calls Tryz.prog 36 #[.agg #[.int .i64 1, .int .i64 m, .string x, .slice na nl nc, .slice ka kl kc]] w fun e w' => e = .returned (.string (bs (Lib.itoa m))) ∧ Below w.heap.size w w' := by
  have hb0 := (Below.refl w.heap.size w).alloc (Nat.le_refl _) (.cells #[.int .i64 1, .int .i64 m, .string x, .slice na nl nc, .slice ka kl kc] 52)
  go_enter Tryz.func36, Tryz.ntmps36
  go_wp2_with fail
  refine (l6Dec_any m _ h0 h1).mono ?_
  rintro e w1 ⟨rfl, hb1⟩
  have hb2 := below_step hb0 (by simp) hb1
  clear hb0 hb1
  go_wp2_with fail
  go_ret
  exact ⟨rfl, hb2⟩

set_option maxRecDepth 20000 in
set_option maxHeartbeats 1000000 in
theorem text_text (m : Int) (x : ByteArray) (na ka : Option Addr) (nl nc kl kc : Nat) (w : World) (hx : x.size ≤ 60) :
    Calls Tryz.prog 36 #[.agg #[.int .i64 2, .int .i64 m, .string x, .slice na nl nc, .slice ka kl kc]] w fun e w' => e = .returned (.string (bs (34 :: x.data.toList ++ [34]))) ∧ Below w.heap.size w w' := by
  have HA : Hid (bs [34] ++ x ++ bs [34] = bs (34 :: x.data.toList ++ [34])) := by
    show _ = _
    rw [← bs_of x, bs_append, bs_append, bs_toList]; rfl
  have hs1 : (bs [34]).size = 1 := by rw [bs_size]; rfl
  go_enter Tryz.func36, Tryz.ntmps36
  go_wp2_with fail
  go_ret
  exact ⟨str_ret HA.out, (Below.refl _ _).alloc (Nat.le_refl _) _⟩

set_option maxRecDepth 20000 in
set_option maxHeartbeats 1000000 in
theorem text_flag (m : Int) (x : ByteArray) (na ka : Option Addr) (nl nc kl kc : Nat) (w : World) :
    Calls Tryz.prog 36 #[.agg #[.int .i64 3, .int .i64 m, .string x, .slice na nl nc, .slice ka kl kc]] w fun e w' => e = .returned (.string (bs (if m = 1 then [121, 101, 115] else [110, 111]))) ∧ Below w.heap.size w w' := by
  by_cases hm : m = 1
  · subst hm
    go_enter Tryz.func36, Tryz.ntmps36
    go_wp2_with fail
    go_ret
    exact ⟨rfl, (Below.refl _ _).alloc (Nat.le_refl _) _⟩
  · rw [if_neg hm]
    have hm' : (m == 1) = false := by simpa using hm
    clear hm
    go_enter Tryz.func36, Tryz.ntmps36
    go_wp2_with fail
    go_ret
    exact ⟨rfl, (Below.refl _ _).alloc (Nat.le_refl _) _⟩

set_option maxRecDepth 20000 in
set_option maxHeartbeats 1000000 in
theorem text_maybe (n : Nat) (hn : TextSaid n) (S : Nat → Prop) (ks : List (T n)) (m : Int) (x : ByteArray) (na : Option Addr) (nl nc : Nat) (kv : Value) (d : Int) (w : World) (hr : RowIn S w (TreeIn S w n) ks kv) (hB : ∀ b, S b → b < w.heap.size)
    (hg : ks.all (fun x => goodT n x d) = true) (hc : 1 + sumL (fun x => cntT n x) ks ≤ 120) :
    Calls Tryz.prog 36 #[.agg #[.int .i64 6, .int .i64 m, .string x, .slice na nl nc, kv]] w fun e w' => e = .returned (.string (bs (mayTxt (txtL n) ks))) ∧ Below w.heap.size w w' := by
  have hr0 := hr
  obtain ⟨ao, cap, rfl, hlen, hcell⟩ := hr
  cases ks with
  | nil =>
    go_enter Tryz.func36, Tryz.ntmps36
    go_wp2_with fail
    go_ret
    exact ⟨rfl, (Below.refl _ _).alloc (Nat.le_refl _) _⟩
  | cons k r =>
    obtain ⟨b, off, rfl, hbB, hcl⟩ := hcell (by simp)
    obtain ⟨y0, y1, y2, y3, y4, e0, e1, e2, e3, e4, hin⟩ := hcl 0 (by simp)
    simp only [Nat.zero_mul, Nat.add_zero, List.getElem_cons_zero] at e0 e1 e2 e3 e4 hin
    unfold maxLen at hlen
    simp only [List.length_cons] at hlen
    have hb0 := (Below.refl w.heap.size w).alloc (Nat.le_refl _) (.cells #[.int .i64 6, .int .i64 m, .string x, .slice na nl nc, .slice (some ⟨b, off, none⟩) (r.length + 1) cap] 52)
    have hbb := hB b hbB
    have f0 := (hb0.cell (p := ⟨b, off, none⟩) hbb).trans e0
    have f1 := (hb0.cell (p := ⟨b, off + 1, none⟩) hbb).trans e1
    have f2 := (hb0.cell (p := ⟨b, off + 2, none⟩) hbb).trans e2
    have f3 := (hb0.cell (p := ⟨b, off + 3, none⟩) hbb).trans e3
    have f4 := (hb0.cell (p := ⟨b, off + 4, none⟩) hbb).trans e4
    have hin' := hin.keep (same_below hb0 hB) (fun _ h => h)
    simp only [List.all_cons, Bool.and_eq_true] at hg
    simp only [sumL] at hc
    have hlen2 := txtL_len n k d hg.1
    have hl2 : (bs (txtL n k)).size ≤ 9840 := by rw [bs_size]; omega
    have HA : Hid (bs [63] ++ bs (txtL n k) = bs (63 :: txtL n k)) := by show _ = _; rw [bs_append]; rfl
    have hne : (((r.length : Nat) : Int) + 1 == 0) = false := by simp; omega
    have HQ : Hid (Calls Tryz.prog 36 #[.agg #[y0, y1, y2, y3, y4]] _ _) := hn S k y0 y1 y2 y3 y4 d _ hin' (fun b hb => by have := hB b hb; simp; omega) hg.1 (by omega)
    clear hcell hcl e0 e1 e2 e3 e4 hin hin' hr0 hg hlen2 hn
    rw [List.length_cons]
    go_enter Tryz.func36, Tryz.ntmps36
    go_wp2_with fail
    refine HQ.out.mono ?_
    rintro e w1 ⟨rfl, hb1⟩
    have hb2 := below_step hb0 (by simp) hb1
    clear hb0 hb1 f0 f1 f2 f3 f4 HQ
    go_wp2_with fail
    go_ret
    exact ⟨str_ret HA.out, hb2⟩

/-- What is written so far. -/
def soFar (parts : List (List UInt8)) (k : Nat) : ByteArray := bs (joinL (parts.take k))

theorem soFar_step (parts : List (List UInt8)) (k : Nat) (h : k < parts.length) (hk : ¬ k = 0) : soFar parts (k + 1) = soFar parts k ++ bs [44] ++ bs parts[k] := by
  unfold soFar; rw [joinL_take_succ _ _ h, if_neg hk, bs_append, bs_append]
theorem soFar_first (parts : List (List UInt8)) (h : 0 < parts.length) : soFar parts (0 + 1) = bs [] ++ bs parts[0] := by
  unfold soFar; rw [joinL_take_succ _ _ h, if_pos rfl, bs_append]

set_option maxRecDepth 20000 in
set_option maxHeartbeats 2000000 in
theorem text_list (n : Nat) (hn : TextSaid n) (S : Nat → Prop) (ks : List (T n)) (m : Int) (x : ByteArray) (na : Option Addr) (nl nc : Nat) (kv : Value) (d : Int) (w : World) (hr : RowIn S w (TreeIn S w n) ks kv) (hB : ∀ b, S b → b < w.heap.size)
    (hg : ks.all (fun x => goodT n x d) = true) (hc : 1 + sumL (fun x => cntT n x) ks ≤ 120) (hjl : (joinL (ks.map (txtL n))).length ≤ 9840) :
    Calls Tryz.prog 36 #[.agg #[.int .i64 4, .int .i64 m, .string x, .slice na nl nc, kv]] w fun e w' => e = .returned (.string (bs (91 :: joinL (ks.map (txtL n)) ++ [93]))) ∧ Below w.heap.size w w' := by
  obtain ⟨ao, cap, rfl, hlen, hcell⟩ := hr
  unfold maxLen at hlen
  have hb0 := (Below.refl w.heap.size w).alloc (Nat.le_refl _) (.cells #[.int .i64 4, .int .i64 m, .string x, .slice na nl nc, .slice ao ks.length cap] 52)
  have hx0 := Box5.new w (.int .i64 4) (.int .i64 m) (.string x) (.slice na nl nc) (.slice ao ks.length cap) 52
  have hz0 : (w.alloc (.cells #[.int .i64 4, .int .i64 m, .string x, .slice na nl nc, .slice ao ks.length cap] 52)).heap.size = w.heap.size + 1 := by simp
  have HSz : Hid (∀ k, (soFar (ks.map (txtL n)) k).size ≤ 9840) := fun k => by
    have := joinL_take_len (ks.map (txtL n)) k
    unfold soFar; rw [bs_size]; omega
  have HG : Hid (∀ k (h : k < ks.length), goodT n ks[k] d = true ∧ cntT n ks[k] ≤ 120) := fun k h => by
    refine ⟨List.all_eq_true.1 hg _ (List.getElem_mem h), ?_⟩
    have := sumL_mono (fun x => cntT n x) ks _ (List.getElem_mem h)
    omega
  clear hg
  go_enter Tryz.func36, Tryz.ntmps36
  go_wp2_with fail
  generalize hW : w.alloc (.cells #[.int .i64 4, .int .i64 m, .string x, .slice na nl nc, .slice ao ks.length cap] 52) = W at *
  clear hW
  go_loopw [3, 4] (fun a i wr => ∃ k : Nat, k ≤ ks.length ∧ i = .int .i64 k ∧ a = .string (soFar (ks.map (txtL n)) k) ∧ Below W.heap.size W wr) (fun _ i _ => ks.length - (intOf i).toNat)
  case atStart => exact ⟨0, Nat.zero_le _, rfl, rfl, Below.refl _ _⟩
  case round =>
    obtain ⟨k, hk, rfl, rfl, hbel⟩ := hrel
    have hsk := HSz.out k
    obtain ⟨i0, i1, i2, i3, i4⟩ := hx0.keep hbel
    have hzr := hbel.size
    by_cases hlt : k < ks.length
    · obtain ⟨b, off, rfl, hbB, hcl⟩ := hcell (by intro h; rw [h] at hlt; simp at hlt)
      obtain ⟨y0, y1, y2, y3, y4, e0, e1, e2, e3, e4, hin⟩ := hcl k hlt
      have hbb := hB b hbB
      have hbw : Below w.heap.size w wr := below_step hb0 (by omega) hbel
      have f0 := (hbw.cell (p := ⟨b, off + k * 5, none⟩) hbb).trans e0
      have f1 := (hbw.cell (p := ⟨b, off + k * 5 + 1, none⟩) hbb).trans e1
      have f2 := (hbw.cell (p := ⟨b, off + k * 5 + 2, none⟩) hbb).trans e2
      have f3 := (hbw.cell (p := ⟨b, off + k * 5 + 3, none⟩) hbb).trans e3
      have f4 := (hbw.cell (p := ⟨b, off + k * 5 + 4, none⟩) hbb).trans e4
      have hin' := hin.keep (same_below hbw hB) (fun _ h => h)
      have hgk := HG.out k hlt
      have hlen2 := txtL_len n ks[k] d hgk.1
      have hl2 : (bs (txtL n ks[k])).size ≤ 9840 := by rw [bs_size]; omega
      have HQ : Hid (Calls Tryz.prog 36 #[.agg #[y0, y1, y2, y3, y4]] wr _) := hn S ks[k] y0 y1 y2 y3 y4 d wr hin' (fun b hb => by have := hB b hb; omega) hgk.1 hgk.2
      have hs1 := HSz.out (k + 1)
      have hml : k < (ks.map (txtL n)).length := by simpa using hlt
      have hmg : (ks.map (txtL n))[k] = txtL n ks[k] := by simp
      clear hcell hcl e0 e1 e2 e3 e4 hin hin' hgk hlen2 hbw
      rcases Nat.eq_zero_or_pos k with rfl | hkp
      · have HS : Hid (soFar (ks.map (txtL n)) (0 + 1) = bs [] ++ bs (txtL n ks[0])) := by show _ = _; rw [soFar_first _ hml, hmg]
        have HE : Hid (soFar (ks.map (txtL n)) 0 = bs []) := rfl
        clear hs1 hml hmg
        rw [Nat.zero_mul, Nat.add_zero] at f0
        rw [Nat.zero_mul, Nat.add_zero] at f1 f2 f3 f4
        rw [HE.out]
        rw [HE.out] at hsk
        generalize hac : bs [] = acc at *
        generalize bs (txtL n ks[0]) = tk at *
        clear hac
        go_wp2_with fail
        refine HQ.out.mono ?_
        rintro e w1 ⟨rfl, hb1⟩
        have hbel1 := below_step hbel hzr hb1
        obtain ⟨j0, j1, j2, j3, j4⟩ := hx0.keep hbel1
        clear hb1 HQ f0 f1 f2 f3 f4 i0 i1 i2 i3 i4
        go_wp2_with fail
        go_roundw
        case rel => exact ⟨0 + 1, by omega, by go_num, by rw [HS.out], hbel1⟩
        case measure => simp [intOf]; omega
      · have HS : Hid (soFar (ks.map (txtL n)) (k + 1) = soFar (ks.map (txtL n)) k ++ bs [44] ++ bs (txtL n ks[k])) := by show _ = _; rw [soFar_step _ _ hml (by omega), hmg]
        have hk0 : decide ((0 : Int) < (k : Int)) = true := decide_eq_true (by omega)
        clear hs1 hml hmg
        generalize soFar (ks.map (txtL n)) k = acc at *
        generalize bs (txtL n ks[k]) = tk at *
        have hsa : (acc ++ bs [44]).size ≤ 9841 := by rw [ByteArray.size_append, bs_size]; simp; omega
        go_wp2_with fail
        refine HQ.out.mono ?_
        rintro e w1 ⟨rfl, hb1⟩
        have hbel1 := below_step hbel hzr hb1
        obtain ⟨j0, j1, j2, j3, j4⟩ := hx0.keep hbel1
        clear hb1 HQ f0 f1 f2 f3 f4 i0 i1 i2 i3 i4
        go_wp2_with fail
        go_roundw
        case rel => exact ⟨k + 1, by omega, by go_num, by rw [HS.out]; rfl, hbel1⟩
        case measure => simp [intOf]; omega
    · have hkl : k = ks.length := by omega
      have HE : Hid (bs [91] ++ soFar (ks.map (txtL n)) k ++ bs [93] = bs (91 :: joinL (ks.map (txtL n)) ++ [93])) := by
        show _ = _
        unfold soFar
        rw [hkl, ← List.length_map (f := txtL n), List.take_length, bs_append, bs_append]; rfl
      have hbw : Below w.heap.size w wr := below_step hb0 (by omega) hbel
      clear hkl hcell
      generalize soFar (ks.map (txtL n)) k = acc at *
      go_wp2_with fail
      go_ret
      exact ⟨str_ret HE.out, hbw⟩

end Go.Proofs.YtlinplghgamgbaaGreatDoor

/-
  The text of a form, by the specification; of any tree; TreeWrite of the specification.
-/
namespace Go.Proofs.YtlinplghgamgbaaGreatDoor
open Go.RowKit

set_option maxRecDepth 20000 in
set_option maxHeartbeats 2000000 in
theorem text_form (n : Nat) (hn : TextSaid n) (S : Nat → Prop) (ks : List (T n)) (l : List ByteArray) (m : Int) (x : ByteArray) (na : Option Addr) (nc : Nat) (kv : Value) (d : Int) (w : World) (hl : StrsIn S w l (.slice na l.length nc)) (hll : l.length = ks.length) (hl8 : ∀ s, s ∈ l → s.size ≤ 8) (hr : RowIn S w (TreeIn S w n) ks kv) (hB : ∀ b, S b → b < w.heap.size)
    (hg : ks.all (fun x => goodT n x d) = true) (hc : 1 + sumL (fun x => cntT n x) ks ≤ 120) (hjl : (joinL (zipL l (ks.map (txtL n)))).length ≤ 9840) :
    Calls Tryz.prog 36 #[.agg #[.int .i64 5, .int .i64 m, .string x, .slice na l.length nc, kv]] w fun e w' => e = .returned (.string (bs (123 :: joinL (zipL l (ks.map (txtL n))) ++ [125]))) ∧ Below w.heap.size w w' := by
  obtain ⟨ao, cap, rfl, hlen, hcell⟩ := hr
  obtain ⟨no, ncap, hnv, -, hns, hncell⟩ := hl
  cases hnv
  unfold maxLen at hlen
  have hb0 := (Below.refl w.heap.size w).alloc (Nat.le_refl _) (.cells #[.int .i64 5, .int .i64 m, .string x, .slice na l.length nc, .slice ao ks.length cap] 52)
  have hx0 := Box5.new w (.int .i64 5) (.int .i64 m) (.string x) (.slice na l.length nc) (.slice ao ks.length cap) 52
  have hz0 : (w.alloc (.cells #[.int .i64 5, .int .i64 m, .string x, .slice na l.length nc, .slice ao ks.length cap] 52)).heap.size = w.heap.size + 1 := by simp
  have HSz : Hid (∀ k, (soFar (zipL l (ks.map (txtL n))) k).size ≤ 9840) := fun k => by
    have := joinL_take_len (zipL l (ks.map (txtL n))) k
    unfold soFar; rw [bs_size]; omega
  have HG : Hid (∀ k (h : k < ks.length), goodT n ks[k] d = true ∧ cntT n ks[k] ≤ 120) := fun k h => by
    refine ⟨List.all_eq_true.1 hg _ (List.getElem_mem h), ?_⟩
    have := sumL_mono (fun x => cntT n x) ks _ (List.getElem_mem h)
    omega
  have HLL : Hid (l.length = ks.length) := hll
  clear hg hll
  go_enter Tryz.func36, Tryz.ntmps36
  go_wp2_with fail
  generalize hW : w.alloc (.cells #[.int .i64 5, .int .i64 m, .string x, .slice na l.length nc, .slice ao ks.length cap] 52) = W at *
  clear hW
  go_loopw [3, 4] (fun a i wr => ∃ k : Nat, k ≤ ks.length ∧ i = .int .i64 k ∧ a = .string (soFar (zipL l (ks.map (txtL n))) k) ∧ Below W.heap.size W wr) (fun _ i _ => ks.length - (intOf i).toNat)
  case atStart => exact ⟨0, Nat.zero_le _, rfl, rfl, Below.refl _ _⟩
  case round =>
    obtain ⟨k, hk, rfl, rfl, hbel⟩ := hrel
    have hsk := HSz.out k
    obtain ⟨i0, i1, i2, i3, i4⟩ := hx0.keep hbel
    have hzr := hbel.size
    by_cases hlt : k < ks.length
    · obtain ⟨b, off, rfl, hbB, hcl⟩ := hcell (by intro h; rw [h] at hlt; simp at hlt)
      obtain ⟨y0, y1, y2, y3, y4, e0, e1, e2, e3, e4, hin⟩ := hcl k hlt
      have hbb := hB b hbB
      have hbw : Below w.heap.size w wr := below_step hb0 (by omega) hbel
      have f0 := (hbw.cell (p := ⟨b, off + k * 5, none⟩) hbb).trans e0
      have f1 := (hbw.cell (p := ⟨b, off + k * 5 + 1, none⟩) hbb).trans e1
      have f2 := (hbw.cell (p := ⟨b, off + k * 5 + 2, none⟩) hbb).trans e2
      have f3 := (hbw.cell (p := ⟨b, off + k * 5 + 3, none⟩) hbb).trans e3
      have f4 := (hbw.cell (p := ⟨b, off + k * 5 + 4, none⟩) hbb).trans e4
      have hin' := hin.keep (same_below hbw hB) (fun _ h => h)
      have hgk := HG.out k hlt
      have hlen2 := txtL_len n ks[k] d hgk.1
      have hl2 : (bs (txtL n ks[k])).size ≤ 9840 := by rw [bs_size]; omega
      have HQ : Hid (Calls Tryz.prog 36 #[.agg #[y0, y1, y2, y3, y4]] wr _) := hn S ks[k] y0 y1 y2 y3 y4 d wr hin' (fun b hb => by have := hB b hb; omega) hgk.1 hgk.2
      have hs1 := HSz.out (k + 1)
      have hnk : k < l.length := by rw [HLL.out]; exact hlt
      obtain ⟨nb, noff, rfl, hnB, hnc⟩ := hncell (by intro h; rw [h] at hnk; simp at hnk)
      have q0 := (hbw.cell (p := ⟨nb, noff + k, none⟩) (hB nb hnB)).trans (hnc k hnk)
      have hnl8 := hl8 l[k] (List.getElem_mem hnk)
      have hml : k < (zipL l (ks.map (txtL n))).length := by rw [zipL_length _ _ (by simpa using HLL.out)]; simpa using hlt
      have hmg : bs (zipL l (ks.map (txtL n)))[k] = l[k] ++ bs [58] ++ bs (txtL n ks[k]) := by
        rw [zipL_get l (ks.map (txtL n)) k hnk (by simpa using hlt) hml, List.getElem_map, ← bs_of l[k], bs_append, bs_append, bs_toList]
        simp
      clear hcell hcl e0 e1 e2 e3 e4 hin hin' hgk hlen2 hbw hncell hnc hns
      rcases Nat.eq_zero_or_pos k with rfl | hkp
      · have HS : Hid (soFar (zipL l (ks.map (txtL n))) (0 + 1) = bs [] ++ (l[0] ++ bs [58] ++ bs (txtL n ks[0]))) := by show _ = _; rw [soFar_first _ hml, hmg]
        have HE : Hid (soFar (zipL l (ks.map (txtL n))) 0 = bs []) := rfl
        clear hs1 hml hmg
        rw [Nat.zero_mul, Nat.add_zero] at f0
        rw [Nat.zero_mul, Nat.add_zero] at f1 f2 f3 f4
        rw [HE.out]
        rw [HE.out] at hsk
        generalize hac : bs [] = acc at *
        generalize bs (txtL n ks[0]) = tk at *
        generalize l[0] = nm at *
        rw [Nat.add_zero] at q0
        have hsn : (acc ++ nm).size ≤ 9900 := by rw [ByteArray.size_append]; omega
        have hsn2 : (acc ++ nm ++ bs [58]).size ≤ 9901 := by rw [ByteArray.size_append, bs_size]; show _ + 1 ≤ 9901; omega
        clear hac
        go_wp2_with fail
        refine HQ.out.mono ?_
        rintro e w1 ⟨rfl, hb1⟩
        have hbel1 := below_step hbel hzr hb1
        obtain ⟨j0, j1, j2, j3, j4⟩ := hx0.keep hbel1
        clear hb1 HQ f0 f1 f2 f3 f4 i0 i1 i2 i3 i4
        go_wp2_with fail
        go_roundw
        case rel => exact ⟨0 + 1, by omega, by go_num, by rw [HS.out]; exact congrArg Value.string (by rw [← ByteArray.append_assoc, ← ByteArray.append_assoc]; rfl), hbel1⟩
        case measure => simp [intOf]; omega
      · have HS : Hid (soFar (zipL l (ks.map (txtL n))) (k + 1) = soFar (zipL l (ks.map (txtL n))) k ++ bs [44] ++ (l[k] ++ bs [58] ++ bs (txtL n ks[k]))) := by show _ = _; rw [soFar_step _ _ hml (by omega), hmg]
        have hk0 : decide ((0 : Int) < (k : Int)) = true := decide_eq_true (by omega)
        clear hs1 hml hmg
        generalize soFar (zipL l (ks.map (txtL n))) k = acc at *
        generalize bs (txtL n ks[k]) = tk at *
        generalize l[k] = nm at *
        have hsn : (acc ++ bs [44] ++ nm).size ≤ 9900 := by rw [ByteArray.size_append, ByteArray.size_append, bs_size]; show _ + 1 + _ ≤ 9900; omega
        have hsn2 : (acc ++ bs [44] ++ nm ++ bs [58]).size ≤ 9901 := by rw [ByteArray.size_append, bs_size]; show _ + 1 ≤ 9901; omega
        have hsa : (acc ++ bs [44]).size ≤ 9841 := by rw [ByteArray.size_append, bs_size]; simp; omega
        go_wp2_with fail
        refine HQ.out.mono ?_
        rintro e w1 ⟨rfl, hb1⟩
        have hbel1 := below_step hbel hzr hb1
        obtain ⟨j0, j1, j2, j3, j4⟩ := hx0.keep hbel1
        clear hb1 HQ f0 f1 f2 f3 f4 i0 i1 i2 i3 i4
        go_wp2_with fail
        go_roundw
        case rel => exact ⟨k + 1, by omega, by go_num, by rw [HS.out]; exact congrArg Value.string (by rw [← ByteArray.append_assoc, ← ByteArray.append_assoc]; rfl), hbel1⟩
        case measure => simp [intOf]; omega
    · have hkl : k = ks.length := by omega
      have HE : Hid (bs [123] ++ soFar (zipL l (ks.map (txtL n))) k ++ bs [125] = bs (123 :: joinL (zipL l (ks.map (txtL n))) ++ [125])) := by
        show _ = _
        unfold soFar
        have e : ks.length = (zipL l (ks.map (txtL n))).length := by rw [zipL_length _ _ (by simpa using HLL.out)]; simp
        rw [hkl, e, List.take_length, bs_append, bs_append]; rfl
      have hbw : Below w.heap.size w wr := below_step hb0 (by omega) hbel
      clear hkl hcell hncell hns
      generalize soFar (zipL l (ks.map (txtL n))) k = acc at *
      go_wp2_with fail
      go_ret
      exact ⟨str_ret HE.out, hbw⟩

theorem text_step (n : Nat) (hn : TextSaid n) : TextSaid (n + 1) := by
  intro S t c0 c1 c2 c3 c4 d w ht hB hg hc
  have hlen := txtL_len (n + 1) t d hg
  obtain ⟨rfl, rfl, rfl, hs, -, -, h3, h4⟩ := ht
  obtain ⟨na, nc, rfl, -, -, -⟩ := id h3
  obtain ⟨ka, kc, hkv, -, -⟩ := id h4
  simp only [goodT, Bool.and_eq_true] at hg
  have ha : aloneF (Nd.sort t) (Nd.num t) (Nd.text t) (Nd.names t) (Nd.kids t).length = true := hg.1.2
  have hc' : 1 + sumL (fun x => cntT n x) (Nd.kids t) ≤ 120 := by simpa only [cntT] using hc
  unfold aloneF at ha
  simp only [txtL] at hlen ⊢
  by_cases h1 : Nd.sort t = 1
  · rw [if_pos h1] at ha ⊢
    rw [h1, hkv]
    simp only [Bool.and_eq_true, decide_eq_true_eq] at ha
    exact text_num _ _ _ _ _ _ _ _ w ha.1.1.1.1 ha.1.1.1.2
  rw [if_neg h1] at ha hlen ⊢
  by_cases h2 : Nd.sort t = 2
  · rw [if_pos h2] at ha ⊢
    rw [h2, hkv]
    simp only [Bool.and_eq_true, textB, decide_eq_true_eq] at ha
    exact text_text _ _ _ _ _ _ _ _ w ha.1.1.2.1
  rw [if_neg h2] at ha hlen ⊢
  by_cases h3' : Nd.sort t = 3
  · rw [if_pos h3']
    rw [h3', hkv]
    exact text_flag _ _ _ _ _ _ _ _ w
  rw [if_neg h3'] at ha hlen ⊢
  by_cases h6 : Nd.sort t = 6
  · rw [if_pos h6]
    rw [h6]
    exact text_maybe n hn S (Nd.kids t) _ _ _ _ _ _ (d + 1) w h4 hB hg.2 hc'
  rw [if_neg h6] at hlen ⊢
  by_cases h5 : Nd.sort t = 5
  · have h4' : ¬ Nd.sort t = 4 := by omega
    rw [if_neg h4', if_pos h5] at ha
    rw [if_pos h5] at hlen ⊢
    rw [h5]
    simp only [Bool.and_eq_true, beq_iff_eq] at ha
    simp only [List.length_append, List.length_cons, List.length_nil] at hlen
    exact text_form n hn S (Nd.kids t) (Nd.names t) _ _ _ _ _ (d + 1) w h3 (by omega) (riseB_names _ ha.2) h4 hB hg.2 hc' (by omega)
  rw [if_neg h5] at hlen ⊢
  have h4' : Nd.sort t = 4 := by
    by_cases h4' : Nd.sort t = 4
    · exact h4'
    · rw [if_neg h4', if_neg h5, if_neg h6] at ha; cases ha
  rw [h4']
  simp only [List.length_append, List.length_cons, List.length_nil] at hlen
  exact text_list n hn S (Nd.kids t) _ _ _ _ _ _ (d + 1) w h4 hB hg.2 hc' (by omega)

theorem l1Text_any : ∀ n, TextSaid n := by
  intro n
  induction n with
  | zero => intro S t c0 c1 c2 c3 c4 d w ht; exact ht.elim
  | succ n ih => exact text_step n ih

/-- What TreeWrite answers. -/
def textF (n : Nat) (t : T n) : ByteArray := if okT n t = true then bs (txtL n t) else bs []

theorem okT_get {n : Nat} {t : T n} (h : okT n t = true) : goodT n t 1 = true ∧ cntT n t ≤ 120 := by
  simpa only [okT, Bool.and_eq_true, decide_eq_true_eq] using h

end Go.Proofs.YtlinplghgamgbaaGreatDoor
