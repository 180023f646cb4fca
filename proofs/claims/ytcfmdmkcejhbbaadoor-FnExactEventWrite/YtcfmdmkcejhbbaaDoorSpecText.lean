/-
  The text of a tree, by the specification: l1Text, TreeWrite.
-/
import Derived.Test.YtcfmdmkcejhbbaaDoorDec
import Derived.Test.YtcfmdmkcejhbbaaDoorSpec3
import Derived.Test.YtcfmdmkcejhbbaaDoorBox
namespace Go.Proofs.YtcfmdmkcejhbbaaDoor
open Go.RowKit

/-- l1Text at trees of at most n levels. -/
def TextSaid (n : Nat) : Prop := ∀ (S : Nat → Prop) (t : T n) (c0 c1 c2 c3 c4 : Value) (d : Int) (w : World), TreeIn S w n t c0 c1 c2 c3 c4 → (∀ b, S b → b < w.heap.size) → goodT n t d = true → cntT n t ≤ 120 →
  Calls Tryd.prog 12 #[.agg #[c0, c1, c2, c3, c4]] w fun e w' => e = .returned (.string (bs (txtL n t))) ∧ Below w.heap.size w w'

set_option maxRecDepth 20000 in
set_option maxHeartbeats 1000000 in
theorem text_num (m : Int) (x : ByteArray) (na ka : Option Addr) (nl nc kl kc : Nat) (w : World) (h0 : -999999999 ≤ m) (h1 : m ≤ 999999999) :
    Calls Tryd.prog 12 #[.agg #[.int .i64 1, .int .i64 m, .string x, .slice na nl nc, .slice ka kl kc]] w fun e w' => e = .returned (.string (bs (Lib.itoa m))) ∧ Below w.heap.size w w' := by
  have hb0 := (Below.refl w.heap.size w).alloc (Nat.le_refl _) (.cells #[.int .i64 1, .int .i64 m, .string x, .slice na nl nc, .slice ka kl kc] 32)
  go_enter Tryd.func12, Tryd.ntmps12
  go_wp2_with fail
  refine (l6Dec_any m _ h0 h1).mono ?_
  rintro e w1 ⟨rfl, hb1⟩
  have hb2 := below_step hb0 (by simp) hb1
  clear hb0 hb1
  go_wp2_with fail
  go_ret
  exact ⟨rfl, hb2⟩

set_option maxRecDepth 20000 in
set_option maxHeartbeats 1000000 in
theorem text_text (m : Int) (x : ByteArray) (na ka : Option Addr) (nl nc kl kc : Nat) (w : World) (hx : x.size ≤ 60) :
    Calls Tryd.prog 12 #[.agg #[.int .i64 2, .int .i64 m, .string x, .slice na nl nc, .slice ka kl kc]] w fun e w' => e = .returned (.string (bs (34 :: x.data.toList ++ [34]))) ∧ Below w.heap.size w w' := by
  have HA : Hid (bs [34] ++ x ++ bs [34] = bs (34 :: x.data.toList ++ [34])) := by
    show _ = _
    rw [← bs_of x, bs_append, bs_append, bs_toList]; rfl
  have hs1 : (bs [34]).size = 1 := by rw [bs_size]; rfl
  go_enter Tryd.func12, Tryd.ntmps12
  go_wp2_with fail
  go_ret
  exact ⟨str_ret HA.out, (Below.refl _ _).alloc (Nat.le_refl _) _⟩

set_option maxRecDepth 20000 in
set_option maxHeartbeats 1000000 in
theorem text_flag (m : Int) (x : ByteArray) (na ka : Option Addr) (nl nc kl kc : Nat) (w : World) :
    Calls Tryd.prog 12 #[.agg #[.int .i64 3, .int .i64 m, .string x, .slice na nl nc, .slice ka kl kc]] w fun e w' => e = .returned (.string (bs (if m = 1 then [121, 101, 115] else [110, 111]))) ∧ Below w.heap.size w w' := by
  by_cases hm : m = 1
  · subst hm
    go_enter Tryd.func12, Tryd.ntmps12
    go_wp2_with fail
    go_ret
    exact ⟨rfl, (Below.refl _ _).alloc (Nat.le_refl _) _⟩
  · rw [if_neg hm]
    have hm' : (m == 1) = false := by simpa using hm
    clear hm
    go_enter Tryd.func12, Tryd.ntmps12
    go_wp2_with fail
    go_ret
    exact ⟨rfl, (Below.refl _ _).alloc (Nat.le_refl _) _⟩

set_option maxRecDepth 20000 in
set_option maxHeartbeats 1000000 in
theorem text_maybe (n : Nat) (hn : TextSaid n) (S : Nat → Prop) (ks : List (T n)) (m : Int) (x : ByteArray) (na : Option Addr) (nl nc : Nat) (kv : Value) (d : Int) (w : World) (hr : RowIn S w (TreeIn S w n) ks kv) (hB : ∀ b, S b → b < w.heap.size)
    (hg : ks.all (fun x => goodT n x d) = true) (hc : 1 + sumL (fun x => cntT n x) ks ≤ 120) :
    Calls Tryd.prog 12 #[.agg #[.int .i64 6, .int .i64 m, .string x, .slice na nl nc, kv]] w fun e w' => e = .returned (.string (bs (maybeL (txtL n) ks))) ∧ Below w.heap.size w w' := by
  have hr0 := hr
  obtain ⟨ao, cap, rfl, hlen, hcell⟩ := hr
  cases ks with
  | nil =>
    go_enter Tryd.func12, Tryd.ntmps12
    go_wp2_with fail
    go_ret
    exact ⟨rfl, (Below.refl _ _).alloc (Nat.le_refl _) _⟩
  | cons k r =>
    obtain ⟨b, off, rfl, hbB, hcl⟩ := hcell (by simp)
    obtain ⟨y0, y1, y2, y3, y4, e0, e1, e2, e3, e4, hin⟩ := hcl 0 (by simp)
    simp only [Nat.zero_mul, Nat.add_zero, List.getElem_cons_zero] at e0 e1 e2 e3 e4 hin
    unfold maxLen at hlen
    simp only [List.length_cons] at hlen
    have hb0 := (Below.refl w.heap.size w).alloc (Nat.le_refl _) (.cells #[.int .i64 6, .int .i64 m, .string x, .slice na nl nc, .slice (some ⟨b, off, none⟩) (r.length + 1) cap] 32)
    have hbb := hB b hbB
    have f0 := (hb0.cell (p := ⟨b, off, none⟩) hbb).trans e0
    have f1 := (hb0.cell (p := ⟨b, off + 1, none⟩) hbb).trans e1
    have f2 := (hb0.cell (p := ⟨b, off + 2, none⟩) hbb).trans e2
    have f3 := (hb0.cell (p := ⟨b, off + 3, none⟩) hbb).trans e3
    have f4 := (hb0.cell (p := ⟨b, off + 4, none⟩) hbb).trans e4
    have hin' := hin.keep (same_below hb0 hB) (fun _ h => h)
    simp only [List.all_cons, Bool.and_eq_true] at hg
    simp only [sumL] at hc
    have hlen2 := txtL_len n k d hg.1
    have hl2 : (bs (txtL n k)).size ≤ 9840 := by rw [bs_size]; omega
    have HA : Hid (bs [63] ++ bs (txtL n k) = bs (63 :: txtL n k)) := by show _ = _; rw [bs_append]; rfl
    have hne : (((r.length : Nat) : Int) + 1 == 0) = false := by simp; omega
    have HQ : Hid (Calls Tryd.prog 12 #[.agg #[y0, y1, y2, y3, y4]] _ _) := hn S k y0 y1 y2 y3 y4 d _ hin' (fun b hb => by have := hB b hb; simp; omega) hg.1 (by omega)
    clear hcell hcl e0 e1 e2 e3 e4 hin hin' hr0 hg hlen2 hn
    rw [List.length_cons]
    go_enter Tryd.func12, Tryd.ntmps12
    go_wp2_with fail
    refine HQ.out.mono ?_
    rintro e w1 ⟨rfl, hb1⟩
    have hb2 := below_step hb0 (by simp) hb1
    clear hb0 hb1 f0 f1 f2 f3 f4 HQ
    go_wp2_with fail
    go_ret
    exact ⟨str_ret HA.out, hb2⟩

/-- What is written so far. -/
def soFar (parts : List (List UInt8)) (k : Nat) : ByteArray := bs (joinL (parts.take k))

theorem soFar_step (parts : List (List UInt8)) (k : Nat) (h : k < parts.length) (hk : ¬ k = 0) : soFar parts (k + 1) = soFar parts k ++ bs [44] ++ bs parts[k] := by
  unfold soFar; rw [joinL_take_succ _ _ h, if_neg hk, bs_append, bs_append]
theorem soFar_first (parts : List (List UInt8)) (h : 0 < parts.length) : soFar parts (0 + 1) = bs [] ++ bs parts[0] := by
  unfold soFar; rw [joinL_take_succ _ _ h, if_pos rfl, bs_append]

set_option maxRecDepth 20000 in
set_option maxHeartbeats 2000000 in
theorem text_list (n : Nat) (hn : TextSaid n) (S : Nat → Prop) (ks : List (T n)) (m : Int) (x : ByteArray) (na : Option Addr) (nl nc : Nat) (kv : Value) (d : Int) (w : World) (hr : RowIn S w (TreeIn S w n) ks kv) (hB : ∀ b, S b → b < w.heap.size)
    (hg : ks.all (fun x => goodT n x d) = true) (hc : 1 + sumL (fun x => cntT n x) ks ≤ 120) (hjl : (joinL (ks.map (txtL n))).length ≤ 9840) :
    Calls Tryd.prog 12 #[.agg #[.int .i64 4, .int .i64 m, .string x, .slice na nl nc, kv]] w fun e w' => e = .returned (.string (bs (91 :: joinL (ks.map (txtL n)) ++ [93]))) ∧ Below w.heap.size w w' := by
  obtain ⟨ao, cap, rfl, hlen, hcell⟩ := hr
  unfold maxLen at hlen
  have hb0 := (Below.refl w.heap.size w).alloc (Nat.le_refl _) (.cells #[.int .i64 4, .int .i64 m, .string x, .slice na nl nc, .slice ao ks.length cap] 32)
  have hx0 := Box5.new w (.int .i64 4) (.int .i64 m) (.string x) (.slice na nl nc) (.slice ao ks.length cap) 32
  have hz0 : (w.alloc (.cells #[.int .i64 4, .int .i64 m, .string x, .slice na nl nc, .slice ao ks.length cap] 32)).heap.size = w.heap.size + 1 := by simp
  have HSz : Hid (∀ k, (soFar (ks.map (txtL n)) k).size ≤ 9840) := fun k => by
    have := joinL_take_len (ks.map (txtL n)) k
    unfold soFar; rw [bs_size]; omega
  have HG : Hid (∀ k (h : k < ks.length), goodT n ks[k] d = true ∧ cntT n ks[k] ≤ 120) := fun k h => by
    refine ⟨List.all_eq_true.1 hg _ (List.getElem_mem h), ?_⟩
    have := sumL_mono (fun x => cntT n x) ks _ (List.getElem_mem h)
    omega
  clear hg
  go_enter Tryd.func12, Tryd.ntmps12
  go_wp2_with fail
  generalize hW : w.alloc (.cells #[.int .i64 4, .int .i64 m, .string x, .slice na nl nc, .slice ao ks.length cap] 32) = W at *
  clear hW
  go_loopw [3, 4] (fun a i wr => ∃ k : Nat, k ≤ ks.length ∧ i = .int .i64 k ∧ a = .string (soFar (ks.map (txtL n)) k) ∧ Below W.heap.size W wr) (fun _ i _ => ks.length - (intOf i).toNat)
  case atStart => exact ⟨0, Nat.zero_le _, rfl, rfl, Below.refl _ _⟩
  case round =>
    obtain ⟨k, hk, rfl, rfl, hbel⟩ := hrel
    have hsk := HSz.out k
    obtain ⟨i0, i1, i2, i3, i4⟩ := hx0.keep hbel
    have hzr := hbel.size
    by_cases hlt : k < ks.length
    · obtain ⟨b, off, rfl, hbB, hcl⟩ := hcell (by intro h; rw [h] at hlt; simp at hlt)
      obtain ⟨y0, y1, y2, y3, y4, e0, e1, e2, e3, e4, hin⟩ := hcl k hlt
      have hbb := hB b hbB
      have hbw : Below w.heap.size w wr := below_step hb0 (by omega) hbel
      have f0 := (hbw.cell (p := ⟨b, off + k * 5, none⟩) hbb).trans e0
      have f1 := (hbw.cell (p := ⟨b, off + k * 5 + 1, none⟩) hbb).trans e1
      have f2 := (hbw.cell (p := ⟨b, off + k * 5 + 2, none⟩) hbb).trans e2
      have f3 := (hbw.cell (p := ⟨b, off + k * 5 + 3, none⟩) hbb).trans e3
      have f4 := (hbw.cell (p := ⟨b, off + k * 5 + 4, none⟩) hbb).trans e4
      have hin' := hin.keep (same_below hbw hB) (fun _ h => h)
      have hgk := HG.out k hlt
      have hlen2 := txtL_len n ks[k] d hgk.1
      have hl2 : (bs (txtL n ks[k])).size ≤ 9840 := by rw [bs_size]; omega
      have HQ : Hid (Calls Tryd.prog 12 #[.agg #[y0, y1, y2, y3, y4]] wr _) := hn S ks[k] y0 y1 y2 y3 y4 d wr hin' (fun b hb => by have := hB b hb; omega) hgk.1 hgk.2
      have hs1 := HSz.out (k + 1)
      have hml : k < (ks.map (txtL n)).length := by simpa using hlt
      have hmg : (ks.map (txtL n))[k] = txtL n ks[k] := by simp
      clear hcell hcl e0 e1 e2 e3 e4 hin hin' hgk hlen2 hbw
      rcases Nat.eq_zero_or_pos k with rfl | hkp
      · have HS : Hid (soFar (ks.map (txtL n)) (0 + 1) = bs [] ++ bs (txtL n ks[0])) := by show _ = _; rw [soFar_first _ hml, hmg]
        have HE : Hid (soFar (ks.map (txtL n)) 0 = bs []) := rfl
        clear hs1 hml hmg
        rw [Nat.zero_mul, Nat.add_zero] at f0
        rw [Nat.zero_mul, Nat.add_zero] at f1 f2 f3 f4
        rw [HE.out]
        rw [HE.out] at hsk
        generalize hac : bs [] = acc at *
        generalize bs (txtL n ks[0]) = tk at *
        clear hac
        go_wp2_with fail
        refine HQ.out.mono ?_
        rintro e w1 ⟨rfl, hb1⟩
        have hbel1 := below_step hbel hzr hb1
        obtain ⟨j0, j1, j2, j3, j4⟩ := hx0.keep hbel1
        clear hb1 HQ f0 f1 f2 f3 f4 i0 i1 i2 i3 i4
        go_wp2_with fail
        go_roundw
        case rel => exact ⟨0 + 1, by omega, by go_num, by rw [HS.out], hbel1⟩
        case measure => simp [intOf]; omega
      · have HS : Hid (soFar (ks.map (txtL n)) (k + 1) = soFar (ks.map (txtL n)) k ++ bs [44] ++ bs (txtL n ks[k])) := by show _ = _; rw [soFar_step _ _ hml (by omega), hmg]
        have hk0 : decide ((0 : Int) < (k : Int)) = true := decide_eq_true (by omega)
        clear hs1 hml hmg
        generalize soFar (ks.map (txtL n)) k = acc at *
        generalize bs (txtL n ks[k]) = tk at *
        have hsa : (acc ++ bs [44]).size ≤ 9841 := by rw [ByteArray.size_append, bs_size]; simp; omega
        go_wp2_with fail
        refine HQ.out.mono ?_
        rintro e w1 ⟨rfl, hb1⟩
        have hbel1 := below_step hbel hzr hb1
        obtain ⟨j0, j1, j2, j3, j4⟩ := hx0.keep hbel1
        clear hb1 HQ f0 f1 f2 f3 f4 i0 i1 i2 i3 i4
        go_wp2_with fail
        go_roundw
        case rel => exact ⟨k + 1, by omega, by go_num, by rw [HS.out]; rfl, hbel1⟩
        case measure => simp [intOf]; omega
    · have hkl : k = ks.length := by omega
      have HE : Hid (bs [91] ++ soFar (ks.map (txtL n)) k ++ bs [93] = bs (91 :: joinL (ks.map (txtL n)) ++ [93])) := by
        show _ = _
        unfold soFar
        rw [hkl, ← List.length_map (f := txtL n), List.take_length, bs_append, bs_append]; rfl
      have hbw : Below w.heap.size w wr := below_step hb0 (by omega) hbel
      clear hkl hcell
      generalize soFar (ks.map (txtL n)) k = acc at *
      go_wp2_with fail
      go_ret
      exact ⟨str_ret HE.out, hbw⟩

end Go.Proofs.YtcfmdmkcejhbbaaDoor
