/-
  The text of a schema, by the specification: l2Text, KindWrite.
-/
import Derived.Test.YtlinplghgamgbaaGreatDoorB1
import Derived.Test.YtlinplghgamgbaaGreatDoorB3
import Derived.Deep.RegionLaw
namespace Go.Proofs.YtlinplghgamgbaaGreatDoor
open Go.RowKit

/-- l2Text at schemas of at most n levels. -/
def TextKSaid (n : Nat) : Prop := ∀ (S : Nat → Prop) (t : K n) (c0 c1 c2 : Value) (d : Int) (w : World), KindIn S w n t c0 c1 c2 → (∀ b, S b → b < w.heap.size) → goodK n t d = true → cntK n t ≤ 40 →
  Calls Tryz.prog 60 #[.agg #[c0, c1, c2]] w fun e w' => e = .returned (.string (bs (txtK n t))) ∧ Below w.heap.size w w'

set_option maxRecDepth 20000 in
set_option maxHeartbeats 1000000 in
theorem textK_leaf (s : Int) (x : List UInt8) (na ka : Option Addr) (nl nc kl kc : Nat) (w : World) (hs : (s = 1 ∧ x = [110, 117, 109]) ∨ (s = 2 ∧ x = [116, 101, 120, 116]) ∨ (s = 3 ∧ x = [102, 108, 97, 103])) :
    Calls Tryz.prog 60 #[.agg #[.int .i64 s, .slice na nl nc, .slice ka kl kc]] w fun e w' => e = .returned (.string (bs x)) ∧ Below w.heap.size w w' := by
  rcases hs with ⟨rfl, rfl⟩ | ⟨rfl, rfl⟩ | ⟨rfl, rfl⟩
  all_goals
    go_enter Tryz.func60, Tryz.ntmps60
    go_wp2_with fail
    go_ret
    exact ⟨rfl, (Below.refl _ _).alloc (Nat.le_refl _) _⟩

set_option maxRecDepth 20000 in
set_option maxHeartbeats 1000000 in
theorem textK_one (n : Nat) (hn : TextKSaid n) (S : Nat → Prop) (s : Int) (ks : List (K n)) (na : Option Addr) (nl nc : Nat) (kv : Value) (d : Int) (w : World) (hs : s = 4 ∨ s = 6) (hr : RowIn3 S w (KindIn S w n) ks kv) (hB : ∀ b, S b → b < w.heap.size)
    (hk1 : ks.length = 1) (hg : ks.all (fun x => goodK n x d) = true) (hc : 1 + sumL (fun x => cntK n x) ks ≤ 40) :
    Calls Tryz.prog 60 #[.agg #[.int .i64 s, .slice na nl nc, kv]] w fun e w' => e = .returned (.string (bs (if s = 4 then 91 :: headL (txtK n) ks ++ [93] else 63 :: headL (txtK n) ks))) ∧ Below w.heap.size w w' := by
  obtain ⟨ao, cap, rfl, hlen, hcell⟩ := hr
  match ks, hk1 with
  | [k], _ =>
    obtain ⟨b, off, rfl, hbB, hcl⟩ := hcell (by simp)
    obtain ⟨y0, y1, y2, e0, e1, e2, hin⟩ := hcl 0 (by simp)
    simp only [Nat.zero_mul, Nat.add_zero, List.getElem_cons_zero] at e0 e1 e2 hin
    have hb0 := (Below.refl w.heap.size w).alloc (Nat.le_refl _) (.cells #[.int .i64 s, .slice na nl nc, .slice (some ⟨b, off, none⟩) 1 cap] 70)
    have hbb := hB b hbB
    have f0 := (hb0.cell (p := ⟨b, off, none⟩) hbb).trans e0
    have f1 := (hb0.cell (p := ⟨b, off + 1, none⟩) hbb).trans e1
    have f2 := (hb0.cell (p := ⟨b, off + 2, none⟩) hbb).trans e2
    have hin' := hin.keep (same_below hb0 hB) (fun _ h => h)
    simp only [List.all_cons, Bool.and_eq_true] at hg
    simp only [sumL] at hc
    have hlen2 := txtK_len n k d hg.1
    have hl2 : (bs (txtK n k)).size ≤ 960 := by rw [bs_size]; omega
    have HQ : Hid (Calls Tryz.prog 60 #[.agg #[y0, y1, y2]] _ _) := hn S k y0 y1 y2 d _ hin' (fun b hb => by have := hB b hb; simp; omega) hg.1 (by omega)
    have HA : Hid (bs [91] ++ bs (txtK n k) ++ bs [93] = bs (91 :: headL (txtK n) [k] ++ [93])) := by show _ = _; rw [bs_append, bs_append]; rfl
    have HA6 : Hid (bs [63] ++ bs (txtK n k) = bs (63 :: headL (txtK n) [k])) := by show _ = _; rw [bs_append]; rfl
    have hs1 : (bs [91]).size = 1 := by rw [bs_size]; rfl
    have hsa : (bs [91] ++ bs (txtK n k)).size ≤ 961 := by rw [ByteArray.size_append]; omega
    clear hcell hcl e0 e1 e2 hin hin' hg hlen2 hn
    rw [List.length_singleton]
    rcases hs with rfl | rfl
    · rw [if_pos rfl]
      go_enter Tryz.func60, Tryz.ntmps60
      go_wp2_with fail
      refine HQ.out.mono ?_
      rintro e w1 ⟨rfl, hb1⟩
      have hb2 := below_step hb0 (by simp) hb1
      clear hb0 hb1 f0 f1 f2 HQ
      go_wp2_with fail
      go_ret
      exact ⟨str_retK HA.out, hb2⟩
    · rw [if_neg (by decide)]
      go_enter Tryz.func60, Tryz.ntmps60
      go_wp2_with fail
      refine HQ.out.mono ?_
      rintro e w1 ⟨rfl, hb1⟩
      have hb2 := below_step hb0 (by simp) hb1
      clear hb0 hb1 f0 f1 f2 HQ
      go_wp2_with fail
      go_ret
      exact ⟨str_retK HA6.out, hb2⟩

set_option maxRecDepth 20000 in
set_option maxHeartbeats 2000000 in
theorem textK_form (n : Nat) (hn : TextKSaid n) (S : Nat → Prop) (ks : List (K n)) (l : List ByteArray) (na : Option Addr) (nc : Nat) (kv : Value) (d : Int) (w : World) (hl : StrsIn S w l (.slice na l.length nc)) (hll : l.length = ks.length) (hl8 : ∀ s, s ∈ l → s.size ≤ 8) (hr : RowIn3 S w (KindIn S w n) ks kv) (hB : ∀ b, S b → b < w.heap.size)
    (hg : ks.all (fun x => goodK n x d) = true) (hc : 1 + sumL (fun x => cntK n x) ks ≤ 40) (hjl : (joinL (zipL l (ks.map (txtK n)))).length ≤ 960) :
    Calls Tryz.prog 60 #[.agg #[.int .i64 5, .slice na l.length nc, kv]] w fun e w' => e = .returned (.string (bs (123 :: joinL (zipL l (ks.map (txtK n))) ++ [125]))) ∧ Below w.heap.size w w' := by
  obtain ⟨ao, cap, rfl, hlen, hcell⟩ := hr
  obtain ⟨no, ncap, hnv, -, hns, hncell⟩ := hl
  cases hnv
  unfold maxLen at hlen
  have hb0 := (Below.refl w.heap.size w).alloc (Nat.le_refl _) (.cells #[.int .i64 5, .slice na l.length nc, .slice ao ks.length cap] 70)
  have hx0 := Box3.new w (.int .i64 5) (.slice na l.length nc) (.slice ao ks.length cap) 70
  have hz0 : (w.alloc (.cells #[.int .i64 5, .slice na l.length nc, .slice ao ks.length cap] 70)).heap.size = w.heap.size + 1 := by simp
  have HSz : Hid (∀ k, (soFarK (zipL l (ks.map (txtK n))) k).size ≤ 960) := fun k => by
    have := joinL_take_len (zipL l (ks.map (txtK n))) k
    unfold soFarK; rw [bs_size]; omega
  have HG : Hid (∀ k (h : k < ks.length), goodK n ks[k] d = true ∧ cntK n ks[k] ≤ 40) := fun k h => by
    refine ⟨List.all_eq_true.1 hg _ (List.getElem_mem h), ?_⟩
    have := sumL_mono (fun x => cntK n x) ks _ (List.getElem_mem h)
    omega
  have HLL : Hid (l.length = ks.length) := hll
  clear hg hll
  go_enter Tryz.func60, Tryz.ntmps60
  go_wp2_with fail
  generalize hW : w.alloc (.cells #[.int .i64 5, .slice na l.length nc, .slice ao ks.length cap] 70) = W at *
  clear hW
  go_loopw [3, 4] (fun a i wr => ∃ k : Nat, k ≤ ks.length ∧ i = .int .i64 k ∧ a = .string (soFarK (zipL l (ks.map (txtK n))) k) ∧ Below W.heap.size W wr) (fun _ i _ => ks.length - (intOf i).toNat)
  case atStart => exact ⟨0, Nat.zero_le _, rfl, rfl, Below.refl _ _⟩
  case round =>
    obtain ⟨k, hk, rfl, rfl, hbel⟩ := hrel
    have hsk := HSz.out k
    obtain ⟨i0, i1, i2⟩ := hx0.keep hbel
    have hzr := hbel.size
    by_cases hlt : k < ks.length
    · obtain ⟨b, off, rfl, hbB, hcl⟩ := hcell (by intro h; rw [h] at hlt; simp at hlt)
      obtain ⟨y0, y1, y2, e0, e1, e2, hin⟩ := hcl k hlt
      have hbb := hB b hbB
      have hbw : Below w.heap.size w wr := below_step hb0 (by omega) hbel
      have f0 := (hbw.cell (p := ⟨b, off + k * 3, none⟩) hbb).trans e0
      have f1 := (hbw.cell (p := ⟨b, off + k * 3 + 1, none⟩) hbb).trans e1
      have f2 := (hbw.cell (p := ⟨b, off + k * 3 + 2, none⟩) hbb).trans e2
      have hin' := hin.keep (w' := wr.drew) (same_below hbw.drew hB) (fun _ h => h)
      have hgk := HG.out k hlt
      have hlen2 := txtK_len n ks[k] d hgk.1
      have hl2 : (bs (txtK n ks[k])).size ≤ 960 := by rw [bs_size]; omega
      have hnk : k < l.length := by rw [HLL.out]; exact hlt
      obtain ⟨nb, noff, rfl, hnB, hnc⟩ := hncell (by intro h; rw [h] at hnk; simp at hnk)
      have q0 := (hbw.cell (p := ⟨nb, noff + k, none⟩) (hB nb hnB)).trans (hnc k hnk)
      have hnl8 := hl8 l[k] (List.getElem_mem hnk)
      have hnw := hB nb hnB
      have hml : k < (zipL l (ks.map (txtK n))).length := by rw [zipL_length _ _ (by simpa using HLL.out)]; simpa using hlt
      have hmg : bs (zipL l (ks.map (txtK n)))[k] = l[k] ++ bs [58] ++ bs (txtK n ks[k]) := by
        rw [zipL_get l (ks.map (txtK n)) k hnk (by simpa using hlt) hml, List.getElem_map, ← bs_of l[k], bs_append, bs_append, bs_toList]
        simp
      have HQ : Hid (Calls Tryz.prog 60 #[.agg #[y0, y1, y2]] wr.drew fun e w' => e = .returned (.string (bs (txtK n ks[k]))) ∧ Below wr.heap.size wr w' ∧ w'.cell? ⟨w.heap.size, 1, none⟩ = some (.slice (some ⟨nb, noff, none⟩) l.length nc) ∧ w'.cell? ⟨w.heap.size, 2, none⟩ = some (.slice (some ⟨b, off, none⟩) ks.length cap) ∧ w'.cell? ⟨nb, noff + k, none⟩ = some (.string l[k])) := by
        refine (hn S ks[k] y0 y1 y2 d wr.drew hin' (fun b hb => by have := hB b hb; simp; omega) hgk.1 hgk.2).mono ?_
        rintro e w' ⟨rfl, hb⟩
        have hb' : Below wr.heap.size wr w' := ((Below.refl _ _).drew).trans hb
        exact ⟨rfl, hb', (hb'.cell (p := ⟨w.heap.size, 1, none⟩) (by show w.heap.size < _; omega)).trans i1, (hb'.cell (p := ⟨w.heap.size, 2, none⟩) (by show w.heap.size < _; omega)).trans i2, (hb'.cell (p := ⟨nb, noff + k, none⟩) (by show nb < _; omega)).trans q0⟩
      clear hcell hcl e0 e1 e2 hin hin' hgk hlen2 hbw hncell hnc hns
      rcases Nat.eq_zero_or_pos k with rfl | hkp
      · have HS : Hid (soFarK (zipL l (ks.map (txtK n))) (0 + 1) = bs [] ++ (l[0] ++ bs [58] ++ bs (txtK n ks[0]))) := by show _ = _; rw [soFarK_first _ hml, hmg]
        have HE : Hid (soFarK (zipL l (ks.map (txtK n))) 0 = bs []) := rfl
        clear hml hmg
        rw [Nat.zero_mul, Nat.add_zero] at f0
        rw [Nat.zero_mul, Nat.add_zero] at f1 f2
        rw [HE.out]
        rw [HE.out] at hsk
        generalize hac : bs [] = acc at *
        generalize bs (txtK n ks[0]) = tk at *
        generalize l[0] = nm at *
        rw [Nat.add_zero] at q0
        rw [Nat.add_zero] at HQ
        have hsn : (acc ++ nm).size ≤ 968 := by rw [ByteArray.size_append]; omega
        have hsn2 : (acc ++ nm ++ bs [58]).size ≤ 969 := by rw [ByteArray.size_append, bs_size]; show _ + 1 ≤ 969; omega
        clear hac
        have hq1 : (9223372036854775807 < acc.size + nm.size) = False := eq_false (by omega)
        have hq2 : (9223372036854775807 < acc.size + nm.size + 1) = False := eq_false (by omega)
        have hq3 : (9223372036854775807 < acc.size + nm.size + 1 + tk.size) = False := eq_false (by omega)
        go_wp2_with fail
        go_region_law (go_simp; go_at_call 60; refine HQ.out.mono ?_; rintro e w1 ⟨rfl, hb1, j1, j2, p0⟩)
        all_goals
          have hbel1 := below_step hbel hzr hb1
          clear hb1 f0 f1 f2
          go_wp2_with fail
          go_roundw
          case rel => exact ⟨0 + 1, by omega, by go_num, by rw [HS.out]; exact congrArg Value.string (by rw [← ByteArray.append_assoc, ← ByteArray.append_assoc]; rfl), hbel1⟩
          case measure => simp [intOf]; omega
      · have HS : Hid (soFarK (zipL l (ks.map (txtK n))) (k + 1) = soFarK (zipL l (ks.map (txtK n))) k ++ bs [44] ++ (l[k] ++ bs [58] ++ bs (txtK n ks[k]))) := by show _ = _; rw [soFarK_step _ _ hml (by omega), hmg]
        have hk0 : decide ((0 : Int) < (k : Int)) = true := decide_eq_true (by omega)
        clear hml hmg
        generalize soFarK (zipL l (ks.map (txtK n))) k = acc at *
        generalize bs (txtK n ks[k]) = tk at *
        generalize l[k] = nm at *
        have hsa : (acc ++ bs [44]).size ≤ 961 := by rw [ByteArray.size_append, bs_size]; simp; omega
        have hsn : (acc ++ bs [44] ++ nm).size ≤ 969 := by rw [ByteArray.size_append]; omega
        have hsn2 : (acc ++ bs [44] ++ nm ++ bs [58]).size ≤ 970 := by rw [ByteArray.size_append, bs_size]; show _ + 1 ≤ 970; omega
        have hq1 : (9223372036854775807 < acc.size + 1 + nm.size) = False := eq_false (by omega)
        have hq2 : (9223372036854775807 < acc.size + 1 + nm.size + 1) = False := eq_false (by omega)
        have hq3 : (9223372036854775807 < acc.size + 1 + nm.size + 1 + tk.size) = False := eq_false (by omega)
        go_wp2_with fail
        go_region_law (go_simp; go_at_call 60; refine HQ.out.mono ?_; rintro e w1 ⟨rfl, hb1, j1, j2, p0⟩)
        all_goals
          have hbel1 := below_step hbel hzr hb1
          clear hb1 f0 f1 f2
          go_wp2_with fail
          go_roundw
          case rel => exact ⟨k + 1, by omega, by go_num, by rw [HS.out]; exact congrArg Value.string (by rw [← ByteArray.append_assoc, ← ByteArray.append_assoc]; rfl), hbel1⟩
          case measure => simp [intOf]; omega
    · have hkl : k = ks.length := by omega
      have HE : Hid (bs [123] ++ soFarK (zipL l (ks.map (txtK n))) k ++ bs [125] = bs (123 :: joinL (zipL l (ks.map (txtK n))) ++ [125])) := by
        show _ = _
        unfold soFarK
        have e : ks.length = (zipL l (ks.map (txtK n))).length := by rw [zipL_length _ _ (by simpa using HLL.out)]; simp
        rw [hkl, e, List.take_length, bs_append, bs_append]; rfl
      have hbw : Below w.heap.size w wr := below_step hb0 (by omega) hbel
      clear hkl hcell hncell hns
      generalize soFarK (zipL l (ks.map (txtK n))) k = acc at *
      go_wp2_with fail
      go_ret
      exact ⟨str_retK HE.out, hbw⟩

theorem textK_step (n : Nat) (hn : TextKSaid n) : TextKSaid (n + 1) := by
  intro S t c0 c1 c2 d w ht hB hg hc
  have hlen := txtK_len (n + 1) t d hg
  obtain ⟨rfl, -, h3, h4⟩ := ht
  obtain ⟨na, nc, rfl, -, -, -⟩ := id h3
  obtain ⟨ka, kc, hkv, -, -⟩ := id h4
  simp only [goodK, Bool.and_eq_true] at hg
  have ha : aloneKF (Kd.sort t) (Kd.names t) (Kd.kids t).length = true := hg.1.2
  have hc' : 1 + sumL (fun x => cntK n x) (Kd.kids t) ≤ 40 := by simpa only [cntK] using hc
  unfold aloneKF at ha
  simp only [txtK] at hlen ⊢
  by_cases h1 : Kd.sort t = 1
  · rw [if_pos h1, hkv]
    exact textK_leaf _ _ _ _ _ _ _ _ w (.inl ⟨h1, rfl⟩)
  rw [if_neg h1] at ha hlen ⊢
  by_cases h2 : Kd.sort t = 2
  · rw [if_pos h2, hkv]
    exact textK_leaf _ _ _ _ _ _ _ _ w (.inr (.inl ⟨h2, rfl⟩))
  rw [if_neg h2] at ha hlen ⊢
  by_cases h3' : Kd.sort t = 3
  · rw [if_pos h3', hkv]
    exact textK_leaf _ _ _ _ _ _ _ _ w (.inr (.inr ⟨h3', rfl⟩))
  rw [if_neg h3'] at ha hlen ⊢
  by_cases h4' : Kd.sort t = 4
  · rw [if_pos h4'] at ha ⊢
    simp only [Bool.and_eq_true, beq_iff_eq] at ha
    have := textK_one n hn S (Kd.sort t) (Kd.kids t) na (Kd.names t).length nc c2 (d + 1) w (.inl h4') h4 hB (by omega) hg.2 hc'
    rw [if_pos h4'] at this
    exact this
  rw [if_neg h4'] at ha hlen ⊢
  by_cases h6 : Kd.sort t = 6
  · rw [if_neg (by omega), if_pos h6] at ha
    rw [if_pos h6]
    simp only [Bool.and_eq_true, beq_iff_eq] at ha
    have := textK_one n hn S (Kd.sort t) (Kd.kids t) na (Kd.names t).length nc c2 (d + 1) w (.inr h6) h4 hB (by omega) hg.2 hc'
    rw [if_neg h4'] at this
    exact this
  rw [if_neg h6] at hlen ⊢
  by_cases h5 : Kd.sort t = 5
  · rw [if_pos h5] at ha
    rw [h5]
    simp only [Bool.and_eq_true, beq_iff_eq] at ha
    simp only [List.length_append, List.length_cons, List.length_nil] at hlen
    exact textK_form n hn S (Kd.kids t) (Kd.names t) _ _ _ (d + 1) w h3 (by omega) (riseB_names _ ha.2) h4 hB hg.2 hc' (by omega)
  · rw [if_neg h5, if_neg h6] at ha; cases ha

theorem l2Text_any : ∀ n, TextKSaid n := by
  intro n
  induction n with
  | zero => intro S t c0 c1 c2 d w ht; exact ht.elim
  | succ n ih => exact textK_step n ih

end Go.Proofs.YtlinplghgamgbaaGreatDoor
