/-
  Several texts in one, in their order.
-/
import Derived.Test.YtfbfchffnapnnaaGreatDoorB21
import Derived.Test.YtfbfchffnapnnaaGreatDoorB1
import Derived.Lib.AtoiAllCases
import Derived.Deep.RegionWith

/-
  The program's reader of a number's word.
-/
namespace Go.Proofs.YtfbfchffnapnnaaGreatDoor
open Go.RowKit

theorem parseUint10_dig : ∀ (D : List UInt8) (acc : Nat), (∀ c, c ∈ D → digC c = true) → (acc + 1) * 10 ^ D.length ≤ 1000000000000000000 → Lib.parseUint10 acc D = .ok (D.foldl (fun a c => a * 10 + (c.toNat - 48)) acc) := by
  intro D
  induction D with
  | nil => intro acc _ _; rfl
  | cons c r ih =>
    intro acc hd hl
    have hc := dig_bounds (hd c (List.mem_cons_self ..))
    rw [List.length_cons, Nat.pow_succ] at hl
    have hp : 1 ≤ 10 ^ r.length := by have := Nat.pow_le_pow_right (n := 10) (by decide) (Nat.zero_le r.length); simpa using this
    have h10 : (acc + 1) * 10 * 10 ^ r.length ≤ 1000000000000000000 := by rw [Nat.mul_assoc, Nat.mul_comm 10]; exact hl
    have hacc : (acc + 1) * 10 ≤ 1000000000000000000 := Nat.le_trans (Nat.le_mul_of_pos_right _ hp) h10
    simp only [Lib.parseUint10, List.foldl_cons]
    rw [if_pos ⟨hc.1, hc.2⟩, if_neg (by omega), if_neg (by omega)]
    refine ih _ (fun d hd' => hd d (List.mem_cons_of_mem _ hd')) (Nat.le_trans (Nat.mul_le_mul_right _ ?_) h10)
    omega

theorem parseMag_dig (u : Nat) (hu : u ≤ 999999999) : Lib.parseMag (Lib.decDigits u) = .ok u := by
  unfold Lib.parseMag
  rw [if_neg (decDigits_ne u), parseUint10_dig _ 0 (decDigits_dig u) ?_]
  · exact congrArg _ (decVal_digits u)
  · have hlen : (Lib.decDigits u).length ≤ 9 := by rw [Lib.decDigits_length]; exact nDigits_le 8 u (by omega)
    exact Nat.le_trans (Nat.mul_le_mul_left (0 + 1) (Nat.pow_le_pow_right (by decide) hlen)) (by decide)

theorem atoi_itoa (m : Int) (h : -999999999 ≤ m ∧ m ≤ 999999999) : Lib.atoiAll (Lib.itoa m) = .ok m := by
  by_cases h0 : m < 0
  · have hi : Lib.itoa m = 45 :: Lib.decDigits m.natAbs := by unfold Lib.itoa; rw [if_pos h0]
    rw [hi, Lib.atoiAll_minus, parseMag_dig _ (by omega)]
    simp only [Lib.signed]
    rw [if_neg (by omega)]
    congr 1; omega
  · have hi : Lib.itoa m = Lib.decDigits m.toNat := by unfold Lib.itoa; rw [if_neg h0]
    obtain ⟨c, r, e, hc⟩ := digits_head m.toNat
    have hb := dig_bounds hc
    rw [hi, e, Lib.atoiAll_plain c r (by omega) (by omega), ← e, parseMag_dig _ (by omega)]
    simp only [Lib.signless]
    rw [if_neg (by omega)]
    congr 1; omega

/-- What readNum makes. -/
def RNPost (x : ByteArray) (w : World) (e : Ending) (w' : World) : Prop :=
  Below w.heap.size w w' ∧ ((∃ v, numOf x.data.toList = some v ∧ e = .returned (.tuple #[.int .i64 v, .bool true])) ∨ (numOf x.data.toList = none ∧ e = .returned (.tuple #[.int .i64 0, .bool false])))

theorem numOf_no_atoi {l : List UInt8} (h : ∀ v, Lib.atoiAll l ≠ .ok v) : numOf l = none := by
  cases hn : numOf l with
  | none => rfl
  | some m =>
    obtain ⟨h1, h2⟩ := numOf_some hn
    refine absurd ?_ (h m)
    rw [← h2]; exact atoi_itoa m h1

theorem numOf_atoi {l : List UInt8} {v : Int} (h : Lib.atoiAll l = .ok v) (hn : ¬ ((-999999999 ≤ v ∧ v ≤ 999999999) ∧ Lib.itoa v = l)) : numOf l = none := by
  cases hm : numOf l with
  | none => rfl
  | some m =>
    obtain ⟨h1, h2⟩ := numOf_some hm
    rw [← h2, atoi_itoa m h1] at h
    cases h
    exact absurd ⟨h1, h2⟩ hn

set_option maxRecDepth 100000 in
set_option maxHeartbeats 1000000 in
theorem readNum_any (B : Nat) (x : ByteArray) (w : World) (hL : LaidU B w) (hB : B ≤ w.heap.size) (hx : x.size ≤ 10000) :
    Calls Tryz.prog 94 #[.string x] w (RNPost x w) := by
  cases ha : Lib.atoiAll x.data.toList with
  | «syntax» =>
    obtain ⟨tp, p, hv⟩ := hL.2.1
    have HC : Hid (Calls Tryz.prog 125 #[.string x] w _) := Tryz.strconv_Atoi_syntax_var x (by omega) ha tp p w (hv w (Below.refl _ _))
    have HN : Hid (numOf x.data.toList = none) := numOf_no_atoi (fun v e => by rw [ha] at e; cases e)
    clear hL ha hv
    go_enter Tryz.func94, Tryz.ntmps94
    go_wp2_with fail
    refine HC.out.mono ?_
    rintro e w1 ⟨N, rfl, -, -, hb⟩
    go_wp2_with fail
    go_ret2
    exact ⟨hb, .inr ⟨HN.out, rfl⟩⟩
  | range =>
    obtain ⟨tp, p, hv⟩ := hL.2.2
    have HC : Hid (Calls Tryz.prog 125 #[.string x] w _) := Tryz.strconv_Atoi_range_var x (by omega) ha tp p w (hv w (Below.refl _ _))
    have HN : Hid (numOf x.data.toList = none) := numOf_no_atoi (fun v e => by rw [ha] at e; cases e)
    clear hL ha hv
    go_enter Tryz.func94, Tryz.ntmps94
    go_wp2_with fail
    refine HC.out.mono ?_
    rintro e w1 ⟨N, rfl, -, -, hb⟩
    go_wp2_with fail
    go_ret2
    exact ⟨hb, .inr ⟨HN.out, rfl⟩⟩
  | ok v =>
    have hbd := Lib.atoiAll_bounds ha
    have HC : Hid (Calls Tryz.prog 125 #[.string x] w _) := Tryz.strconv_Atoi_ok x (by omega) v ha w
    have HA : Hid (Lib.atoiAll x.data.toList = .ok v) := ha
    have HT : Hid (∀ w1, Below w.heap.size w w1 → Lib.TabIs Tryz.prog w1 "internal/strconv.uint64pow10" .u64 Lib.pow10Tab) := fun w1 h1 => hL.1 w1 (h1.mono hB)
    clear hL ha
    by_cases hv : -999999999 ≤ v ∧ v ≤ 999999999
    case neg =>
      have HD : Hid (∀ W, Calls Tryz.prog 102 #[.int .i64 v] W fun e w' => e = .returned (.bool false) ∧ w' = W) := fun W => by
        have := isTreeNum_any v W
        rw [decide_eq_false hv] at this
        exact this
      have HN : Hid (numOf x.data.toList = none) := numOf_atoi HA.out (fun h => hv h.1)
      clear hv
      go_enter Tryz.func94, Tryz.ntmps94
      go_wp2_with fail
      refine HC.out.mono ?_
      rintro e w1 ⟨rfl, hor⟩
      have hb1 : Below w.heap.size w w1 := by
        rcases hor with rfl | ⟨t, rfl⟩
        · exact Below.refl _ _
        · exact Lib.bytesWorld_below _ _ _
      clear hor HC
      go_wp2_with (go_at_call 102; refine (HD.out _).mono ?_; rintro e w' ⟨rfl, rfl⟩)
      go_ret2
      exact ⟨hb1, .inr ⟨HN.out, rfl⟩⟩
    case pos =>
      have HD : Hid (∀ W, Calls Tryz.prog 102 #[.int .i64 v] W fun e w' => e = .returned (.bool true) ∧ w' = W) := fun W => by
        have := isTreeNum_any v W
        rw [decide_eq_true hv] at this
        exact this
      have HV : Hid (-999999999 ≤ v ∧ v ≤ 999999999) := hv
      clear hv
      go_enter Tryz.func94, Tryz.ntmps94
      go_wp2_with fail
      refine HC.out.mono ?_
      rintro e w1 ⟨rfl, hor⟩
      have hb1 : Below w.heap.size w w1 := by
        rcases hor with rfl | ⟨t, rfl⟩
        · exact Below.refl _ _
        · exact Lib.bytesWorld_below _ _ _
      have HI : Hid (Calls Tryz.prog 126 #[.int .i64 v] w1 fun e w' => e = .returned (.string (bs (Lib.itoa v))) ∧ Below w.heap.size w w') := by
        refine (Tryz.strconv_Itoa v (by omega) (by omega) w1 (HT.out w1 hb1)).mono ?_
        rintro e w' ⟨rfl, k, os, rfl⟩
        exact ⟨rfl, hb1.trans (Lib.below_grow _ _ hb1.size k os)⟩
      clear hor HC HT hb1
      by_cases hq : Lib.itoa v = x.data.toList
      · have hq' : ((bs (Lib.itoa v)).toList == x.toList) = true := by rw [hq, bs_of]; simp
        have HN : Hid (numOf x.data.toList = some v) := by show _ = _; rw [← hq]; exact numOf_itoa v HV.out
        clear hq
        generalize bs (Lib.itoa v) = y at *
        go_wp2_with (first | (go_at_call 102; refine (HD.out _).mono ?_; rintro e w' ⟨rfl, rfl⟩) | (go_at_call 126; refine HI.out.mono ?_; rintro e w2 ⟨rfl, hb2⟩))
        go_ret2
        exact ⟨by assumption, .inl ⟨v, HN.out, rfl⟩⟩
      · have hq' : ((bs (Lib.itoa v)).toList == x.toList) = false := by
          rw [beq_eq_false_iff_ne]
          intro e
          apply hq
          rw [ByteArray.toList_eq, ByteArray.toList_eq, bs_toList] at e
          exact e
        have HN : Hid (numOf x.data.toList = none) := numOf_atoi HA.out (fun h => hq h.2)
        clear hq
        generalize bs (Lib.itoa v) = y at *
        go_wp2_with (first | (go_at_call 102; refine (HD.out _).mono ?_; rintro e w' ⟨rfl, rfl⟩) | (go_at_call 126; refine HI.out.mono ?_; rintro e w2 ⟨rfl, hb2⟩))
        go_ret2
        exact ⟨by assumption, .inr ⟨HN.out, rfl⟩⟩

end Go.Proofs.YtfbfchffnapnnaaGreatDoor

/-
  The program's reader of trees: numbers.
-/
namespace Go.Proofs.YtfbfchffnapnnaaGreatDoor
open Go.RowKit

theorem numW_at {l : List UInt8} {b : Bool} {k : Nat} (hb : b = decide (l.head? = some 45)) (hall : ∀ c, c ∈ ((if b = true then l.drop 1 else l).take k) → digC c = true) (hk : (if b = true then 1 else 0) + k ≤ l.length)
    (hend : digC (((if b = true then l.drop 1 else l).drop k).headD 0) = false) : numW l = l.take ((if b = true then 1 else 0) + k) := by
  unfold numW
  by_cases h : l.head? = some 45
  · have : b = true := by rw [hb]; exact decide_eq_true h
    subst this
    simp only [if_true] at hall hend hk ⊢
    rw [if_pos h, takeWhile_take _ _ _ hall hend]
    cases l with
    | nil => simp at h
    | cons c r =>
      have : c = 45 := by simpa using h
      subst this
      rw [Nat.add_comm, List.take_succ_cons]; rfl
  · have : b = false := by rw [hb]; exact decide_eq_false h
    subst this
    simp only [Bool.false_eq_true, if_false] at hall hend hk ⊢
    rw [if_neg h, takeWhile_take _ _ _ hall hend, Nat.zero_add]

set_option maxRecDepth 20000 in
set_option maxHeartbeats 2000000 in
theorem numI_any (m B R : Nat) (s : ByteArray) (i : Nat) (w : World) (hL : LaidU B w) (hBR : B ≤ R) (h : Sc w R s i) (hi : i < s.size) (hs : s.size ≤ 10000) (hc : digC ((s.data.toList.drop i).headD 0) = true ∨ (s.data.toList.drop i).headD 0 = 45) :
    Calls Tryz.prog 56 #[.pointer (some ⟨R, 0, none⟩)] w (TRPost R s i (m + 1) w) := by
  have hR := h.lt
  have HP : Hid (_ ∧ _) := pu_num (m := m) hc
  have HSc : Hid (Sc w R s i) := h
  have HLa : Hid (LaidU B w) := hL
  have HW : Hid (Calls Tryz.prog 92 #[.pointer (some ⟨R, 0, none⟩), .string ⟨#[45]⟩] w _) := skip_any w R s ⟨#[45]⟩ i h hs (by decide) (by omega)
  have c1 := h.c1
  have hdl : s.data.toList.drop i ≠ [] := by
    intro e
    have := congrArg List.length e
    simp at this; omega
  have HH : Hid ((s.data.toList.drop i).head? = some 45 ↔ eatP [45] (s.data.toList.drop i) ≠ none) := by
    cases hd : s.data.toList.drop i with
    | nil => exact absurd hd hdl
    | cons c r =>
      refine ⟨fun e => ?_, fun e => ?_⟩
      · have : c = 45 := by simpa using e
        subst this
        rw [eatP_one_cons]; simp
      · by_cases hcc : c = 45
        · simp [hcc]
        · exact absurd (eatP_one_ne _ _ _ hcc) e
  clear h hL hc hdl
  go_enter Tryz.func56, Tryz.ntmps56
  go_wp2_with fail
  refine HW.out.mono ?_
  intro e w1 hsk
  obtain ⟨b, rfl, hS1, hF, HB⟩ : ∃ b : Bool, e = .returned (.bool b) ∧ Scan R w w1 (i + if b = true then 1 else 0) ∧ i + (if b = true then 1 else 0) ≤ s.size ∧ Hid (b = decide ((s.data.toList.drop i).head? = some 45)) := by
    rcases hsk with ⟨h1, rfl, h2, h3⟩ | ⟨h1, rfl, h2⟩
    · exact ⟨true, rfl, h2, h3, (decide_eq_true (HH.out.2 (by rw [show ([45] : List UInt8) = (⟨#[45]⟩ : ByteArray).data.toList from rfl, h1]; simp))).symm⟩
    · exact ⟨false, rfl, h2, by simp; omega, (decide_eq_false (fun e => HH.out.1 e h1)).symm⟩
  have HF : Hid (s.data.toList.drop (i + if b = true then 1 else 0) = (if b = true then (s.data.toList.drop i).drop 1 else s.data.toList.drop i)) := by
    show _ = _
    cases b <;> simp
  obtain ⟨F, hFe⟩ : ∃ F, F = i + (if b = true then 1 else 0) := ⟨_, rfl⟩
  rw [← hFe] at hS1 hF HF
  have hFi : i ≤ F := by omega
  have HFe : Hid (F = i + (if b = true then 1 else 0)) := hFe
  clear hsk HW hFe c1
  go_wp2_with fail
  go_loopw [40] (fun _ wr => ∃ k : Nat, F + k ≤ s.size ∧ Scan R w wr (F + k) ∧ ∀ c, c ∈ (s.data.toList.drop F).take k → digC c = true) (fun _ wr => s.size - atS wr R)
  case atStart => exact ⟨0, by omega, hS1, by simp⟩
  case round =>
    obtain ⟨k, hk, hS, hall⟩ := hrel
    have HS : Hid (Scan R w wr (F + k)) := hS
    have HA : Hid (atS wr R = F + k) := hS.atS
    have hsc := hS.sc HSc.out
    have d0 := hsc.c0
    have d1 := hsc.c1
    have df := hsc.f1
    have HSet : Hid (∀ q, Scan R w ((wr.drewN q).setCell ⟨R, 1, none⟩ (.int .i64 ((F + k : Nat) + 1 : Int))) (F + k + 1)) := fun q => by
      have := (hS.drewN q).trans (Scan.set ((hS.drewN q).sc HSc.out) (F + k + 1))
      rw [show ((F + k + 1 : Nat) : Int) = ((F + k : Nat) : Int) + 1 by omega] at this
      exact this
    clear hS hS1 hsc
    generalize hj : F + k = j at *
    have hw : IntKind.i64.wrap ((j : Int) + 1) = (j : Int) + 1 := by rw [IntKind.wrap_i64]; omega
    have HEnd : Hid (digC ((s.data.toList.drop j).headD 0) = false → ∀ q, Calls Tryz.prog 94 #[.string (s.extract i j)] (wr.drewN q).drew fun e w' => ∃ b v, e = .returned (.tuple #[.int .i64 v, .bool b]) ∧
        Hid ((b = true → TRPost R s i (m + 1) w (.returned (.iface 103 (.int .i64 v))) w') ∧ (b = false → TRPost R s i (m + 1) w (.panicked refusal) w'))) := fun hend q => by
      have hnw : numW (s.data.toList.drop i) = (s.data.toList.drop i).take (j - i) := by
        have := numW_at (k := k) HB.out (by rw [← HF.out]; exact hall) (by simp; rw [HFe.out] at hj; omega) (by rw [← HF.out, List.drop_drop, hj]; exact hend)
        rw [this]; congr 1; rw [HFe.out] at hj; omega
      have hx : s.extract i j = bs (numW (s.data.toList.drop i)) := by
        rw [hnw, show j = i + (j - i) by omega, extract_bs, show i + (j - i) - i = j - i by omega]
      have hlen : (numW (s.data.toList.drop i)).length = j - i := by rw [hnw]; simp; omega
      have hnr : Near R w (wr.drewN q).drew := ((HS.out.drewN q).drewN 1).near
      have hzz := hnr.size
      refine (readNum_any B _ _ (HLa.out.near hnr hBR hR) (by omega) (by rw [hx, bs_size, hlen]; omega)).mono ?_
      rintro e w' ⟨hb, ⟨v, h1, rfl⟩ | ⟨h1, rfl⟩⟩
      · rw [hx, bs_toList] at h1
        refine ⟨true, v, rfl, (⟨fun _ => ?_, fun e => by cases e⟩ : _ ∧ _)⟩
        have hne : numW (s.data.toList.drop i) ≠ [] := by
          intro e
          rw [e] at h1
          have := (numOf_some h1).2
          obtain ⟨c, r, e2, -⟩ := itoa_head v
          rw [e2] at this; cases this
        have hpos : 0 < j - i := by rw [← hlen]; exact List.length_pos_iff.2 hne
        refine .inl ⟨(⟨1, v, ByteArray.empty, [], []⟩ : Nd (T m)), j, _, ?_, by omega, hk, rfl, .inl ⟨rfl, rfl⟩, ((HS.out.drewN q).drewN 1).below hb (Nat.lt_of_lt_of_le hR hnr.size)⟩
        rw [HP.out.2 v h1, hlen, List.drop_drop, show i + (j - i) = j by omega]; rfl
      · rw [hx, bs_toList] at h1
        exact ⟨false, 0, rfl, (⟨fun e => (by cases e), fun _ => .inr ⟨HP.out.1 h1, rfl, hnr.trans (Near.of_below hb)⟩⟩ : _ ∧ _)⟩
    by_cases hlt : j < s.size
    · have hd : decide ((j : Int) < (s.size : Int)) = true := by simp; omega
      have hhead : (s.data.toList.drop j).headD 0 = s[j] := by rw [drop_at s j hlt]; rfl
      have hb1 : (s[j].toNat : Int) ≤ 255 := by have := s[j].toNat_lt; omega
      have hgj : (j : Int) < (s.size : Int) := by omega
      have hjn : ((j : Int)).toNat = j := by omega
      cases hdg : digC s[j] with
      | true =>
        have HD : Hid (∀ W, Calls Tryz.prog 93 #[.int .u8 (s[j].toNat : Int)] W fun e w' => e = .returned (.bool true) ∧ w' = W) := fun W => by
          have := isDigit_any (s[j].toNat : Int) W (by omega) hb1
          have hq : digB (s[j].toNat : Int) = true := hdg
          rw [hq] at this; exact this
        have HA2 : Hid (∀ c, c ∈ (s.data.toList.drop F).take (k + 1) → digC c = true) := take_more' s F k digC (by omega) hall (by simpa only [hj] using hdg)
        clear hall hdg HEnd hhead
        go_wp2_with fail
        go_quiet (first | (go_at_call 93; refine Calls.quiet_of_same (HD.out _)))
        go_wp2_with fail
        go_roundw
        case rel => exact ⟨k + 1, by omega, by rw [show F + (k + 1) = j + 1 by omega]; exact HSet.out _, HA2.out⟩
        case measure => rw [(HSet.out _).atS, HA.out]; omega
      | false =>
        have HD : Hid (∀ W, Calls Tryz.prog 93 #[.int .u8 (s[j].toNat : Int)] W fun e w' => e = .returned (.bool false) ∧ w' = W) := fun W => by
          have := isDigit_any (s[j].toNat : Int) W (by omega) hb1
          have hq : digB (s[j].toNat : Int) = false := hdg
          rw [hq] at this; exact this
        have HRd : Hid (∀ q, _) := HEnd.out (by rw [hhead]; exact hdg)
        have hij : (i : Int) ≤ (j : Int) := by omega
        have hjs : (j : Int) ≤ (s.size : Int) := by omega
        clear hall hdg HEnd hhead
        go_wp2_with fail
        go_quiet (first | (go_at_call 93; refine Calls.quiet_of_same (HD.out _)))
        go_wp2_with fail
        go_region_with (go_at_call 94; refine (HRd.out _).mono ?_; rintro e w7 ⟨b7, v7, rfl, hyn⟩)
        all_goals
          cases b7 with
          | true =>
            have HY : Hid (TRPost R s i (m + 1) w (.returned (.iface 103 (.int .i64 v7))) w7) := hyn.out.1 rfl
            clear hyn
            go_wp2_with (go_at_call 95; refine (demand_yes _).mono ?_; rintro e w' ⟨rfl, rfl⟩)
            go_ret
            exact HY.out
          | false =>
            have HY : Hid (TRPost R s i (m + 1) w (.panicked refusal) w7) := hyn.out.2 rfl
            clear hyn
            go_wp2_with (go_at_call 95; refine (demand_no _).mono ?_; rintro e w' ⟨rfl, rfl⟩)
            exact ⟨rfl, HY.out⟩
    · have hd : decide ((j : Int) < (s.size : Int)) = false := by simp; omega
      have HRd : Hid (∀ q, _) := HEnd.out (by rw [List.drop_of_length_le (by simp; omega)]; decide)
      have hij : (i : Int) ≤ (j : Int) := by omega
      have hjs : (j : Int) ≤ (s.size : Int) := by omega
      clear hall HEnd
      go_wp2_with fail
      go_quiet (fail)
      go_wp2_with fail
      go_region_with (go_at_call 94; refine (HRd.out _).mono ?_; rintro e w7 ⟨b7, v7, rfl, hyn⟩)
      all_goals
        cases b7 with
        | true =>
          have HY : Hid (TRPost R s i (m + 1) w (.returned (.iface 103 (.int .i64 v7))) w7) := hyn.out.1 rfl
          clear hyn
          go_wp2_with (go_at_call 95; refine (demand_yes _).mono ?_; rintro e w' ⟨rfl, rfl⟩)
          go_ret
          exact HY.out
        | false =>
          have HY : Hid (TRPost R s i (m + 1) w (.panicked refusal) w7) := hyn.out.2 rfl
          clear hyn
          go_wp2_with (go_at_call 95; refine (demand_no _).mono ?_; rintro e w' ⟨rfl, rfl⟩)
          exact ⟨rfl, HY.out⟩

end Go.Proofs.YtfbfchffnapnnaaGreatDoor
