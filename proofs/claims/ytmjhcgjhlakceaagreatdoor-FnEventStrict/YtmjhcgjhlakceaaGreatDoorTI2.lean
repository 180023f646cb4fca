import Derived.Test.YtmjhcgjhlakceaaGreatDoorB29
import Derived.Test.YtmjhcgjhlakceaaGreatDoorTNum
import Derived.Deep.RegionWith
namespace Go.Proofs.YtmjhcgjhlakceaaGreatDoor
open Go.RowKit
theorem numW_at {l : List UInt8} {b : Bool} {k : Nat} (hb : b = decide (l.head? = some 45)) (hall : ∀ c, c ∈ ((if b = true then l.drop 1 else l).take k) -> digC c = true) (hk : (if b = true then 1 else 0) + k <= l.length)
  (hend : digC (((if b = true then l.drop 1 else l).drop k).headD 0) = false) : numW l = l.take ((if b = true then 1 else 0) + k) := by
 unfold numW
 by_cases h : l.head? = some 45
 ·have : b = true := by rw [hb]; exact decide_eq_true h
  subst this
  simp only [if_true] at hall hend hk ⊢
  rw [if_pos h, takeWhile_take _ _ _ hall hend]
  cases l with
  | nil => simp at h
  | cons c r =>
   have : c = 45 := by simpa using h
   subst this
   rw [Nat.add_comm, List.take_succ_cons]; rfl
 ·have : b = false := by rw [hb]; exact decide_eq_false h
  subst this
  simp only [Bool.false_eq_true, if_false] at hall hend hk ⊢
  rw [if_neg h, takeWhile_take _ _ _ hall hend, Nat.zero_add]
set_option maxRecDepth 20000 in
set_option maxHeartbeats 2000000 in
theorem numI_any (m B R : Nat) (s : ByteArray) (i : Nat) (w : World) (hL : LaidU B w) (hBR : B <= R) (h : Sc w R s i) (hi : i < s.size) (hs : s.size <= 10000) (hc : digC ((s.data.toList.drop i).headD 0) = true ∨ (s.data.toList.drop i).headD 0 = 45) :
  Calls Tryz.prog 68 #[.pointer (some ⟨R, 0, none⟩)] w (TRPost R s i (m + 1) w) := by
 have hR := h.lt
 have HP : Hid (_ /\ _) := pu_num (m := m) hc
 have HSc : Hid (Sc w R s i) := h
 have HLa : Hid (LaidU B w) := hL
 have HW : Hid (Calls Tryz.prog 104 #[.pointer (some ⟨R, 0, none⟩), .string ⟨#[45]⟩] w _) := skip_any w R s ⟨#[45]⟩ i h hs (by decide) (by omega)
 have c1 := h.c1
 have hdl : s.data.toList.drop i ≠ [] := by
  intro e
  have := congrArg List.length e
  simp at this; omega
 have HH : Hid ((s.data.toList.drop i).head? = some 45 ↔ eatP [45] (s.data.toList.drop i) ≠ none) := by
  cases hd : s.data.toList.drop i with
  | nil => exact absurd hd hdl
  | cons c r =>
   refine ⟨fun e => ?_, fun e => ?_⟩
   ·have : c = 45 := by simpa using e
    subst this
    rw [eatP_one_cons]; simp
   ·by_cases hcc : c = 45
    ·simp [hcc]
    ·exact absurd (eatP_one_ne _ _ _ hcc) e
 clear h hL hc hdl
 go_enter Tryz.func68, Tryz.ntmps68
 go_wp2_with fail
 refine HW.out.mono ?_
 intro e w1 hsk
 obtain ⟨b, rfl, hS1, hF, HB⟩ : ∃ b : Bool, e = .returned (.bool b) /\ Scan R w w1 (i + if b = true then 1 else 0) /\ i + (if b = true then 1 else 0) <= s.size /\ Hid (b = decide ((s.data.toList.drop i).head? = some 45)) := by
  rcases hsk with ⟨h1, rfl, h2, h3⟩ | ⟨h1, rfl, h2⟩
  ·exact ⟨true, rfl, h2, h3, (decide_eq_true (HH.out.2 (by rw [show ([45] : List UInt8) = (⟨#[45]⟩ : ByteArray).data.toList from rfl, h1]; simp))).symm⟩
  ·exact ⟨false, rfl, h2, by simp; omega, (decide_eq_false (fun e => HH.out.1 e h1)).symm⟩
 have HF : Hid (s.data.toList.drop (i + if b = true then 1 else 0) = (if b = true then (s.data.toList.drop i).drop 1 else s.data.toList.drop i)) := by
  show _ = _
  cases b <;> simp
 obtain ⟨F, hFe⟩ : ∃ F, F = i + (if b = true then 1 else 0) := ⟨_, rfl⟩
 rw [<- hFe] at hS1 hF HF
 have hFi : i <= F := by omega
 have HFe : Hid (F = i + (if b = true then 1 else 0)) := hFe
 clear hsk HW hFe c1
 go_wp2_with fail
 go_loopw [40] (fun _ wr => ∃ k : Nat, F + k <= s.size /\ Scan R w wr (F + k) /\ ∀ c, c ∈ (s.data.toList.drop F).take k -> digC c = true) (fun _ wr => s.size - atS wr R)
 case atStart => exact ⟨0, by omega, hS1, by simp⟩
 case round =>
  obtain ⟨k, hk, hS, hall⟩ := hrel
  have HS : Hid (Scan R w wr (F + k)) := hS
  have HA : Hid (atS wr R = F + k) := hS.atS
  have hsc := hS.sc HSc.out
  have d0 := hsc.c0
  have d1 := hsc.c1
  have df := hsc.f1
  have HSet : Hid (∀ q, Scan R w ((wr.drewN q).setCell ⟨R, 1, none⟩ (.int .i64 ((F + k : Nat) + 1 : Int))) (F + k + 1)) := fun q => by
   have := (hS.drewN q).trans (Scan.set ((hS.drewN q).sc HSc.out) (F + k + 1))
   rw [show ((F + k + 1 : Nat) : Int) = ((F + k : Nat) : Int) + 1 by omega] at this
   exact this
  clear hS hS1 hsc
  generalize hj : F + k = j at *
  have hw : IntKind.i64.wrap ((j : Int) + 1) = (j : Int) + 1 := by rw [IntKind.wrap_i64]; omega
  have HEnd : Hid (digC ((s.data.toList.drop j).headD 0) = false -> ∀ q, Calls Tryz.prog 77 #[.string (s.extract i j)] (wr.drewN q).drew fun e w' => ∃ b v, e = .returned (.tuple #[.int .i64 v, .bool b]) /\
    Hid ((b = true -> TRPost R s i (m + 1) w (.returned (.iface 130 (.int .i64 v))) w') /\ (b = false -> TRPost R s i (m + 1) w (.panicked refusal) w'))) := fun hend q => by
   have hnw : numW (s.data.toList.drop i) = (s.data.toList.drop i).take (j - i) := by
    have := numW_at (k := k) HB.out (by rw [<- HF.out]; exact hall) (by simp; rw [HFe.out] at hj; omega) (by rw [<- HF.out, List.drop_drop, hj]; exact hend)
    rw [this]; congr 1; rw [HFe.out] at hj; omega
   have hx : s.extract i j = bs (numW (s.data.toList.drop i)) := by
    rw [hnw, show j = i + (j - i) by omega, extract_bs, show i + (j - i) - i = j - i by omega]
   have hlen : (numW (s.data.toList.drop i)).length = j - i := by rw [hnw]; simp; omega
   have hnr : Near R w (wr.drewN q).drew := ((HS.out.drewN q).drewN 1).near
   have hzz := hnr.size
   refine (readNum_any B _ _ (HLa.out.near hnr hBR hR) (by omega) (by rw [hx, bs_size, hlen]; omega)).mono ?_
   rintro e w' ⟨hb, ⟨v, h1, rfl⟩ | ⟨h1, rfl⟩⟩
   ·rw [hx, bs_toList] at h1
    refine ⟨true, v, rfl, (⟨fun _ => ?_, fun e => by cases e⟩ : _ /\ _)⟩
    have hne : numW (s.data.toList.drop i) ≠ [] := by
     intro e
     rw [e] at h1
     have := (numOf_some h1).2
     obtain ⟨c, r, e2, -⟩ := itoa_head v
     rw [e2] at this; cases this
    have hpos : 0 < j - i := by rw [<- hlen]; exact List.length_pos_iff.2 hne
    refine .inl ⟨(⟨1, v, ByteArray.empty, [], []⟩ : Nd (T m)), j, _, ?_, by omega, hk, rfl, .inl ⟨rfl, rfl⟩, ((HS.out.drewN q).drewN 1).below hb (Nat.lt_of_lt_of_le hR hnr.size)⟩
    rw [HP.out.2 v h1, hlen, List.drop_drop, show i + (j - i) = j by omega]; rfl
   ·rw [hx, bs_toList] at h1
    exact ⟨false, 0, rfl, (⟨fun e => (by cases e), fun _ => .inr ⟨HP.out.1 h1, rfl, hnr.trans (Near.of_below hb)⟩⟩ : _ /\ _)⟩
  by_cases hlt : j < s.size
  ·have hd : decide ((j : Int) < (s.size : Int)) = true := by simp; omega
   have hhead : (s.data.toList.drop j).headD 0 = s[j] := by rw [drop_at s j hlt]; rfl
   have hb1 : (s[j].toNat : Int) <= 255 := by have := s[j].toNat_lt; omega
   have hgj : (j : Int) < (s.size : Int) := by omega
   have hjn : ((j : Int)).toNat = j := by omega
   cases hdg : digC s[j] with
   | true =>
    have HD : Hid (∀ W, Calls Tryz.prog 56 #[.int .u8 (s[j].toNat : Int)] W fun e w' => e = .returned (.bool true) /\ w' = W) := fun W => by
     have := isDigit_any (s[j].toNat : Int) W (by omega) hb1
     have hq : digB (s[j].toNat : Int) = true := hdg
     rw [hq] at this; exact this
    have HA2 : Hid (∀ c, c ∈ (s.data.toList.drop F).take (k + 1) -> digC c = true) := take_more' s F k digC (by omega) hall (by simpa only [hj] using hdg)
    clear hall hdg HEnd hhead
    go_wp2_with fail
    go_quiet (first | (go_at_call 56; refine Calls.quiet_of_same (HD.out _)))
    go_wp2_with fail
    go_roundw
    case rel => exact ⟨k + 1, by omega, by rw [show F + (k + 1) = j + 1 by omega]; exact HSet.out _, HA2.out⟩
    case measure => rw [(HSet.out _).atS, HA.out]; omega
   | false =>
    have HD : Hid (∀ W, Calls Tryz.prog 56 #[.int .u8 (s[j].toNat : Int)] W fun e w' => e = .returned (.bool false) /\ w' = W) := fun W => by
     have := isDigit_any (s[j].toNat : Int) W (by omega) hb1
     have hq : digB (s[j].toNat : Int) = false := hdg
     rw [hq] at this; exact this
    have HRd : Hid (∀ q, _) := HEnd.out (by rw [hhead]; exact hdg)
    have hij : (i : Int) <= (j : Int) := by omega
    have hjs : (j : Int) <= (s.size : Int) := by omega
    clear hall hdg HEnd hhead
    go_wp2_with fail
    go_quiet (first | (go_at_call 56; refine Calls.quiet_of_same (HD.out _)))
    go_wp2_with fail
    go_region_with (go_at_call 77; refine (HRd.out _).mono ?_; rintro e w7 ⟨b7, v7, rfl, hyn⟩)
    all_goals
     cases b7 with
     | true =>
      have HY : Hid (TRPost R s i (m + 1) w (.returned (.iface 130 (.int .i64 v7))) w7) := hyn.out.1 rfl
      clear hyn
      go_wp2_with (go_at_call 55; refine (demand_yes _).mono ?_; rintro e w' ⟨rfl, rfl⟩)
      go_ret
      exact HY.out
     | false =>
      have HY : Hid (TRPost R s i (m + 1) w (.panicked refusal) w7) := hyn.out.2 rfl
      clear hyn
      go_wp2_with (go_at_call 55; refine (demand_no _).mono ?_; rintro e w' ⟨rfl, rfl⟩)
      exact ⟨rfl, HY.out⟩
  ·have hd : decide ((j : Int) < (s.size : Int)) = false := by simp; omega
   have HRd : Hid (∀ q, _) := HEnd.out (by rw [List.drop_of_length_le (by simp; omega)]; decide)
   have hij : (i : Int) <= (j : Int) := by omega
   have hjs : (j : Int) <= (s.size : Int) := by omega
   clear hall HEnd
   go_wp2_with fail
   go_quiet (fail)
   go_wp2_with fail
   go_region_with (go_at_call 77; refine (HRd.out _).mono ?_; rintro e w7 ⟨b7, v7, rfl, hyn⟩)
   all_goals
    cases b7 with
    | true =>
     have HY : Hid (TRPost R s i (m + 1) w (.returned (.iface 130 (.int .i64 v7))) w7) := hyn.out.1 rfl
     clear hyn
     go_wp2_with (go_at_call 55; refine (demand_yes _).mono ?_; rintro e w' ⟨rfl, rfl⟩)
     go_ret
     exact HY.out
    | false =>
     have HY : Hid (TRPost R s i (m + 1) w (.panicked refusal) w7) := hyn.out.2 rfl
     clear hyn
     go_wp2_with (go_at_call 55; refine (demand_no _).mono ?_; rintro e w' ⟨rfl, rfl⟩)
     exact ⟨rfl, HY.out⟩
end Go.Proofs.YtmjhcgjhlakceaaGreatDoor
