/-
  Several texts in one, in their order.
-/
import Derived.Test.YtmjhcgjhlakceaaGreatDoorB2
import Derived.Test.YtmjhcgjhlakceaaGreatDoorB1
import Derived.WalkSmall
import Derived.LoopTactic
import Derived.Test.YtmjhcgjhlakceaaGreatDoorB10
import Derived.Laws.Closers25b
import Derived.Test.YtmjhcgjhlakceaaGreatDoorB5

namespace Go.Proofs.YtmjhcgjhlakceaaGreatDoor
open Go.RowKit
theorem nm_of_look (s : ByteArray) (j : Nat) : nmByte (lookB s j) = true -> j < s.size := by
 intro h
 exact Classical.byContradiction fun hn => by rw [lookB_out s j (by omega)] at h; exact absurd h (by decide)
theorem takeWhile_take (l : List UInt8) (p : UInt8 -> Bool) (k : Nat) (h : ∀ x, x ∈ l.take k -> p x = true) (hd : p ((l.drop k).headD 0) = false) : l.takeWhile p = l.take k := by
 have hc : ∀ c r, l.drop k = c :: r -> p c = false := by intro c r e; rw [e] at hd; exact hd
 conv => lhs; rw [<- List.take_append_drop k l]
 exact takeWhile_all _ _ h hc
theorem take_more' (s : ByteArray) (i k : Nat) (p : UInt8 -> Bool) (h : i + k < s.size) (ha : ∀ x, x ∈ (s.data.toList.drop i).take k -> p x = true) (hc : p s[i + k] = true) : ∀ x, x ∈ (s.data.toList.drop i).take (k + 1) -> p x = true := by
 intro x hx
 have hl : k < (s.data.toList.drop i).length := by simp; omega
 rw [List.take_succ_eq_append_getElem hl] at hx
 rcases List.mem_append.1 hx with hx | hx
 ·exact ha x hx
 ·rw [List.mem_singleton] at hx
  subst hx
  simpa [ByteArray.getElem_eq_getElem_data] using hc
set_option maxRecDepth 20000 in
set_option maxHeartbeats 1000000 in
theorem name_any (w : World) (R : Nat) (s : ByteArray) (i : Nat) (bad : Bool) (h : RdS w R s i bad) (hs : s.size <= 10000) (hi : i <= s.size) :
  Calls Tryz.prog 33 #[.pointer (some ⟨R, 0, none⟩)] w fun e w' => e = .returned (.string (bs ((s.data.toList.drop i).takeWhile nmByte))) /\ Near R w w' /\
   RdS w' R s ((i + ((s.data.toList.drop i).takeWhile nmByte).length : Nat) : Int) bad /\ i + ((s.data.toList.drop i).takeWhile nmByte).length <= s.size := by
 have c0 := h.cell0
 have c1 := h.cell1
 have c2 := h.cell2
 go_enter Tryz.func33, Tryz.ntmps33
 go_wp2_with fail
 go_loopw [9] (fun _ wr => ∃ k : Nat, i + k <= s.size /\ RdS wr R s ((i + k : Nat) : Int) bad /\ Near R w wr /\ ∀ x, x ∈ (s.data.toList.drop i).take k -> nmByte x = true) (fun _ wr => s.size - atOf wr R)
 case atStart => exact ⟨0, by omega, h, Near.refl _ _, by simp⟩
 case round =>
  obtain ⟨k, hk, hr, hnr, hall⟩ := hrel
  have d0 := hr.cell0
  have d1 := hr.cell1
  have d2 := hr.cell2
  have df := hr.free 1
  have HR : Hid (RdS wr R s ((i + k : Nat) : Int) bad /\ Near R w wr) := ⟨hr, hnr⟩
  clear hr hnr c0 c1 c2 h
  generalize hj : i + k = j at *
  have HL : Hid (∀ m, Calls Tryz.prog 65 #[.pointer (some ⟨R, 0, none⟩)] (wr.drewN m) fun e w' => e = .returned (.int .u8 ((lookB s j).toNat : Int)) /\ ∃ m', w' = wr.drewN m') := fun m =>
   (look_any (wr.drewN m) R s j bad (HR.out.1.drewN m)).mono fun e w' ⟨he, k, hk⟩ => ⟨he, m + k, by rw [hk, World.drewN_drewN]⟩
  have HL0 : Hid (Calls Tryz.prog 65 #[.pointer (some ⟨R, 0, none⟩)] wr fun e w' => e = .returned (.int .u8 ((lookB s j).toNat : Int)) /\ ∃ m', w' = wr.drewN m') := HL.out 0
  have hb0 : (0 : Int) <= ((lookB s j).toNat : Int) := by omega
  have hb1 : ((lookB s j).toNat : Int) <= 255 := by have := (lookB s j).toNat_lt; omega
  cases hnm : nmByte (lookB s j) with
  | true =>
   have hlt := nm_of_look s j hnm
   have HA : Hid (∀ x, x ∈ (s.data.toList.drop i).take (k + 1) -> nmByte x = true) := take_more' s i k nmByte (by omega) hall (by rw [lookB_in s j hlt] at hnm; simpa only [hj] using hnm)
   have hw : IntKind.i64.wrap ((j : Int) + 1) = (j : Int) + 1 := by rw [IntKind.wrap_i64]; omega
   have hcases : (97 <= ((lookB s j).toNat : Int) /\ ((lookB s j).toNat : Int) <= 122) ∨ (48 <= ((lookB s j).toNat : Int) /\ ((lookB s j).toNat : Int) <= 57) := by simpa only [nmByte, decide_eq_true_eq] using hnm
   clear hall hnm
   generalize (lookB s j).toNat = c at *
   rcases hcases with ⟨q1, q2⟩ | ⟨q1, q2⟩
   ·go_wp2_with (go_at_call 65; (first | refine HL0.out.mono ?_ | refine (HL.out _).mono ?_); rintro e w' ⟨rfl, nq, rfl⟩)
    have HS := fun nq => ((HR.out.1.drewN nq).set1 ((j : Int) + 1))
    go_roundw
    case rel => exact ⟨k + 1, by omega, by rw [show ((i + (k + 1) : Nat) : Int) = (j : Int) + 1 by omega]; exact HS _, (HR.out.2.drewN _).trans (Near.set R 1 _ _), HA.out⟩
    case measure => rw [(HS _).atOf, HR.out.1.atOf]; omega
   ·go_wp2_with (go_at_call 65; (first | refine HL0.out.mono ?_ | refine (HL.out _).mono ?_); rintro e w' ⟨rfl, nq, rfl⟩)
    have HS := fun nq => ((HR.out.1.drewN nq).set1 ((j : Int) + 1))
    go_roundw
    case rel => exact ⟨k + 1, by omega, by rw [show ((i + (k + 1) : Nat) : Int) = (j : Int) + 1 by omega]; exact HS _, (HR.out.2.drewN _).trans (Near.set R 1 _ _), HA.out⟩
    case measure => rw [(HS _).atOf, HR.out.1.atOf]; omega
  | false =>
   have HT : Hid ((s.data.toList.drop i).takeWhile nmByte = (s.data.toList.drop i).take k) := takeWhile_take _ _ _ hall (by rw [List.drop_drop, hj]; exact hnm)
   have HX : Hid (s.extract i j = bs ((s.data.toList.drop i).take k)) := by show _ = _; rw [<- hj]; exact extract_bs s i k
   have hl : Hid (((s.data.toList.drop i).take k).length = k) := by show _ = _; simp; omega
   have hcases : ((lookB s j).toNat : Int) < 48 ∨ (57 < ((lookB s j).toNat : Int) /\ ((lookB s j).toNat : Int) < 97) ∨ 122 < ((lookB s j).toNat : Int) := by
    simp only [nmByte, decide_eq_false_iff_not] at hnm; omega
   clear hall hnm
   generalize (lookB s j).toNat = c at *
   rcases hcases with q1 | ⟨q1, q2⟩ | q1
   all_goals
    go_wp2_with (go_at_call 65; (first | refine HL0.out.mono ?_ | refine (HL.out _).mono ?_); rintro e w' ⟨rfl, nq, rfl⟩)
    go_quiet (fail)
    go_wp2_with fail
    go_ret
    rw [HT.out, hl.out, hj]
    exact ⟨str_ret HX.out, (HR.out.2.drewN _).drewN _, (HR.out.1.drewN _).drewN _, hk⟩
end Go.Proofs.YtmjhcgjhlakceaaGreatDoor

namespace Go.Proofs.YtmjhcgjhlakceaaGreatDoor
open Go.RowKit
theorem goodK_cases {m : Nat} {t : K (m + 1)} {d : Int} (h : goodK (m + 1) t d = true) :
  (t = (⟨1, [], []⟩ : Kd (K m)) /\ txtK (m + 1) t = [110, 117, 109]) ∨ (t = (⟨2, [], []⟩ : Kd (K m)) /\ txtK (m + 1) t = [116, 101, 120, 116]) ∨ (t = (⟨3, [], []⟩ : Kd (K m)) /\ txtK (m + 1) t = [102, 108, 97, 103]) ∨
  (∃ x, t = (⟨4, [], [x]⟩ : Kd (K m)) /\ goodK m x (d + 1) = true /\ txtK (m + 1) t = 91 :: (txtK m x ++ [93])) ∨ (∃ x, t = (⟨6, [], [x]⟩ : Kd (K m)) /\ goodK m x (d + 1) = true /\ txtK (m + 1) t = 63 :: txtK m x) ∨
  (∃ na ki, t = (⟨5, na, ki⟩ : Kd (K m)) /\ na.length = ki.length /\ (∀ x, x ∈ na -> nameB x = true) /\ (∀ k, k ∈ ki -> goodK m k (d + 1) = true) /\ txtK (m + 1) t = 123 :: (joinL (zipL na (ki.map (txtK m))) ++ [125])) := by
 simp only [goodK, Bool.and_eq_true] at h
 have ha : aloneKF (Kd.sort t) (Kd.names t) (Kd.kids t).length = true := h.1.2
 have hk := List.all_eq_true.1 h.2
 obtain ⟨so, na, ki⟩ : Kd (K m) := t
 simp only at ha hk
 unfold aloneKF at ha
 have one : (ki.length : Int) = 1 -> ∃ x, ki = [x] /\ goodK m x (d + 1) = true := by
  intro hl
  match ki, hl, hk with
  | [x], _, hk => exact ⟨x, rfl, hk x (List.mem_cons_self ..)⟩
 by_cases h1 : so = 1
 ·rw [if_pos h1] at ha
  simp only [Bool.and_eq_true, beq_iff_eq] at ha
  have e2 : na = [] := List.eq_nil_of_length_eq_zero (by have := ha.1; omega)
  have e3 : ki = [] := List.eq_nil_of_length_eq_zero (by have := ha.2; omega)
  subst e2 e3 h1
  exact .inl ⟨rfl, by simp [txtK]⟩
 rw [if_neg h1] at ha
 by_cases h2 : so = 2
 ·rw [if_pos h2] at ha
  simp only [Bool.and_eq_true, beq_iff_eq] at ha
  have e2 : na = [] := List.eq_nil_of_length_eq_zero (by have := ha.1; omega)
  have e3 : ki = [] := List.eq_nil_of_length_eq_zero (by have := ha.2; omega)
  subst e2 e3 h2
  exact .inr (.inl ⟨rfl, by simp [txtK]⟩)
 rw [if_neg h2] at ha
 by_cases h3 : so = 3
 ·rw [if_pos h3] at ha
  simp only [Bool.and_eq_true, beq_iff_eq] at ha
  have e2 : na = [] := List.eq_nil_of_length_eq_zero (by have := ha.1; omega)
  have e3 : ki = [] := List.eq_nil_of_length_eq_zero (by have := ha.2; omega)
  subst e2 e3 h3
  exact .inr (.inr (.inl ⟨rfl, by simp [txtK]⟩))
 rw [if_neg h3] at ha
 by_cases h4 : so = 4
 ·rw [if_pos h4] at ha
  simp only [Bool.and_eq_true, beq_iff_eq] at ha
  have e2 : na = [] := List.eq_nil_of_length_eq_zero (by have := ha.1; omega)
  obtain ⟨x, e3, hx⟩ := one ha.2
  subst e2 e3 h4
  exact .inr (.inr (.inr (.inl ⟨x, rfl, hx, by simp [txtK, headL]⟩)))
 rw [if_neg h4] at ha
 by_cases h5 : so = 5
 ·rw [if_pos h5] at ha
  simp only [Bool.and_eq_true, beq_iff_eq] at ha
  have hl : na.length = ki.length := by have := ha.1; omega
  subst h5
  exact .inr (.inr (.inr (.inr (.inr ⟨na, ki, rfl, hl, riseB_name ha.2, fun k hk' => hk k hk', by simp [txtK]⟩))))
 rw [if_neg h5] at ha
 by_cases h6 : so = 6
 ·rw [if_pos h6] at ha
  simp only [Bool.and_eq_true, beq_iff_eq] at ha
  have e2 : na = [] := List.eq_nil_of_length_eq_zero (by have := ha.1; omega)
  obtain ⟨x, e3, hx⟩ := one ha.2
  subst e2 e3 h6
  exact .inr (.inr (.inr (.inr (.inl ⟨x, rfl, hx, by simp [txtK, headL]⟩))))
 ·rw [if_neg h6] at ha; cases ha
end Go.Proofs.YtmjhcgjhlakceaaGreatDoor

namespace Go.Proofs.YtmjhcgjhlakceaaGreatDoor
open Go.RowKit
def begB (c : UInt8) : Bool := digC c || c == 45 || c == 34 || c == 121 || c == 110 || c == 91 || c == 123 || c == 126 || c == 63
theorem digits_head (u : Nat) : ∃ c r, Lib.decDigits u = c :: r /\ digC c = true := by
 cases h : Lib.decDigits u with
 | nil => exact absurd h (decDigits_ne u)
 | cons c r => exact ⟨c, r, rfl, decDigits_dig u c (by rw [h]; exact List.mem_cons_self ..)⟩
theorem itoa_head (m : Int) : ∃ c r, Lib.itoa m = c :: r /\ (digC c = true ∨ c = 45) := by
 unfold Lib.itoa
 split
 ·exact ⟨45, _, rfl, .inr rfl⟩
 ·obtain ⟨c, r, h1, h2⟩ := digits_head m.toNat
  exact ⟨c, r, h1, .inl h2⟩
theorem txtL_head (n : Nat) (t : T (n + 1)) : ∃ c r, txtL (n + 1) t = c :: r /\ begB c = true := by
 simp only [txtL]
 split
 ·obtain ⟨c, r, h1, h2⟩ := itoa_head (Nd.num t)
  refine ⟨c, r, h1, ?_⟩
  rcases h2 with h2 | h2
  ·simp [begB, h2]
  ·subst h2; decide
 split
 ·exact ⟨34, _, rfl, by decide⟩
 split
 ·split
  ·exact ⟨121, _, rfl, by decide⟩
  ·exact ⟨110, _, rfl, by decide⟩
 split
 ·cases Nd.kids t with
  | nil => exact ⟨126, _, rfl, by decide⟩
  | cons k r => exact ⟨63, _, rfl, by decide⟩
 split
 ·exact ⟨123, _, rfl, by decide⟩
 ·exact ⟨91, _, rfl, by decide⟩
theorem good_head (n : Nat) (t : T n) (d : Int) (h : goodT n t d = true) : ∃ c r, txtL n t = c :: r /\ begB c = true := by
 cases n with
 | zero => simp [goodT] at h
 | succ n => exact txtL_head n t
theorem beg_ne {c : UInt8} (h : begB c = true) : c ≠ 93 /\ c ≠ 125 /\ c ≠ 44 := by
 refine ⟨?_, ?_, ?_⟩ <;> (rintro rfl; exact absurd h (by decide))
theorem textB_bytes {s : ByteArray} (h : textB s = true) : ∀ c, c ∈ s.data.toList -> c ≠ 34 := by
 simp only [textB, Bool.and_eq_true] at h
 intro c hc
 have := List.all_eq_true.1 h.2 c hc
 rintro rfl
 exact absurd this (by decide)
theorem ba_empty {x : ByteArray} (h : x.toList.isEmpty = true) : x = ByteArray.empty :=
 (toList_nil_iff_emptyBytes x).1 (by simpa using h)
end Go.Proofs.YtmjhcgjhlakceaaGreatDoor

namespace Go.Proofs.YtmjhcgjhlakceaaGreatDoor
open Go.RowKit
def TextPost (w : World) (R : Nat) (s : ByteArray) (i : Nat) (bad : Bool) (e : Ending) (w' : World) : Prop :=
 Near R w w' /\ ((∃ x r, untilP 34 (s.data.toList.drop (i + 1)) = some (x, r) /\ e = .returned (.string (bs x)) /\ RdS w' R s ((i + 1 + x.length + 1 : Nat) : Int) bad /\ i + 1 + x.length + 1 <= s.size) ∨
  (untilP 34 (s.data.toList.drop (i + 1)) = none /\ ∃ x, x.size <= 10000 /\ e = .returned (.string x) /\ RdS w' R s (s.size : Int) true))
set_option maxRecDepth 20000 in
set_option maxHeartbeats 1000000 in
theorem text_any (w : World) (R : Nat) (s : ByteArray) (i : Nat) (bad : Bool) (h : RdS w R s i bad) (hs : s.size <= 10000) (hi : i < s.size) (h0 : s[i] = 34) :
  Calls Tryz.prog 66 #[.pointer (some ⟨R, 0, none⟩)] w (TextPost w R s i bad) := by
 have HE : Hid (eatP [34] (s.data.toList.drop i) = some (s.data.toList.drop (i + 1))) := by
  show _ = _
  rw [drop_at s i hi, h0]; exact eatP_one_cons _ _
 go_enter Tryz.func66, Tryz.ntmps66
 go_wp2_with fail
 refine (eat_any _ R s ⟨#[34]⟩ i bad h hs (by decide) (by omega)).mono ?_
 rintro e w1 ⟨rfl, hn1, ⟨-, -, h1⟩ | ⟨hno, -⟩⟩
 case inr => exact absurd (HE.out.symm.trans hno) (by simp)
 have h1 : RdS w1 R s ((i + 1 : Nat) : Int) bad := h1
 have c0 := h1.cell0
 have c1 := h1.cell1
 have c2 := h1.cell2
 go_wp2_with fail
 go_loopw [14] (fun _ wr => ∃ k : Nat, i + 1 + k <= s.size /\ RdS wr R s ((i + 1 + k : Nat) : Int) bad /\ Near R w wr /\ ∀ x, x ∈ (s.data.toList.drop (i + 1)).take k -> x ≠ 34) (fun _ wr => s.size - atOf wr R)
 case atStart => exact ⟨0, by omega, h1, hn1, by simp⟩
 case round =>
  obtain ⟨k, hk, hr, hnr, hall⟩ := hrel
  have d0 := hr.cell0
  have d1 := hr.cell1
  have d2 := hr.cell2
  have df := hr.free 1
  have HR : Hid (RdS wr R s ((i + 1 + k : Nat) : Int) bad /\ Near R w wr) := ⟨hr, hnr⟩
  clear hr hnr c0 c1 c2 h1 hn1 HE h h0
  generalize hj : i + 1 + k = j at *
  by_cases hlt : j < s.size
  ·have hd : decide ((j : Int) < (s.size : Int)) = true := by simp; omega
   have hlt' : (j : Int) < (s.size : Int) := by omega
   have hj0 : (0 : Int) <= (j : Int) := by omega
   by_cases hq : s[j] = 34
   ·have hq' : (((s[j]).toNat : Int) == 34) = true := by rw [hq]; rfl
    have HU : Hid (untilP 34 (s.data.toList.drop (i + 1)) = some ((s.data.toList.drop (i + 1)).take k, (s.data.toList.drop (i + 1)).drop k)) :=
     untilP_at 34 _ k hall (by rw [List.drop_drop, List.drop_drop, hj, <- Nat.add_assoc, hj, drop_at s j hlt, hq])
    have HE : Hid (eatP [34] (s.data.toList.drop j) = some (s.data.toList.drop (j + 1))) := by
     show _ = _
     rw [drop_at s j hlt, hq]; exact eatP_one_cons _ _
    have HX : Hid (s.extract (i + 1) j = bs ((s.data.toList.drop (i + 1)).take k)) := by show _ = _; rw [<- hj]; exact extract_bs s (i + 1) k
    have hl : ((s.data.toList.drop (i + 1)).take k).length = k := by simp; omega
    clear hall
    go_wp2_with fail
    go_quiet (fail)
    go_wp2_with fail
    refine (eat_any _ R s ⟨#[34]⟩ j bad (HR.out.1.drewN _) hs (by decide) (by omega)).mono ?_
    rintro e w2 ⟨rfl, hn2, ⟨-, hsz, h2⟩ | ⟨hno, -⟩⟩
    case inr => exact absurd (HE.out.symm.trans hno) (by simp)
    have c0 := h2.cell0
    have HS : Hid (RdS w2 R s ((j + 1 : Nat) : Int) bad /\ Near R w w2) := ⟨h2, (HR.out.2.drewN _).trans hn2⟩
    clear h2 hn2 d0 d1 d2 df
    go_wp2_with fail
    go_ret
    exact ⟨HS.out.2, .inl ⟨_, _, HU.out, str_ret HX.out, by rw [hl, hj]; exact HS.out.1, by rw [hl, hj]; exact hsz⟩⟩
   ·have hq' : (((s[j]).toNat : Int) == 34) = false := by
     rw [beq_eq_false_iff_ne]
     intro h; apply hq; apply UInt8.toNat_inj.1
     have h34 : (34 : UInt8).toNat = 34 := rfl
     omega
    have HA : Hid (∀ x, x ∈ (s.data.toList.drop (i + 1)).take (k + 1) -> x ≠ 34) := take_more s (i + 1) k 34 (by omega) hall (by simpa only [hj] using hq)
    have hw : IntKind.i64.wrap ((j : Int) + 1) = (j : Int) + 1 := by rw [IntKind.wrap_i64]; omega
    clear hall
    go_wp2_with fail
    go_quiet (fail)
    go_wp2_with fail
    have HS := ((HR.out.1.drewN nq).set1 ((j : Int) + 1))
    go_roundw
    case rel => exact ⟨k + 1, by omega, by rw [show ((i + 1 + (k + 1) : Nat) : Int) = (j : Int) + 1 by omega]; exact HS, (HR.out.2.drewN nq).trans (Near.set R 1 _ _), HA.out⟩
    case measure => rw [HS.atOf, HR.out.1.atOf]; omega
  ·have hd : decide ((j : Int) < (s.size : Int)) = false := by simp; omega
   have HJ : Hid (j = s.size) := by show _ = _; omega
   have HU : Hid (untilP 34 (s.data.toList.drop (i + 1)) = none) := untilP_never 34 _ (by rw [List.take_of_length_le (by simp; omega)] at hall; exact hall)
   have HE : Hid (eatP [34] (s.data.toList.drop j) = none) := by
    show _ = _
    rw [List.drop_of_length_le (by simp; omega)]; rfl
   have hx : (s.extract (i + 1) j).size <= 10000 := by simp [ByteArray.size_extract]; omega
   have hj2 : (j : Int) <= (s.size : Int) := by omega
   clear hall
   go_wp2_with fail
   go_quiet (fail)
   go_wp2_with fail
   refine (eat_any _ R s ⟨#[34]⟩ j bad (HR.out.1.drewN _) hs (by decide) (by omega)).mono ?_
   rintro e w2 ⟨rfl, hn2, ⟨hyes, -, -⟩ | ⟨-, h2⟩⟩
   case inl => exact absurd (HE.out.symm.trans hyes) (by simp)
   have c0 := h2.cell0
   have HS : Hid (RdS w2 R s (j : Int) true /\ Near R w w2) := ⟨h2, (HR.out.2.drewN _).trans hn2⟩
   clear h2 hn2 d0 d1 d2 df
   go_wp2_with fail
   go_ret
   exact ⟨HS.out.2, .inr ⟨HU.out, _, hx, rfl, by rw [<- HJ.out]; exact HS.out.1⟩⟩
end Go.Proofs.YtmjhcgjhlakceaaGreatDoor

namespace Go.Proofs.YtmjhcgjhlakceaaGreatDoor
open Go.RowKit
theorem decVal_snoc (l : List UInt8) (c : UInt8) : decVal (l ++ [c]) = decVal l * 10 + (c.toNat - 48) := by
 unfold decVal; rw [List.foldl_append]; rfl
theorem dig_bounds {c : UInt8} (h : digC c = true) : 48 <= c.toNat /\ c.toNat <= 57 := by
 simp only [digC, decide_eq_true_eq] at h; omega
theorem decFold_lt (l : List UInt8) (h : ∀ c, c ∈ l -> digC c = true) (a : Nat) : l.foldl (fun a c => a * 10 + (c.toNat - 48)) a < (a + 1) * 10 ^ l.length := by
 induction l generalizing a with
 | nil => simp
 | cons c l ih =>
  have h1 := ih (fun x hx => h x (List.mem_cons_of_mem _ hx)) (a * 10 + (c.toNat - 48))
  have h2 := dig_bounds (h c (List.mem_cons_self ..))
  rw [List.foldl_cons, List.length_cons, Nat.pow_succ]
  refine Nat.lt_of_lt_of_le h1 ?_
  have h3 : a * 10 + (c.toNat - 48) + 1 <= (a + 1) * 10 := by omega
  calc (a * 10 + (c.toNat - 48) + 1) * 10 ^ l.length <= ((a + 1) * 10) * 10 ^ l.length := Nat.mul_le_mul_right _ h3
   _ = (a + 1) * (10 ^ l.length * 10) := by rw [Nat.mul_assoc, Nat.mul_comm 10 (10 ^ l.length)]
theorem decVal_lt (l : List UInt8) (h : ∀ c, c ∈ l -> digC c = true) : decVal l < 10 ^ l.length := by
 have := decFold_lt l h 0
 unfold decVal; omega
theorem decVal_lt10 (l : List UInt8) (h : ∀ c, c ∈ l -> digC c = true) (hl : l.length <= 10) : decVal l < 10000000000 := by
 have h1 := decVal_lt l h
 have h2 : 10 ^ l.length <= 10 ^ 10 := Nat.pow_le_pow_right (by decide) hl
 omega
theorem dig_of_look (s : ByteArray) (j : Nat) : digC (lookB s j) = true -> j < s.size := by
 intro h
 exact Classical.byContradiction fun hn => by rw [lookB_out s j (by omega)] at h; exact absurd h (by decide)
def NumPost (w : World) (R : Nat) (s : ByteArray) (bad : Bool) (neg : Bool) (F : Nat) (e : Ending) (w' : World) : Prop :=
 Near R w w' /\ ∃ k, k <= 10 /\ F + k <= s.size /\ (∀ c, c ∈ (s.data.toList.drop F).take k -> digC c = true) /\ (k = 10 ∨ digC (lookB s (F + k)) = false) /\
  e = .returned (.int .i64 (if neg = true then -(decVal ((s.data.toList.drop F).take k) : Int) else (decVal ((s.data.toList.drop F).take k) : Int))) /\ RdS w' R s ((F + k : Nat) : Int) (bad || k == 0)
theorem take_val (s : ByteArray) (F k : Nat) (h : F + k < s.size) : decVal ((s.data.toList.drop F).take (k + 1)) = decVal ((s.data.toList.drop F).take k) * 10 + (s[F + k].toNat - 48) := by
 have hl : k < (s.data.toList.drop F).length := by simp; omega
 rw [List.take_succ_eq_append_getElem hl, decVal_snoc]
 simp [ByteArray.getElem_eq_getElem_data]
set_option maxRecDepth 20000 in
set_option maxHeartbeats 2000000 in
theorem num_neg (w : World) (R : Nat) (s : ByteArray) (i : Nat) (bad : Bool) (h : RdS w R s i bad) (hs : s.size <= 10000) (hi : i < s.size) (hneg : lookB s i = 45) :
  Calls Tryz.prog 35 #[.pointer (some ⟨R, 0, none⟩)] w (NumPost w R s bad true (i + 1)) := by
 have HL : Hid (Calls Tryz.prog 65 #[.pointer (some ⟨R, 0, none⟩)] w fun e w' => e = .returned (.int .u8 ((lookB s i).toNat : Int)) /\ ∃ m', w' = w.drewN m') := look_any w R s i bad h
 rw [hneg] at HL
 have hw : IntKind.i64.wrap ((i : Int) + 1) = (i : Int) + 1 := by rw [IntKind.wrap_i64]; omega
 have c0 := h.cell0
 have c1 := h.cell1
 have c2 := h.cell2
 have f1 := h.free 1
 have h1 := fun m => (h.drewN m).set1 ((i : Int) + 1)
 have n1 : ∀ m, Near R w ((w.drewN m).setCell ⟨R, 1, none⟩ (.int .i64 ((i : Int) + 1))) := fun m => ((Near.refl R w).drewN m).trans (Near.set R 1 _ _)
 go_enter Tryz.func35, Tryz.ntmps35
 go_wp2_with (go_at_call 65; refine HL.out.mono ?_; rintro e w' ⟨rfl, nq, rfl⟩)
 go_loopw [5] (fun v wr => ∃ k : Nat, k <= 10 /\ (i + 1) + k <= s.size /\ v = .int .i64 (decVal ((s.data.toList.drop (i + 1)).take k) : Int) /\ RdS wr R s (((i + 1) + k : Nat) : Int) bad /\ Near R w wr /\ ∀ x, x ∈ (s.data.toList.drop (i + 1)).take k -> digC x = true) (fun _ wr => s.size - atOf wr R)
 case atStart => exact ⟨0, by omega, by omega, rfl, by simpa using (h1 _), n1 _, by simp⟩
 case round =>
  obtain ⟨k, hk10, hk, rfl, hr, hnr, hall⟩ := hrel
  have hlen : ((s.data.toList.drop (i + 1)).take k).length <= 10 := by simp; omega
  have hval := decVal_lt10 _ hall hlen
  have d0 := hr.cell0
  have d1 := hr.cell1
  have d2 := hr.cell2
  have df := hr.free 1
  have df2 := hr.free 2
  have HR : Hid (RdS wr R s (((i + 1) + k : Nat) : Int) bad /\ Near R w wr) := ⟨hr, hnr⟩
  clear hr hnr c0 c1 c2 f1 h HL h1 n1
  generalize hV : decVal ((s.data.toList.drop (i + 1)).take k) = V at *
  generalize hj : (i + 1) + k = j at *
  have HM : Hid (∀ m, Calls Tryz.prog 65 #[.pointer (some ⟨R, 0, none⟩)] (wr.drewN m) fun e w' => e = .returned (.int .u8 ((lookB s j).toNat : Int)) /\ ∃ m', w' = wr.drewN m') := fun m =>
   (look_any (wr.drewN m) R s j bad (HR.out.1.drewN m)).mono fun e w' ⟨he, k, hk⟩ => ⟨he, m + k, by rw [hk, World.drewN_drewN]⟩
  have HM0 : Hid (Calls Tryz.prog 65 #[.pointer (some ⟨R, 0, none⟩)] wr fun e w' => e = .returned (.int .u8 ((lookB s j).toNat : Int)) /\ ∃ m', w' = wr.drewN m') := HM.out 0
  have hb0 : (0 : Int) <= ((lookB s j).toNat : Int) := by omega
  have hb1 : ((lookB s j).toNat : Int) <= 255 := by have := (lookB s j).toNat_lt; omega
  by_cases hgo : digC (lookB s j) = true /\ k < 10
  ·obtain ⟨hdg, hk9⟩ := hgo
   have hlt := dig_of_look s j hdg
   have HA : Hid (∀ x, x ∈ (s.data.toList.drop (i + 1)).take (k + 1) -> digC x = true) := take_more' s (i + 1) k digC (by omega) hall (by rw [lookB_in s j hlt] at hdg; simpa only [hj] using hdg)
   have HV : Hid (decVal ((s.data.toList.drop (i + 1)).take (k + 1)) = V * 10 + ((lookB s j).toNat - 48)) := by
    show _ = _
    rw [take_val s (i + 1) k (by omega), hV, lookB_in s j hlt]; simp only [hj]
   have q := dig_bounds hdg
   have hw : IntKind.i64.wrap ((j : Int) + 1) = (j : Int) + 1 := by rw [IntKind.wrap_i64]; omega
   clear hall hdg
   generalize (lookB s j).toNat = c at *
   have q1 : (48 : Int) <= (c : Int) := by omega
   have q2 : (c : Int) <= 57 := by omega
   have q3 : (j : Int) < ((i : Int) + 1) + 10 := by omega
   have hw1 : IntKind.i64.wrap (((i : Int) + 1) + 10) = ((i : Int) + 1) + 10 := by rw [IntKind.wrap_i64]; omega
   have hw2 : IntKind.i64.wrap ((V : Int) * 10) = (V : Int) * 10 := by rw [IntKind.wrap_i64]; omega
   have hw3 : IntKind.u8.wrap ((c : Int) - 48) = (c : Int) - 48 := by rw [IntKind.wrap_u8]; omega
   have hw4 : IntKind.i64.wrap ((c : Int) - 48) = (c : Int) - 48 := by rw [IntKind.wrap_i64]; omega
   have hw5 : IntKind.i64.wrap ((V : Int) * 10 + ((c : Int) - 48)) = (V : Int) * 10 + ((c : Int) - 48) := by rw [IntKind.wrap_i64]; omega
   go_wp2_with (go_at_call 65; (first | refine HM0.out.mono ?_ | refine (HM.out _).mono ?_); rintro e w' ⟨rfl, nq, rfl⟩)
   have HS := fun nq => ((HR.out.1.drewN nq).set1 ((j : Int) + 1))
   go_roundw
   case rel => exact ⟨k + 1, by omega, by omega, by rw [HV.out]; congr 1; omega, by rw [show (((i + 1) + (k + 1) : Nat) : Int) = (j : Int) + 1 by omega]; exact HS _, (HR.out.2.drewN _).trans (Near.set R 1 _ _), HA.out⟩
   case measure => rw [(HS _).atOf, HR.out.1.atOf]; omega
  ·have HX : Hid (k = 10 ∨ digC (lookB s j) = false) := by
    show _ ∨ _
    cases hdg : digC (lookB s j) with
    | false => exact .inr rfl
    | true => exact .inl (by have h9 : ¬ k < 10 := fun h => hgo ⟨hdg, h⟩; omega)
   have HA := hidF hall
   have hcases : ((lookB s j).toNat : Int) < 48 ∨ 57 < ((lookB s j).toNat : Int) ∨ (48 <= ((lookB s j).toNat : Int) /\ ((lookB s j).toNat : Int) <= 57 /\ k = 10) := by
    rcases HX.out with h | h
    ·omega
    ·simp only [digC, decide_eq_false_iff_not] at h; omega
   have HV := hidF hV
   have HJ : Hid ((i + 1) + k = j) := hj
   have hw0 : IntKind.i64.wrap (-(V : Int)) = -(V : Int) := by rw [IntKind.wrap_i64]; omega
   have hw1 : IntKind.i64.wrap (((i : Int) + 1) + 10) = ((i : Int) + 1) + 10 := by rw [IntKind.wrap_i64]; omega
   have HZ : Hid (k = 0 ∨ ¬ k = 0) := Classical.em _
   have e0 : k = 0 -> (((j : Nat) : Int) == ((i : Int) + 1)) = true := fun h => by simp; omega
   have e1 : ¬ k = 0 -> (((j : Nat) : Int) == ((i : Int) + 1)) = false := fun h => by simp; omega
   have e2 : k = 10 -> ¬ ((j : Nat) : Int) < ((i : Int) + 1) + 10 := fun h => by omega
   clear hall hgo hV hj
   generalize (lookB s j).toNat = c at *
   rcases HZ.out with hz | hz
   ·have e := e0 hz
    have h10 : ¬ k = 10 := by omega
    have HB : Hid ((bad || k == 0) = true) := by show _ = _; rw [hz]; simp
    clear e0 e1 e2 hz HZ
    rcases hcases with q1 | q1 | ⟨q1, q2, q3⟩
    case inr.inr => exact absurd q3 h10
    all_goals
     go_wp2_with (go_at_call 65; (first | refine HM0.out.mono ?_ | refine (HM.out _).mono ?_); rintro e w' ⟨rfl, nq, rfl⟩)
     go_ret
     refine ⟨((HR.out.2.drewN _).trans (Near.set R 2 _ _)), k, hk10, by rw [HJ.out]; exact hk, HA.out, by rw [HJ.out]; exact HX.out, by rw [HV.out]; rfl, ?_⟩
     rw [HB.out, HJ.out]; exact (HR.out.1.drewN _).set2 true
   ·have e := e1 hz
    have HB : Hid ((bad || k == 0) = bad) := by show _ = _; simp [hz]
    clear e0 e1 hz HZ
    rcases hcases with q1 | q1 | ⟨q1, q2, q3⟩
    case inr.inr =>
     have q4 := e2 q3
     clear e2 q3
     go_wp2_with (go_at_call 65; (first | refine HM0.out.mono ?_ | refine (HM.out _).mono ?_); rintro e w' ⟨rfl, nq, rfl⟩)
     go_ret
     refine ⟨HR.out.2.drewN _, k, hk10, by rw [HJ.out]; exact hk, HA.out, by rw [HJ.out]; exact HX.out, by rw [HV.out]; rfl, ?_⟩
     rw [HB.out, HJ.out]; exact HR.out.1.drewN _
    all_goals
     clear e2
     go_wp2_with (go_at_call 65; (first | refine HM0.out.mono ?_ | refine (HM.out _).mono ?_); rintro e w' ⟨rfl, nq, rfl⟩)
     go_ret
     refine ⟨HR.out.2.drewN _, k, hk10, by rw [HJ.out]; exact hk, HA.out, by rw [HJ.out]; exact HX.out, by rw [HV.out]; rfl, ?_⟩
     rw [HB.out, HJ.out]; exact HR.out.1.drewN _
set_option maxRecDepth 20000 in
set_option maxHeartbeats 2000000 in
theorem num_pos (w : World) (R : Nat) (s : ByteArray) (i : Nat) (bad : Bool) (h : RdS w R s i bad) (hs : s.size <= 10000) (hi : i <= s.size) (hneg : ¬ lookB s i = 45) :
  Calls Tryz.prog 35 #[.pointer (some ⟨R, 0, none⟩)] w (NumPost w R s bad false i) := by
 have HL : Hid (Calls Tryz.prog 65 #[.pointer (some ⟨R, 0, none⟩)] w fun e w' => e = .returned (.int .u8 ((lookB s i).toNat : Int)) /\ ∃ m', w' = w.drewN m') := look_any w R s i bad h
 have hng : (((lookB s i).toNat : Int) == 45) = false := by
  rw [beq_eq_false_iff_ne]
  intro e; apply hneg; apply UInt8.toNat_inj.1
  have h45 : (45 : UInt8).toNat = 45 := rfl
  omega
 have c0 := h.cell0
 have c1 := h.cell1
 have c2 := h.cell2
 have f1 := h.free 1
 have h1 := fun m => h.drewN m
 have n1 : ∀ m, Near R w (w.drewN m) := fun m => (Near.refl R w).drewN m
 go_enter Tryz.func35, Tryz.ntmps35
 go_wp2_with (go_at_call 65; refine HL.out.mono ?_; rintro e w' ⟨rfl, nq, rfl⟩)
 go_loopw [5] (fun v wr => ∃ k : Nat, k <= 10 /\ i + k <= s.size /\ v = .int .i64 (decVal ((s.data.toList.drop i).take k) : Int) /\ RdS wr R s ((i + k : Nat) : Int) bad /\ Near R w wr /\ ∀ x, x ∈ (s.data.toList.drop i).take k -> digC x = true) (fun _ wr => s.size - atOf wr R)
 case atStart => exact ⟨0, by omega, by omega, rfl, by simpa using (h1 _), n1 _, by simp⟩
 case round =>
  obtain ⟨k, hk10, hk, rfl, hr, hnr, hall⟩ := hrel
  have hlen : ((s.data.toList.drop i).take k).length <= 10 := by simp; omega
  have hval := decVal_lt10 _ hall hlen
  have d0 := hr.cell0
  have d1 := hr.cell1
  have d2 := hr.cell2
  have df := hr.free 1
  have df2 := hr.free 2
  have HR : Hid (RdS wr R s ((i + k : Nat) : Int) bad /\ Near R w wr) := ⟨hr, hnr⟩
  clear hr hnr c0 c1 c2 f1 h HL h1 n1
  generalize hV : decVal ((s.data.toList.drop i).take k) = V at *
  generalize hj : i + k = j at *
  have HM : Hid (∀ m, Calls Tryz.prog 65 #[.pointer (some ⟨R, 0, none⟩)] (wr.drewN m) fun e w' => e = .returned (.int .u8 ((lookB s j).toNat : Int)) /\ ∃ m', w' = wr.drewN m') := fun m =>
   (look_any (wr.drewN m) R s j bad (HR.out.1.drewN m)).mono fun e w' ⟨he, k, hk⟩ => ⟨he, m + k, by rw [hk, World.drewN_drewN]⟩
  have HM0 : Hid (Calls Tryz.prog 65 #[.pointer (some ⟨R, 0, none⟩)] wr fun e w' => e = .returned (.int .u8 ((lookB s j).toNat : Int)) /\ ∃ m', w' = wr.drewN m') := HM.out 0
  have hb0 : (0 : Int) <= ((lookB s j).toNat : Int) := by omega
  have hb1 : ((lookB s j).toNat : Int) <= 255 := by have := (lookB s j).toNat_lt; omega
  by_cases hgo : digC (lookB s j) = true /\ k < 10
  ·obtain ⟨hdg, hk9⟩ := hgo
   have hlt := dig_of_look s j hdg
   have HA : Hid (∀ x, x ∈ (s.data.toList.drop i).take (k + 1) -> digC x = true) := take_more' s i k digC (by omega) hall (by rw [lookB_in s j hlt] at hdg; simpa only [hj] using hdg)
   have HV : Hid (decVal ((s.data.toList.drop i).take (k + 1)) = V * 10 + ((lookB s j).toNat - 48)) := by
    show _ = _
    rw [take_val s i k (by omega), hV, lookB_in s j hlt]; simp only [hj]
   have q := dig_bounds hdg
   have hw : IntKind.i64.wrap ((j : Int) + 1) = (j : Int) + 1 := by rw [IntKind.wrap_i64]; omega
   clear hall hdg
   generalize (lookB s j).toNat = c at *
   have q1 : (48 : Int) <= (c : Int) := by omega
   have q2 : (c : Int) <= 57 := by omega
   have q3 : (j : Int) < (i : Int) + 10 := by omega
   have hw1 : IntKind.i64.wrap ((i : Int) + 10) = (i : Int) + 10 := by rw [IntKind.wrap_i64]; omega
   have hw2 : IntKind.i64.wrap ((V : Int) * 10) = (V : Int) * 10 := by rw [IntKind.wrap_i64]; omega
   have hw3 : IntKind.u8.wrap ((c : Int) - 48) = (c : Int) - 48 := by rw [IntKind.wrap_u8]; omega
   have hw4 : IntKind.i64.wrap ((c : Int) - 48) = (c : Int) - 48 := by rw [IntKind.wrap_i64]; omega
   have hw5 : IntKind.i64.wrap ((V : Int) * 10 + ((c : Int) - 48)) = (V : Int) * 10 + ((c : Int) - 48) := by rw [IntKind.wrap_i64]; omega
   go_wp2_with (go_at_call 65; (first | refine HM0.out.mono ?_ | refine (HM.out _).mono ?_); rintro e w' ⟨rfl, nq, rfl⟩)
   have HS := fun nq => ((HR.out.1.drewN nq).set1 ((j : Int) + 1))
   go_roundw
   case rel => exact ⟨k + 1, by omega, by omega, by rw [HV.out]; congr 1; omega, by rw [show ((i + (k + 1) : Nat) : Int) = (j : Int) + 1 by omega]; exact HS _, (HR.out.2.drewN _).trans (Near.set R 1 _ _), HA.out⟩
   case measure => rw [(HS _).atOf, HR.out.1.atOf]; omega
  ·have HX : Hid (k = 10 ∨ digC (lookB s j) = false) := by
    show _ ∨ _
    cases hdg : digC (lookB s j) with
    | false => exact .inr rfl
    | true => exact .inl (by have h9 : ¬ k < 10 := fun h => hgo ⟨hdg, h⟩; omega)
   have HA := hidF hall
   have hcases : ((lookB s j).toNat : Int) < 48 ∨ 57 < ((lookB s j).toNat : Int) ∨ (48 <= ((lookB s j).toNat : Int) /\ ((lookB s j).toNat : Int) <= 57 /\ k = 10) := by
    rcases HX.out with h | h
    ·omega
    ·simp only [digC, decide_eq_false_iff_not] at h; omega
   have HV := hidF hV
   have HJ : Hid (i + k = j) := hj
   have hw0 : IntKind.i64.wrap (-(V : Int)) = -(V : Int) := by rw [IntKind.wrap_i64]; omega
   have hw1 : IntKind.i64.wrap ((i : Int) + 10) = (i : Int) + 10 := by rw [IntKind.wrap_i64]; omega
   have HZ : Hid (k = 0 ∨ ¬ k = 0) := Classical.em _
   have e0 : k = 0 -> (((j : Nat) : Int) == (i : Int)) = true := fun h => by simp; omega
   have e1 : ¬ k = 0 -> (((j : Nat) : Int) == (i : Int)) = false := fun h => by simp; omega
   have e2 : k = 10 -> ¬ ((j : Nat) : Int) < (i : Int) + 10 := fun h => by omega
   clear hall hgo hV hj
   generalize (lookB s j).toNat = c at *
   rcases HZ.out with hz | hz
   ·have e := e0 hz
    have h10 : ¬ k = 10 := by omega
    have HB : Hid ((bad || k == 0) = true) := by show _ = _; rw [hz]; simp
    clear e0 e1 e2 hz HZ
    rcases hcases with q1 | q1 | ⟨q1, q2, q3⟩
    case inr.inr => exact absurd q3 h10
    all_goals
     go_wp2_with (go_at_call 65; (first | refine HM0.out.mono ?_ | refine (HM.out _).mono ?_); rintro e w' ⟨rfl, nq, rfl⟩)
     go_ret
     refine ⟨((HR.out.2.drewN _).trans (Near.set R 2 _ _)), k, hk10, by rw [HJ.out]; exact hk, HA.out, by rw [HJ.out]; exact HX.out, by rw [HV.out]; rfl, ?_⟩
     rw [HB.out, HJ.out]; exact (HR.out.1.drewN _).set2 true
   ·have e := e1 hz
    have HB : Hid ((bad || k == 0) = bad) := by show _ = _; simp [hz]
    clear e0 e1 hz HZ
    rcases hcases with q1 | q1 | ⟨q1, q2, q3⟩
    case inr.inr =>
     have q4 := e2 q3
     clear e2 q3
     go_wp2_with (go_at_call 65; (first | refine HM0.out.mono ?_ | refine (HM.out _).mono ?_); rintro e w' ⟨rfl, nq, rfl⟩)
     go_ret
     refine ⟨HR.out.2.drewN _, k, hk10, by rw [HJ.out]; exact hk, HA.out, by rw [HJ.out]; exact HX.out, by rw [HV.out]; rfl, ?_⟩
     rw [HB.out, HJ.out]; exact HR.out.1.drewN _
    all_goals
     clear e2
     go_wp2_with (go_at_call 65; (first | refine HM0.out.mono ?_ | refine (HM.out _).mono ?_); rintro e w' ⟨rfl, nq, rfl⟩)
     go_ret
     refine ⟨HR.out.2.drewN _, k, hk10, by rw [HJ.out]; exact hk, HA.out, by rw [HJ.out]; exact HX.out, by rw [HV.out]; rfl, ?_⟩
     rw [HB.out, HJ.out]; exact HR.out.1.drewN _
end Go.Proofs.YtmjhcgjhlakceaaGreatDoor

namespace Go.Proofs.YtmjhcgjhlakceaaGreatDoor
open Go.RowKit
theorem RowIn.map {α β : Type} {S : Nat -> Prop} {w : World} {R : α -> Value -> Value -> Value -> Value -> Value -> Prop} {R' : β -> Value -> Value -> Value -> Value -> Value -> Prop} {l : List α} {v : Value} (f : α -> β) (h : RowIn S w R l v)
  (hR : ∀ x c0 c1 c2 c3 c4, x ∈ l -> R x c0 c1 c2 c3 c4 -> R' (f x) c0 c1 c2 c3 c4) : RowIn S w R' (l.map f) v := by
 obtain ⟨ao, cap, hv, hl, hc⟩ := h
 refine ⟨ao, cap, by rw [hv, List.length_map], by rw [List.length_map]; exact hl, fun hne => ?_⟩
 obtain ⟨b, off, ha, hB, hcell⟩ := hc (by intro e; apply hne; rw [e]; rfl)
 refine ⟨b, off, ha, hB, fun i hi => ?_⟩
 have hi' : i < l.length := by simpa using hi
 obtain ⟨c0, c1, c2, c3, c4, h0, h1, h2, h3, h4, hr⟩ := hcell i hi'
 refine ⟨c0, c1, c2, c3, c4, h0, h1, h2, h3, h4, ?_⟩
 rw [List.getElem_map]
 exact hR _ _ _ _ _ _ (List.getElem_mem hi') hr
theorem nDigits_le : ∀ (k u : Nat), u < 10 ^ (k + 1) -> Lib.nDigits u <= k + 1
 | 0, u, h => by rw [Lib.nDigits_small (by simpa using h)]; omega
 | k + 1, u, h => by
  by_cases hu : u < 10
  ·rw [Lib.nDigits_small hu]; omega
  ·rw [Lib.nDigits_big hu]
   have := nDigits_le k (u / 10) (by rw [Nat.pow_succ] at h; omega)
   omega
theorem digits_read (l D post : List UInt8) (k : Nat) (he : l = D ++ post) (hD : ∀ c, c ∈ D -> digC c = true) (hl : D.length <= 9) (hp : noDig post = true) (hall : ∀ c, c ∈ l.take k -> digC c = true) (hk : k <= l.length)
  (hend : k = 10 ∨ digC ((l.drop k).headD 0) = false) : k = D.length := by
 subst he
 by_cases h1 : k < D.length
 ·exfalso
  rcases hend with h | h
  ·omega
  ·rw [List.drop_append_of_le_length (by omega), List.drop_eq_getElem_cons h1] at h
   simp only [List.cons_append, List.headD_cons] at h
   rw [hD _ (List.getElem_mem h1)] at h
   cases h
 ·by_cases h2 : D.length < k
  ·exfalso
   cases post with
   | nil => simp at hk; omega
   | cons c r =>
    have hc : digC c = false := by simpa [noDig] using hp
    have : digC c = true := by
     apply hall
     rw [List.take_append]
     apply List.mem_append_right
     have : k - D.length = (k - D.length - 1) + 1 := by omega
     rw [this, List.take_succ_cons]
     exact List.mem_cons_self ..
    rw [hc] at this
    cases this
  ·omega
theorem num_reads (s : ByteArray) (i k F : Nat) (neg : Bool) (m : Int) (post : List UInt8) (hm : -999999999 <= m /\ m <= 999999999) (he : s.data.toList.drop i = Lib.itoa m ++ post) (hp : noDig post = true)
  (hneg : neg = decide (lookB s i = 45)) (hF : F = if neg = true then i + 1 else i) (hsz : F + k <= s.size)
  (hall : ∀ c, c ∈ (s.data.toList.drop F).take k -> digC c = true) (hend : k = 10 ∨ digC (lookB s (F + k)) = false) :
  (if neg = true then -(decVal ((s.data.toList.drop F).take k) : Int) else (decVal ((s.data.toList.drop F).take k) : Int)) = m /\ F + k = i + (Lib.itoa m).length /\ ¬ k = 0 := by
 have key : ∀ (u : Nat), u <= 999999999 -> s.data.toList.drop F = Lib.decDigits u ++ post -> decVal ((s.data.toList.drop F).take k) = u /\ k = (Lib.decDigits u).length /\ ¬ k = 0 := by
  intro u hu hd
  have hlen : (Lib.decDigits u).length <= 9 := by rw [Lib.decDigits_length]; exact nDigits_le 8 u (by omega)
  have hk := digits_read _ _ post k hd (decDigits_dig u) hlen hp hall (by simp; omega) (by rw [List.drop_drop]; exact hend)
  refine ⟨?_, hk, ?_⟩
  ·rw [hd, hk, List.take_left, decVal_digits]
  ·have h0 := decDigits_ne u
   intro e
   rw [e] at hk
   exact h0 (List.eq_nil_of_length_eq_zero hk.symm)
 have hlook : lookB s i = (Lib.itoa m ++ post).headD 0 := by unfold lookB; rw [he]
 by_cases h0 : m < 0
 ·have hi : Lib.itoa m = 45 :: Lib.decDigits m.natAbs := by unfold Lib.itoa; rw [if_pos h0]
  rw [hi] at he hlook
  have hn : neg = true := by rw [hneg, hlook]; rfl
  rw [if_pos hn] at hF
  have hd : s.data.toList.drop F = Lib.decDigits m.natAbs ++ post := by
   rw [hF, <- List.drop_drop, he]; rfl
  obtain ⟨k1, k2, k3⟩ := key m.natAbs (by omega) hd
  refine ⟨by rw [if_pos hn, k1]; omega, ?_, k3⟩
  rw [hi, hF, List.length_cons, k2]; omega
 ·have hi : Lib.itoa m = Lib.decDigits m.toNat := by unfold Lib.itoa; rw [if_neg h0]
  rw [hi] at he hlook
  have hn : neg = false := by
   rw [hneg, hlook]
   obtain ⟨c, r, e, hc⟩ := digits_head m.toNat
   rw [e]
   simp only [List.cons_append, List.headD_cons]
   refine decide_eq_false ?_
   rintro rfl
   rw [digC_45] at hc; cases hc
  rw [hn] at hF
  simp only [Bool.false_eq_true, if_false] at hF
  have hd : s.data.toList.drop F = Lib.decDigits m.toNat ++ post := by rw [hF, he]
  obtain ⟨k1, k2, k3⟩ := key m.toNat (by omega) hd
  refine ⟨by rw [hn]; simp only [Bool.false_eq_true, if_false]; rw [k1]; omega, ?_, k3⟩
  rw [hi, hF, k2]
end Go.Proofs.YtmjhcgjhlakceaaGreatDoor

namespace Go.Proofs.YtmjhcgjhlakceaaGreatDoor
open Go.RowKit
theorem many_out {R n : Nat} {w Wb wr : World} {so : Int} {ns : List ByteArray} {ks : List (T n)} {nv kv : Value} {s : ByteArray} {i' : Nat} {b : Bool} (h : Many R (w.heap.size + 1) n Wb wr so ns ks nv kv) (hR : R < w.heap.size) (hwb : Near R w Wb)
  (hbs : Wb.heap.size = w.heap.size + 1) (hr : RdS wr R s i' b) (hso : (Lit.int .i64 so).wf = true) (hns : ns.length <= 20000) (hks : ks.length <= 20000) :
  Near R w (put5 (wr.setCell ⟨R, 1, none⟩ (.int .i64 ((i' : Int) + 1))) w.heap.size 0 (.int .i64 so) (.int .i64 0) (.string ByteArray.empty) nv kv) /\
  RdS (put5 (wr.setCell ⟨R, 1, none⟩ (.int .i64 ((i' : Int) + 1))) w.heap.size 0 (.int .i64 so) (.int .i64 0) (.string ByteArray.empty) nv kv) R s ((i' + 1 : Nat) : Int) b /\
  TreeIn (fun b => w.heap.size <= b /\ b < (put5 (wr.setCell ⟨R, 1, none⟩ (.int .i64 ((i' : Int) + 1))) w.heap.size 0 (.int .i64 so) (.int .i64 0) (.string ByteArray.empty) nv kv).heap.size)
   (put5 (wr.setCell ⟨R, 1, none⟩ (.int .i64 ((i' : Int) + 1))) w.heap.size 0 (.int .i64 so) (.int .i64 0) (.string ByteArray.empty) nv kv) (n + 1) (⟨so, 0, ByteArray.empty, ns, ks⟩ : Nd (T n)) (.int .i64 so) (.int .i64 0) (.string ByteArray.empty) nv kv := by
 have hX := h.lt
 have hz := h.near.size
 generalize hWf : put5 (wr.setCell ⟨R, 1, none⟩ (.int .i64 ((i' : Int) + 1))) w.heap.size 0 (.int .i64 so) (.int .i64 0) (.string ByteArray.empty) nv kv = Wf
 have hsz : Wf.heap.size = wr.heap.size := by rw [<- hWf, put5_size]; simp
 have q : ∀ b, b ≠ R -> b ≠ w.heap.size -> Wf.heap[b]? = wr.heap[b]? := fun b h1 h2 => by rw [<- hWf, put5_other h2, Below.heap_setCell _ _ _ _ h1]
 have hbl : Below 0 wr Wf := by
  rw [<- hWf]
  exact put5_below ((Below.refl 0 wr).setCell (Nat.zero_le _) _) (Nat.zero_le _)
 obtain ⟨xs, hxs, hk⟩ := h.kids
 refine ⟨⟨?_, ?_, ?_, by omega, fun b hb hne => ?_⟩, ?_, ?_⟩
 ·rw [hbl.os]; exact h.near.os.trans hwb.os
 ·rw [hbl.tape]; exact h.near.tape.trans hwb.tape
 ·rw [hbl.output]; exact h.near.output.trans hwb.output
 ·rw [q b hne (by omega)]
  exact (h.near.block b (by omega) hne).trans (hwb.block b hb hne)
 ·have := hr.set1 ((i' : Int) + 1)
  unfold RdS at this ⊢
  rw [<- hWf, put5_other (by omega)]
  exact this
 ·refine ⟨rfl, rfl, rfl, by simp [maxLen], hso, (by rfl : (Lit.int .i64 0).wf = true), ?_, ?_⟩
  ·refine strs_of_owns (owns_keep h.names fun g hg => ?_) hns h.short fun g hg => ?_
   ·have := owns_lt h.names g hg
    exact q g (by omega) (by omega)
   ·have := owns_lt h.names g hg
    exact ⟨by omega, by omega⟩
  ·refine row_of_owns (owns_keep hxs fun g hg => ?_) hks (fun g hg => ?_) fun j hj => ?_
   ·have := owns_lt hxs g hg
    exact q g (by omega) (by omega)
   ·have := owns_lt hxs g hg
    exact ⟨by omega, by omega⟩
   ·obtain ⟨c0, c1, c2, c3, c4, hc, ht⟩ := hk j hj
    refine ⟨c0, c1, c2, c3, c4, hc, ht.keep (fun b hb => ?_) (fun b hb => ?_)⟩
    ·have := hb.1
     exact q b (by omega) (by omega)
    ·have := hb.1
     have := hb.2.1
     exact ⟨by omega, by omega⟩
end Go.Proofs.YtmjhcgjhlakceaaGreatDoor
