/-
  Several texts in one, in their order.
-/
import Derived.Test.YtpnnbdejneoccaaGreatDoorB6
import Derived.Test.YtpnnbdejneoccaaGreatDoorDec
import Derived.WalkSmall
import Derived.LoopTactic
import Derived.Test.YtpnnbdejneoccaaGreatDoorB12
import Derived.Test.YtpnnbdejneoccaaGreatDoorRd3

/-
  The specification's reader of trees: text, name.
-/
namespace Go.Proofs.YtpnnbdejneoccaaGreatDoor
open Go.RowKit

/-- What text makes. -/
def TextPost (w : World) (R : Nat) (s : ByteArray) (i : Nat) (bad : Bool) (e : Ending) (w' : World) : Prop :=
  Near R w w' ∧ ((∃ x r, untilP 34 (s.data.toList.drop (i + 1)) = some (x, r) ∧ e = .returned (.string (bs x)) ∧ RdS w' R s ((i + 1 + x.length + 1 : Nat) : Int) bad ∧ i + 1 + x.length + 1 ≤ s.size) ∨
    (untilP 34 (s.data.toList.drop (i + 1)) = none ∧ ∃ x, x.size ≤ 10000 ∧ e = .returned (.string x) ∧ RdS w' R s (s.size : Int) true))

set_option maxRecDepth 20000 in
set_option maxHeartbeats 1000000 in
theorem text_any (w : World) (R : Nat) (s : ByteArray) (i : Nat) (bad : Bool) (h : RdS w R s i bad) (hs : s.size ≤ 10000) (hi : i < s.size) (h0 : s[i] = 34) :
    Calls Tryz.prog 21 #[.pointer (some ⟨R, 0, none⟩)] w (TextPost w R s i bad) := by
  have HE : Hid (eatP [34] (s.data.toList.drop i) = some (s.data.toList.drop (i + 1))) := by
    show _ = _
    rw [drop_at s i hi, h0]; exact eatP_one_cons _ _
  go_enter Tryz.func21, Tryz.ntmps21
  go_wp2_with fail
  refine (eat_any _ R s ⟨#[34]⟩ i bad h hs (by decide) (by omega)).mono ?_
  rintro e w1 ⟨rfl, hn1, ⟨-, -, h1⟩ | ⟨hno, -⟩⟩
  case inr => exact absurd (HE.out.symm.trans hno) (by simp)
  have h1 : RdS w1 R s ((i + 1 : Nat) : Int) bad := h1
  have c0 := h1.cell0
  have c1 := h1.cell1
  have c2 := h1.cell2
  go_wp2_with fail
  go_loopw [14] (fun _ wr => ∃ k : Nat, i + 1 + k ≤ s.size ∧ RdS wr R s ((i + 1 + k : Nat) : Int) bad ∧ Near R w wr ∧ ∀ x, x ∈ (s.data.toList.drop (i + 1)).take k → x ≠ 34) (fun _ wr => s.size - atOf wr R)
  case atStart => exact ⟨0, by omega, h1, hn1, by simp⟩
  case round =>
    obtain ⟨k, hk, hr, hnr, hall⟩ := hrel
    have d0 := hr.cell0
    have d1 := hr.cell1
    have d2 := hr.cell2
    have df := hr.free 1
    have HR : Hid (RdS wr R s ((i + 1 + k : Nat) : Int) bad ∧ Near R w wr) := ⟨hr, hnr⟩
    clear hr hnr c0 c1 c2 h1 hn1 HE h h0
    generalize hj : i + 1 + k = j at *
    by_cases hlt : j < s.size
    · have hd : decide ((j : Int) < (s.size : Int)) = true := by simp; omega
      have hlt' : (j : Int) < (s.size : Int) := by omega
      have hj0 : (0 : Int) ≤ (j : Int) := by omega
      by_cases hq : s[j] = 34
      · have hq' : (((s[j]).toNat : Int) == 34) = true := by rw [hq]; rfl
        have HU : Hid (untilP 34 (s.data.toList.drop (i + 1)) = some ((s.data.toList.drop (i + 1)).take k, (s.data.toList.drop (i + 1)).drop k)) :=
          untilP_at 34 _ k hall (by rw [List.drop_drop, List.drop_drop, hj, ← Nat.add_assoc, hj, drop_at s j hlt, hq])
        have HE : Hid (eatP [34] (s.data.toList.drop j) = some (s.data.toList.drop (j + 1))) := by
          show _ = _
          rw [drop_at s j hlt, hq]; exact eatP_one_cons _ _
        have HX : Hid (s.extract (i + 1) j = bs ((s.data.toList.drop (i + 1)).take k)) := by show _ = _; rw [← hj]; exact extract_bs s (i + 1) k
        have hl : ((s.data.toList.drop (i + 1)).take k).length = k := by simp; omega
        clear hall
        go_wp2_with fail
        go_quiet (fail)
        go_wp2_with fail
        refine (eat_any _ R s ⟨#[34]⟩ j bad (HR.out.1.drewN _) hs (by decide) (by omega)).mono ?_
        rintro e w2 ⟨rfl, hn2, ⟨-, hsz, h2⟩ | ⟨hno, -⟩⟩
        case inr => exact absurd (HE.out.symm.trans hno) (by simp)
        have c0 := h2.cell0
        have HS : Hid (RdS w2 R s ((j + 1 : Nat) : Int) bad ∧ Near R w w2) := ⟨h2, (HR.out.2.drewN _).trans hn2⟩
        clear h2 hn2 d0 d1 d2 df
        go_wp2_with fail
        go_ret
        exact ⟨HS.out.2, .inl ⟨_, _, HU.out, str_ret HX.out, by rw [hl, hj]; exact HS.out.1, by rw [hl, hj]; exact hsz⟩⟩
      · have hq' : (((s[j]).toNat : Int) == 34) = false := by
          rw [beq_eq_false_iff_ne]
          intro h; apply hq; apply UInt8.toNat_inj.1
          have h34 : (34 : UInt8).toNat = 34 := rfl
          omega
        have HA : Hid (∀ x, x ∈ (s.data.toList.drop (i + 1)).take (k + 1) → x ≠ 34) := take_more s (i + 1) k 34 (by omega) hall (by simpa only [hj] using hq)
        have hw : IntKind.i64.wrap ((j : Int) + 1) = (j : Int) + 1 := by rw [IntKind.wrap_i64]; omega
        clear hall
        go_wp2_with fail
        go_quiet (fail)
        go_wp2_with fail
        have HS := ((HR.out.1.drewN nq).set1 ((j : Int) + 1))
        go_roundw
        case rel => exact ⟨k + 1, by omega, by rw [show ((i + 1 + (k + 1) : Nat) : Int) = (j : Int) + 1 by omega]; exact HS, (HR.out.2.drewN nq).trans (Near.set R 1 _ _), HA.out⟩
        case measure => rw [HS.atOf, HR.out.1.atOf]; omega
    · have hd : decide ((j : Int) < (s.size : Int)) = false := by simp; omega
      have HJ : Hid (j = s.size) := by show _ = _; omega
      have HU : Hid (untilP 34 (s.data.toList.drop (i + 1)) = none) := untilP_never 34 _ (by rw [List.take_of_length_le (by simp; omega)] at hall; exact hall)
      have HE : Hid (eatP [34] (s.data.toList.drop j) = none) := by
        show _ = _
        rw [List.drop_of_length_le (by simp; omega)]; rfl
      have hx : (s.extract (i + 1) j).size ≤ 10000 := by simp [ByteArray.size_extract]; omega
      have hj2 : (j : Int) ≤ (s.size : Int) := by omega
      clear hall
      go_wp2_with fail
      go_quiet (fail)
      go_wp2_with fail
      refine (eat_any _ R s ⟨#[34]⟩ j bad (HR.out.1.drewN _) hs (by decide) (by omega)).mono ?_
      rintro e w2 ⟨rfl, hn2, ⟨hyes, -, -⟩ | ⟨-, h2⟩⟩
      case inl => exact absurd (HE.out.symm.trans hyes) (by simp)
      have c0 := h2.cell0
      have HS : Hid (RdS w2 R s (j : Int) true ∧ Near R w w2) := ⟨h2, (HR.out.2.drewN _).trans hn2⟩
      clear h2 hn2 d0 d1 d2 df
      go_wp2_with fail
      go_ret
      exact ⟨HS.out.2, .inr ⟨HU.out, _, hx, rfl, by rw [← HJ.out]; exact HS.out.1⟩⟩

end Go.Proofs.YtpnnbdejneoccaaGreatDoor

/-
  The specification's reader of trees: num.
-/
namespace Go.Proofs.YtpnnbdejneoccaaGreatDoor
open Go.RowKit

theorem decVal_snoc (l : List UInt8) (c : UInt8) : decVal (l ++ [c]) = decVal l * 10 + (c.toNat - 48) := by
  unfold decVal; rw [List.foldl_append]; rfl

theorem dig_bounds {c : UInt8} (h : digC c = true) : 48 ≤ c.toNat ∧ c.toNat ≤ 57 := by
  simp only [digC, decide_eq_true_eq] at h; omega

theorem decFold_lt (l : List UInt8) (h : ∀ c, c ∈ l → digC c = true) (a : Nat) : l.foldl (fun a c => a * 10 + (c.toNat - 48)) a < (a + 1) * 10 ^ l.length := by
  induction l generalizing a with
  | nil => simp
  | cons c l ih =>
    have h1 := ih (fun x hx => h x (List.mem_cons_of_mem _ hx)) (a * 10 + (c.toNat - 48))
    have h2 := dig_bounds (h c (List.mem_cons_self ..))
    rw [List.foldl_cons, List.length_cons, Nat.pow_succ]
    refine Nat.lt_of_lt_of_le h1 ?_
    have h3 : a * 10 + (c.toNat - 48) + 1 ≤ (a + 1) * 10 := by omega
    calc (a * 10 + (c.toNat - 48) + 1) * 10 ^ l.length ≤ ((a + 1) * 10) * 10 ^ l.length := Nat.mul_le_mul_right _ h3
      _ = (a + 1) * (10 ^ l.length * 10) := by rw [Nat.mul_assoc, Nat.mul_comm 10 (10 ^ l.length)]

theorem decVal_lt (l : List UInt8) (h : ∀ c, c ∈ l → digC c = true) : decVal l < 10 ^ l.length := by
  have := decFold_lt l h 0
  unfold decVal; omega

theorem decVal_lt10 (l : List UInt8) (h : ∀ c, c ∈ l → digC c = true) (hl : l.length ≤ 10) : decVal l < 10000000000 := by
  have h1 := decVal_lt l h
  have h2 : 10 ^ l.length ≤ 10 ^ 10 := Nat.pow_le_pow_right (by decide) hl
  omega

theorem dig_of_look (s : ByteArray) (j : Nat) : digC (lookB s j) = true → j < s.size := by
  intro h
  exact Classical.byContradiction fun hn => by rw [lookB_out s j (by omega)] at h; exact absurd h (by decide)

/-- What num makes. -/
def NumPost (w : World) (R : Nat) (s : ByteArray) (bad : Bool) (neg : Bool) (F : Nat) (e : Ending) (w' : World) : Prop :=
  Near R w w' ∧ ∃ k, k ≤ 10 ∧ F + k ≤ s.size ∧ (∀ c, c ∈ (s.data.toList.drop F).take k → digC c = true) ∧ (k = 10 ∨ digC (lookB s (F + k)) = false) ∧
    e = .returned (.int .i64 (if neg = true then -(decVal ((s.data.toList.drop F).take k) : Int) else (decVal ((s.data.toList.drop F).take k) : Int))) ∧ RdS w' R s ((F + k : Nat) : Int) (bad || k == 0)

theorem take_val (s : ByteArray) (F k : Nat) (h : F + k < s.size) : decVal ((s.data.toList.drop F).take (k + 1)) = decVal ((s.data.toList.drop F).take k) * 10 + (s[F + k].toNat - 48) := by
  have hl : k < (s.data.toList.drop F).length := by simp; omega
  rw [List.take_succ_eq_append_getElem hl, decVal_snoc]
  simp [ByteArray.getElem_eq_getElem_data]

set_option maxRecDepth 20000 in
set_option maxHeartbeats 2000000 in
theorem num_neg (w : World) (R : Nat) (s : ByteArray) (i : Nat) (bad : Bool) (h : RdS w R s i bad) (hs : s.size ≤ 10000) (hi : i < s.size) (hneg : lookB s i = 45) :
    Calls Tryz.prog 11 #[.pointer (some ⟨R, 0, none⟩)] w (NumPost w R s bad true (i + 1)) := by
  have HL : Hid (Calls Tryz.prog 20 #[.pointer (some ⟨R, 0, none⟩)] w fun e w' => e = .returned (.int .u8 ((lookB s i).toNat : Int)) ∧ ∃ m', w' = w.drewN m') := look_any w R s i bad h
  rw [hneg] at HL
  have hw : IntKind.i64.wrap ((i : Int) + 1) = (i : Int) + 1 := by rw [IntKind.wrap_i64]; omega
  have c0 := h.cell0
  have c1 := h.cell1
  have c2 := h.cell2
  have f1 := h.free 1
  have h1 := fun m => (h.drewN m).set1 ((i : Int) + 1)
  have n1 : ∀ m, Near R w ((w.drewN m).setCell ⟨R, 1, none⟩ (.int .i64 ((i : Int) + 1))) := fun m => ((Near.refl R w).drewN m).trans (Near.set R 1 _ _)
  go_enter Tryz.func11, Tryz.ntmps11
  go_wp2_with (go_at_call 20; refine HL.out.mono ?_; rintro e w' ⟨rfl, nq, rfl⟩)
  go_loopw [5] (fun v wr => ∃ k : Nat, k ≤ 10 ∧ (i + 1) + k ≤ s.size ∧ v = .int .i64 (decVal ((s.data.toList.drop (i + 1)).take k) : Int) ∧ RdS wr R s (((i + 1) + k : Nat) : Int) bad ∧ Near R w wr ∧ ∀ x, x ∈ (s.data.toList.drop (i + 1)).take k → digC x = true) (fun _ wr => s.size - atOf wr R)
  case atStart => exact ⟨0, by omega, by omega, rfl, by simpa using (h1 _), n1 _, by simp⟩
  case round =>
    obtain ⟨k, hk10, hk, rfl, hr, hnr, hall⟩ := hrel
    have hlen : ((s.data.toList.drop (i + 1)).take k).length ≤ 10 := by simp; omega
    have hval := decVal_lt10 _ hall hlen
    have d0 := hr.cell0
    have d1 := hr.cell1
    have d2 := hr.cell2
    have df := hr.free 1
    have df2 := hr.free 2
    have HR : Hid (RdS wr R s (((i + 1) + k : Nat) : Int) bad ∧ Near R w wr) := ⟨hr, hnr⟩
    clear hr hnr c0 c1 c2 f1 h HL h1 n1
    generalize hV : decVal ((s.data.toList.drop (i + 1)).take k) = V at *
    generalize hj : (i + 1) + k = j at *
    have HM : Hid (∀ m, Calls Tryz.prog 20 #[.pointer (some ⟨R, 0, none⟩)] (wr.drewN m) fun e w' => e = .returned (.int .u8 ((lookB s j).toNat : Int)) ∧ ∃ m', w' = wr.drewN m') := fun m =>
      (look_any (wr.drewN m) R s j bad (HR.out.1.drewN m)).mono fun e w' ⟨he, k, hk⟩ => ⟨he, m + k, by rw [hk, World.drewN_drewN]⟩
    have HM0 : Hid (Calls Tryz.prog 20 #[.pointer (some ⟨R, 0, none⟩)] wr fun e w' => e = .returned (.int .u8 ((lookB s j).toNat : Int)) ∧ ∃ m', w' = wr.drewN m') := HM.out 0
    have hb0 : (0 : Int) ≤ ((lookB s j).toNat : Int) := by omega
    have hb1 : ((lookB s j).toNat : Int) ≤ 255 := by have := (lookB s j).toNat_lt; omega
    by_cases hgo : digC (lookB s j) = true ∧ k < 10
    · obtain ⟨hdg, hk9⟩ := hgo
      have hlt := dig_of_look s j hdg
      have HA : Hid (∀ x, x ∈ (s.data.toList.drop (i + 1)).take (k + 1) → digC x = true) := take_more' s (i + 1) k digC (by omega) hall (by rw [lookB_in s j hlt] at hdg; simpa only [hj] using hdg)
      have HV : Hid (decVal ((s.data.toList.drop (i + 1)).take (k + 1)) = V * 10 + ((lookB s j).toNat - 48)) := by
        show _ = _
        rw [take_val s (i + 1) k (by omega), hV, lookB_in s j hlt]; simp only [hj]
      have q := dig_bounds hdg
      have hw : IntKind.i64.wrap ((j : Int) + 1) = (j : Int) + 1 := by rw [IntKind.wrap_i64]; omega
      clear hall hdg
      generalize (lookB s j).toNat = c at *
      have q1 : (48 : Int) ≤ (c : Int) := by omega
      have q2 : (c : Int) ≤ 57 := by omega
      have q3 : (j : Int) < ((i : Int) + 1) + 10 := by omega
      have hw1 : IntKind.i64.wrap (((i : Int) + 1) + 10) = ((i : Int) + 1) + 10 := by rw [IntKind.wrap_i64]; omega
      have hw2 : IntKind.i64.wrap ((V : Int) * 10) = (V : Int) * 10 := by rw [IntKind.wrap_i64]; omega
      have hw3 : IntKind.u8.wrap ((c : Int) - 48) = (c : Int) - 48 := by rw [IntKind.wrap_u8]; omega
      have hw4 : IntKind.i64.wrap ((c : Int) - 48) = (c : Int) - 48 := by rw [IntKind.wrap_i64]; omega
      have hw5 : IntKind.i64.wrap ((V : Int) * 10 + ((c : Int) - 48)) = (V : Int) * 10 + ((c : Int) - 48) := by rw [IntKind.wrap_i64]; omega
      go_wp2_with (go_at_call 20; (first | refine HM0.out.mono ?_ | refine (HM.out _).mono ?_); rintro e w' ⟨rfl, nq, rfl⟩)
      have HS := fun nq => ((HR.out.1.drewN nq).set1 ((j : Int) + 1))
      go_roundw
      case rel => exact ⟨k + 1, by omega, by omega, by rw [HV.out]; congr 1; omega, by rw [show (((i + 1) + (k + 1) : Nat) : Int) = (j : Int) + 1 by omega]; exact HS _, (HR.out.2.drewN _).trans (Near.set R 1 _ _), HA.out⟩
      case measure => rw [(HS _).atOf, HR.out.1.atOf]; omega
    · have HX : Hid (k = 10 ∨ digC (lookB s j) = false) := by
        show _ ∨ _
        cases hdg : digC (lookB s j) with
        | false => exact .inr rfl
        | true => exact .inl (by have h9 : ¬ k < 10 := fun h => hgo ⟨hdg, h⟩; omega)
      have HA := hidF hall
      have hcases : ((lookB s j).toNat : Int) < 48 ∨ 57 < ((lookB s j).toNat : Int) ∨ (48 ≤ ((lookB s j).toNat : Int) ∧ ((lookB s j).toNat : Int) ≤ 57 ∧ k = 10) := by
        rcases HX.out with h | h
        · omega
        · simp only [digC, decide_eq_false_iff_not] at h; omega
      have HV := hidF hV
      have HJ : Hid ((i + 1) + k = j) := hj
      have hw0 : IntKind.i64.wrap (-(V : Int)) = -(V : Int) := by rw [IntKind.wrap_i64]; omega
      have hw1 : IntKind.i64.wrap (((i : Int) + 1) + 10) = ((i : Int) + 1) + 10 := by rw [IntKind.wrap_i64]; omega
      have HZ : Hid (k = 0 ∨ ¬ k = 0) := Classical.em _
      have e0 : k = 0 → (((j : Nat) : Int) == ((i : Int) + 1)) = true := fun h => by simp; omega
      have e1 : ¬ k = 0 → (((j : Nat) : Int) == ((i : Int) + 1)) = false := fun h => by simp; omega
      have e2 : k = 10 → ¬ ((j : Nat) : Int) < ((i : Int) + 1) + 10 := fun h => by omega
      clear hall hgo hV hj
      generalize (lookB s j).toNat = c at *
      rcases HZ.out with hz | hz
      · have e := e0 hz
        have h10 : ¬ k = 10 := by omega
        have HB : Hid ((bad || k == 0) = true) := by show _ = _; rw [hz]; simp
        clear e0 e1 e2 hz HZ
        rcases hcases with q1 | q1 | ⟨q1, q2, q3⟩
        case inr.inr => exact absurd q3 h10
        all_goals
          go_wp2_with (go_at_call 20; (first | refine HM0.out.mono ?_ | refine (HM.out _).mono ?_); rintro e w' ⟨rfl, nq, rfl⟩)
          go_ret
          refine ⟨((HR.out.2.drewN _).trans (Near.set R 2 _ _)), k, hk10, by rw [HJ.out]; exact hk, HA.out, by rw [HJ.out]; exact HX.out, by rw [HV.out]; rfl, ?_⟩
          rw [HB.out, HJ.out]; exact (HR.out.1.drewN _).set2 true
      · have e := e1 hz
        have HB : Hid ((bad || k == 0) = bad) := by show _ = _; simp [hz]
        clear e0 e1 hz HZ
        rcases hcases with q1 | q1 | ⟨q1, q2, q3⟩
        case inr.inr =>
          have q4 := e2 q3
          clear e2 q3
          go_wp2_with (go_at_call 20; (first | refine HM0.out.mono ?_ | refine (HM.out _).mono ?_); rintro e w' ⟨rfl, nq, rfl⟩)
          go_ret
          refine ⟨HR.out.2.drewN _, k, hk10, by rw [HJ.out]; exact hk, HA.out, by rw [HJ.out]; exact HX.out, by rw [HV.out]; rfl, ?_⟩
          rw [HB.out, HJ.out]; exact HR.out.1.drewN _
        all_goals
          clear e2
          go_wp2_with (go_at_call 20; (first | refine HM0.out.mono ?_ | refine (HM.out _).mono ?_); rintro e w' ⟨rfl, nq, rfl⟩)
          go_ret
          refine ⟨HR.out.2.drewN _, k, hk10, by rw [HJ.out]; exact hk, HA.out, by rw [HJ.out]; exact HX.out, by rw [HV.out]; rfl, ?_⟩
          rw [HB.out, HJ.out]; exact HR.out.1.drewN _

set_option maxRecDepth 20000 in
set_option maxHeartbeats 2000000 in
theorem num_pos (w : World) (R : Nat) (s : ByteArray) (i : Nat) (bad : Bool) (h : RdS w R s i bad) (hs : s.size ≤ 10000) (hi : i ≤ s.size) (hneg : ¬ lookB s i = 45) :
    Calls Tryz.prog 11 #[.pointer (some ⟨R, 0, none⟩)] w (NumPost w R s bad false i) := by
  have HL : Hid (Calls Tryz.prog 20 #[.pointer (some ⟨R, 0, none⟩)] w fun e w' => e = .returned (.int .u8 ((lookB s i).toNat : Int)) ∧ ∃ m', w' = w.drewN m') := look_any w R s i bad h
  have hng : (((lookB s i).toNat : Int) == 45) = false := by
    rw [beq_eq_false_iff_ne]
    intro e; apply hneg; apply UInt8.toNat_inj.1
    have h45 : (45 : UInt8).toNat = 45 := rfl
    omega
  have c0 := h.cell0
  have c1 := h.cell1
  have c2 := h.cell2
  have f1 := h.free 1
  have h1 := fun m => h.drewN m
  have n1 : ∀ m, Near R w (w.drewN m) := fun m => (Near.refl R w).drewN m
  go_enter Tryz.func11, Tryz.ntmps11
  go_wp2_with (go_at_call 20; refine HL.out.mono ?_; rintro e w' ⟨rfl, nq, rfl⟩)
  go_loopw [5] (fun v wr => ∃ k : Nat, k ≤ 10 ∧ i + k ≤ s.size ∧ v = .int .i64 (decVal ((s.data.toList.drop i).take k) : Int) ∧ RdS wr R s ((i + k : Nat) : Int) bad ∧ Near R w wr ∧ ∀ x, x ∈ (s.data.toList.drop i).take k → digC x = true) (fun _ wr => s.size - atOf wr R)
  case atStart => exact ⟨0, by omega, by omega, rfl, by simpa using (h1 _), n1 _, by simp⟩
  case round =>
    obtain ⟨k, hk10, hk, rfl, hr, hnr, hall⟩ := hrel
    have hlen : ((s.data.toList.drop i).take k).length ≤ 10 := by simp; omega
    have hval := decVal_lt10 _ hall hlen
    have d0 := hr.cell0
    have d1 := hr.cell1
    have d2 := hr.cell2
    have df := hr.free 1
    have df2 := hr.free 2
    have HR : Hid (RdS wr R s ((i + k : Nat) : Int) bad ∧ Near R w wr) := ⟨hr, hnr⟩
    clear hr hnr c0 c1 c2 f1 h HL h1 n1
    generalize hV : decVal ((s.data.toList.drop i).take k) = V at *
    generalize hj : i + k = j at *
    have HM : Hid (∀ m, Calls Tryz.prog 20 #[.pointer (some ⟨R, 0, none⟩)] (wr.drewN m) fun e w' => e = .returned (.int .u8 ((lookB s j).toNat : Int)) ∧ ∃ m', w' = wr.drewN m') := fun m =>
      (look_any (wr.drewN m) R s j bad (HR.out.1.drewN m)).mono fun e w' ⟨he, k, hk⟩ => ⟨he, m + k, by rw [hk, World.drewN_drewN]⟩
    have HM0 : Hid (Calls Tryz.prog 20 #[.pointer (some ⟨R, 0, none⟩)] wr fun e w' => e = .returned (.int .u8 ((lookB s j).toNat : Int)) ∧ ∃ m', w' = wr.drewN m') := HM.out 0
    have hb0 : (0 : Int) ≤ ((lookB s j).toNat : Int) := by omega
    have hb1 : ((lookB s j).toNat : Int) ≤ 255 := by have := (lookB s j).toNat_lt; omega
    by_cases hgo : digC (lookB s j) = true ∧ k < 10
    · obtain ⟨hdg, hk9⟩ := hgo
      have hlt := dig_of_look s j hdg
      have HA : Hid (∀ x, x ∈ (s.data.toList.drop i).take (k + 1) → digC x = true) := take_more' s i k digC (by omega) hall (by rw [lookB_in s j hlt] at hdg; simpa only [hj] using hdg)
      have HV : Hid (decVal ((s.data.toList.drop i).take (k + 1)) = V * 10 + ((lookB s j).toNat - 48)) := by
        show _ = _
        rw [take_val s i k (by omega), hV, lookB_in s j hlt]; simp only [hj]
      have q := dig_bounds hdg
      have hw : IntKind.i64.wrap ((j : Int) + 1) = (j : Int) + 1 := by rw [IntKind.wrap_i64]; omega
      clear hall hdg
      generalize (lookB s j).toNat = c at *
      have q1 : (48 : Int) ≤ (c : Int) := by omega
      have q2 : (c : Int) ≤ 57 := by omega
      have q3 : (j : Int) < (i : Int) + 10 := by omega
      have hw1 : IntKind.i64.wrap ((i : Int) + 10) = (i : Int) + 10 := by rw [IntKind.wrap_i64]; omega
      have hw2 : IntKind.i64.wrap ((V : Int) * 10) = (V : Int) * 10 := by rw [IntKind.wrap_i64]; omega
      have hw3 : IntKind.u8.wrap ((c : Int) - 48) = (c : Int) - 48 := by rw [IntKind.wrap_u8]; omega
      have hw4 : IntKind.i64.wrap ((c : Int) - 48) = (c : Int) - 48 := by rw [IntKind.wrap_i64]; omega
      have hw5 : IntKind.i64.wrap ((V : Int) * 10 + ((c : Int) - 48)) = (V : Int) * 10 + ((c : Int) - 48) := by rw [IntKind.wrap_i64]; omega
      go_wp2_with (go_at_call 20; (first | refine HM0.out.mono ?_ | refine (HM.out _).mono ?_); rintro e w' ⟨rfl, nq, rfl⟩)
      have HS := fun nq => ((HR.out.1.drewN nq).set1 ((j : Int) + 1))
      go_roundw
      case rel => exact ⟨k + 1, by omega, by omega, by rw [HV.out]; congr 1; omega, by rw [show ((i + (k + 1) : Nat) : Int) = (j : Int) + 1 by omega]; exact HS _, (HR.out.2.drewN _).trans (Near.set R 1 _ _), HA.out⟩
      case measure => rw [(HS _).atOf, HR.out.1.atOf]; omega
    · have HX : Hid (k = 10 ∨ digC (lookB s j) = false) := by
        show _ ∨ _
        cases hdg : digC (lookB s j) with
        | false => exact .inr rfl
        | true => exact .inl (by have h9 : ¬ k < 10 := fun h => hgo ⟨hdg, h⟩; omega)
      have HA := hidF hall
      have hcases : ((lookB s j).toNat : Int) < 48 ∨ 57 < ((lookB s j).toNat : Int) ∨ (48 ≤ ((lookB s j).toNat : Int) ∧ ((lookB s j).toNat : Int) ≤ 57 ∧ k = 10) := by
        rcases HX.out with h | h
        · omega
        · simp only [digC, decide_eq_false_iff_not] at h; omega
      have HV := hidF hV
      have HJ : Hid (i + k = j) := hj
      have hw0 : IntKind.i64.wrap (-(V : Int)) = -(V : Int) := by rw [IntKind.wrap_i64]; omega
      have hw1 : IntKind.i64.wrap ((i : Int) + 10) = (i : Int) + 10 := by rw [IntKind.wrap_i64]; omega
      have HZ : Hid (k = 0 ∨ ¬ k = 0) := Classical.em _
      have e0 : k = 0 → (((j : Nat) : Int) == (i : Int)) = true := fun h => by simp; omega
      have e1 : ¬ k = 0 → (((j : Nat) : Int) == (i : Int)) = false := fun h => by simp; omega
      have e2 : k = 10 → ¬ ((j : Nat) : Int) < (i : Int) + 10 := fun h => by omega
      clear hall hgo hV hj
      generalize (lookB s j).toNat = c at *
      rcases HZ.out with hz | hz
      · have e := e0 hz
        have h10 : ¬ k = 10 := by omega
        have HB : Hid ((bad || k == 0) = true) := by show _ = _; rw [hz]; simp
        clear e0 e1 e2 hz HZ
        rcases hcases with q1 | q1 | ⟨q1, q2, q3⟩
        case inr.inr => exact absurd q3 h10
        all_goals
          go_wp2_with (go_at_call 20; (first | refine HM0.out.mono ?_ | refine (HM.out _).mono ?_); rintro e w' ⟨rfl, nq, rfl⟩)
          go_ret
          refine ⟨((HR.out.2.drewN _).trans (Near.set R 2 _ _)), k, hk10, by rw [HJ.out]; exact hk, HA.out, by rw [HJ.out]; exact HX.out, by rw [HV.out]; rfl, ?_⟩
          rw [HB.out, HJ.out]; exact (HR.out.1.drewN _).set2 true
      · have e := e1 hz
        have HB : Hid ((bad || k == 0) = bad) := by show _ = _; simp [hz]
        clear e0 e1 hz HZ
        rcases hcases with q1 | q1 | ⟨q1, q2, q3⟩
        case inr.inr =>
          have q4 := e2 q3
          clear e2 q3
          go_wp2_with (go_at_call 20; (first | refine HM0.out.mono ?_ | refine (HM.out _).mono ?_); rintro e w' ⟨rfl, nq, rfl⟩)
          go_ret
          refine ⟨HR.out.2.drewN _, k, hk10, by rw [HJ.out]; exact hk, HA.out, by rw [HJ.out]; exact HX.out, by rw [HV.out]; rfl, ?_⟩
          rw [HB.out, HJ.out]; exact HR.out.1.drewN _
        all_goals
          clear e2
          go_wp2_with (go_at_call 20; (first | refine HM0.out.mono ?_ | refine (HM.out _).mono ?_); rintro e w' ⟨rfl, nq, rfl⟩)
          go_ret
          refine ⟨HR.out.2.drewN _, k, hk10, by rw [HJ.out]; exact hk, HA.out, by rw [HJ.out]; exact HX.out, by rw [HV.out]; rfl, ?_⟩
          rw [HB.out, HJ.out]; exact HR.out.1.drewN _

end Go.Proofs.YtpnnbdejneoccaaGreatDoor
