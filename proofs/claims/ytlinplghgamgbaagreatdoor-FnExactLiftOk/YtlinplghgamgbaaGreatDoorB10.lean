/-
  Several texts in one, in their order.
-/
import Derived.Test.YtlinplghgamgbaaGreatDoorB6
import Derived.Test.YtlinplghgamgbaaGreatDoorB1
import Derived.WalkSmall
import Derived.LoopTactic

/-
  The specification's reader of trees: name.
-/
namespace Go.Proofs.YtlinplghgamgbaaGreatDoor
open Go.RowKit

theorem nm_of_look (s : ByteArray) (j : Nat) : nmByte (lookB s j) = true → j < s.size := by
  intro h
  exact Classical.byContradiction fun hn => by rw [lookB_out s j (by omega)] at h; exact absurd h (by decide)

theorem takeWhile_take (l : List UInt8) (p : UInt8 → Bool) (k : Nat) (h : ∀ x, x ∈ l.take k → p x = true) (hd : p ((l.drop k).headD 0) = false) : l.takeWhile p = l.take k := by
  have hc : ∀ c r, l.drop k = c :: r → p c = false := by intro c r e; rw [e] at hd; exact hd
  conv => lhs; rw [← List.take_append_drop k l]
  exact takeWhile_all _ _ h hc

theorem take_more' (s : ByteArray) (i k : Nat) (p : UInt8 → Bool) (h : i + k < s.size) (ha : ∀ x, x ∈ (s.data.toList.drop i).take k → p x = true) (hc : p s[i + k] = true) : ∀ x, x ∈ (s.data.toList.drop i).take (k + 1) → p x = true := by
  intro x hx
  have hl : k < (s.data.toList.drop i).length := by simp; omega
  rw [List.take_succ_eq_append_getElem hl] at hx
  rcases List.mem_append.1 hx with hx | hx
  · exact ha x hx
  · rw [List.mem_singleton] at hx
    subst hx
    simpa [ByteArray.getElem_eq_getElem_data] using hc

set_option maxRecDepth 20000 in
set_option maxHeartbeats 1000000 in
theorem name_any (w : World) (R : Nat) (s : ByteArray) (i : Nat) (bad : Bool) (h : RdS w R s i bad) (hs : s.size ≤ 10000) (hi : i ≤ s.size) :
    Calls Tryz.prog 74 #[.pointer (some ⟨R, 0, none⟩)] w fun e w' => e = .returned (.string (bs ((s.data.toList.drop i).takeWhile nmByte))) ∧ Near R w w' ∧
      RdS w' R s ((i + ((s.data.toList.drop i).takeWhile nmByte).length : Nat) : Int) bad ∧ i + ((s.data.toList.drop i).takeWhile nmByte).length ≤ s.size := by
  have c0 := h.cell0
  have c1 := h.cell1
  have c2 := h.cell2
  go_enter Tryz.func74, Tryz.ntmps74
  go_wp2_with fail
  go_loopw [9] (fun _ wr => ∃ k : Nat, i + k ≤ s.size ∧ RdS wr R s ((i + k : Nat) : Int) bad ∧ Near R w wr ∧ ∀ x, x ∈ (s.data.toList.drop i).take k → nmByte x = true) (fun _ wr => s.size - atOf wr R)
  case atStart => exact ⟨0, by omega, h, Near.refl _ _, by simp⟩
  case round =>
    obtain ⟨k, hk, hr, hnr, hall⟩ := hrel
    have d0 := hr.cell0
    have d1 := hr.cell1
    have d2 := hr.cell2
    have df := hr.free 1
    have HR : Hid (RdS wr R s ((i + k : Nat) : Int) bad ∧ Near R w wr) := ⟨hr, hnr⟩
    clear hr hnr c0 c1 c2 h
    generalize hj : i + k = j at *
    have HL : Hid (∀ m, Calls Tryz.prog 72 #[.pointer (some ⟨R, 0, none⟩)] (wr.drewN m) fun e w' => e = .returned (.int .u8 ((lookB s j).toNat : Int)) ∧ ∃ m', w' = wr.drewN m') := fun m =>
      (look_any (wr.drewN m) R s j bad (HR.out.1.drewN m)).mono fun e w' ⟨he, k, hk⟩ => ⟨he, m + k, by rw [hk, World.drewN_drewN]⟩
    have HL0 : Hid (Calls Tryz.prog 72 #[.pointer (some ⟨R, 0, none⟩)] wr fun e w' => e = .returned (.int .u8 ((lookB s j).toNat : Int)) ∧ ∃ m', w' = wr.drewN m') := HL.out 0
    have hb0 : (0 : Int) ≤ ((lookB s j).toNat : Int) := by omega
    have hb1 : ((lookB s j).toNat : Int) ≤ 255 := by have := (lookB s j).toNat_lt; omega
    cases hnm : nmByte (lookB s j) with
    | true =>
      have hlt := nm_of_look s j hnm
      have HA : Hid (∀ x, x ∈ (s.data.toList.drop i).take (k + 1) → nmByte x = true) := take_more' s i k nmByte (by omega) hall (by rw [lookB_in s j hlt] at hnm; simpa only [hj] using hnm)
      have hw : IntKind.i64.wrap ((j : Int) + 1) = (j : Int) + 1 := by rw [IntKind.wrap_i64]; omega
      have hcases : (97 ≤ ((lookB s j).toNat : Int) ∧ ((lookB s j).toNat : Int) ≤ 122) ∨ (48 ≤ ((lookB s j).toNat : Int) ∧ ((lookB s j).toNat : Int) ≤ 57) := by simpa only [nmByte, decide_eq_true_eq] using hnm
      clear hall hnm
      generalize (lookB s j).toNat = c at *
      rcases hcases with ⟨q1, q2⟩ | ⟨q1, q2⟩
      · go_wp2_with (go_at_call 72; (first | refine HL0.out.mono ?_ | refine (HL.out _).mono ?_); rintro e w' ⟨rfl, nq, rfl⟩)
        have HS := fun nq => ((HR.out.1.drewN nq).set1 ((j : Int) + 1))
        go_roundw
        case rel => exact ⟨k + 1, by omega, by rw [show ((i + (k + 1) : Nat) : Int) = (j : Int) + 1 by omega]; exact HS _, (HR.out.2.drewN _).trans (Near.set R 1 _ _), HA.out⟩
        case measure => rw [(HS _).atOf, HR.out.1.atOf]; omega
      · go_wp2_with (go_at_call 72; (first | refine HL0.out.mono ?_ | refine (HL.out _).mono ?_); rintro e w' ⟨rfl, nq, rfl⟩)
        have HS := fun nq => ((HR.out.1.drewN nq).set1 ((j : Int) + 1))
        go_roundw
        case rel => exact ⟨k + 1, by omega, by rw [show ((i + (k + 1) : Nat) : Int) = (j : Int) + 1 by omega]; exact HS _, (HR.out.2.drewN _).trans (Near.set R 1 _ _), HA.out⟩
        case measure => rw [(HS _).atOf, HR.out.1.atOf]; omega
    | false =>
      have HT : Hid ((s.data.toList.drop i).takeWhile nmByte = (s.data.toList.drop i).take k) := takeWhile_take _ _ _ hall (by rw [List.drop_drop, hj]; exact hnm)
      have HX : Hid (s.extract i j = bs ((s.data.toList.drop i).take k)) := by show _ = _; rw [← hj]; exact extract_bs s i k
      have hl : Hid (((s.data.toList.drop i).take k).length = k) := by show _ = _; simp; omega
      have hcases : ((lookB s j).toNat : Int) < 48 ∨ (57 < ((lookB s j).toNat : Int) ∧ ((lookB s j).toNat : Int) < 97) ∨ 122 < ((lookB s j).toNat : Int) := by
        simp only [nmByte, decide_eq_false_iff_not] at hnm; omega
      clear hall hnm
      generalize (lookB s j).toNat = c at *
      rcases hcases with q1 | ⟨q1, q2⟩ | q1
      all_goals
        go_wp2_with (go_at_call 72; (first | refine HL0.out.mono ?_ | refine (HL.out _).mono ?_); rintro e w' ⟨rfl, nq, rfl⟩)
        go_quiet (fail)
        go_wp2_with fail
        go_ret
        rw [HT.out, hl.out, hj]
        exact ⟨str_ret HX.out, (HR.out.2.drewN _).drewN _, (HR.out.1.drewN _).drewN _, hk⟩

end Go.Proofs.YtlinplghgamgbaaGreatDoor

/-
  The specification's reader of schemas: plain mathematics of what it goes over.
-/
namespace Go.Proofs.YtlinplghgamgbaaGreatDoor
open Go.RowKit

/-- Behind a comma, or at the first kid. -/
def CommaK (s : ByteArray) (L i' i1 : Nat) (bad1 : Bool) : Prop :=
  (L = 0 ∧ i1 = i' ∧ bad1 = false) ∨ (¬ L = 0 ∧ ((eatP [44] (s.data.toList.drop i') = some (s.data.toList.drop (i' + 1)) ∧ i' + 1 ≤ s.size ∧ i1 = i' + 1 ∧ bad1 = false) ∨ (eatP [44] (s.data.toList.drop i') = none ∧ i1 = i' ∧ bad1 = true)))

/-- Behind a colon. -/
def ColonK (s : ByteArray) (j i3 : Nat) (bad1 bad3 : Bool) : Prop :=
  (eatP [58] (s.data.toList.drop j) = some (s.data.toList.drop (j + 1)) ∧ j + 1 ≤ s.size ∧ i3 = j + 1 ∧ bad3 = bad1) ∨ (eatP [58] (s.data.toList.drop j) = none ∧ i3 = j ∧ bad3 = true)

/-- What the reading of a schema makes of the place, n levels being left. -/
def GotK (m n : Nat) (s : ByteArray) (i : Nat) (bad : Bool) (t : K m) (i' : Nat) (bad' : Bool) : Prop :=
  i ≤ i' ∧ (bad' = false → bad = false ∧ i < i' ∧ i' ≤ s.size) ∧ (bad = false → i' ≤ s.size + n) ∧ (bad = true → i' = i) ∧
    (∀ (t0 : K m) post, bad = false → s.data.toList.drop i = txtK m t0 ++ post → goodK m t0 (7 - (n : Int)) = true → t = t0 ∧ bad' = false ∧ i' = i + (txtK m t0).length)

/-- What the loop of a form holds. -/
def FormInvK (m n : Nat) (s : ByteArray) (i : Nat) (ns : List ByteArray) (ks : List (K m)) (i' : Nat) (bad' : Bool) : Prop :=
  i ≤ i' ∧ (bad' = false → i < i' ∧ i' ≤ s.size) ∧ i' ≤ s.size + n ∧ ks.length ≤ i' + (if bad' = true then 1 else 0) ∧ ns.length = ks.length ∧
    ∀ (ns0 : List ByteArray) (ks0 : List (K m)) post, ns0.length = ks0.length → (∀ x, x ∈ ns0 → nameB x = true) → s.data.toList.drop i = 123 :: (joinL (zipL ns0 (ks0.map (txtK m))) ++ 125 :: post) → (∀ k, k ∈ ks0 → goodK m k (7 - (n : Int)) = true) →
      ∃ k, k ≤ ks0.length ∧ ks = ks0.take k ∧ ns = ns0.take k ∧ bad' = false ∧ s.data.toList.drop i' = tailL (decide (k = 0)) ((zipL ns0 (ks0.map (txtK m))).drop k) ++ 125 :: post

theorem name_headK {x : ByteArray} (h : nameB x = true) : ∃ c r, x.data.toList = c :: r ∧ nmByte c = true := by
  have hsz : 1 ≤ x.size := by simp only [nameB, Bool.and_eq_true, decide_eq_true_eq] at h; exact h.1.1.1
  cases hd : x.data.toList with
  | nil =>
    have h1 : x.data.toList.length = 0 := by rw [hd]; rfl
    have h2 : x.data.toList.length = x.size := by simp
    omega
  | cons c r => exact ⟨c, r, rfl, nameB_bytes h c (by rw [hd]; exact List.mem_cons_self ..)⟩

theorem zipL_getK (a : List ByteArray) (l : List (List UInt8)) (k : Nat) (ha : k < a.length) (hl : k < l.length) (h : k < (zipL a l).length) : (zipL a l)[k] = a[k].data.toList ++ 58 :: l[k] := by
  induction a generalizing l k with
  | nil => simp at ha
  | cons x r ih =>
    cases l with
    | nil => simp at hl
    | cons y t =>
      cases k with
      | zero => rfl
      | succ k => simpa [zipL] using ih t k (by simpa using ha) (by simpa using hl) (by simpa [zipL] using h)

theorem form_stepK {m n : Nat} {s : ByteArray} {i : Nat} {ns : List ByteArray} {ks : List (K m)} {i' i1 i3 i2 : Nat} {bad1 bad3 bad2 : Bool} {t2 : K m} (hI : FormInvK m n s i ns ks i' false) (hne : ¬ lookB s i' = 125) (hc : CommaK s ks.length i' i1 bad1)
    (hco : ColonK s (i1 + ((s.data.toList.drop i1).takeWhile nmByte).length) i3 bad1 bad3) (hp : GotK m n s i3 bad3 t2 i2 bad2)
    (hsz : i1 + ((s.data.toList.drop i1).takeWhile nmByte).length ≤ s.size) :
    FormInvK m n s i (ns ++ [bs ((s.data.toList.drop i1).takeWhile nmByte)]) (ks ++ [t2]) i2 bad2 ∧ (if bad2 = true then 0 else s.size + 1 - i2) < s.size + 1 - i' := by
  obtain ⟨h1, h2, h3, h4, h6, h5⟩ := hI
  obtain ⟨p1, p2, p3, p4, p5⟩ := hp
  have h2 := h2 rfl
  have h4 : ks.length ≤ i' := by simpa using h4
  have hi1 : i' ≤ i1 := by
    rcases hc with ⟨-, h, -⟩ | ⟨-, ⟨-, -, h, -⟩ | ⟨-, h, -⟩⟩ <;> omega
  have hi3 : i1 ≤ i3 ∧ i3 ≤ s.size := by
    rcases hco with ⟨-, h, h', -⟩ | ⟨-, h, -⟩ <;> omega
  refine ⟨⟨by omega, fun h => ⟨by omega, (p2 h).2.2⟩, ?_, ?_, by simp [h6], fun ns0 ks0 post hlen hnm he hg => ?_⟩, ?_⟩
  · cases bad3 with
    | false => exact p3 rfl
    | true => have := p4 rfl; omega
  · rw [List.length_append, List.length_singleton]
    cases bad2 with
    | false => have := (p2 rfl).2.1; simp; omega
    | true => simp; omega
  · obtain ⟨k, hk, hks, hns, -, hd⟩ := h5 ns0 ks0 post hlen hnm he hg
    have hkl : ks.length = k := by rw [hks, List.length_take]; omega
    have hzl : (zipL ns0 (ks0.map (txtK m))).length = ks0.length := by rw [zipL_length _ _ (by simpa using hlen)]; simp
    have hlt : k < ks0.length := by
      refine Classical.byContradiction fun hge => hne ?_
      have : (zipL ns0 (ks0.map (txtK m))).drop k = [] := List.drop_of_length_le (by omega)
      rw [this] at hd
      unfold lookB
      rw [hd]; rfl
    have hlt' : k < (zipL ns0 (ks0.map (txtK m))).length := by omega
    have hkn : k < ns0.length := by omega
    rw [List.drop_eq_getElem_cons hlt', zipL_getK _ _ _ hkn (by simpa using hlt) hlt', List.getElem_map, tailL, List.append_assoc] at hd
    have hrest : bad1 = false ∧ s.data.toList.drop i1 = ns0[k].data.toList ++ 58 :: (txtK m ks0[k] ++ (tailL false ((zipL ns0 (ks0.map (txtK m))).drop (k + 1)) ++ 125 :: post)) := by
      by_cases hk0 : k = 0
      · simp only [hk0, decide_true, if_true, List.append_assoc, List.cons_append] at hd
        rcases hc with ⟨-, h, hb⟩ | ⟨h, -⟩
        · refine ⟨hb, ?_⟩
          rw [h, hd]
          simp only [hk0]
        · exact absurd (by omega) h
      · simp only [hk0, decide_false, Bool.false_eq_true, if_false, List.cons_append, List.append_assoc] at hd
        rcases hc with ⟨h, -⟩ | ⟨-, ⟨he1, -, h, hb⟩ | ⟨he1, -⟩⟩
        · exact absurd (by omega) hk0
        · refine ⟨hb, ?_⟩
          rw [hd, eatP_one_cons] at he1
          rw [h]
          exact (Option.some.inj he1).symm
        · rw [hd, eatP_one_cons] at he1; cases he1
    have hnk := hnm ns0[k] (List.getElem_mem hkn)
    have htw : (s.data.toList.drop i1).takeWhile nmByte = ns0[k].data.toList := by
      rw [hrest.2]
      exact takeWhile_all _ _ (nameB_bytes hnk) (by intro c r e; cases e; decide)
    have hdj : s.data.toList.drop (i1 + ((s.data.toList.drop i1).takeWhile nmByte).length) = 58 :: (txtK m ks0[k] ++ (tailL false ((zipL ns0 (ks0.map (txtK m))).drop (k + 1)) ++ 125 :: post)) := by
      rw [htw, ← List.drop_drop, hrest.2, List.drop_left]
    have hcol : bad3 = false ∧ s.data.toList.drop i3 = txtK m ks0[k] ++ (tailL false ((zipL ns0 (ks0.map (txtK m))).drop (k + 1)) ++ 125 :: post) := by
      rcases hco with ⟨he1, -, h, hb⟩ | ⟨he1, -⟩
      · rw [hdj, eatP_one_cons] at he1
        exact ⟨by rw [hb]; exact hrest.1, by rw [h]; exact (Option.some.inj he1).symm⟩
      · rw [hdj, eatP_one_cons] at he1; cases he1
    obtain ⟨q1, q2, q3⟩ := p5 ks0[k] _ hcol.1 hcol.2 (hg _ (List.getElem_mem hlt))
    refine ⟨k + 1, by omega, ?_, ?_, q2, ?_⟩
    · rw [List.take_succ_eq_append_getElem hlt, ← hks, q1]
    · rw [List.take_succ_eq_append_getElem hkn, ← hns, htw, bs_of]
    · rw [q3, ← List.drop_drop, hcol.2, List.drop_left]
      simp
  · cases bad2 with
    | true => simp; omega
    | false => have := (p2 rfl).2; simp; omega

/-- The six makes of a schema that is ok by itself. -/
theorem goodK_cases {m : Nat} {t : K (m + 1)} {d : Int} (h : goodK (m + 1) t d = true) :
    (t = (⟨1, [], []⟩ : Kd (K m)) ∧ txtK (m + 1) t = [110, 117, 109]) ∨ (t = (⟨2, [], []⟩ : Kd (K m)) ∧ txtK (m + 1) t = [116, 101, 120, 116]) ∨ (t = (⟨3, [], []⟩ : Kd (K m)) ∧ txtK (m + 1) t = [102, 108, 97, 103]) ∨
    (∃ x, t = (⟨4, [], [x]⟩ : Kd (K m)) ∧ goodK m x (d + 1) = true ∧ txtK (m + 1) t = 91 :: (txtK m x ++ [93])) ∨ (∃ x, t = (⟨6, [], [x]⟩ : Kd (K m)) ∧ goodK m x (d + 1) = true ∧ txtK (m + 1) t = 63 :: txtK m x) ∨
    (∃ na ki, t = (⟨5, na, ki⟩ : Kd (K m)) ∧ na.length = ki.length ∧ (∀ x, x ∈ na → nameB x = true) ∧ (∀ k, k ∈ ki → goodK m k (d + 1) = true) ∧ txtK (m + 1) t = 123 :: (joinL (zipL na (ki.map (txtK m))) ++ [125])) := by
  simp only [goodK, Bool.and_eq_true] at h
  have ha : aloneKF (Kd.sort t) (Kd.names t) (Kd.kids t).length = true := h.1.2
  have hk := List.all_eq_true.1 h.2
  obtain ⟨so, na, ki⟩ : Kd (K m) := t
  simp only at ha hk
  unfold aloneKF at ha
  have one : (ki.length : Int) = 1 → ∃ x, ki = [x] ∧ goodK m x (d + 1) = true := by
    intro hl
    match ki, hl, hk with
    | [x], _, hk => exact ⟨x, rfl, hk x (List.mem_cons_self ..)⟩
  by_cases h1 : so = 1
  · rw [if_pos h1] at ha
    simp only [Bool.and_eq_true, beq_iff_eq] at ha
    have e2 : na = [] := List.eq_nil_of_length_eq_zero (by have := ha.1; omega)
    have e3 : ki = [] := List.eq_nil_of_length_eq_zero (by have := ha.2; omega)
    subst e2 e3 h1
    exact .inl ⟨rfl, by simp [txtK]⟩
  rw [if_neg h1] at ha
  by_cases h2 : so = 2
  · rw [if_pos h2] at ha
    simp only [Bool.and_eq_true, beq_iff_eq] at ha
    have e2 : na = [] := List.eq_nil_of_length_eq_zero (by have := ha.1; omega)
    have e3 : ki = [] := List.eq_nil_of_length_eq_zero (by have := ha.2; omega)
    subst e2 e3 h2
    exact .inr (.inl ⟨rfl, by simp [txtK]⟩)
  rw [if_neg h2] at ha
  by_cases h3 : so = 3
  · rw [if_pos h3] at ha
    simp only [Bool.and_eq_true, beq_iff_eq] at ha
    have e2 : na = [] := List.eq_nil_of_length_eq_zero (by have := ha.1; omega)
    have e3 : ki = [] := List.eq_nil_of_length_eq_zero (by have := ha.2; omega)
    subst e2 e3 h3
    exact .inr (.inr (.inl ⟨rfl, by simp [txtK]⟩))
  rw [if_neg h3] at ha
  by_cases h4 : so = 4
  · rw [if_pos h4] at ha
    simp only [Bool.and_eq_true, beq_iff_eq] at ha
    have e2 : na = [] := List.eq_nil_of_length_eq_zero (by have := ha.1; omega)
    obtain ⟨x, e3, hx⟩ := one ha.2
    subst e2 e3 h4
    exact .inr (.inr (.inr (.inl ⟨x, rfl, hx, by simp [txtK, headL]⟩)))
  rw [if_neg h4] at ha
  by_cases h5 : so = 5
  · rw [if_pos h5] at ha
    simp only [Bool.and_eq_true, beq_iff_eq] at ha
    have hl : na.length = ki.length := by have := ha.1; omega
    subst h5
    exact .inr (.inr (.inr (.inr (.inr ⟨na, ki, rfl, hl, riseB_name ha.2, fun k hk' => hk k hk', by simp [txtK]⟩))))
  rw [if_neg h5] at ha
  by_cases h6 : so = 6
  · rw [if_pos h6] at ha
    simp only [Bool.and_eq_true, beq_iff_eq] at ha
    have e2 : na = [] := List.eq_nil_of_length_eq_zero (by have := ha.1; omega)
    obtain ⟨x, e3, hx⟩ := one ha.2
    subst e2 e3 h6
    exact .inr (.inr (.inr (.inr (.inl ⟨x, rfl, hx, by simp [txtK, headL]⟩))))
  · rw [if_neg h6] at ha; cases ha

theorem look_cons {s : ByteArray} {i : Nat} {c : UInt8} {r : List UInt8} (h : s.data.toList.drop i = c :: r) : lookB s i = c := by
  unfold lookB; rw [h]; rfl

theorem levels_up (n : Nat) : (7 - ((n + 1 : Nat) : Int)) + 1 = 7 - (n : Int) := by omega

/-- A leaf's word is gone over, or isn't there. -/
theorem leaf_got {m n : Nat} {s x : ByteArray} {i : Nat} {i' : Nat} {bad' : Bool} {so : Int} (hi : i ≤ s.size) (hs : (eatP x.data.toList (s.data.toList.drop i) = some (s.data.toList.drop (i + x.size)) ∧ i + x.size ≤ s.size ∧ i' = i + x.size ∧ bad' = false) ∨ (eatP x.data.toList (s.data.toList.drop i) = none ∧ i' = i ∧ bad' = true))
    (hx : 0 < x.size) (hone : ∀ (t0 : K (m + 1)) post, s.data.toList.drop i = txtK (m + 1) t0 ++ post → goodK (m + 1) t0 (7 - ((n + 1 : Nat) : Int)) = true → t0 = (⟨so, [], []⟩ : Kd (K m)) ∧ txtK (m + 1) t0 = x.data.toList) :
    GotK (m + 1) (n + 1) s i false (⟨so, [], []⟩ : Kd (K m)) i' bad' := by
  rcases hs with ⟨h1, h2, rfl, rfl⟩ | ⟨h1, rfl, rfl⟩
  · refine ⟨by omega, fun _ => ⟨rfl, by omega, h2⟩, fun _ => by omega, fun h => (by cases h), fun t0 post _ he hg => ?_⟩
    obtain ⟨q1, q2⟩ := hone t0 post he hg
    exact ⟨q1.symm, rfl, by rw [q2]; simp⟩
  · refine ⟨Nat.le_refl _, fun h => (by cases h), fun _ => by omega, fun h => (by cases h), fun t0 post _ he hg => ?_⟩
    obtain ⟨q1, q2⟩ := hone t0 post he hg
    rw [he, q2, eatP_append] at h1
    cases h1

theorem num_one {m : Nat} {s : ByteArray} {i : Nat} {d : Int} (hl : lookB s i = 110) (t0 : K (m + 1)) (post : List UInt8) (he : s.data.toList.drop i = txtK (m + 1) t0 ++ post) (hg : goodK (m + 1) t0 d = true) : t0 = (⟨1, [], []⟩ : Kd (K m)) ∧ txtK (m + 1) t0 = [110, 117, 109] := by
  rcases goodK_cases hg with ⟨h1, h2⟩ | ⟨h1, h2⟩ | ⟨h1, h2⟩ | ⟨x, h1, h3, h2⟩ | ⟨x, h1, h3, h2⟩ | ⟨a, b, h1, h3, h4, h5, h2⟩
  · exact ⟨h1, h2⟩
  all_goals (rw [h2] at he; rw [look_cons he] at hl; exact absurd hl (by decide))

theorem text_one {m : Nat} {s : ByteArray} {i : Nat} {d : Int} (hl : lookB s i = 116) (t0 : K (m + 1)) (post : List UInt8) (he : s.data.toList.drop i = txtK (m + 1) t0 ++ post) (hg : goodK (m + 1) t0 d = true) : t0 = (⟨2, [], []⟩ : Kd (K m)) ∧ txtK (m + 1) t0 = [116, 101, 120, 116] := by
  rcases goodK_cases hg with ⟨h1, h2⟩ | ⟨h1, h2⟩ | ⟨h1, h2⟩ | ⟨x, h1, h3, h2⟩ | ⟨x, h1, h3, h2⟩ | ⟨a, b, h1, h3, h4, h5, h2⟩
  · rw [h2] at he; rw [look_cons he] at hl; exact absurd hl (by decide)
  · exact ⟨h1, h2⟩
  all_goals (rw [h2] at he; rw [look_cons he] at hl; exact absurd hl (by decide))

theorem flag_one {m : Nat} {s : ByteArray} {i : Nat} {d : Int} (hl : lookB s i = 102) (t0 : K (m + 1)) (post : List UInt8) (he : s.data.toList.drop i = txtK (m + 1) t0 ++ post) (hg : goodK (m + 1) t0 d = true) : t0 = (⟨3, [], []⟩ : Kd (K m)) ∧ txtK (m + 1) t0 = [102, 108, 97, 103] := by
  rcases goodK_cases hg with ⟨h1, h2⟩ | ⟨h1, h2⟩ | ⟨h1, h2⟩ | ⟨x, h1, h3, h2⟩ | ⟨x, h1, h3, h2⟩ | ⟨a, b, h1, h3, h4, h5, h2⟩
  · rw [h2] at he; rw [look_cons he] at hl; exact absurd hl (by decide)
  · rw [h2] at he; rw [look_cons he] at hl; exact absurd hl (by decide)
  · exact ⟨h1, h2⟩
  all_goals (rw [h2] at he; rw [look_cons he] at hl; exact absurd hl (by decide))

/-- A maybe. -/
theorem maybe_got {m n : Nat} {s : ByteArray} {i i' : Nat} {bad' : Bool} {x : K m} (hl : lookB s i = 63) (hp : GotK m n s (i + 1) false x i' bad') : GotK (m + 1) (n + 1) s i false (⟨6, [], [x]⟩ : Kd (K m)) i' bad' := by
  obtain ⟨p1, p2, p3, p4, p5⟩ := hp
  refine ⟨by omega, fun h => ⟨rfl, by omega, (p2 h).2.2⟩, fun _ => by have := p3 rfl; omega, fun h => (by cases h), fun t0 post _ he hg => ?_⟩
  rcases goodK_cases hg with ⟨h1, h2⟩ | ⟨h1, h2⟩ | ⟨h1, h2⟩ | ⟨y, h1, h3, h2⟩ | ⟨y, h1, h3, h2⟩ | ⟨a, b, h1, h3, h4, h5, h2⟩
  case inr.inr.inr.inr.inl =>
    rw [h2] at he
    rw [levels_up] at h3
    have he1 : s.data.toList.drop (i + 1) = txtK m y ++ post := by rw [← List.drop_drop, he]; rfl
    obtain ⟨q1, q2, q3⟩ := p5 y post rfl he1 h3
    exact ⟨by rw [h1, q1], q2, by rw [h2, q3, List.length_cons]; omega⟩
  all_goals (rw [h2] at he; rw [look_cons he] at hl; exact absurd hl (by decide))

/-- A list. -/
theorem list_got {m n : Nat} {s : ByteArray} {i i1 i' : Nat} {bad1 bad' : Bool} {x : K m} (hl : lookB s i = 91) (hp : GotK m n s (i + 1) false x i1 bad1)
    (hs : (eatP [93] (s.data.toList.drop i1) = some (s.data.toList.drop (i1 + 1)) ∧ i1 + 1 ≤ s.size ∧ i' = i1 + 1 ∧ bad' = bad1) ∨ ((bad1 = false → eatP [93] (s.data.toList.drop i1) = none) ∧ i' = i1 ∧ bad' = true)) : GotK (m + 1) (n + 1) s i false (⟨4, [], [x]⟩ : Kd (K m)) i' bad' := by
  obtain ⟨p1, p2, p3, p4, p5⟩ := hp
  have p3 := p3 rfl
  refine ⟨?_, fun h => ⟨rfl, ?_, ?_⟩, fun _ => ?_, fun h => (by cases h), fun t0 post _ he hg => ?_⟩
  · rcases hs with ⟨-, -, h, -⟩ | ⟨-, h, -⟩ <;> omega
  · rcases hs with ⟨-, -, h, -⟩ | ⟨-, h, -⟩ <;> omega
  · rcases hs with ⟨-, h', h'', -⟩ | ⟨-, -, h'⟩
    · omega
    · rw [h'] at h; cases h
  · rcases hs with ⟨-, -, h, -⟩ | ⟨-, h, -⟩ <;> omega
  rcases goodK_cases hg with ⟨h1, h2⟩ | ⟨h1, h2⟩ | ⟨h1, h2⟩ | ⟨y, h1, h3, h2⟩ | ⟨y, h1, h3, h2⟩ | ⟨a, b, h1, h3, h4, h5, h2⟩
  case inr.inr.inr.inl =>
    rw [h2] at he
    rw [levels_up] at h3
    have he1 : s.data.toList.drop (i + 1) = txtK m y ++ (93 :: post) := by rw [← List.drop_drop, he]; simp
    obtain ⟨q1, q2, q3⟩ := p5 y _ rfl he1 h3
    have hd : s.data.toList.drop i1 = 93 :: post := by rw [q3, ← List.drop_drop, he1, List.drop_left]
    rcases hs with ⟨g1, g2, g3, g4⟩ | ⟨g1, -⟩
    · exact ⟨by rw [h1, q1], by rw [g4, q2], by rw [h2, g3, q3]; simp; omega⟩
    · have := g1 q2
      rw [hd, eatP_one_cons] at this
      cases this
  all_goals (rw [h2] at he; rw [look_cons he] at hl; exact absurd hl (by decide))

/-- A form. -/
theorem form_got {m n : Nat} {s : ByteArray} {i i' : Nat} {bad' : Bool} {ns : List ByteArray} {ks : List (K m)} (h1n : ¬ lookB s i = 110) (h2n : ¬ lookB s i = 116) (h3n : ¬ lookB s i = 102) (h4n : ¬ lookB s i = 63) (h5n : ¬ lookB s i = 91)
    (hI : FormInvK m n s i ns ks i' bad') (hend : bad' = false → lookB s i' = 125) : GotK (m + 1) (n + 1) s i false (⟨5, ns, ks⟩ : Kd (K m)) (i' + 1) bad' := by
  obtain ⟨h1, h2, h3, h4, h6, h5⟩ := hI
  have hin : bad' = false → i' < s.size := fun hb => by
    have h93 := hend hb
    refine Classical.byContradiction fun hge => ?_
    rw [lookB_out s i' (by omega)] at h93
    exact absurd h93 (by decide)
  refine ⟨by omega, fun hb => ⟨rfl, by omega, hin hb⟩, fun _ => by omega, fun h => (by cases h), fun t0 post _ he hg => ?_⟩
  rcases goodK_cases hg with ⟨q1, q2⟩ | ⟨q1, q2⟩ | ⟨q1, q2⟩ | ⟨y, q1, q3, q2⟩ | ⟨y, q1, q3, q2⟩ | ⟨ns0, ks0, q1, q3, q4, q5, q2⟩
  case inr.inr.inr.inr.inr =>
    rw [q2] at he
    have he' : s.data.toList.drop i = 123 :: (joinL (zipL ns0 (ks0.map (txtK m))) ++ 125 :: post) := by rw [he]; simp
    obtain ⟨k, hk, hks, hns, hb, hd⟩ := h5 ns0 ks0 post q3 q4 he' (fun k hk => by have := q5 k hk; rwa [levels_up] at this)
    have h93 := hend hb
    have hzl : (zipL ns0 (ks0.map (txtK m))).length = ks0.length := by rw [zipL_length _ _ (by simpa using q3)]; simp
    have hkl : k = ks0.length := by
      refine Classical.byContradiction fun hne => ?_
      have hlt : k < ks0.length := by omega
      have hlt' : k < (zipL ns0 (ks0.map (txtK m))).length := by omega
      have hkn : k < ns0.length := by omega
      unfold lookB at h93
      rw [hd, List.drop_eq_getElem_cons hlt', zipL_getK _ _ _ hkn (by simpa using hlt) hlt', tailL] at h93
      obtain ⟨c, r, e, hbeg⟩ := name_headK (q4 ns0[k] (List.getElem_mem hkn))
      by_cases hk0 : k = 0
      · simp only [hk0, decide_true, if_true] at h93
        simp only [hk0] at e
        rw [e] at h93
        simp only [List.cons_append, List.headD_cons] at h93
        exact (nm_ne hbeg).2.1 h93
      · simp only [hk0, decide_false, Bool.false_eq_true, if_false, List.cons_append, List.headD_cons] at h93
        exact absurd h93 (by decide)
    refine ⟨?_, hb, ?_⟩
    · rw [q1, hns, hks, hkl, List.take_length, ← q3, List.take_length]
    · have hle := (h2 hb).2
      have hlt := hin hb
      have e1 := congrArg List.length hd
      have e2 := congrArg List.length he'
      rw [hkl, ← hzl, List.drop_length] at e1
      rw [q2]
      simp [tailL] at e1 e2 ⊢
      omega
  · rw [q2] at he; exact absurd (look_cons he) h1n
  · rw [q2] at he; exact absurd (look_cons he) h2n
  · rw [q2] at he; exact absurd (look_cons he) h3n
  · rw [q2] at he; exact absurd (look_cons he) h5n
  · rw [q2] at he; exact absurd (look_cons he) h4n

/-- The loop's start. -/
theorem form_start {m n : Nat} {s : ByteArray} {i i' : Nat} {bad' : Bool} (hi : i ≤ s.size) (hs : (eatP [123] (s.data.toList.drop i) = some (s.data.toList.drop (i + 1)) ∧ i + 1 ≤ s.size ∧ i' = i + 1 ∧ bad' = false) ∨ (eatP [123] (s.data.toList.drop i) = none ∧ i' = i ∧ bad' = true)) :
    FormInvK m n s i [] [] i' bad' := by
  rcases hs with ⟨h1, h2, rfl, rfl⟩ | ⟨h1, rfl, rfl⟩
  · refine ⟨by omega, fun _ => ⟨by omega, h2⟩, by omega, by simp, rfl, fun ns0 ks0 post hlen hnm he hg => ⟨0, Nat.zero_le _, by simp, by simp, rfl, ?_⟩⟩
    rw [← List.drop_drop, he]; simp [tailL_true]
  · refine ⟨Nat.le_refl _, fun h => (by cases h), by omega, by simp, rfl, fun ns0 ks0 post hlen hnm he hg => ?_⟩
    rw [he, eatP_one_cons] at h1
    cases h1

end Go.Proofs.YtlinplghgamgbaaGreatDoor
