/-
  Several texts in one, in their order.
-/
import Derived.Test.YtmjhcgjhlakceaaGreatDoorB3
import Derived.Laws.Shifts

namespace Go.Proofs.YtmjhcgjhlakceaaGreatDoor
open Go.RowKit
theorem pow7 (j : Nat) : (2 : Nat) ^ (7 * j) = 128 ^ j := by rw [Nat.pow_mul]
theorem pow_big {j : Nat} (h : 64 < 7 * j) : 999999999 / 128 ^ j = 0 := by
 apply Nat.div_eq_of_lt
 have h1 : (128 : Nat) ^ 5 <= 128 ^ j := Nat.pow_le_pow_right (by omega) (by omega)
 have h2 : (128 : Nat) ^ 5 = 34359738368 := by decide
 omega
theorem shr_is (j : Nat) : (999999999 : Int) / 2 ^ min (7 * j) 64 = ((999999999 / 128 ^ j : Nat) : Int) /\ (7 * j <= 64 -> (999999999 : Int) / 2 ^ (7 * j) = ((999999999 / 128 ^ j : Nat) : Int)) := by
 have h1 : (999999999 : Int) / 2 ^ (7 * j) = ((999999999 / 128 ^ j : Nat) : Int) := by
  rw [<- pow7, Int.natCast_ediv, Int.natCast_pow]; rfl
 refine ⟨?_, fun _ => h1⟩
 by_cases h : 7 * j <= 64
 ·rw [Nat.min_eq_left h]; exact h1
 ·rw [Nat.min_eq_right (by omega), pow_big (by omega)]; decide
theorem shl_is (j y : Nat) (hy : y <= 999999999 / 128 ^ j) : (y : Int) * 2 ^ min (7 * j) 64 = ((y * 128 ^ j : Nat) : Int) /\ (7 * j <= 64 -> (y : Int) * 2 ^ (7 * j) = ((y * 128 ^ j : Nat) : Int)) /\ y * 128 ^ j <= 999999999 := by
 have h1 : (y : Int) * 2 ^ (7 * j) = ((y * 128 ^ j : Nat) : Int) := by
  rw [<- pow7]; push_cast; rfl
 refine ⟨?_, fun _ => h1, Nat.le_trans (Nat.mul_le_mul_right _ hy) (Nat.div_mul_le_self _ _)⟩
 by_cases h : 7 * j <= 64
 ·rw [Nat.min_eq_left h]; exact h1
 ·rw [pow_big (by omega)] at hy
  have : y = 0 := by omega
  subst this
  simp
def SizeC (w : World) (R : Nat) (ao : Option Addr) (l : List UInt8) (cap i : Nat) (e : Ending) (w' : World) : Prop :=
 Near R w w' /\ ((∃ n i', dsz (l.length - i) 0 0 (l.drop i) = some (n, l.drop i') /\ e = .returned (.int .i64 (n : Int)) /\ n <= 1999999998 /\ Cu w' R ao l cap i' /\ i < i') ∨ (dsz (l.length - i) 0 0 (l.drop i) = none /\ e = .panicked refusal))
theorem dsz_end {l : List UInt8} {i j acc : Nat} (h : l.length <= i) : dsz (l.length - i) j acc (l.drop i) = none := by
 rw [Nat.sub_eq_zero_of_le h]; rfl
theorem dsz_at {l : List UInt8} {i j acc : Nat} (h : i < l.length) : dsz (l.length - i) j acc (l.drop i) = if l[i].toNat % 128 <= 999999999 / 128 ^ j then (if l[i].toNat < 128 then (if 0 < l[i].toNat ∨ j = 0 then some (acc + l[i].toNat % 128 * 128 ^ j, l.drop (i + 1)) else none) else dsz (l.length - (i + 1)) (j + 1) (acc + l[i].toNat % 128 * 128 ^ j) (l.drop (i + 1))) else none := by
 have e : l.length - i = (l.length - (i + 1)) + 1 := by omega
 rw [e, List.drop_eq_getElem_cons h, dsz_cons]
set_option maxRecDepth 20000 in
set_option maxHeartbeats 2000000 in
theorem sizeC_any (w : World) (R : Nat) (ao : Option Addr) (l : List UInt8) (cap i : Nat) (h : Cu w R ao l cap i) :
  Calls Tryz.prog 124 #[.pointer (some ⟨R, 0, none⟩)] w (SizeC w R ao l cap i) := by
 have HR0 := Lib.hid h
 have hlen := h.len
 obtain ⟨ln, hln⟩ : ∃ ln, ln = l.length := ⟨_, rfl⟩
 have HLn := Lib.hid hln
 rw [<- hln] at hlen
 clear h hln
 go_enter Tryz.func124, Tryz.ntmps124
 go_wp2_with fail
 go_loopw [3, 4] (fun nv sv wr => ∃ (acc sh j i1 : Nat), nv = .int .i64 (acc : Int) /\ sv = .int .i64 (sh : Int) /\ sh = 7 * j /\ i1 = i + j /\ acc < 128 ^ j /\ acc <= 1999999998 /\ dsz (l.length - i) 0 0 (l.drop i) = dsz (l.length - i1) j acc (l.drop i1) /\ Cu wr R ao l cap i1 /\ Near R w wr) (fun _ sv _ => 70000 - (intOf sv).toNat)
 case atStart => exact ⟨0, 0, 0, i, rfl, rfl, rfl, rfl, by simp, by omega, rfl, HR0.out, Near.refl R w⟩
 case round =>
  obtain ⟨acc, sh, j, i1, rfl, rfl, hsh, hi1, hacc, hacc2, hd, hC, hnr⟩ := hrel
  have hile := hC.le
  rw [<- HLn.out] at hile
  have HC := Lib.hid (takeC_any wr R ao l cap i1 hC)
  have HD := Lib.hid hd
  have HA := Lib.hid hacc
  have HI1 := Lib.hid hi1
  have HN := Lib.hid hnr
  clear hd hacc hC hnr
  go_wp2_with fail
  refine HC.out.mono ?_
  rintro e w1 ⟨hn1, ⟨hi, rfl, h1⟩ | ⟨hi, rfl⟩⟩
  case inr =>
   exact ⟨rfl, HN.out.trans hn1, .inr ⟨by rw [HD.out]; exact dsz_end hi, rfl⟩⟩
  case inl =>
   have hdz := dsz_at (j := j) (acc := acc) hi
   have hv := l[i1].toNat_lt
   obtain ⟨v, hvv⟩ : ∃ v, l[i1].toNat = v := ⟨_, rfl⟩
   rw [hvv] at hdz hv
   rw [hvv]
   obtain ⟨y, hy⟩ : ∃ y, y = v % 128 := ⟨_, rfl⟩
   obtain ⟨q, hq⟩ : ∃ q, q = 999999999 / 128 ^ j := ⟨_, rfl⟩
   have hs := shr_is j
   rw [<- hq, <- hsh] at hs
   have hs1 := hs.1
   have hq9 : q <= 999999999 := by rw [hq]; exact Nat.div_le_self _ _
   have hrem : (v : Int) % 128 = (y : Int) := by omega
   rw [<- hy, <- hq] at hdz
   have HDz := Lib.hid hdz
   have HN1 := Lib.hid (HN.out.trans hn1)
   have HC1 := Lib.hid h1
   have hy1 : y <= 127 := by omega
   have hsh00 : (0 : Int) <= (sh : Int) := by omega
   have hshb : sh <= 63000 := by omega
   have hwsh : IntKind.i64.wrap ((sh : Int) + 7) = (sh : Int) + 7 := by rw [IntKind.wrap_i64]; omega
   have HSh := Lib.hid hsh
   have hs64 : (999999999 : Int) / 2 ^ min sh IntKind.i64.bits = (q : Int) := hs1
   clear HC hvv hdz hn1 h1 hs
   by_cases hyq : y <= q
   case neg =>
    have HP : Hid (SizeC w R ao l cap i (.panicked refusal) w1) := ⟨HN1.out, .inr ⟨by rw [HD.out, HDz.out, if_neg hyq], rfl⟩⟩
    have hyi : ¬ (y : Int) <= (q : Int) := by omega
    have hyd : decide (y <= q) = false := decide_eq_false hyq
    clear HN1 HC1 HD HDz HA hq hy hsh
    go_wp2_with (go_at_call 55; refine (demand_no _).mono ?_; rintro e w' ⟨rfl, rfl⟩)
    exact ⟨rfl, HP.out⟩
   case pos =>
    have hyi : (y : Int) <= (q : Int) := by omega
    obtain ⟨p, hp⟩ : ∃ p, p = y * 128 ^ j := ⟨_, rfl⟩
    have hl := shl_is j y (by rw [<- hq]; exact hyq)
    rw [<- hp, <- hsh] at hl
    have hp0 : v = 0 -> p = 0 := fun h => by rw [hp, hy, h]; simp
    have hl1 := hl.1
    have hl64 : (y : Int) * 2 ^ min sh IntKind.i64.bits = (p : Int) := hl.1
    have hl3 := hl.2.2
    have hacc3 : acc + p <= 1999999998 := by
     by_cases hp0 : p = 0
     ·omega
     ·have hA := HA.out
      have h128 : 128 ^ j <= p := by
       rw [hp]
       exact Nat.le_mul_of_pos_left _ (by
        rcases Nat.eq_zero_or_pos y with h | h
        ·rw [h] at hp; simp at hp; omega
        ·exact h)
      omega
    have hacc4 : acc + p < 128 ^ (j + 1) := by
     have hA := HA.out
     have h1 : y * 128 ^ j <= 127 * 128 ^ j := Nat.mul_le_mul_right _ hy1
     rw [Nat.pow_succ]
     omega
    have hwp : IntKind.i64.wrap (p : Int) = (p : Int) := by rw [IntKind.wrap_i64]; omega
    have HA4 := Lib.hid hacc4
    rw [<- hp] at HDz
    by_cases hv8 : v < 128
    case pos =>
     have hv8i : (v : Int) < 128 := by omega
     by_cases hz : 0 < v ∨ j = 0
     case pos =>
      have HP : Hid (SizeC w R ao l cap i (.returned (.int .i64 ((acc : Int) + (p : Int)))) w1) := ⟨HN1.out, .inl ⟨acc + p, i1 + 1, by rw [HD.out, HDz.out, if_pos hyq, if_pos hv8, if_pos hz], by rw [show ((acc + p : Nat) : Int) = (acc : Int) + (p : Int) by omega], hacc3, HC1.out, by omega⟩⟩
      clear HN1 HC1 HD HDz HA hq hy hp hl HA4 hacc4
      by_cases hv0 : 0 < v
      ·have hv0i : (0 : Int) < (v : Int) := by omega
       clear hz hsh
       go_wp2_with (go_at_call 55; refine (demand_yes _).mono ?_; rintro e w' ⟨rfl, rfl⟩)
       go_ret
       exact HP.out
      ·have hv0i : ¬ (0 : Int) < (v : Int) := by omega
       have hsh0 : (sh : Int) = 0 := by omega
       have hsh1 : sh = 0 := by omega
       have hv00 : v = 0 := by omega
       have hpz := hp0 hv00
       subst hpz
       rw [show (acc : Int) + ((0 : Nat) : Int) = (acc : Int) by omega] at HP
       clear hz hsh hp0
       go_wp2_with (go_at_call 55; refine (demand_yes _).mono ?_; rintro e w' ⟨rfl, rfl⟩)
       go_ret
       exact HP.out
     case neg =>
      have HP : Hid (SizeC w R ao l cap i (.panicked refusal) w1) := ⟨HN1.out, .inr ⟨by rw [HD.out, HDz.out, if_pos hyq, if_pos hv8, if_neg hz], rfl⟩⟩
      have hv0i : ¬ (0 : Int) < (v : Int) := by omega
      have hsh0 : ¬ (sh : Int) = 0 := by omega
      have hbq : ((sh : Int) == 0) = false := by simp; omega
      have hv00 : v = 0 := by omega
      clear HN1 HC1 HD HDz HA hq hy hp hl HA4 hacc4 hz hsh
      go_wp2_with (go_at_call 55; first | (refine (demand_yes _).mono ?_; rintro e w' ⟨rfl, rfl⟩) | (refine (demand_no _).mono ?_; rintro e w' ⟨rfl, rfl⟩))
      exact ⟨rfl, HP.out⟩
    case neg =>
     have hv8i : ¬ (v : Int) < 128 := by omega
     have HD2 : Hid (dsz (l.length - i) 0 0 (l.drop i) = dsz (l.length - (i1 + 1)) (j + 1) (acc + p) (l.drop (i1 + 1))) := by show _ = _; rw [HD.out, HDz.out, if_pos hyq, if_neg hv8]
     have hi' : i1 + 1 <= ln := by have := HC1.out.le; rw [<- HLn.out] at this; exact this
     clear HD HDz HA hyq hq hy hp hl hacc4 hsh hi1
     go_wp2_with (go_at_call 55; refine (demand_yes _).mono ?_; rintro e w' ⟨rfl, rfl⟩)
     go_roundw
     case rel => exact ⟨acc + p, sh + 7, j + 1, i1 + 1, by go_num, by go_num, by have := HSh.out; omega, by have := HI1.out; omega, HA4.out, hacc3, HD2.out, HC1.out, HN1.out⟩
     case measure => have h1 := HSh.out; have h2 := HI1.out; simp [intOf]; omega
end Go.Proofs.YtmjhcgjhlakceaaGreatDoor

namespace Go.Proofs.YtmjhcgjhlakceaaGreatDoor
open Go.RowKit
def NumC (w : World) (R : Nat) (ao : Option Addr) (l : List UInt8) (cap i : Nat) (e : Ending) (w' : World) : Prop :=
 Near R w w' /\ ((∃ v i', decNum (l.drop i) = some (v, l.drop i') /\ e = .returned (.int .i64 v) /\ (-1999999998 <= v /\ v <= 1999999998) /\ Cu w' R ao l cap i' /\ i < i') ∨ (decNum (l.drop i) = none /\ e = .panicked refusal))
theorem decNum_nil {l : List UInt8} {i : Nat} (h : l.length <= i) : decNum (l.drop i) = none := by
 rw [List.drop_eq_nil_of_le h]; rfl
theorem decNum_bad {l : List UInt8} {i : Nat} (h : i < l.length) (hd : dsz (l.length - (i + 1)) 0 0 (l.drop (i + 1)) = none) : decNum (l.drop i) = none := by
 rw [List.drop_eq_getElem_cons h, decNum_cons, List.length_drop, hd]
theorem decNum_at {l : List UInt8} {i n : Nat} {r : List UInt8} (h : i < l.length) (hd : dsz (l.length - (i + 1)) 0 0 (l.drop (i + 1)) = some (n, r)) : decNum (l.drop i) = if l[i].toNat = 0 then some ((n : Int), r) else if l[i].toNat = 1 /\ 0 < n then some (-(n : Int), r) else none := by
 rw [List.drop_eq_getElem_cons h, decNum_cons, List.length_drop, hd]
set_option maxRecDepth 20000 in
set_option maxHeartbeats 2000000 in
theorem numC_any (w : World) (R : Nat) (ao : Option Addr) (l : List UInt8) (cap i : Nat) (h : Cu w R ao l cap i) :
  Calls Tryz.prog 95 #[.pointer (some ⟨R, 0, none⟩)] w (NumC w R ao l cap i) := by
 have HC := Lib.hid (takeC_any w R ao l cap i h)
 clear h
 go_enter Tryz.func95, Tryz.ntmps95
 go_wp2_with fail
 refine HC.out.mono ?_
 rintro e w1 ⟨hn1, ⟨hi, rfl, h1⟩ | ⟨hi, rfl⟩⟩
 case inr => exact ⟨rfl, hn1, .inr ⟨decNum_nil hi, rfl⟩⟩
 case inl =>
  have HC2 := Lib.hid (sizeC_any w1 R ao l cap (i + 1) h1)
  have HN1 := Lib.hid hn1
  have hv := l[i].toNat_lt
  obtain ⟨v, hvv⟩ : ∃ v, l[i].toNat = v := ⟨_, rfl⟩
  have HV : Hid (∀ (n : Nat) (r : List UInt8), dsz (l.length - (i + 1)) 0 0 (l.drop (i + 1)) = some (n, r) -> decNum (l.drop i) = if v = 0 then some ((n : Int), r) else if v = 1 /\ 0 < n then some (-(n : Int), r) else none) := fun n r hd => by rw [<- hvv]; exact decNum_at hi hd
  rw [hvv] at hv
  rw [hvv]
  have HI := Lib.hid hi
  clear HC h1 hn1 hvv
  go_wp2_with fail
  refine HC2.out.mono ?_
  rintro e w2 ⟨hn2, ⟨n, i', hd, rfl, hn, h2, hii⟩ | ⟨hd, rfl⟩⟩
  case inr => exact ⟨rfl, HN1.out.trans hn2, .inr ⟨decNum_bad HI.out hd, rfl⟩⟩
  case inl =>
   have HD := Lib.hid (HV.out n _ hd)
   have HN2 := Lib.hid (HN1.out.trans hn2)
   have HC3 := Lib.hid h2
   clear HC2 hd hn2 h2 HV HN1 hi
   by_cases h0 : v = 0
   ·subst h0
    have HP : Hid (NumC w R ao l cap i (.returned (.int .i64 (n : Int))) w2) := ⟨HN2.out, .inl ⟨(n : Int), i', by rw [HD.out, if_pos rfl], rfl, by omega, HC3.out, by omega⟩⟩
    clear HD HN2 HC3 HI
    go_wp2_with (go_at_call 55; refine (demand_yes _).mono ?_; rintro e w' ⟨rfl, rfl⟩)
    go_ret
    exact HP.out
   ·by_cases h1 : v = 1 /\ 0 < n
    ·obtain ⟨hv1, hn0⟩ := h1
     subst hv1
     have HP : Hid (NumC w R ao l cap i (.returned (.int .i64 (-(n : Int)))) w2) := ⟨HN2.out, .inl ⟨-(n : Int), i', by rw [HD.out, if_neg h0, if_pos ⟨rfl, hn0⟩], rfl, by omega, HC3.out, by omega⟩⟩
     have hni : (0 : Int) < (n : Int) := by omega
     have hwn : IntKind.i64.wrap (-(n : Int)) = -(n : Int) := by rw [IntKind.wrap_i64]; omega
     clear HD HN2 HC3 HI
     go_wp2_with (go_at_call 55; refine (demand_yes _).mono ?_; rintro e w' ⟨rfl, rfl⟩)
     go_ret
     exact HP.out
    ·have HP : Hid (NumC w R ao l cap i (.panicked refusal) w2) := ⟨HN2.out, .inr ⟨by rw [HD.out, if_neg h0, if_neg h1], rfl⟩⟩
     have hb0 : ((v : Int) == 0) = false := by simp; omega
     have h0i : ¬ (v : Int) = 0 := by omega
     clear HD HN2 HC3 HI
     by_cases hv1 : v = 1
     ·subst hv1
      have hn0 : n = 0 := by
       rcases Nat.eq_zero_or_pos n with h | h
       ·exact h
       ·exact absurd ⟨rfl, h⟩ h1
      subst hn0
      clear h1
      go_wp2_with (go_at_call 55; refine (demand_no _).mono ?_; rintro e w' ⟨rfl, rfl⟩)
      exact ⟨rfl, HP.out⟩
     ·have hb1 : ((v : Int) == 1) = false := by simp; omega
      have h1i : ¬ (v : Int) = 1 := by omega
      clear h1
      go_wp2_with (go_at_call 55; refine (demand_no _).mono ?_; rintro e w' ⟨rfl, rfl⟩)
      exact ⟨rfl, HP.out⟩
end Go.Proofs.YtmjhcgjhlakceaaGreatDoor
