import Derived.Test.YtmjhcgjhlakceaaGreatDoorB33
import Derived.Test.YtmjhcgjhlakceaaGreatDoorDE2
import Derived.Test.YtmjhcgjhlakceaaGreatDoorB21
import Derived.Deep.RegionHeld
import Derived.Deep.RegionWith
namespace Go.Proofs.YtmjhcgjhlakceaaGreatDoor
open Go.RowKit
theorem code_step {S : Nat -> Prop} {w w' : World} {ao : Option Addr} {L cap : Nat} (h : CodeIn S w ao L cap) (hS : ∀ b, S b -> b < w.heap.size) (hb : Below w.heap.size w w') : CodeIn S w' ao L cap :=
 ⟨h.1, h.2.1, fun h0 => by
  obtain ⟨b, off, ha, hs, hc⟩ := h.2.2 h0
  refine ⟨b, off, ha, hs, fun j hj => ?_⟩
  obtain ⟨u, hu, hx⟩ := hc j hj
  exact ⟨u, hu, (World.cell?_of_block (a := ⟨b, off + j, none⟩) (hb.block b (hS b hs))).trans hx⟩⟩
theorem undef_yields : yielded.match_1 (fun _ => Option Bool) (some undef) (fun b => some b) (fun _ => none) = none := rfl
theorem okE_size {n : Nat} {x : ByteArray} {v : Int} {t : T n} (h : okE n x v t = true) : x.size <= maxLen := by
 have h1 := (okE_get h).1
 simp only [nameB, Bool.and_eq_true, decide_eq_true_eq] at h1
 unfold maxLen; omega
theorem textE_is {m : Nat} {s x : ByteArray} {v : Int} {t : T (m + 1)} (h : okE (m + 1) x v t = true) (e : txtE (m + 1) x v t = s.data.toList) : textE (m + 1) x v t = s :=
 ba_eq ((textE_yes h).trans e)
set_option maxRecDepth 100000 in
set_option maxHeartbeats 8000000 in
theorem lawPEStrict_any (N : Nat) (hN : 30000 <= N) (S : Nat -> Prop) (w : World) (ao : Option Addr) (L cap : Nat) (h : CodeIn S w ao L cap) (hS : ∀ b, S b -> b < w.heap.size) (hU : LaidU w.heap.size w) :
  Calls Tryz.prog 3 #[.slice ao L cap] w fun e w' => e = .returned (.bool true) /\ Below w.heap.size w w' := by
 by_cases hL : 1048576 < L
 ·have hLi : (1048576 : Int) < (L : Int) := by omega
  clear h hU
  go_enter Tryz.func3, Tryz.ntmps3
  go_wp2_with fail
  go_ret
  exact ⟨rfl, Below.refl _ _⟩
 have hLi : ¬ (1048576 : Int) < (L : Int) := by omega
 have HD := Lib.hid (drawEUnpack_any S w ao L cap h hS)
 have HR : Hid (∀ W, Below w.heap.size w W -> Calls Tryz.prog 10 #[.slice ao L cap] W (DrawnSE W)) := fun W hW => drawERead_any S W ao L cap (code_step h hS hW) (fun b hb => Nat.lt_of_lt_of_le (hS b hb) hW.size)
 have HU := Lib.hid hU
 clear h hU hS
 go_enter Tryz.func3, Tryz.ntmps3
 go_wp2_with fail
 refine HD.out.mono ?_
 rintro e w1 ⟨hb1, l, ba, bc, rfl, hl, hby⟩
 have hC2 := specEUnpack_any N (by omega) l ba bc w1 hby
 have HY1 := Lib.hid hby
 have HB1 := Lib.hid hb1
 obtain ⟨ln, hln⟩ : ∃ ln, l.length = ln := ⟨_, rfl⟩
 rw [hln] at hC2 hl ⊢
 have HLn := Lib.hid hln
 have HC2 := Lib.hid hC2
 clear HD hb1 hby hC2 hln
 go_wp2_with fail
 refine HC2.out.mono ?_
 rintro e w2 ⟨hb2, ok, x, v, t, c0, c1, c2, c3, c4, rfl, hG2, hU2⟩
 obtain ⟨u0, u1, u2, ua, ul, uc, ya, yl, yc, rfl, rfl, rfl, rfl, rfl⟩ := hG2.shape
 obtain ⟨W2, hW2⟩ : ∃ W2, W2 = w2.alloc (.cells #[.string x, .int .i64 v, .int .i64 u0, .int .i64 u1, .string u2, .slice ua ul uc, .slice ya yl yc] 29) := ⟨_, rfl⟩
 have ha2 : Below w2.heap.size w2 W2 := by rw [hW2]; exact (Below.refl _ _).alloc (Nat.le_refl _) _
 have bu2 : BoxE w2.heap.size W2 (N + 1) x v t w2.heap.size (.int .i64 u0) (.int .i64 u1) (.string u2) (.slice ua ul uc) (.slice ya yl yc) := ⟨by rw [hW2]; exact Box7.new _ _ _ _ _ _ _ _ _, hG2.keep (fun b hb => ha2.block b hb.2) (fun b hb => hb.2), ha2.size⟩
 have hb12 := below_step hb2 hb2.size ha2
 have HB2 := Lib.hid (below_step HB1.out HB1.out.size hb12)
 have HY2 := Lib.hid (HY1.out.step hb12)
 have HT2 := Lib.hid bu2
 have HU2 := Lib.hid hU2
 have hC3 := implEUnpack_of N (treeC_any (N + 1)) l (by rw [HLn.out]; omega) ba bc W2 HY2.out
 rw [HLn.out] at hC3
 have HC3 := Lib.hid hC3
 have HW2 : Hid (w2.alloc (.cells #[.string x, .int .i64 v, .int .i64 u0, .int .i64 u1, .string u2, .slice ua ul uc, .slice ya yl yc] 29) = W2) := hW2.symm
 clear HC2 hb2 hG2 hU2 hW2 ha2 bu2 hb12 HB1 HY1 hC3
 go_upto_region 5 with fail
 rw [HW2.out]
 clear HW2
 go_wp2_with fail
 refine HC3.out.mono ?_
 rintro e w3 ⟨hb3, ok3, x3, v3, t3, d0, d1, d2, d3, d4, rfl, hG3, -, hU3⟩
 obtain ⟨rfl, rfl, rfl, rfl⟩ := eunp_one hU3 HU2.out
 obtain ⟨z0, z1, z2, za, zl, zc, va, vl, vc, rfl, rfl, rfl, rfl, rfl⟩ := hG3.shape
 obtain ⟨W3, hW3⟩ : ∃ W3, W3 = w3.alloc (.cells #[.string x, .int .i64 v, .int .i64 z0, .int .i64 z1, .string z2, .slice za zl zc, .slice va vl vc] 29) := ⟨_, rfl⟩
 have ha3 : Below w3.heap.size w3 W3 := by rw [hW3]; exact (Below.refl _ _).alloc (Nat.le_refl _) _
 have bu3 : BoxE w3.heap.size W3 (N + 1) x v t w3.heap.size (.int .i64 z0) (.int .i64 z1) (.string z2) (.slice za zl zc) (.slice va vl vc) := ⟨by rw [hW3]; exact Box7.new _ _ _ _ _ _ _ _ _, hG3.keep (fun b hb => ha3.block b hb.2) (fun b hb => hb.2), ha3.size⟩
 have hb23 := below_step hb3 hb3.size ha3
 have HB3 := Lib.hid (below_step HB2.out HB2.out.size hb23)
 have HT3 := Lib.hid (HT2.out.keep hb23)
 have HV3 := Lib.hid bu3
 have HCv : Hid (∀ W, Below W3.heap.size W3 W -> (convert 22 9 (.slice ba ln bc)).run Tryz.prog W = .ok (.string ⟨l.toArray⟩) W) := fun W hW => by
  have hy := (HY2.out.step hb23).step hW
  have := conv_bytes (cap := bc) (fun j hj => by obtain ⟨b, off, ha, -, hc⟩ := hy.bytes j hj; exact ⟨b, off, ha, hc⟩)
  rw [HLn.out] at this
  exact this
 have HS : Hid (∀ W, Below W3.heap.size W3 W -> (W.cell? ⟨w3.heap.size, 0, none⟩ = some (.string x) /\ W.cell? ⟨w3.heap.size, 1, none⟩ = some (.int .i64 v) /\ W.cell? ⟨w3.heap.size, 2, none⟩ = some (.int .i64 z0) /\ W.cell? ⟨w3.heap.size, 3, none⟩ = some (.int .i64 z1) /\ W.cell? ⟨w3.heap.size, 4, none⟩ = some (.string z2) /\ W.cell? ⟨w3.heap.size, 5, none⟩ = some (.slice za zl zc) /\ W.cell? ⟨w3.heap.size, 6, none⟩ = some (.slice va vl vc)) /\ W.cell? ⟨w2.heap.size, 0, none⟩ = some (.string x) /\ W.cell? ⟨w2.heap.size, 1, none⟩ = some (.int .i64 v) /\ W.cell? ⟨w2.heap.size, 2, none⟩ = some (.int .i64 u0) /\ W.cell? ⟨w2.heap.size, 3, none⟩ = some (.int .i64 u1) /\ W.cell? ⟨w2.heap.size, 4, none⟩ = some (.string u2) /\ W.cell? ⟨w2.heap.size, 5, none⟩ = some (.slice ua ul uc) /\ W.cell? ⟨w2.heap.size, 6, none⟩ = some (.slice ya yl yc)) := fun W hW => by
  obtain ⟨i0, i1, i2, i3, i4, i5, i6⟩ := (HV3.out.keep hW).box
  obtain ⟨j0, j1, j2, j3, j4, j5, j6⟩ := (HT3.out.keep hW).box
  exact ⟨⟨i0, i1, i2, i3, i4, i5, i6⟩, j0, j1, j2, j3, j4, j5, j6⟩
 have HF1 : Hid (∀ W, Below W3.heap.size W3 W -> Calls Tryz.prog 7 #[.agg #[.string x, .int .i64 v, .int .i64 z0, .int .i64 z1, .string z2, .slice za zl zc, .slice va vl vc], .agg #[.string x, .int .i64 v, .int .i64 u0, .int .i64 u1, .string u2, .slice ua ul uc, .slice ya yl yc]] W fun e w' => e = .returned (.bool true) /\ Below W3.heap.size W3 w') := fun W hW => by
  have b3 := HV3.out.keep hW
  have b2 := HT3.out.keep hW
  refine (ttEvent_same (N + 1) _ _ x v t _ _ _ _ _ _ _ _ _ _ W b3.tree b2.tree b3.below b2.below).mono ?_
  rintro e w' ⟨rfl, hb'⟩
  exact ⟨rfl, below_step hW hW.size hb'⟩
 have hbd : Below W3.heap.size W3 W3.drew := (Below.refl _ _).drew
 have HW3 : Hid (w3.alloc (.cells #[.string x, .int .i64 v, .int .i64 z0, .int .i64 z1, .string z2, .slice za zl zc, .slice va vl vc] 29) = W3) := hW3.symm
 clear HC3 hb3 hG3 hW3 ha3 bu3 hb23 HB2 HY2 HT2
 go_upto_region 6 with fail
 rw [HW3.out]
 clear HW3
 obtain ⟨⟨i0, i1, i2, i3, i4, i5, i6⟩, j0, j1, j2, j3, j4, j5, j6⟩ := HS.out W3 (Below.refl _ _)
 go_cut [52] from 28 to 52 (fun rv wx => rv = .bool false /\ Below W3.heap.size W3 wx)
 case first =>
  rcases hU3 with ⟨rfl, hok, hpk⟩ | ⟨rfl, -, -, -, -⟩
  ·have HF2 : Hid (∀ W, Below W3.heap.size W3 W -> Calls Tryz.prog 8 #[.agg #[.string x, .int .i64 v, .int .i64 z0, .int .i64 z1, .string z2, .slice za zl zc, .slice va vl vc]] W fun e w' => e = .returned (.bool true) /\ Below W3.heap.size W3 w') := fun W hW => by
    have b3 := HV3.out.keep hW
    have := implEOk_any (N + 1) _ x v t _ _ _ _ _ W (okE_size hok) b3.tree b3.below
    rw [hok] at this
    refine this.mono ?_
    rintro e w' ⟨rfl, hb'⟩
    exact ⟨rfl, below_step hW hW.size hb'⟩
   have HF3 : Hid (∀ W, Below W3.heap.size W3 W -> Calls Tryz.prog 9 #[.agg #[.string x, .int .i64 v, .int .i64 z0, .int .i64 z1, .string z2, .slice za zl zc, .slice va vl vc]] W fun e w' => ∃ pa pc, e = .returned (.slice pa ln pc) /\ Below W3.heap.size W3 w' /\ (convert 22 9 (.slice pa ln pc)).run Tryz.prog w' = .ok (.string ⟨l.toArray⟩) w') := fun W hW => by
    have b3 := HV3.out.keep hW
    refine (implEPack_any (N + 1) _ x v t _ _ _ _ _ W (okE_size hok) b3.tree b3.below).mono ?_
    rintro e w' ⟨pv, rfl, hbb⟩
    have hbe : bytesE (N + 1) x v t = l := by rw [bytesE, if_pos hok, hpk]
    rw [hbe] at hbb
    obtain ⟨pa, pc, hpv⟩ := hbb.shape
    rw [HLn.out] at hpv
    subst hpv
    exact ⟨pa, pc, rfl, below_step hW hW.size hbb.below, conv_row (OwnB.row hbb.own (by rw [HLn.out]; unfold maxLen; omega))⟩
   obtain ⟨bt, hbt⟩ : ∃ bt : ByteArray, bt = ⟨l.toArray⟩ := ⟨_, rfl⟩
   rw [<- hbt] at HCv HF3
   have hbn : (bt.toList != bt.toList) = false := by simp
   have hbb : (bt.toList == bt.toList) = true := by simp
   clear hbt HV3 HT3 hok hpk
   go_region_held (fun w' => (w'.cell? ⟨w3.heap.size, 0, none⟩ = some (.string x) /\ w'.cell? ⟨w3.heap.size, 1, none⟩ = some (.int .i64 v) /\ w'.cell? ⟨w3.heap.size, 2, none⟩ = some (.int .i64 z0) /\ w'.cell? ⟨w3.heap.size, 3, none⟩ = some (.int .i64 z1) /\ w'.cell? ⟨w3.heap.size, 4, none⟩ = some (.string z2) /\ w'.cell? ⟨w3.heap.size, 5, none⟩ = some (.slice za zl zc) /\ w'.cell? ⟨w3.heap.size, 6, none⟩ = some (.slice va vl vc)) /\ w'.cell? ⟨w2.heap.size, 0, none⟩ = some (.string x) /\ w'.cell? ⟨w2.heap.size, 1, none⟩ = some (.int .i64 v) /\ w'.cell? ⟨w2.heap.size, 2, none⟩ = some (.int .i64 u0) /\ w'.cell? ⟨w2.heap.size, 3, none⟩ = some (.int .i64 u1) /\ w'.cell? ⟨w2.heap.size, 4, none⟩ = some (.string u2) /\ w'.cell? ⟨w2.heap.size, 5, none⟩ = some (.slice ua ul uc) /\ w'.cell? ⟨w2.heap.size, 6, none⟩ = some (.slice ya yl yc)) (first | with_reducible assumption | go_keep) (first
    | (go_at_call 7; refine (HF1.out _ (by with_reducible assumption)).mono ?_; rintro e y1 ⟨rfl, hy1⟩; obtain ⟨⟨ia0, ia1, ia2, ia3, ia4, ia5, ia6⟩, ja0, ja1, ja2, ja3, ja4, ja5, ja6⟩ := HS.out y1 hy1; have cva := HCv.out y1 hy1)
    | (go_at_call 8; refine (HF2.out _ (by with_reducible assumption)).mono ?_; rintro e y2 ⟨rfl, hy2⟩; obtain ⟨⟨ib0, ib1, ib2, ib3, ib4, ib5, ib6⟩, jb0, jb1, jb2, jb3, jb4, jb5, jb6⟩ := HS.out y2 hy2; have cvb := HCv.out y2 hy2)
    | (go_at_call 9; refine (HF3.out _ (by with_reducible assumption)).mono ?_; rintro e y3 ⟨pa, pc, rfl, hy3, cvo⟩; obtain ⟨⟨ic0, ic1, ic2, ic3, ic4, ic5, ic6⟩, jc0, jc1, jc2, jc3, jc4, jc5, jc6⟩ := HS.out y3 hy3; have cvc := HCv.out y3 hy3))
   all_goals
    go_wp2_with fail
    go_meet
    exact ⟨rfl, hy3⟩
  ·clear HV3 HT3 HCv
   have hun := undef_yields
   first | (go_region_with (first | (go_at_call 7; refine (HF1.out _ hbd).mono ?_; rintro e y1 ⟨rfl, hy1⟩))) | fail
   all_goals
    go_wp2_with fail
    go_meet
    exact ⟨rfl, hy1⟩
 case rest =>
  obtain ⟨rfl, hbc⟩ := hcut
  have HBc := Lib.hid (below_step HB3.out HB3.out.size hbc)
  have HC5 := Lib.hid (HR.out wc HBc.out)
  clear hbc i0 i1 i2 i3 i4 i5 i6 j0 j1 j2 j3 j4 j5 j6 HF1 HS HCv HT3 HV3 HB3 hbd hU3 HU2 HR
  go_wp2_with fail
  refine HC5.out.mono ?_
  rintro e w5 ⟨hb5, s, hs, rfl⟩
  have HB5 := Lib.hid (below_step HBc.out HBc.out.size hb5)
  have HC6 := Lib.hid (specERead_any N (by omega) s (by omega) w5)
  clear HC5 hb5 HBc
  go_wp2_with fail
  refine HC6.out.mono ?_
  rintro e w6 ⟨hb6, ok6, x6, v6, t6, c0, c1, c2, c3, c4, rfl, hG6, hU6⟩
  obtain ⟨s0, s1, s2, sa, sl, sc, ta, tl, tc, rfl, rfl, rfl, rfl, rfl⟩ := hG6.shape
  obtain ⟨W6, hW6⟩ : ∃ W6, W6 = w6.alloc (.cells #[.string x6, .int .i64 v6, .int .i64 s0, .int .i64 s1, .string s2, .slice sa sl sc, .slice ta tl tc] 29) := ⟨_, rfl⟩
  have ha6 : Below w6.heap.size w6 W6 := by rw [hW6]; exact (Below.refl _ _).alloc (Nat.le_refl _) _
  have bu6 : BoxE w6.heap.size W6 (N + 1) x6 v6 t6 w6.heap.size (.int .i64 s0) (.int .i64 s1) (.string s2) (.slice sa sl sc) (.slice ta tl tc) := ⟨by rw [hW6]; exact Box7.new _ _ _ _ _ _ _ _ _, hG6.keep (fun b hb => ha6.block b hb.2) (fun b hb => hb.2), ha6.size⟩
  have hb56 := below_step hb6 hb6.size ha6
  have HB6 := Lib.hid (below_step HB5.out HB5.out.size hb56)
  have HT6 := Lib.hid bu6
  have HU6 := Lib.hid hU6
  have HC7 := Lib.hid (implERead_any N w.heap.size s (by omega) (by omega) W6 (HU.out.step HB6.out) HB6.out.size)
  have HW6 : Hid (w6.alloc (.cells #[.string x6, .int .i64 v6, .int .i64 s0, .int .i64 s1, .string s2, .slice sa sl sc, .slice ta tl tc] 29) = W6) := hW6.symm
  clear HC6 hb6 hG6 hU6 hW6 ha6 bu6 hb56 HB5
  go_upto_region 10 with fail
  rw [HW6.out]
  clear HW6
  go_wp2_with fail
  refine HC7.out.mono ?_
  rintro e w7 ⟨hb7, ok7, x7, v7, t7, d0, d1, d2, d3, d4, rfl, hG7, -, hU7⟩
  obtain ⟨rfl, rfl, rfl, rfl⟩ := erd_one hU7 HU6.out
  obtain ⟨k0, k1, k2, ka, kl, kc, ga, gl, gc, rfl, rfl, rfl, rfl, rfl⟩ := hG7.shape
  obtain ⟨W7, hW7⟩ : ∃ W7, W7 = w7.alloc (.cells #[.string x6, .int .i64 v6, .int .i64 k0, .int .i64 k1, .string k2, .slice ka kl kc, .slice ga gl gc] 29) := ⟨_, rfl⟩
  have ha7 : Below w7.heap.size w7 W7 := by rw [hW7]; exact (Below.refl _ _).alloc (Nat.le_refl _) _
  have bu7 : BoxE w7.heap.size W7 (N + 1) x6 v6 t6 w7.heap.size (.int .i64 k0) (.int .i64 k1) (.string k2) (.slice ka kl kc) (.slice ga gl gc) := ⟨by rw [hW7]; exact Box7.new _ _ _ _ _ _ _ _ _, hG7.keep (fun b hb => ha7.block b hb.2) (fun b hb => hb.2), ha7.size⟩
  have hb67 := below_step hb7 hb7.size ha7
  have HB7 := Lib.hid (below_step HB6.out HB6.out.size hb67)
  have bt7 := HT6.out.keep hb67
  have HV7 := Lib.hid bu7
  have HC8 := Lib.hid (ttEvent_same (N + 1) _ _ x6 v6 t6 _ _ _ _ _ _ _ _ _ _ W7 bu7.tree bt7.tree bu7.below bt7.below)
  have HW7 : Hid (w7.alloc (.cells #[.string x6, .int .i64 v6, .int .i64 k0, .int .i64 k1, .string k2, .slice ka kl kc, .slice ga gl gc] 29) = W7) := hW7.symm
  obtain ⟨i0, i1, i2, i3, i4, i5, i6⟩ := bu7.box
  obtain ⟨j0, j1, j2, j3, j4, j5, j6⟩ := bt7.box
  clear HC7 hb7 hG7 hW7 ha7 bu7 hb67 bt7 HB6 HT6 HU6
  go_upto_region 11 with fail
  rw [HW7.out]
  clear HW7
  rcases hU7 with ⟨rfl, hok, htx⟩ | ⟨rfl, -, rfl, -, -⟩
  ·have HOk := Lib.hid hok
   have HTx := Lib.hid htx
   clear hok htx
   go_wp2_with fail
   refine HC8.out.mono ?_
   rintro e w8 ⟨rfl, hb8⟩
   have HB8 := Lib.hid (below_step HB7.out HB7.out.size hb8)
   have bv8 := HV7.out.keep hb8
   have HV8 := Lib.hid bv8
   have hC9 := implEOk_any (N + 1) _ x6 v6 t6 _ _ _ _ _ w8 (okE_size HOk.out) bv8.tree bv8.below
   rw [HOk.out] at hC9
   have HC9 := Lib.hid hC9
   clear i0 i1 i2 i3 i4 i5 i6 j0 j1 j2 j3 j4 j5 j6
   obtain ⟨i0, i1, i2, i3, i4, i5, i6⟩ := bv8.box
   clear HC8 hb8 bv8 HB7 HV7 hC9
   go_wp2_with fail
   refine HC9.out.mono ?_
   rintro e w9 ⟨rfl, hb9⟩
   have HB9 := Lib.hid (below_step HB8.out HB8.out.size hb9)
   have bv9 := HV8.out.keep hb9
   have hC10 := implEWrite_any (N + 1) _ x6 v6 t6 _ _ _ _ _ w9 (okE_size HOk.out) bv9.tree bv9.below (HU.out.tens HB9.out)
   rw [textE_is HOk.out HTx.out] at hC10
   have HC10 := Lib.hid hC10
   have hss : (s.toList == s.toList) = true := by simp
   clear i0 i1 i2 i3 i4 i5 i6
   obtain ⟨i0, i1, i2, i3, i4, i5, i6⟩ := bv9.box
   clear HC9 hb9 bv9 HB8 HV8 hC10
   go_wp2_with fail
   refine HC10.out.mono ?_
   rintro e w10 ⟨rfl, hb10⟩
   have HB10 := Lib.hid (below_step HB9.out HB9.out.size hb10)
   clear HC10 hb10 HB9 i0 i1 i2 i3 i4 i5 i6
   go_wp2_with fail
   go_ret
   exact ⟨rfl, HB10.out⟩
  ·go_wp2_with fail
   refine HC8.out.mono ?_
   rintro e w8 ⟨rfl, hb8⟩
   have HB8 := Lib.hid (below_step HB7.out HB7.out.size hb8)
   have bv8 := HV7.out.keep hb8
   clear i0 i1 i2 i3 i4 i5 i6 j0 j1 j2 j3 j4 j5 j6
   obtain ⟨i0, i1, i2, i3, i4, i5, i6⟩ := bv8.box
   clear HC8 hb8 bv8 HB7 HV7
   go_wp2_with fail
   go_ret
   exact ⟨rfl, HB8.out⟩
end Go.Proofs.YtmjhcgjhlakceaaGreatDoor
