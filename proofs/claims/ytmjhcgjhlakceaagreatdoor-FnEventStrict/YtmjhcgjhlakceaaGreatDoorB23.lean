/-
  Several texts in one, in their order.
-/
import Derived.Test.YtmjhcgjhlakceaaGreatDoorB19
import Derived.Test.YtmjhcgjhlakceaaGreatDoorB1
import Derived.Deep.OwnRows
import Derived.Deep.RegionHeld
import Derived.Deep.RegionLaw
import Derived.Lib.LazyBuf

namespace Go.Proofs.YtmjhcgjhlakceaaGreatDoor
open Go.RowKit
def Wr (w : World) (R : Nat) (l : List UInt8) : Prop :=
 ∃ F, w.rowIs R 63 9001 F /\ F 0 = .int .i64 (l.length : Int) /\ ∀ i (h : i < l.length), F (i + 1) = .int .u8 (l[i].toNat : Int)
theorem Wr.lt {w : World} {R : Nat} {l : List UInt8} (h : Wr w R l) : R < w.heap.size := by obtain ⟨F, h, -⟩ := h; exact h.lt
theorem Wr.keep {w w' : World} {R : Nat} {l : List UInt8} (h : Wr w R l) (e : w'.heap[R]? = w.heap[R]?) : Wr w' R l := by obtain ⟨F, h, r⟩ := h; exact ⟨F, h.of_block e, r⟩
theorem Wr.below {w w' : World} {R : Nat} {l : List UInt8} (h : Wr w R l) (hb : Below w.heap.size w w') : Wr w' R l := h.keep (hb.block R h.lt)
theorem Wr.count {w : World} {R : Nat} {l : List UInt8} (h : Wr w R l) : w.cell? ⟨R, 0, none⟩ = some (.int .i64 (l.length : Int)) /\ w.frozen? ⟨R, 0, none⟩ = false := by
 obtain ⟨F, h, h0, -⟩ := h
 exact ⟨(h.cell (by omega)).trans (by rw [h0]), h.frozen 0⟩
theorem Wr.free {w : World} {R : Nat} {l : List UInt8} (h : Wr w R l) (i : Nat) (hi : i < 9001) : (∃ v, w.cell? ⟨R, i, none⟩ = some v) /\ w.frozen? ⟨R, i, none⟩ = false := by
 obtain ⟨F, h, -⟩ := h
 exact ⟨⟨_, h.cell hi⟩, h.frozen i⟩
theorem Wr.put {w : World} {R : Nat} {l : List UInt8} (h : Wr w R l) (d : UInt8) : Wr ((w.setCell ⟨R, 0, none⟩ (.int .i64 ((l.length : Int) + 1))).setCell ⟨R, 1 + l.length, none⟩ (.int .u8 (d.toNat : Int))) R (l ++ [d]) := by
 obtain ⟨F, h, h0, hF⟩ := h
 refine ⟨_, (h.set 0 (.int .i64 ((l.length : Int) + 1))).set (1 + l.length) (.int .u8 (d.toNat : Int)), ?_, fun i hi => ?_⟩
 ·show (if 0 = 1 + l.length then _ else if 0 = 0 then _ else _) = _
  rw [if_neg (by omega), if_pos rfl]
  simp
 ·show (if i + 1 = 1 + l.length then _ else if i + 1 = 0 then _ else F (i + 1)) = _
  by_cases e : i + 1 = 1 + l.length
  ·rw [if_pos e]
   have : i = l.length := by omega
   subst this
   simp
  ·rw [if_neg e, if_neg (by omega)]
   have hi' : i < l.length := by simp at hi; omega
   rw [hF i hi', List.getElem_append_left hi']
set_option maxHeartbeats 1000000 in
theorem pass_any (R : Nat) (c k : Int) (w : World) (h0 : w.cell? ⟨R, 0, none⟩ = some (.int .i64 c)) (hf : w.frozen? ⟨R, 0, none⟩ = false) (hc : 0 <= c /\ c <= 100000) (hk : 0 <= k /\ k <= 100000) :
  Calls Tryz.prog 94 #[.pointer (some ⟨R, 0, none⟩), .int .i64 k] w fun e w' => e = .returned (.int .i64 c) /\ w' = w.setCell ⟨R, 0, none⟩ (.int .i64 (c + k)) := by
 have h1 := hc.1
 have h2 := hc.2
 have h3 := hk.1
 have h4 := hk.2
 clear hc hk
 go_enter Tryz.func94, Tryz.ntmps94
 go_wp2_with fail
 go_ret
 exact ⟨rfl, rfl⟩
set_option maxRecDepth 20000 in
set_option maxHeartbeats 2000000 in
theorem put_any (R : Nat) (l : List UInt8) (d : UInt8) (w : World) (h : Wr w R l) (hl : l.length < 9000) :
  Calls Tryz.prog 60 #[.pointer (some ⟨R, 0, none⟩), .int .u8 (d.toNat : Int)] w fun e w' => e = .returned (.tuple #[]) /\ Wr w' R (l ++ [d]) /\ Near R w w' := by
 obtain ⟨q0, q1⟩ := h.count
 obtain ⟨⟨v, q2⟩, q3⟩ := h.free (1 + l.length) (by omega)
 have HW := Lib.hid h
 have HP : Hid (∀ W : World, W.heap = w.heap -> Calls Tryz.prog 94 #[.pointer (some ⟨R, 0, none⟩), .int .i64 1] W fun e w' => e = .returned (.int .i64 (l.length : Int)) /\ w' = W.setCell ⟨R, 0, none⟩ (.int .i64 ((l.length : Int) + 1))) := fun W hW => by
  refine pass_any R _ _ W ?_ ?_ (by omega) (by omega)
  ·simp only [World.cell?, hW] at q0 ⊢; exact q0
  ·simp only [World.frozen?, hW] at q1 ⊢; exact q1
 generalize hln : l.length = ln at *
 have HL := Lib.hid hln
 have hli : (ln : Int) < 9000 := by omega
 have q2' : (w.setCell ⟨R, 0, none⟩ (.int .i64 ((ln : Int) + 1))).cell? ⟨R, 1 + ln, none⟩ = some v := (World.cell?_setCell_other _ _ _ _ (by simp)).trans q2
 have q3' : (w.setCell ⟨R, 0, none⟩ (.int .i64 ((ln : Int) + 1))).frozen? ⟨R, 1 + ln, none⟩ = false := by simpa using q3
 clear h hln
 go_enter Tryz.func60, Tryz.ntmps60
 go_region_law (go_simp; go_at_call 94; refine (HP.out w.drew rfl).mono ?_; rintro e w1 ⟨rfl, rfl⟩)
 all_goals
  have HF : Hid (Wr ((w.setCell ⟨R, 0, none⟩ (.int .i64 ((ln : Int) + 1))).setCell ⟨R, 1 + ln, none⟩ (.int .u8 (d.toNat : Int))) R (l ++ [d])) := by
   have h := HW.out.put d
   rw [HL.out] at h
   exact h
  have HN : Hid (Near R w ((w.setCell ⟨R, 0, none⟩ (.int .i64 ((ln : Int) + 1))).setCell ⟨R, 1 + ln, none⟩ (.int .u8 (d.toNat : Int)))) := (Near.set R 0 w _).trans (Near.set R (1 + ln) _ _)
  go_wp2_with fail
  refine bodyPost_end (results_none rfl _ _ _) rfl ?_
  exact ⟨rfl, HF.out.keep rfl, HN.out.drew⟩
end Go.Proofs.YtmjhcgjhlakceaaGreatDoor

namespace Go.Proofs.YtmjhcgjhlakceaaGreatDoor
open Go.RowKit
theorem setCells_near (R : Nat) : ∀ (vs : List Value) (o : Nat) (w : World), Near R w (w.setCells R o vs)
 | [], _, w => Near.refl R w
 | v :: r, o, w => (Near.set R o w v).trans (setCells_near R r (o + 1) _)
theorem Wr.text {w : World} {R : Nat} {l : List UInt8} (h : Wr w R l) (x : List UInt8) : Wr ((w.setCell ⟨R, 0, none⟩ (.int .i64 ((l.length : Int) + (x.length : Int)))).setCells R (1 + l.length) (x.map fun b => .int .u8 (b.toNat : Int))) R (l ++ x) := by
 obtain ⟨F, h, h0, hF⟩ := h
 refine ⟨_, Go.rowIs_setCells (x.map fun b => .int .u8 (b.toNat : Int)) (1 + l.length) _ _ (h.set 0 (.int .i64 ((l.length : Int) + (x.length : Int)))), ?_, fun i hi => ?_⟩
 ·show (if 1 + l.length <= 0 /\ _ then _ else if 0 = 0 then _ else _) = _
  rw [if_neg (by omega), if_pos rfl]
  simp
 ·show (if 1 + l.length <= i + 1 /\ i + 1 < 1 + l.length + (x.map fun b => Value.int .u8 (b.toNat : Int)).length then (x.map fun b => Value.int .u8 (b.toNat : Int))[i + 1 - (1 + l.length)]?.getD default else if i + 1 = 0 then _ else F (i + 1)) = _
  rw [List.length_map]
  rw [List.length_append] at hi
  by_cases e : i < l.length
  ·rw [if_neg (by omega), if_neg (by omega), hF i e, List.getElem_append_left e]
  ·rw [if_pos (by omega), List.getElem_append_right (by omega)]
   have e2 : i + 1 - (1 + l.length) = i - l.length := by omega
   rw [e2, List.getElem?_map, List.getElem?_eq_getElem (by omega)]
   rfl
theorem Tryz.size_byteE (w : World) : (Go.sizeOf 5).run Tryz.prog w = .ok 1 w := by kernel_rfl
set_option maxRecDepth 20000 in
set_option maxHeartbeats 4000000 in
theorem wtext_any (R : Nat) (l : List UInt8) (x : ByteArray) (w : World) (h : Wr w R l) (hx : x.size <= 100) (hl : l.length + x.size < 8990) :
  Calls Tryz.prog 59 #[.pointer (some ⟨R, 0, none⟩), .string x] w fun e w' => e = .returned (.tuple #[]) /\ Wr w' R (l ++ shortB x) /\ Near R w w' := by
 have hC := put_any R l (b8 x.size) w h (by omega)
 rw [b8_nat (by omega) (by omega)] at hC
 have HC := Lib.hid hC
 clear hC
 have hwx : IntKind.u8.wrap (x.size : Int) = x.size := by rw [IntKind.wrap_u8]; omega
 clear h
 go_enter Tryz.func59, Tryz.ntmps59
 go_wp2_with fail
 refine HC.out.mono ?_
 rintro e w1 ⟨rfl, hw1, hn1⟩
 obtain ⟨q, hq⟩ : ∃ q, q = l ++ [b8 x.size] := ⟨_, rfl⟩
 have HQ : Hid (l ++ shortB x = q ++ x.data.toList) := by show _ = _; rw [hq, List.append_assoc]; rfl
 have hql : q.length = l.length + 1 := by rw [hq]; simp
 rw [<- hq] at hw1
 obtain ⟨q0, q1⟩ := hw1.count
 have HW1 := Lib.hid hw1
 have HN1 := Lib.hid hn1
 obtain ⟨c, hc⟩ : ∃ c, q.length = c := ⟨_, rfl⟩
 have HP : Hid (Calls Tryz.prog 94 #[.pointer (some ⟨R, 0, none⟩), .int .i64 (x.size : Int)] w1.drew fun e w' => e = .returned (.int .i64 (c : Int)) /\ w' = w1.drew.setCell ⟨R, 0, none⟩ (.int .i64 ((c : Int) + (x.size : Int)))) := by
  rw [<- hc]
  exact pass_any R _ _ w1.drew q0 q1 (by omega) (by omega)
 have hfr : ∀ j, j < x.size -> (((w1.setCell ⟨R, 0, none⟩ (.int .i64 ((c : Int) + (x.size : Int)))).drew.cell? ⟨R, 1 + c + j, none⟩).isSome = true) /\ (w1.setCell ⟨R, 0, none⟩ (.int .i64 ((c : Int) + (x.size : Int)))).drew.frozen? ⟨R, 1 + c + j, none⟩ = false := fun j hj => by
  obtain ⟨⟨v, hv⟩, hf⟩ := hw1.free (1 + c + j) (by omega)
  refine ⟨?_, by simpa using hf⟩
  have : (w1.setCell ⟨R, 0, none⟩ (.int .i64 ((c : Int) + (x.size : Int)))).cell? ⟨R, 1 + c + j, none⟩ = some v := (World.cell?_setCell_other _ _ _ _ (by simp)).trans hv
  have h2 : (w1.setCell ⟨R, 0, none⟩ (.int .i64 ((c : Int) + (x.size : Int)))).drew.cell? ⟨R, 1 + c + j, none⟩ = some v := this
  rw [h2]; rfl
 have HFr := Lib.hid hfr
 have hc0 : (c : Int) <= 9000 := by omega
 have hc1 : c + x.size <= 8991 := by omega
 have hc9 : ¬ 9000 = c := by omega
 have HF : Hid (Wr ((w1.setCell ⟨R, 0, none⟩ (.int .i64 ((c : Int) + (x.size : Int)))).drew.setCells R (1 + c) (x.data.toList.map fun b => .int .u8 (b.toNat : Int))) R (l ++ shortB x)) := by
  have h := (hw1.keep (w' := w1.drew) rfl).text x.data.toList
  rw [hc, show x.data.toList.length = x.size by simp] at h
  rw [HQ.out]
  exact h
 clear hw1 hn1 hq hql HC hfr hc HQ
 go_wp2_with fail
 go_region_law (first
  | (refine Go.step_copy_string (by rfl) (.tmp 18) (.tmp 19) 22 9 (by rfl) 5 Tryz.underlying22 Tryz.size_byteE R (1 + c) _ _ (by rfl) x (by rfl) (by omega) (fun j hj => (HFr.out j hj).1) (fun j hj => (HFr.out j hj).2) ?_)
  | (go_simp; go_at_call 94; refine HP.out.mono ?_; rintro e w2 ⟨rfl, rfl⟩))
 all_goals
  have HN : Hid (Near R w ((w1.setCell ⟨R, 0, none⟩ (.int .i64 ((c : Int) + (x.size : Int)))).drew.setCells R (1 + c) (x.data.toList.map fun b => .int .u8 (b.toNat : Int)))) := (HN1.out.trans ((Near.set R 0 w1 _).drew)).trans (setCells_near R _ _ _)
  go_wp2_with fail
  refine bodyPost_end (results_none rfl _ _ _) rfl ?_
  exact ⟨rfl, HF.out, HN.out⟩
set_option maxRecDepth 20000 in
set_option maxHeartbeats 4000000 in
theorem wnum_pos (R : Nat) (l : List UInt8) (k0 : Nat) (w : World) (h : Wr w R l) (hn : k0 <= 999999999) (hl : l.length < 8990) :
  Calls Tryz.prog 102 #[.pointer (some ⟨R, 0, none⟩), .int .i64 (k0 : Int)] w fun e w' => e = .returned (.tuple #[]) /\ Wr w' R (l ++ numB (k0 : Int)) /\ Near R w w' := by
 have HNB : Hid (numB (k0 : Int) = [0] ++ num7 5 (k0 : Int)) := by show _ = _; unfold numB; rw [if_neg (by omega), if_neg (by omega)]; rfl
 have hneg : ¬ (k0 : Int) < 0 := by omega
 have HC : Hid (Calls Tryz.prog 60 #[.pointer (some ⟨R, 0, none⟩), .int .u8 0] w fun e w' => e = .returned (.tuple #[]) /\ Wr w' R (l ++ [0]) /\ Near R w w') := put_any R l 0 w h (by omega)
 clear h
 go_enter Tryz.func102, Tryz.ntmps102
 go_wp2_with fail
 refine HC.out.mono ?_
 rintro e w1 ⟨rfl, hw1, hn1⟩
 have HW1 := Lib.hid hw1
 have HN1 := Lib.hid hn1
 clear hw1 hn1 HC
 go_wp2_with fail
 go_loopw [1] (fun nv wr => ∃ (k f : Nat) (q : List UInt8), nv = .int .i64 (k : Int) /\ k <= 999999999 /\ k < 128 ^ (f + 1) /\ f <= 5 /\ q.length + f = 6 /\ Wr wr R (l ++ q) /\ Near R w wr /\ numB (k0 : Int) = q ++ num7 f (k : Int)) (fun nv _ => (intOf nv).toNat)
 case atStart => exact ⟨k0, 5, [0], rfl, hn, by omega, by omega, rfl, HW1.out, HN1.out, HNB.out⟩
 case round =>
  obtain ⟨k, f, q, rfl, hk, hkf, hf5, hqf, hw, hnr, hN⟩ := hrel
  have HN := Lib.hid hN
  have HNr := Lib.hid hnr
  have hll : (l ++ q).length < 9000 := by rw [List.length_append]; omega
  by_cases h128 : k < 128
  case pos =>
   have hg : ¬ (k : Int) ≥ 128 := by omega
   have hC := put_any R (l ++ q) (b8 (k : Int)) wr hw hll
   rw [b8_nat (by omega) (by omega)] at hC
   have HC := Lib.hid hC
   have HE : Hid (l ++ numB (k0 : Int) = (l ++ q) ++ [b8 (k : Int)]) := by show _ = _; rw [HN.out, num7_last f k h128, List.append_assoc]
   have hwk : IntKind.u8.wrap (k : Int) = k := by rw [IntKind.wrap_u8]; omega
   clear hC hw hnr hN HW1 HN1 HNB hkf hqf HN
   go_wp2_with fail
   refine HC.out.mono ?_
   rintro e w2 ⟨rfl, hw2, hn2⟩
   have HW2 := Lib.hid hw2
   have HN2 := Lib.hid (HNr.out.trans hn2)
   clear hw2 hn2 HC
   go_wp2_with fail
   refine bodyPost_end (results_none rfl _ _ _) rfl ?_
   exact ⟨rfl, by rw [HE.out]; exact HW2.out, HN2.out⟩
  case neg =>
   have hg : (k : Int) ≥ 128 := by omega
   obtain ⟨g, rfl⟩ : ∃ g, f = g + 1 := by
    cases f with
    | zero => exact absurd hkf (by omega)
    | succ g => exact ⟨g, rfl⟩
   have hm : 0 <= (k : Int) % 128 /\ (k : Int) % 128 < 128 := by omega
   have hC := put_any R (l ++ q) (b8 (128 + (k : Int) % 128)) wr hw hll
   rw [b8_nat (by omega) (by omega), Int.add_comm] at hC
   have HC := Lib.hid hC
   have hwk : IntKind.u8.wrap ((k : Int) % 128 + 128) = (k : Int) % 128 + 128 := by rw [IntKind.wrap_u8]; omega
   have HE : Hid (numB (k0 : Int) = (q ++ [b8 (128 + (k : Int) % 128)]) ++ num7 g ((k / 128 : Nat) : Int)) := by
    show _ = _; rw [HN.out, num7_step g k (by omega), List.append_assoc]; rfl
   have HK : Hid (k / 128 < 128 ^ (g + 1)) := by
    show _ < _
    exact Nat.div_lt_of_lt_mul (by rw [Nat.mul_comm, <- Nat.pow_succ]; exact hkf)
   have HQf := Lib.hid hqf
   have hq : 0 <= (k : Int) / 128 /\ (k : Int) / 128 <= 999999999 := by omega
   clear hC hw hnr hN HW1 HN1 HNB hkf hqf HN
   go_wp2_with fail
   refine HC.out.mono ?_
   rintro e w2 ⟨rfl, hw2, hn2⟩
   have HW2 := Lib.hid hw2
   have HN2 := Lib.hid (HNr.out.trans hn2)
   clear hw2 hn2 HC
   go_wp2_with fail
   go_roundw
   case rel =>
    refine ⟨k / 128, g, q ++ [b8 (128 + (k : Int) % 128)], by go_num, by omega, HK.out, by omega, by rw [List.length_append]; have := HQf.out; simp; omega, ?_, HN2.out, HE.out⟩
    rw [<- List.append_assoc, Int.add_comm 128]; exact HW2.out
   case measure => simp [intOf]; omega
set_option maxRecDepth 20000 in
set_option maxHeartbeats 4000000 in
theorem wnum_neg (R : Nat) (l : List UInt8) (k0 : Nat) (w : World) (h : Wr w R l) (hn : k0 <= 999999999) (h1 : 1 <= k0) (hl : l.length < 8990) :
  Calls Tryz.prog 102 #[.pointer (some ⟨R, 0, none⟩), .int .i64 (-(k0 : Int))] w fun e w' => e = .returned (.tuple #[]) /\ Wr w' R (l ++ numB (-(k0 : Int))) /\ Near R w w' := by
 have HNB : Hid (numB (-(k0 : Int)) = [1] ++ num7 5 (k0 : Int)) := by show _ = _; unfold numB; rw [if_pos (by omega), if_pos (by omega), Int.neg_neg]; rfl
 obtain ⟨nn, hnn⟩ : ∃ nn : Int, -(k0 : Int) = nn := ⟨_, rfl⟩
 rw [hnn]
 rw [hnn] at HNB
 have hneg : nn < 0 := by omega
 have hnb : -999999999 <= nn := by omega
 have hnk : -nn = (k0 : Int) := by omega
 clear hnn
 have HC : Hid (Calls Tryz.prog 60 #[.pointer (some ⟨R, 0, none⟩), .int .u8 1] w fun e w' => e = .returned (.tuple #[]) /\ Wr w' R (l ++ [1]) /\ Near R w w') := put_any R l 1 w h (by omega)
 clear h
 go_enter Tryz.func102, Tryz.ntmps102
 go_wp2_with fail
 refine HC.out.mono ?_
 rintro e w1 ⟨rfl, hw1, hn1⟩
 have HW1 := Lib.hid hw1
 have HN1 := Lib.hid hn1
 clear hw1 hn1 HC
 go_wp2_with fail
 clear hneg hnb hnk
 go_loopw [1] (fun nv wr => ∃ (k f : Nat) (q : List UInt8), nv = .int .i64 (k : Int) /\ k <= 999999999 /\ k < 128 ^ (f + 1) /\ f <= 5 /\ q.length + f = 6 /\ Wr wr R (l ++ q) /\ Near R w wr /\ numB nn = q ++ num7 f (k : Int)) (fun nv _ => (intOf nv).toNat)
 case atStart => exact ⟨k0, 5, [1], rfl, hn, by omega, by omega, rfl, HW1.out, HN1.out, HNB.out⟩
 case round =>
  obtain ⟨k, f, q, rfl, hk, hkf, hf5, hqf, hw, hnr, hN⟩ := hrel
  have HN := Lib.hid hN
  have HNr := Lib.hid hnr
  have hll : (l ++ q).length < 9000 := by rw [List.length_append]; omega
  by_cases h128 : k < 128
  case pos =>
   have hg : ¬ (k : Int) ≥ 128 := by omega
   have hC := put_any R (l ++ q) (b8 (k : Int)) wr hw hll
   rw [b8_nat (by omega) (by omega)] at hC
   have HC := Lib.hid hC
   have HE : Hid (l ++ numB nn = (l ++ q) ++ [b8 (k : Int)]) := by show _ = _; rw [HN.out, num7_last f k h128, List.append_assoc]
   have hwk : IntKind.u8.wrap (k : Int) = k := by rw [IntKind.wrap_u8]; omega
   clear hC hw hnr hN HW1 HN1 HNB hkf hqf HN
   go_wp2_with fail
   refine HC.out.mono ?_
   rintro e w2 ⟨rfl, hw2, hn2⟩
   have HW2 := Lib.hid hw2
   have HN2 := Lib.hid (HNr.out.trans hn2)
   clear hw2 hn2 HC
   go_wp2_with fail
   refine bodyPost_end (results_none rfl _ _ _) rfl ?_
   exact ⟨rfl, by rw [HE.out]; exact HW2.out, HN2.out⟩
  case neg =>
   have hg : (k : Int) ≥ 128 := by omega
   obtain ⟨g, rfl⟩ : ∃ g, f = g + 1 := by
    cases f with
    | zero => exact absurd hkf (by omega)
    | succ g => exact ⟨g, rfl⟩
   have hm : 0 <= (k : Int) % 128 /\ (k : Int) % 128 < 128 := by omega
   have hC := put_any R (l ++ q) (b8 (128 + (k : Int) % 128)) wr hw hll
   rw [b8_nat (by omega) (by omega), Int.add_comm] at hC
   have HC := Lib.hid hC
   have hwk : IntKind.u8.wrap ((k : Int) % 128 + 128) = (k : Int) % 128 + 128 := by rw [IntKind.wrap_u8]; omega
   have HE : Hid (numB nn = (q ++ [b8 (128 + (k : Int) % 128)]) ++ num7 g ((k / 128 : Nat) : Int)) := by
    show _ = _; rw [HN.out, num7_step g k (by omega), List.append_assoc]; rfl
   have HK : Hid (k / 128 < 128 ^ (g + 1)) := by
    show _ < _
    exact Nat.div_lt_of_lt_mul (by rw [Nat.mul_comm, <- Nat.pow_succ]; exact hkf)
   have HQf := Lib.hid hqf
   have hq : 0 <= (k : Int) / 128 /\ (k : Int) / 128 <= 999999999 := by omega
   clear hC hw hnr hN HW1 HN1 HNB hkf hqf HN
   go_wp2_with fail
   refine HC.out.mono ?_
   rintro e w2 ⟨rfl, hw2, hn2⟩
   have HW2 := Lib.hid hw2
   have HN2 := Lib.hid (HNr.out.trans hn2)
   clear hw2 hn2 HC
   go_wp2_with fail
   go_roundw
   case rel =>
    refine ⟨k / 128, g, q ++ [b8 (128 + (k : Int) % 128)], by go_num, by omega, HK.out, by omega, by rw [List.length_append]; have := HQf.out; simp; omega, ?_, HN2.out, HE.out⟩
    rw [<- List.append_assoc, Int.add_comm 128]; exact HW2.out
   case measure => simp [intOf]; omega
theorem wnum_any (R : Nat) (l : List UInt8) (n : Int) (w : World) (h : Wr w R l) (hn : -999999999 <= n /\ n <= 999999999) (hl : l.length < 8990) :
  Calls Tryz.prog 102 #[.pointer (some ⟨R, 0, none⟩), .int .i64 n] w fun e w' => e = .returned (.tuple #[]) /\ Wr w' R (l ++ numB n) /\ Near R w w' := by
 by_cases hs : n < 0
 ·obtain ⟨k, rfl⟩ : ∃ k : Nat, n = -(k : Int) := ⟨(-n).toNat, by omega⟩
  exact wnum_neg R l k w h (by omega) (by omega) hl
 ·obtain ⟨k, rfl⟩ : ∃ k : Nat, n = (k : Int) := ⟨n.toNat, by omega⟩
  exact wnum_pos R l k w h (by omega) hl
end Go.Proofs.YtmjhcgjhlakceaaGreatDoor

namespace Go.Proofs.YtmjhcgjhlakceaaGreatDoor
open Go.RowKit
def WSaid (n : Nat) : Prop := ∀ (S : Nat -> Prop) (t : T n) (c0 c1 c2 c3 c4 : Value) (d : Int) (R : Nat) (l : List UInt8) (w : World), TreeIn S w n t c0 c1 c2 c3 c4 -> (∀ b, S b -> b < w.heap.size /\ b ≠ R) -> goodT n t d = true -> cntT n t <= 120 -> Wr w R l -> l.length + (packT n t).length < 8980 ->
 Calls Tryz.prog 61 #[.pointer (some ⟨R, 0, none⟩), .agg #[c0, c1, c2, c3, c4]] w fun e w' => e = .returned (.tuple #[]) /\ Wr w' R (l ++ packT n t) /\ Near R w w'
set_option maxRecDepth 20000 in
set_option maxHeartbeats 4000000 in
theorem wkids_row (n : Nat) (hn : WSaid n) (S : Nat -> Prop) (s : Int) (hs : s = 4 ∨ s = 6) (ns : List ByteArray) (ks : List (T n)) (m : Int) (x : ByteArray) (na ka : Option Addr) (nc kc : Nat) (d : Int) (R : Nat) (l : List UInt8) (w : World) (hnm : StrsIn S w ns (.slice na ns.length nc)) (hr : RowIn S w (TreeIn S w n) ks (.slice ka ks.length kc)) (hB : ∀ b, S b -> b < w.heap.size /\ b ≠ R) (hg : ∀ k, k ∈ ks -> goodT n k d = true /\ cntT n k <= 120) (hk : ks.length <= 119) (hW : Wr w R l) (hlen : l.length + 1 + (partsP (packT n) s ns ks).flatten.length < 8980) :
  Calls Tryz.prog 103 #[.pointer (some ⟨R, 0, none⟩), .agg #[.int .i64 s, .int .i64 m, .string x, .slice na ns.length nc, .slice ka ks.length kc]] w fun e w' => e = .returned (.tuple #[]) /\ Wr w' R (l ++ b8 ks.length :: (partsP (packT n) s ns ks).flatten) /\ Near R w w' := by
 have hRw := hW.lt
 obtain ⟨PP, hPP⟩ : ∃ PP, PP = partsP (packT n) s ns ks := ⟨_, rfl⟩
 obtain ⟨hd, hhd⟩ : ∃ hd, hd = l ++ [b8 (ks.length : Int)] := ⟨_, rfl⟩
 obtain ⟨W1, hW1⟩ : ∃ W1, W1 = w.alloc (.cells #[.int .i64 s, .int .i64 m, .string x, .slice na ns.length nc, .slice ka ks.length kc] 27) := ⟨_, rfl⟩
 have hz1 : W1.heap.size = w.heap.size + 1 := by rw [hW1]; simp
 have hbw : Below w.heap.size w W1 := by rw [hW1]; exact (Below.refl _ _).alloc (Nat.le_refl _) _
 have hx1 : Box5 W1 w.heap.size (.int .i64 s) (.int .i64 m) (.string x) (.slice na ns.length nc) (.slice ka ks.length kc) := by rw [hW1]; exact Box5.new w _ _ _ _ _ _
 have hne : w.heap.size ≠ R := by omega
 have HBx : Hid (∀ W, Near R W1 W -> W.cell? ⟨w.heap.size, 0, none⟩ = some (.int .i64 s) /\ W.cell? ⟨w.heap.size, 3, none⟩ = some (.slice na ns.length nc) /\ W.cell? ⟨w.heap.size, 4, none⟩ = some (.slice ka ks.length kc)) := fun W hW => ⟨hW.cell hx1.c0 hne, hW.cell hx1.c3 hne, hW.cell hx1.c4 hne⟩
 have HSm : Hid (∀ W, Near R W1 W -> Same S w W /\ ∀ b, S b -> b < W.heap.size /\ b ≠ R) := fun W hW => ⟨fun b hb => (hW.block b (by have := (hB b hb).1; omega) (hB b hb).2).trans (hbw.block b (hB b hb).1), fun b hb => ⟨by have := (hB b hb).1; have := hW.size; omega, (hB b hb).2⟩⟩
 have HNm : Hid (∀ k (h : k < ns.length), ∃ b off, na = some ⟨b, off, none⟩ /\ ∀ W, Near R W1 W -> W.cell? ⟨b, off + k, none⟩ = some (.string ns[k])) := fun k h => by
  obtain ⟨ao, cap, hv, -, -, hc⟩ := hnm
  cases hv
  obtain ⟨b, off, rfl, hb, hc⟩ := hc (by intro e; rw [e] at h; simp at h)
  exact ⟨b, off, rfl, fun W hW => ((HSm.out W hW).1.cell (p := ⟨b, off + k, none⟩) hb).trans (hc k h)⟩
 have HKd : Hid (∀ k (h : k < ks.length), ∃ b off y0 y1 y2 ya yl yc ta tl tc, ka = some ⟨b, off, none⟩ /\ (∀ W, Near R W1 W -> W.cell? ⟨b, off + k * 5, none⟩ = some (.int .i64 y0) /\ W.cell? ⟨b, off + k * 5 + 1, none⟩ = some (.int .i64 y1) /\ W.cell? ⟨b, off + k * 5 + 2, none⟩ = some (.string y2) /\ W.cell? ⟨b, off + k * 5 + 3, none⟩ = some (.slice ya yl yc) /\ W.cell? ⟨b, off + k * 5 + 4, none⟩ = some (.slice ta tl tc)) /\ ∀ W q, Near R W1 W -> Wr W R q -> q.length + (packT n ks[k]).length < 8980 -> Calls Tryz.prog 61 #[.pointer (some ⟨R, 0, none⟩), .agg #[.int .i64 y0, .int .i64 y1, .string y2, .slice ya yl yc, .slice ta tl tc]] W fun e w' => e = .returned (.tuple #[]) /\ Wr w' R (q ++ packT n ks[k]) /\ Near R W w') := fun k h => by
  obtain ⟨ao, cap, hv, -, hc⟩ := hr
  cases hv
  obtain ⟨b, off, rfl, hb, hc⟩ := hc (by intro e; rw [e] at h; simp at h)
  obtain ⟨y0, y1, y2, y3, y4, e0, e1, e2, e3, e4, hin⟩ := hc k h
  obtain ⟨x0, x1, x2, xa, xl, xc, ta, tl, tc, rfl, rfl, rfl, rfl, rfl⟩ := hin.shape
  have hgk := hg _ (List.getElem_mem h)
  refine ⟨b, off, x0, x1, x2, xa, xl, xc, ta, tl, tc, rfl, fun W hW => ?_, fun W q hW hq hql => ?_⟩
  ·have hs := (HSm.out W hW).1
   exact ⟨(hs.cell (p := ⟨b, off + k * 5, none⟩) hb).trans e0, (hs.cell (p := ⟨b, off + k * 5 + 1, none⟩) hb).trans e1, (hs.cell (p := ⟨b, off + k * 5 + 2, none⟩) hb).trans e2, (hs.cell (p := ⟨b, off + k * 5 + 3, none⟩) hb).trans e3, (hs.cell (p := ⟨b, off + k * 5 + 4, none⟩) hb).trans e4⟩
  ·have hs := HSm.out W hW
   exact hn S ks[k] _ _ _ _ _ d R q W (hin.keep hs.1 (fun _ h => h)) hs.2 hgk.1 hgk.2 hq hql
 have HStep : Hid (∀ k (h : k < ks.length) (q : List UInt8), q = hd ++ (PP.take k).flatten -> q ++ packT n ks[k] = hd ++ (PP.take (k + 1)).flatten) := fun k h q hl => by
  have hpl : k < PP.length := by rw [hPP, parts_len _ _ _ _ (fun h => absurd h (by omega))]; exact h
  rw [flat_step PP k hpl, hl, List.append_assoc]
  congr 2
  subst hPP
  exact (parts_row _ _ (by omega) _ _ _ h hpl).symm
 have HLen : Hid (∀ k (q : List UInt8), q = hd ++ (PP.take k).flatten -> q.length < 8980) := fun k q hl => by
  have h1 := flat_take PP k
  rw [<- hPP] at hlen
  have h2 : hd.length = l.length + 1 := by rw [hhd]; simp
  rw [hl, List.length_append]
  omega
 have HF : Hid (∀ q : List UInt8, q = hd ++ (PP.take ks.length).flatten -> q = l ++ b8 ks.length :: (partsP (packT n) s ns ks).flatten) := fun q hl => by
  rw [hl, <- hPP, List.take_of_length_le (by rw [hPP, parts_len _ _ _ _ (fun h => absurd h (by omega))]; exact Nat.le_refl _), hhd, List.append_assoc]; rfl
 have hC := put_any R l (b8 (ks.length : Int)) W1 (hW.below hbw) (by omega)
 rw [b8_nat (by omega) (by omega)] at hC
 have HC := Lib.hid hC
 have HN0 : Hid (Near R w W1) := Near.of_below hbw
 obtain ⟨kl, hkl⟩ : ∃ kl, ks.length = kl := ⟨_, rfl⟩
 obtain ⟨nl, hnl⟩ : ∃ nl, ns.length = nl := ⟨_, rfl⟩
 have HKl : Hid (ks.length = kl /\ ns.length = nl) := ⟨hkl, hnl⟩
 have hkb : kl <= 119 := by omega
 have hwk : IntKind.u8.wrap (kl : Int) = kl := by rw [IntKind.wrap_u8]; omega
 have HHd := Lib.hid hhd
 have h5 : ¬ s = 5 := by omega
 have h5' : (s == 5) = false := by simpa using h5
 rw [hkl] at HC HHd
 rw [hkl, hnl] at HBx
 rw [hkl, hnl]
 rw [hkl, hnl] at hW1
 obtain ⟨i0, i3, i4⟩ := HBx.out W1 (Near.refl _ _)
 rw [hW1] at i0 i3 i4
 clear hs hnm hr hB hg hk hlen hPP hbw hx1 hC hkl hnl hz1 hhd hn hW
 go_enter Tryz.func103, Tryz.ntmps103
 go_wp2_with fail
 rw [<- hW1]
 clear hW1 i0 i3 i4
 refine HC.out.mono ?_
 rintro e w1 ⟨rfl, hw1, hn1⟩
 rw [<- HHd.out] at hw1
 obtain ⟨i0, i3, i4⟩ := HBx.out w1 hn1
 have HW1 := Lib.hid hw1
 have HN1 := Lib.hid hn1
 clear hw1 hn1 HC
 go_wp2_with fail
 go_loopw [15] (fun iv wr => ∃ (k : Nat) (q : List UInt8), k <= kl /\ iv = .int .i64 k /\ Wr wr R q /\ Near R W1 wr /\ q = hd ++ (PP.take k).flatten) (fun iv _ => kl - (intOf iv).toNat)
 case atStart => exact ⟨0, hd, Nat.zero_le _, rfl, HW1.out, HN1.out, by simp⟩
 case round =>
  obtain ⟨k, q, hk, rfl, hw, hnr, hl⟩ := hrel
  have hll := HLen.out k q hl
  have HWk := Lib.hid hw
  have HNk := Lib.hid hnr
  clear i0 i3 i4
  obtain ⟨i0, i3, i4⟩ := HBx.out wr hnr
  have hzr := hnr.size
  by_cases hlt : k < kl
  case neg =>
   have hk' : k = kl := by omega
   have HE : Hid (q = _) := HF.out q (by rw [hl, hk', HKl.out.1])
   clear hl hw hnr
   have hkn : ¬ (k : Int) < (kl : Int) := by omega
   go_wp2_with fail
   refine bodyPost_end (results_none rfl _ _ _) rfl ?_
   have hE := HE.out
   rw [HKl.out.1] at hE
   refine ⟨rfl, ?_, HN0.out.trans HNk.out⟩
   rw [<- hE]
   exact HWk.out
  case pos =>
   have hkp : (k : Int) < (kl : Int) := by omega
   have hkk : k < ks.length := by have := HKl.out.1; omega
   obtain ⟨kb, ko, y0, y1, y2, ya, yl, yc, ta, tl, tc, rfl, hkW, hkC⟩ := HKd.out k hkk
   have HSt := Lib.hid (HStep.out k hkk q hl)
   have HLe := Lib.hid (HLen.out (k + 1))
   generalize ks[k] = kid at *
   obtain ⟨f0, f1, f2, f3, f4⟩ := hkW wr hnr
   obtain ⟨W2, hW2⟩ : ∃ W2, W2 = wr.alloc (.cells #[.int .i64 y0, .int .i64 y1, .string y2, .slice ya yl yc, .slice ta tl tc] 27) := ⟨_, rfl⟩
   have hn2 : Near R wr W2 := by rw [hW2]; exact Near.alloc R wr _
   have hw2 : Wr W2 R q := hw.below (by rw [hW2]; exact (Below.refl _ _).alloc (Nat.le_refl _) _)
   have hbx2 : Box5 W2 wr.heap.size (.int .i64 y0) (.int .i64 y1) (.string y2) (.slice ya yl yc) (.slice ta tl tc) := by rw [hW2]; exact Box5.new wr _ _ _ _ _ _
   have hRr : wr.heap.size ≠ R := by have := hw.lt; omega
   have hn12 := hnr.trans hn2
   obtain ⟨p0, p3, p4⟩ := HBx.out W2 hn12
   have HS1 := Lib.hid HSt.out
   have hlen1 := HLe.out _ HSt.out
   rw [List.length_append] at hlen1
   have HC2 := Lib.hid (hkC W2 q hn12 hw2 (by omega))
   have HN12 := Lib.hid hn12
   obtain ⟨g0, g1, g2, g3, g4⟩ := id hbx2
   rw [hW2] at p0 p3 p4 g0 g1 g2 g3 g4
   clear hkW hkC hl hw hnr hn2 hw2 hbx2 hn12 HKd HNm HStep HSt HLe HLen
   go_wp2_with fail
   rw [<- hW2]
   clear hW2 p0 p3 p4 g0 g1 g2 g3 g4 f0 f1 f2 f3 f4 i0 i3 i4
   refine HC2.out.mono ?_
   rintro e w4 ⟨rfl, hw4, hn4⟩
   rw [HS1.out] at hw4
   have HW4 := Lib.hid hw4
   have HN4 := Lib.hid (HN12.out.trans hn4)
   clear hw4 hn4 HC2
   go_wp2_with fail
   go_roundw
   case rel => exact ⟨k + 1, _, by omega, by go_num, HW4.out, HN4.out, rfl⟩
   case measure => simp [intOf]; omega
set_option maxRecDepth 20000 in
set_option maxHeartbeats 4000000 in
theorem wkids_form (n : Nat) (hn : WSaid n) (S : Nat -> Prop) (ns : List ByteArray) (ks : List (T n)) (m : Int) (x : ByteArray) (na ka : Option Addr) (nc kc : Nat) (d : Int) (R : Nat) (l : List UInt8) (w : World) (hnm : StrsIn S w ns (.slice na ns.length nc)) (hr : RowIn S w (TreeIn S w n) ks (.slice ka ks.length kc)) (hB : ∀ b, S b -> b < w.heap.size /\ b ≠ R) (hll0 : ns.length = ks.length) (hl8 : ∀ y, y ∈ ns -> y.size <= 8) (hg : ∀ k, k ∈ ks -> goodT n k d = true /\ cntT n k <= 120) (hk : ks.length <= 119) (hW : Wr w R l) (hlen : l.length + 1 + (partsP (packT n) 5 ns ks).flatten.length < 8980) :
  Calls Tryz.prog 103 #[.pointer (some ⟨R, 0, none⟩), .agg #[.int .i64 5, .int .i64 m, .string x, .slice na ns.length nc, .slice ka ks.length kc]] w fun e w' => e = .returned (.tuple #[]) /\ Wr w' R (l ++ b8 ks.length :: (partsP (packT n) 5 ns ks).flatten) /\ Near R w w' := by
 have hRw := hW.lt
 obtain ⟨PP, hPP⟩ : ∃ PP, PP = partsP (packT n) 5 ns ks := ⟨_, rfl⟩
 obtain ⟨hd, hhd⟩ : ∃ hd, hd = l ++ [b8 (ks.length : Int)] := ⟨_, rfl⟩
 obtain ⟨W1, hW1⟩ : ∃ W1, W1 = w.alloc (.cells #[.int .i64 5, .int .i64 m, .string x, .slice na ns.length nc, .slice ka ks.length kc] 27) := ⟨_, rfl⟩
 have hz1 : W1.heap.size = w.heap.size + 1 := by rw [hW1]; simp
 have hbw : Below w.heap.size w W1 := by rw [hW1]; exact (Below.refl _ _).alloc (Nat.le_refl _) _
 have hx1 : Box5 W1 w.heap.size (.int .i64 5) (.int .i64 m) (.string x) (.slice na ns.length nc) (.slice ka ks.length kc) := by rw [hW1]; exact Box5.new w _ _ _ _ _ _
 have hne : w.heap.size ≠ R := by omega
 have HBx : Hid (∀ W, Near R W1 W -> W.cell? ⟨w.heap.size, 0, none⟩ = some (.int .i64 5) /\ W.cell? ⟨w.heap.size, 3, none⟩ = some (.slice na ns.length nc) /\ W.cell? ⟨w.heap.size, 4, none⟩ = some (.slice ka ks.length kc)) := fun W hW => ⟨hW.cell hx1.c0 hne, hW.cell hx1.c3 hne, hW.cell hx1.c4 hne⟩
 have HSm : Hid (∀ W, Near R W1 W -> Same S w W /\ ∀ b, S b -> b < W.heap.size /\ b ≠ R) := fun W hW => ⟨fun b hb => (hW.block b (by have := (hB b hb).1; omega) (hB b hb).2).trans (hbw.block b (hB b hb).1), fun b hb => ⟨by have := (hB b hb).1; have := hW.size; omega, (hB b hb).2⟩⟩
 have HNm : Hid (∀ k (h : k < ns.length), ∃ b off, na = some ⟨b, off, none⟩ /\ ∀ W, Near R W1 W -> W.cell? ⟨b, off + k, none⟩ = some (.string ns[k])) := fun k h => by
  obtain ⟨ao, cap, hv, -, -, hc⟩ := hnm
  cases hv
  obtain ⟨b, off, rfl, hb, hc⟩ := hc (by intro e; rw [e] at h; simp at h)
  exact ⟨b, off, rfl, fun W hW => ((HSm.out W hW).1.cell (p := ⟨b, off + k, none⟩) hb).trans (hc k h)⟩
 have HKd : Hid (∀ k (h : k < ks.length), ∃ b off y0 y1 y2 ya yl yc ta tl tc, ka = some ⟨b, off, none⟩ /\ (∀ W, Near R W1 W -> W.cell? ⟨b, off + k * 5, none⟩ = some (.int .i64 y0) /\ W.cell? ⟨b, off + k * 5 + 1, none⟩ = some (.int .i64 y1) /\ W.cell? ⟨b, off + k * 5 + 2, none⟩ = some (.string y2) /\ W.cell? ⟨b, off + k * 5 + 3, none⟩ = some (.slice ya yl yc) /\ W.cell? ⟨b, off + k * 5 + 4, none⟩ = some (.slice ta tl tc)) /\ ∀ W q, Near R W1 W -> Wr W R q -> q.length + (packT n ks[k]).length < 8980 -> Calls Tryz.prog 61 #[.pointer (some ⟨R, 0, none⟩), .agg #[.int .i64 y0, .int .i64 y1, .string y2, .slice ya yl yc, .slice ta tl tc]] W fun e w' => e = .returned (.tuple #[]) /\ Wr w' R (q ++ packT n ks[k]) /\ Near R W w') := fun k h => by
  obtain ⟨ao, cap, hv, -, hc⟩ := hr
  cases hv
  obtain ⟨b, off, rfl, hb, hc⟩ := hc (by intro e; rw [e] at h; simp at h)
  obtain ⟨y0, y1, y2, y3, y4, e0, e1, e2, e3, e4, hin⟩ := hc k h
  obtain ⟨x0, x1, x2, xa, xl, xc, ta, tl, tc, rfl, rfl, rfl, rfl, rfl⟩ := hin.shape
  have hgk := hg _ (List.getElem_mem h)
  refine ⟨b, off, x0, x1, x2, xa, xl, xc, ta, tl, tc, rfl, fun W hW => ?_, fun W q hW hq hql => ?_⟩
  ·have hs := (HSm.out W hW).1
   exact ⟨(hs.cell (p := ⟨b, off + k * 5, none⟩) hb).trans e0, (hs.cell (p := ⟨b, off + k * 5 + 1, none⟩) hb).trans e1, (hs.cell (p := ⟨b, off + k * 5 + 2, none⟩) hb).trans e2, (hs.cell (p := ⟨b, off + k * 5 + 3, none⟩) hb).trans e3, (hs.cell (p := ⟨b, off + k * 5 + 4, none⟩) hb).trans e4⟩
  ·have hs := HSm.out W hW
   exact hn S ks[k] _ _ _ _ _ d R q W (hin.keep hs.1 (fun _ h => h)) hs.2 hgk.1 hgk.2 hq hql
 have HStep : Hid (∀ k (h : k < ks.length) (q : List UInt8), q = hd ++ (PP.take k).flatten -> ∃ h' : k < ns.length, ns[k].size <= 8 /\ (q ++ shortB ns[k]) ++ packT n ks[k] = hd ++ (PP.take (k + 1)).flatten) := fun k h q hl => by
  have hpl : k < PP.length := by rw [hPP, parts_len _ _ _ _ (fun _ => hll0)]; exact h
  have h' : k < ns.length := by omega
  refine ⟨h', hl8 _ (List.getElem_mem h'), ?_⟩
  rw [flat_step PP k hpl, hl, List.append_assoc, List.append_assoc]
  congr 2
  subst hPP
  exact (parts_form _ _ _ _ h' h hpl).symm
 have HLen : Hid (∀ k (q : List UInt8), q = hd ++ (PP.take k).flatten -> q.length < 8980) := fun k q hl => by
  have h1 := flat_take PP k
  rw [<- hPP] at hlen
  have h2 : hd.length = l.length + 1 := by rw [hhd]; simp
  rw [hl, List.length_append]
  omega
 have HF : Hid (∀ q : List UInt8, q = hd ++ (PP.take ks.length).flatten -> q = l ++ b8 ks.length :: (partsP (packT n) 5 ns ks).flatten) := fun q hl => by
  rw [hl, <- hPP, List.take_of_length_le (by rw [hPP, parts_len _ _ _ _ (fun _ => hll0)]; exact Nat.le_refl _), hhd, List.append_assoc]; rfl
 have hC := put_any R l (b8 (ks.length : Int)) W1 (hW.below hbw) (by omega)
 rw [b8_nat (by omega) (by omega)] at hC
 have HC := Lib.hid hC
 have HN0 : Hid (Near R w W1) := Near.of_below hbw
 obtain ⟨kl, hkl⟩ : ∃ kl, ks.length = kl := ⟨_, rfl⟩
 obtain ⟨nl, hnl⟩ : ∃ nl, ns.length = nl := ⟨_, rfl⟩
 have HKl : Hid (ks.length = kl /\ ns.length = nl) := ⟨hkl, hnl⟩
 have hkb : kl <= 119 := by omega
 have hwk : IntKind.u8.wrap (kl : Int) = kl := by rw [IntKind.wrap_u8]; omega
 have HHd := Lib.hid hhd
 rw [hkl] at HC HHd
 rw [hkl, hnl] at HBx
 rw [hkl, hnl]
 rw [hkl, hnl] at hW1
 obtain ⟨i0, i3, i4⟩ := HBx.out W1 (Near.refl _ _)
 rw [hW1] at i0 i3 i4
 clear hnm hr hB hll0 hl8 hg hk hlen hPP hbw hx1 hC hkl hnl hz1 hhd hn hW
 go_enter Tryz.func103, Tryz.ntmps103
 go_wp2_with fail
 rw [<- hW1]
 clear hW1 i0 i3 i4
 refine HC.out.mono ?_
 rintro e w1 ⟨rfl, hw1, hn1⟩
 rw [<- HHd.out] at hw1
 obtain ⟨i0, i3, i4⟩ := HBx.out w1 hn1
 have HW1 := Lib.hid hw1
 have HN1 := Lib.hid hn1
 clear hw1 hn1 HC
 go_wp2_with fail
 go_loopw [15] (fun iv wr => ∃ (k : Nat) (q : List UInt8), k <= kl /\ iv = .int .i64 k /\ Wr wr R q /\ Near R W1 wr /\ q = hd ++ (PP.take k).flatten) (fun iv _ => kl - (intOf iv).toNat)
 case atStart => exact ⟨0, hd, Nat.zero_le _, rfl, HW1.out, HN1.out, by simp⟩
 case round =>
  obtain ⟨k, q, hk, rfl, hw, hnr, hl⟩ := hrel
  have hll := HLen.out k q hl
  have HWk := Lib.hid hw
  have HNk := Lib.hid hnr
  clear i0 i3 i4
  obtain ⟨i0, i3, i4⟩ := HBx.out wr hnr
  have hzr := hnr.size
  by_cases hlt : k < kl
  case neg =>
   have hk' : k = kl := by omega
   have HE : Hid (q = _) := HF.out q (by rw [hl, hk', HKl.out.1])
   clear hl hw hnr
   have hkn : ¬ (k : Int) < (kl : Int) := by omega
   go_wp2_with fail
   refine bodyPost_end (results_none rfl _ _ _) rfl ?_
   have hE := HE.out
   rw [HKl.out.1] at hE
   refine ⟨rfl, ?_, HN0.out.trans HNk.out⟩
   rw [<- hE]
   exact HWk.out
  case pos =>
   have hkp : (k : Int) < (kl : Int) := by omega
   have hkk : k < ks.length := by have := HKl.out.1; omega
   obtain ⟨kb, ko, y0, y1, y2, ya, yl, yc, ta, tl, tc, rfl, hkW, hkC⟩ := HKd.out k hkk
   have HSt := Lib.hid (HStep.out k hkk q hl)
   have HLe := Lib.hid (HLen.out (k + 1))
   generalize ks[k] = kid at *
   obtain ⟨f0, f1, f2, f3, f4⟩ := hkW wr hnr
   obtain ⟨W2, hW2⟩ : ∃ W2, W2 = wr.alloc (.cells #[.int .i64 y0, .int .i64 y1, .string y2, .slice ya yl yc, .slice ta tl tc] 27) := ⟨_, rfl⟩
   have hn2 : Near R wr W2 := by rw [hW2]; exact Near.alloc R wr _
   have hw2 : Wr W2 R q := hw.below (by rw [hW2]; exact (Below.refl _ _).alloc (Nat.le_refl _) _)
   have hbx2 : Box5 W2 wr.heap.size (.int .i64 y0) (.int .i64 y1) (.string y2) (.slice ya yl yc) (.slice ta tl tc) := by rw [hW2]; exact Box5.new wr _ _ _ _ _ _
   have hRr : wr.heap.size ≠ R := by have := hw.lt; omega
   have hn12 := hnr.trans hn2
   obtain ⟨p0, p3, p4⟩ := HBx.out W2 hn12
   obtain ⟨hkn, hn8, hS1⟩ := HSt.out
   have HS1 := Lib.hid hS1
   obtain ⟨nb, no, rfl, hnW⟩ := HNm.out k hkn
   have q0 := hnW W2 hn12
   generalize ns[k] = nm at *
   have hknl : (k : Int) < (nl : Int) := by have := HKl.out.2; omega
   have hlen1 := HLe.out _ hS1
   rw [List.length_append, List.length_append] at hlen1
   have hsl := shortB_len nm
   have HCs := Lib.hid (wtext_any R q nm W2 hw2 (by omega) (by omega))
   have HkC := Lib.hid hkC
   have HB2 := Lib.hid hbx2
   have HN12 := Lib.hid hn12
   rw [hW2] at p0 p3 p4 q0
   clear hkW hkC hl hw hnr hn2 hw2 hbx2 hn12 hS1 hnW HKd HNm HStep HSt HLe HLen
   go_wp2_with fail
   rw [<- hW2]
   clear hW2 p0 p3 p4 q0 f0 f1 f2 f3 f4 i0 i3 i4
   refine HCs.out.mono ?_
   rintro e w3 ⟨rfl, hw3, hn3⟩
   obtain ⟨g0, g1, g2, g3, g4⟩ := id HB2.out
   have r0 := hn3.cell g0 hRr
   have r1 := hn3.cell g1 hRr
   have r2 := hn3.cell g2 hRr
   have r3 := hn3.cell g3 hRr
   have r4 := hn3.cell g4 hRr
   have HC2 := Lib.hid (HkC.out w3 (q ++ shortB nm) (HN12.out.trans hn3) hw3 (by rw [List.length_append]; omega))
   have HN3 := Lib.hid (HN12.out.trans hn3)
   clear hw3 hn3 g0 g1 g2 g3 g4 HCs HB2 HkC hlen1
   go_wp2_with fail
   refine HC2.out.mono ?_
   rintro e w4 ⟨rfl, hw4, hn4⟩
   rw [HS1.out] at hw4
   have HW4 := Lib.hid hw4
   have HN4 := Lib.hid (HN3.out.trans hn4)
   clear hw4 hn4 r0 r1 r2 r3 r4 HC2
   go_wp2_with fail
   go_roundw
   case rel => exact ⟨k + 1, _, by omega, by go_num, HW4.out, HN4.out, rfl⟩
   case measure => simp [intOf]; omega
end Go.Proofs.YtmjhcgjhlakceaaGreatDoor

namespace Go.Proofs.YtmjhcgjhlakceaaGreatDoor
open Go.RowKit
set_option maxRecDepth 20000 in
set_option maxHeartbeats 2000000 in
theorem wtree_num (m : Int) (x : ByteArray) (na ka : Option Addr) (nl nc kl kc : Nat) (R : Nat) (l : List UInt8) (w : World) (hW : Wr w R l) (hm : -999999999 <= m /\ m <= 999999999) (hl : l.length + (numB m).length < 8980) :
  Calls Tryz.prog 61 #[.pointer (some ⟨R, 0, none⟩), .agg #[.int .i64 1, .int .i64 m, .string x, .slice na nl nc, .slice ka kl kc]] w fun e w' => e = .returned (.tuple #[]) /\ Wr w' R (l ++ b8 1 :: numB m) /\ Near R w w' := by
 have hRw := hW.lt
 obtain ⟨W1, hW1⟩ : ∃ W1, W1 = w.alloc (.cells #[.int .i64 1, .int .i64 m, .string x, .slice na nl nc, .slice ka kl kc] 27) := ⟨_, rfl⟩
 have hbw : Below w.heap.size w W1 := by rw [hW1]; exact (Below.refl _ _).alloc (Nat.le_refl _) _
 have hx1 : Box5 W1 w.heap.size (.int .i64 1) (.int .i64 m) (.string x) (.slice na nl nc) (.slice ka kl kc) := by rw [hW1]; exact Box5.new w _ _ _ _ _ _
 have hne : w.heap.size ≠ R := by omega
 have hC := put_any R l (b8 1) W1 (hW.below hbw) (by omega)
 rw [b8_nat (by omega) (by omega)] at hC
 have HC := Lib.hid hC
 have HN0 : Hid (Near R w W1) := Near.of_below hbw
 have HX := Lib.hid hx1
 clear hW hbw hx1 hC
 go_enter Tryz.func61, Tryz.ntmps61
 go_wp2_with fail
 rw [<- hW1]
 clear hW1
 refine HC.out.mono ?_
 rintro e w1 ⟨rfl, hw1, hn1⟩
 have i0 := hn1.cell HX.out.c0 hne
 have i1 := hn1.cell HX.out.c1 hne
 have i2 := hn1.cell HX.out.c2 hne
 have i3 := hn1.cell HX.out.c3 hne
 have i4 := hn1.cell HX.out.c4 hne
 have HN1 := Lib.hid (HN0.out.trans hn1)
 have hnl := numB_len m
 have HC2 := Lib.hid (wnum_any R (l ++ [b8 1]) m w1 hw1 hm (by rw [List.length_append]; simp; omega))
 clear hm
 clear hw1 hn1 HC HX
 go_wp2_with fail
 refine HC2.out.mono ?_
 rintro e w2 ⟨rfl, hw2, hn2⟩
 have HW2 := Lib.hid hw2
 have HN2 := Lib.hid (HN1.out.trans hn2)
 clear hw2 hn2 HC2
 go_wp2_with fail
 refine bodyPost_end (results_none rfl _ _ _) rfl ?_
 refine ⟨rfl, ?_, HN2.out⟩
 have e : l ++ b8 1 :: numB m = (l ++ [b8 1]) ++ numB m := by rw [List.append_assoc]; rfl
 rw [e]
 exact HW2.out
set_option maxRecDepth 20000 in
set_option maxHeartbeats 2000000 in
theorem wtree_text (m : Int) (x : ByteArray) (na ka : Option Addr) (nl nc kl kc : Nat) (R : Nat) (l : List UInt8) (w : World) (hW : Wr w R l) (hx : x.size <= 60) (hl : l.length + (shortB x).length < 8980) :
  Calls Tryz.prog 61 #[.pointer (some ⟨R, 0, none⟩), .agg #[.int .i64 2, .int .i64 m, .string x, .slice na nl nc, .slice ka kl kc]] w fun e w' => e = .returned (.tuple #[]) /\ Wr w' R (l ++ b8 2 :: shortB x) /\ Near R w w' := by
 have hRw := hW.lt
 obtain ⟨W1, hW1⟩ : ∃ W1, W1 = w.alloc (.cells #[.int .i64 2, .int .i64 m, .string x, .slice na nl nc, .slice ka kl kc] 27) := ⟨_, rfl⟩
 have hbw : Below w.heap.size w W1 := by rw [hW1]; exact (Below.refl _ _).alloc (Nat.le_refl _) _
 have hx1 : Box5 W1 w.heap.size (.int .i64 2) (.int .i64 m) (.string x) (.slice na nl nc) (.slice ka kl kc) := by rw [hW1]; exact Box5.new w _ _ _ _ _ _
 have hne : w.heap.size ≠ R := by omega
 have hC := put_any R l (b8 2) W1 (hW.below hbw) (by omega)
 rw [b8_nat (by omega) (by omega)] at hC
 have HC := Lib.hid hC
 have HN0 : Hid (Near R w W1) := Near.of_below hbw
 have HX := Lib.hid hx1
 clear hW hbw hx1 hC
 go_enter Tryz.func61, Tryz.ntmps61
 go_wp2_with fail
 rw [<- hW1]
 clear hW1
 refine HC.out.mono ?_
 rintro e w1 ⟨rfl, hw1, hn1⟩
 have i0 := hn1.cell HX.out.c0 hne
 have i1 := hn1.cell HX.out.c1 hne
 have i2 := hn1.cell HX.out.c2 hne
 have i3 := hn1.cell HX.out.c3 hne
 have i4 := hn1.cell HX.out.c4 hne
 have HN1 := Lib.hid (HN0.out.trans hn1)
 have hnl := shortB_len x
 have HC2 := Lib.hid (wtext_any R (l ++ [b8 2]) x w1 hw1 (by omega) (by rw [List.length_append]; simp; omega))
 clear hw1 hn1 HC HX
 go_wp2_with fail
 refine HC2.out.mono ?_
 rintro e w2 ⟨rfl, hw2, hn2⟩
 have HW2 := Lib.hid hw2
 have HN2 := Lib.hid (HN1.out.trans hn2)
 clear hw2 hn2 HC2
 go_wp2_with fail
 refine bodyPost_end (results_none rfl _ _ _) rfl ?_
 refine ⟨rfl, ?_, HN2.out⟩
 have e : l ++ b8 2 :: shortB x = (l ++ [b8 2]) ++ shortB x := by rw [List.append_assoc]; rfl
 rw [e]
 exact HW2.out
set_option maxRecDepth 20000 in
set_option maxHeartbeats 2000000 in
theorem wtree_flag (m : Int) (x : ByteArray) (na ka : Option Addr) (nl nc kl kc : Nat) (R : Nat) (l : List UInt8) (w : World) (hW : Wr w R l) (hm : 0 <= m /\ m <= 1) (hl : l.length < 8980) :
  Calls Tryz.prog 61 #[.pointer (some ⟨R, 0, none⟩), .agg #[.int .i64 3, .int .i64 m, .string x, .slice na nl nc, .slice ka kl kc]] w fun e w' => e = .returned (.tuple #[]) /\ Wr w' R (l ++ [b8 3, b8 m]) /\ Near R w w' := by
 have hRw := hW.lt
 obtain ⟨W1, hW1⟩ : ∃ W1, W1 = w.alloc (.cells #[.int .i64 3, .int .i64 m, .string x, .slice na nl nc, .slice ka kl kc] 27) := ⟨_, rfl⟩
 have hbw : Below w.heap.size w W1 := by rw [hW1]; exact (Below.refl _ _).alloc (Nat.le_refl _) _
 have hx1 : Box5 W1 w.heap.size (.int .i64 3) (.int .i64 m) (.string x) (.slice na nl nc) (.slice ka kl kc) := by rw [hW1]; exact Box5.new w _ _ _ _ _ _
 have hne : w.heap.size ≠ R := by omega
 have hC := put_any R l (b8 3) W1 (hW.below hbw) (by omega)
 rw [b8_nat (by omega) (by omega)] at hC
 have HC := Lib.hid hC
 have HN0 : Hid (Near R w W1) := Near.of_below hbw
 have HX := Lib.hid hx1
 clear hW hbw hx1 hC
 go_enter Tryz.func61, Tryz.ntmps61
 go_wp2_with fail
 rw [<- hW1]
 clear hW1
 refine HC.out.mono ?_
 rintro e w1 ⟨rfl, hw1, hn1⟩
 have i0 := hn1.cell HX.out.c0 hne
 have i1 := hn1.cell HX.out.c1 hne
 have i2 := hn1.cell HX.out.c2 hne
 have i3 := hn1.cell HX.out.c3 hne
 have i4 := hn1.cell HX.out.c4 hne
 have HN1 := Lib.hid (HN0.out.trans hn1)
 have hC2 := put_any R (l ++ [b8 3]) (b8 m) w1 hw1 (by rw [List.length_append]; simp; omega)
 rw [b8_nat (by omega) (by omega)] at hC2
 have HC2 := Lib.hid hC2
 have hwm : IntKind.u8.wrap m = m := by rw [IntKind.wrap_u8]; omega
 clear hC2
 clear hw1 hn1 HC HX
 go_wp2_with fail
 refine HC2.out.mono ?_
 rintro e w2 ⟨rfl, hw2, hn2⟩
 have HW2 := Lib.hid hw2
 have HN2 := Lib.hid (HN1.out.trans hn2)
 clear hw2 hn2 HC2
 go_wp2_with fail
 refine bodyPost_end (results_none rfl _ _ _) rfl ?_
 refine ⟨rfl, ?_, HN2.out⟩
 have e : l ++ [b8 3, b8 m] = (l ++ [b8 3]) ++ [b8 m] := by rw [List.append_assoc]; rfl
 rw [e]
 exact HW2.out
set_option maxRecDepth 20000 in
set_option maxHeartbeats 2000000 in
theorem wtree_kids (s : Int) (hs : s = 4 ∨ s = 5 ∨ s = 6) (p : List UInt8) (m : Int) (x : ByteArray) (na ka : Option Addr) (nl nc kl kc : Nat) (R : Nat) (l : List UInt8) (w : World) (hW : Wr w R l) (hl : l.length < 8980)
  (hK : ∀ W, Near R w W -> Wr W R (l ++ [b8 s]) -> Calls Tryz.prog 103 #[.pointer (some ⟨R, 0, none⟩), .agg #[.int .i64 s, .int .i64 m, .string x, .slice na nl nc, .slice ka kl kc]] W fun e w' => e = .returned (.tuple #[]) /\ Wr w' R ((l ++ [b8 s]) ++ p) /\ Near R W w') :
  Calls Tryz.prog 61 #[.pointer (some ⟨R, 0, none⟩), .agg #[.int .i64 s, .int .i64 m, .string x, .slice na nl nc, .slice ka kl kc]] w fun e w' => e = .returned (.tuple #[]) /\ Wr w' R (l ++ b8 s :: p) /\ Near R w w' := by
 have hRw := hW.lt
 obtain ⟨W1, hW1⟩ : ∃ W1, W1 = w.alloc (.cells #[.int .i64 s, .int .i64 m, .string x, .slice na nl nc, .slice ka kl kc] 27) := ⟨_, rfl⟩
 have hbw : Below w.heap.size w W1 := by rw [hW1]; exact (Below.refl _ _).alloc (Nat.le_refl _) _
 have hx1 : Box5 W1 w.heap.size (.int .i64 s) (.int .i64 m) (.string x) (.slice na nl nc) (.slice ka kl kc) := by rw [hW1]; exact Box5.new w _ _ _ _ _ _
 have hne : w.heap.size ≠ R := by omega
 have hC := put_any R l (b8 s) W1 (hW.below hbw) (by omega)
 rw [b8_nat (by omega) (by omega)] at hC
 have HC := Lib.hid hC
 have HN0 : Hid (Near R w W1) := Near.of_below hbw
 have HX := Lib.hid hx1
 have hs1 : ¬ s = 1 := by omega
 have hs2 : ¬ s = 2 := by omega
 have hs3 : ¬ s = 3 := by omega
 have hws : IntKind.u8.wrap s = s := by rw [IntKind.wrap_u8]; omega
 clear hW hbw hx1 hC hs
 go_enter Tryz.func61, Tryz.ntmps61
 go_wp2_with fail
 rw [<- hW1]
 clear hW1
 refine HC.out.mono ?_
 rintro e w1 ⟨rfl, hw1, hn1⟩
 have i0 := hn1.cell HX.out.c0 hne
 have i1 := hn1.cell HX.out.c1 hne
 have i2 := hn1.cell HX.out.c2 hne
 have i3 := hn1.cell HX.out.c3 hne
 have i4 := hn1.cell HX.out.c4 hne
 have HN1 := Lib.hid (HN0.out.trans hn1)
 have HC2 := Lib.hid (hK w1 HN1.out hw1)
 clear hK
 clear hw1 hn1 HC HX
 go_wp2_with fail
 refine HC2.out.mono ?_
 rintro e w2 ⟨rfl, hw2, hn2⟩
 have HW2 := Lib.hid hw2
 have HN2 := Lib.hid (HN1.out.trans hn2)
 clear hw2 hn2 HC2
 go_wp2_with fail
 refine bodyPost_end (results_none rfl _ _ _) rfl ?_
 refine ⟨rfl, ?_, HN2.out⟩
 have e : l ++ b8 s :: p = (l ++ [b8 s]) ++ p := by rw [List.append_assoc]; rfl
 rw [e]
 exact HW2.out
theorem wtree_any : ∀ n, WSaid n := by
 intro n
 induction n with
 | zero => intro S t c0 c1 c2 c3 c4 d R l w h; exact h.elim
 | succ n ih =>
  intro S t c0 c1 c2 c3 c4 d R l w ht hB hg hc hW hlen
  simp only [goodT, Bool.and_eq_true, List.all_eq_true] at hg
  obtain ⟨⟨-, ha⟩, hk⟩ := hg
  have ha' : aloneF (Nd.sort t) (Nd.num t) (Nd.text t) (Nd.names t) (Nd.kids t).length = true := ha
  have hcc : cntT (n + 1) t = 1 + sumL (fun k => cntT n k) (Nd.kids t) := rfl
  have hkc : ∀ k, k ∈ Nd.kids t -> goodT n k (d + 1) = true /\ cntT n k <= 120 := fun k hkm => by
   have := sumL_mono (fun x => cntT n x) (Nd.kids t) _ hkm
   exact ⟨hk k hkm, by omega⟩
  have hkl : (Nd.kids t).length <= 119 := by
   have := sumL_geE (fun x => cntT n x) (Nd.kids t) (fun x hx => cntT_pos n x (d + 1) (hk x hx))
   omega
  obtain ⟨rfl, rfl, rfl, -, -, -, h3, h4⟩ := ht
  obtain ⟨na, nc, rfl, h3r⟩ := id h3
  obtain ⟨ka, kc, rfl, h4r⟩ := id h4
  unfold aloneF at ha'
  by_cases h1 : Nd.sort t = 1
  ·have hp : packT (n + 1) t = b8 1 :: numB (Nd.num t) := by rw [packT, if_pos h1, h1]
   rw [if_pos h1] at ha'
   rw [hp] at hlen ⊢
   rw [h1]
   exact wtree_num _ _ na ka _ nc _ kc R l w hW (by simp at ha'; omega) (by simp at hlen; omega)
  rw [if_neg h1] at ha'
  by_cases h2 : Nd.sort t = 2
  ·have hp : packT (n + 1) t = b8 2 :: shortB (Nd.text t) := by rw [packT, if_neg h1, if_pos h2, h2]
   rw [if_pos h2] at ha'
   rw [hp] at hlen ⊢
   rw [h2]
   exact wtree_text _ _ na ka _ nc _ kc R l w hW (by simp [textB] at ha'; omega) (by simp at hlen; omega)
  rw [if_neg h2] at ha'
  by_cases h3' : Nd.sort t = 3
  ·have hp : packT (n + 1) t = [b8 3, b8 (Nd.num t)] := by rw [packT, if_neg h1, if_neg h2, if_pos h3', h3']
   rw [if_pos h3'] at ha'
   rw [hp] at hlen ⊢
   rw [h3']
   exact wtree_flag _ _ na ka _ nc _ kc R l w hW (by simp at ha'; omega) (by simp at hlen; omega)
  rw [if_neg h3'] at ha'
  have hp : packT (n + 1) t = b8 (Nd.sort t) :: b8 (Nd.kids t).length :: (partsP (packT n) (Nd.sort t) (Nd.names t) (Nd.kids t)).flatten := by rw [packT, if_neg h1, if_neg h2, if_neg h3']
  rw [hp] at hlen ⊢
  simp only [List.length_cons] at hlen
  have hstep : ∀ W, Near R w W -> StrsIn S W (Nd.names t) (.slice na (Nd.names t).length nc) /\ RowIn S W (TreeIn S W n) (Nd.kids t) (.slice ka (Nd.kids t).length kc) /\ ∀ b, S b -> b < W.heap.size /\ b ≠ R := fun W hN => by
   have hs : Same S w W := fun b hb => hN.block b (hB b hb).1 (hB b hb).2
   exact ⟨h3.keep hs (fun _ h => h), h4.keepT hs (fun _ h => h), fun b hb => ⟨Nat.lt_of_lt_of_le (hB b hb).1 hN.size, (hB b hb).2⟩⟩
  have hl1 : (l ++ [b8 (Nd.sort t)]).length = l.length + 1 := by simp
  by_cases h5 : Nd.sort t = 5
  ·rw [if_neg (by omega), if_pos h5] at ha'
   simp at ha'
   refine wtree_kids (Nd.sort t) (by omega) _ _ _ na ka _ nc _ kc R l w hW (by omega) (fun W hN hW' => ?_)
   obtain ⟨q1, q2, q3⟩ := hstep W hN
   rw [h5] at hW' hlen hl1 ⊢
   exact wkids_form n ih S (Nd.names t) (Nd.kids t) _ _ na ka nc kc (d + 1) R _ W q1 q2 q3 (by omega) (riseB_names _ ha'.2) hkc hkl hW' (by omega)
  ·have hn0 : Nd.names t = [] /\ (Nd.sort t = 4 ∨ Nd.sort t = 6) := by
    by_cases h4' : Nd.sort t = 4
    ·rw [if_pos h4'] at ha'; simp at ha'; exact ⟨ha'.1.2, .inl h4'⟩
    ·rw [if_neg h4', if_neg h5] at ha'
     by_cases h6 : Nd.sort t = 6
     ·rw [if_pos h6] at ha'; simp at ha'; exact ⟨ha'.1.2, .inr h6⟩
     ·rw [if_neg h6] at ha'; cases ha'
   refine wtree_kids (Nd.sort t) (by omega) _ _ _ na ka _ nc _ kc R l w hW (by omega) (fun W hN hW' => ?_)
   obtain ⟨q1, q2, q3⟩ := hstep W hN
   exact wkids_row n ih S (Nd.sort t) hn0.2 (Nd.names t) (Nd.kids t) _ _ na ka nc kc (d + 1) R _ W q1 q2 q3 hkc hkl hW' (by omega)
end Go.Proofs.YtmjhcgjhlakceaaGreatDoor
