/-
  Several texts in one, in their order.
-/
import Derived.Test.YtcpeajdjpecmkaaGreatDoorB6
import Derived.Test.YtcpeajdjpecmkaaGreatDoorB1
import Derived.Deep.OwnRows
import Derived.Deep.RegionHeld
import Derived.Deep.RegionLaw
import Derived.Lib.LazyBuf

/-
  The program's writer of events: its block, a byte put.
-/
namespace Go.Proofs.YtcpeajdjpecmkaaGreatDoor
open Go.RowKit

/-- The writer's block: how many bytes, then these. -/
def Wr (w : World) (R : Nat) (l : List UInt8) : Prop :=
  ∃ F, w.rowIs R 53 9001 F ∧ F 0 = .int .i64 (l.length : Int) ∧ ∀ i (h : i < l.length), F (i + 1) = .int .u8 (l[i].toNat : Int)

theorem Wr.lt {w : World} {R : Nat} {l : List UInt8} (h : Wr w R l) : R < w.heap.size := by obtain ⟨F, h, -⟩ := h; exact h.lt
theorem Wr.keep {w w' : World} {R : Nat} {l : List UInt8} (h : Wr w R l) (e : w'.heap[R]? = w.heap[R]?) : Wr w' R l := by obtain ⟨F, h, r⟩ := h; exact ⟨F, h.of_block e, r⟩
theorem Wr.below {w w' : World} {R : Nat} {l : List UInt8} (h : Wr w R l) (hb : Below w.heap.size w w') : Wr w' R l := h.keep (hb.block R h.lt)
theorem Wr.count {w : World} {R : Nat} {l : List UInt8} (h : Wr w R l) : w.cell? ⟨R, 0, none⟩ = some (.int .i64 (l.length : Int)) ∧ w.frozen? ⟨R, 0, none⟩ = false := by
  obtain ⟨F, h, h0, -⟩ := h
  exact ⟨(h.cell (by omega)).trans (by rw [h0]), h.frozen 0⟩
theorem Wr.free {w : World} {R : Nat} {l : List UInt8} (h : Wr w R l) (i : Nat) (hi : i < 9001) : (∃ v, w.cell? ⟨R, i, none⟩ = some v) ∧ w.frozen? ⟨R, i, none⟩ = false := by
  obtain ⟨F, h, -⟩ := h
  exact ⟨⟨_, h.cell hi⟩, h.frozen i⟩

theorem Wr.put {w : World} {R : Nat} {l : List UInt8} (h : Wr w R l) (d : UInt8) : Wr ((w.setCell ⟨R, 0, none⟩ (.int .i64 ((l.length : Int) + 1))).setCell ⟨R, 1 + l.length, none⟩ (.int .u8 (d.toNat : Int))) R (l ++ [d]) := by
  obtain ⟨F, h, h0, hF⟩ := h
  refine ⟨_, (h.set 0 (.int .i64 ((l.length : Int) + 1))).set (1 + l.length) (.int .u8 (d.toNat : Int)), ?_, fun i hi => ?_⟩
  · show (if 0 = 1 + l.length then _ else if 0 = 0 then _ else _) = _
    rw [if_neg (by omega), if_pos rfl]
    simp
  · show (if i + 1 = 1 + l.length then _ else if i + 1 = 0 then _ else F (i + 1)) = _
    by_cases e : i + 1 = 1 + l.length
    · rw [if_pos e]
      have : i = l.length := by omega
      subst this
      simp
    · rw [if_neg e, if_neg (by omega)]
      have hi' : i < l.length := by simp at hi; omega
      rw [hF i hi', List.getElem_append_left hi']

set_option maxHeartbeats 1000000 in
theorem pass_any (R : Nat) (c k : Int) (w : World) (h0 : w.cell? ⟨R, 0, none⟩ = some (.int .i64 c)) (hf : w.frozen? ⟨R, 0, none⟩ = false) (hc : 0 ≤ c ∧ c ≤ 100000) (hk : 0 ≤ k ∧ k ≤ 100000) :
    Calls Tryz.prog 95 #[.pointer (some ⟨R, 0, none⟩), .int .i64 k] w fun e w' => e = .returned (.int .i64 c) ∧ w' = w.setCell ⟨R, 0, none⟩ (.int .i64 (c + k)) := by
  have h1 := hc.1
  have h2 := hc.2
  have h3 := hk.1
  have h4 := hk.2
  clear hc hk
  go_enter Tryz.func95, Tryz.ntmps95
  go_wp2_with fail
  go_ret
  exact ⟨rfl, rfl⟩

set_option maxRecDepth 20000 in
set_option maxHeartbeats 2000000 in
theorem put_any (R : Nat) (l : List UInt8) (d : UInt8) (w : World) (h : Wr w R l) (hl : l.length < 9000) :
    Calls Tryz.prog 57 #[.pointer (some ⟨R, 0, none⟩), .int .u8 (d.toNat : Int)] w fun e w' => e = .returned (.tuple #[]) ∧ Wr w' R (l ++ [d]) ∧ Near R w w' := by
  obtain ⟨q0, q1⟩ := h.count
  obtain ⟨⟨v, q2⟩, q3⟩ := h.free (1 + l.length) (by omega)
  have HW := Lib.hid h
  have HP : Hid (∀ W : World, W.heap = w.heap → Calls Tryz.prog 95 #[.pointer (some ⟨R, 0, none⟩), .int .i64 1] W fun e w' => e = .returned (.int .i64 (l.length : Int)) ∧ w' = W.setCell ⟨R, 0, none⟩ (.int .i64 ((l.length : Int) + 1))) := fun W hW => by
    refine pass_any R _ _ W ?_ ?_ (by omega) (by omega)
    · simp only [World.cell?, hW] at q0 ⊢; exact q0
    · simp only [World.frozen?, hW] at q1 ⊢; exact q1
  generalize hln : l.length = ln at *
  have HL := Lib.hid hln
  have hli : (ln : Int) < 9000 := by omega
  have q2' : (w.setCell ⟨R, 0, none⟩ (.int .i64 ((ln : Int) + 1))).cell? ⟨R, 1 + ln, none⟩ = some v := (World.cell?_setCell_other _ _ _ _ (by simp)).trans q2
  have q3' : (w.setCell ⟨R, 0, none⟩ (.int .i64 ((ln : Int) + 1))).frozen? ⟨R, 1 + ln, none⟩ = false := by simpa using q3
  clear h hln
  go_enter Tryz.func57, Tryz.ntmps57
  go_region_law (go_simp; go_at_call 95; refine (HP.out w.drew rfl).mono ?_; rintro e w1 ⟨rfl, rfl⟩)
  all_goals
    have HF : Hid (Wr ((w.setCell ⟨R, 0, none⟩ (.int .i64 ((ln : Int) + 1))).setCell ⟨R, 1 + ln, none⟩ (.int .u8 (d.toNat : Int))) R (l ++ [d])) := by
      have h := HW.out.put d
      rw [HL.out] at h
      exact h
    have HN : Hid (Near R w ((w.setCell ⟨R, 0, none⟩ (.int .i64 ((ln : Int) + 1))).setCell ⟨R, 1 + ln, none⟩ (.int .u8 (d.toNat : Int)))) := (Near.set R 0 w _).trans (Near.set R (1 + ln) _ _)
    go_wp2_with fail
    refine bodyPost_end (results_none rfl _ _ _) rfl ?_
    exact ⟨rfl, HF.out.keep rfl, HN.out.drew⟩

end Go.Proofs.YtcpeajdjpecmkaaGreatDoor

/-
  The program's writer of events: a short text, a number.
-/
namespace Go.Proofs.YtcpeajdjpecmkaaGreatDoor
open Go.RowKit

theorem setCells_near (R : Nat) : ∀ (vs : List Value) (o : Nat) (w : World), Near R w (w.setCells R o vs)
  | [], _, w => Near.refl R w
  | v :: r, o, w => (Near.set R o w v).trans (setCells_near R r (o + 1) _)

theorem Wr.text {w : World} {R : Nat} {l : List UInt8} (h : Wr w R l) (x : List UInt8) : Wr ((w.setCell ⟨R, 0, none⟩ (.int .i64 ((l.length : Int) + (x.length : Int)))).setCells R (1 + l.length) (x.map fun b => .int .u8 (b.toNat : Int))) R (l ++ x) := by
  obtain ⟨F, h, h0, hF⟩ := h
  refine ⟨_, Go.rowIs_setCells (x.map fun b => .int .u8 (b.toNat : Int)) (1 + l.length) _ _ (h.set 0 (.int .i64 ((l.length : Int) + (x.length : Int)))), ?_, fun i hi => ?_⟩
  · show (if 1 + l.length ≤ 0 ∧ _ then _ else if 0 = 0 then _ else _) = _
    rw [if_neg (by omega), if_pos rfl]
    simp
  · show (if 1 + l.length ≤ i + 1 ∧ i + 1 < 1 + l.length + (x.map fun b => Value.int .u8 (b.toNat : Int)).length then (x.map fun b => Value.int .u8 (b.toNat : Int))[i + 1 - (1 + l.length)]?.getD default else if i + 1 = 0 then _ else F (i + 1)) = _
    rw [List.length_map]
    rw [List.length_append] at hi
    by_cases e : i < l.length
    · rw [if_neg (by omega), if_neg (by omega), hF i e, List.getElem_append_left e]
    · rw [if_pos (by omega), List.getElem_append_right (by omega)]
      have e2 : i + 1 - (1 + l.length) = i - l.length := by omega
      rw [e2, List.getElem?_map, List.getElem?_eq_getElem (by omega)]
      rfl

theorem Tryz.size_byteE (w : World) : (Go.sizeOf 5).run Tryz.prog w = .ok 1 w := by kernel_rfl

set_option maxRecDepth 20000 in
set_option maxHeartbeats 4000000 in
theorem wtext_any (R : Nat) (l : List UInt8) (x : ByteArray) (w : World) (h : Wr w R l) (hx : x.size ≤ 100) (hl : l.length + x.size < 8990) :
    Calls Tryz.prog 56 #[.pointer (some ⟨R, 0, none⟩), .string x] w fun e w' => e = .returned (.tuple #[]) ∧ Wr w' R (l ++ shortB x) ∧ Near R w w' := by
  have hC := put_any R l (b8 x.size) w h (by omega)
  rw [b8_nat (by omega) (by omega)] at hC
  have HC := Lib.hid hC
  clear hC
  have hwx : IntKind.u8.wrap (x.size : Int) = x.size := by rw [IntKind.wrap_u8]; omega
  clear h
  go_enter Tryz.func56, Tryz.ntmps56
  go_wp2_with fail
  refine HC.out.mono ?_
  rintro e w1 ⟨rfl, hw1, hn1⟩
  obtain ⟨q, hq⟩ : ∃ q, q = l ++ [b8 x.size] := ⟨_, rfl⟩
  have HQ : Hid (l ++ shortB x = q ++ x.data.toList) := by show _ = _; rw [hq, List.append_assoc]; rfl
  have hql : q.length = l.length + 1 := by rw [hq]; simp
  rw [← hq] at hw1
  obtain ⟨q0, q1⟩ := hw1.count
  have HW1 := Lib.hid hw1
  have HN1 := Lib.hid hn1
  obtain ⟨c, hc⟩ : ∃ c, q.length = c := ⟨_, rfl⟩
  have HP : Hid (Calls Tryz.prog 95 #[.pointer (some ⟨R, 0, none⟩), .int .i64 (x.size : Int)] w1.drew fun e w' => e = .returned (.int .i64 (c : Int)) ∧ w' = w1.drew.setCell ⟨R, 0, none⟩ (.int .i64 ((c : Int) + (x.size : Int)))) := by
    rw [← hc]
    exact pass_any R _ _ w1.drew q0 q1 (by omega) (by omega)
  have hfr : ∀ j, j < x.size → (((w1.setCell ⟨R, 0, none⟩ (.int .i64 ((c : Int) + (x.size : Int)))).drew.cell? ⟨R, 1 + c + j, none⟩).isSome = true) ∧ (w1.setCell ⟨R, 0, none⟩ (.int .i64 ((c : Int) + (x.size : Int)))).drew.frozen? ⟨R, 1 + c + j, none⟩ = false := fun j hj => by
    obtain ⟨⟨v, hv⟩, hf⟩ := hw1.free (1 + c + j) (by omega)
    refine ⟨?_, by simpa using hf⟩
    have : (w1.setCell ⟨R, 0, none⟩ (.int .i64 ((c : Int) + (x.size : Int)))).cell? ⟨R, 1 + c + j, none⟩ = some v := (World.cell?_setCell_other _ _ _ _ (by simp)).trans hv
    have h2 : (w1.setCell ⟨R, 0, none⟩ (.int .i64 ((c : Int) + (x.size : Int)))).drew.cell? ⟨R, 1 + c + j, none⟩ = some v := this
    rw [h2]; rfl
  have HFr := Lib.hid hfr
  have hc0 : (c : Int) ≤ 9000 := by omega
  have hc1 : c + x.size ≤ 8991 := by omega
  have hc9 : ¬ 9000 = c := by omega
  have HF : Hid (Wr ((w1.setCell ⟨R, 0, none⟩ (.int .i64 ((c : Int) + (x.size : Int)))).drew.setCells R (1 + c) (x.data.toList.map fun b => .int .u8 (b.toNat : Int))) R (l ++ shortB x)) := by
    have h := (hw1.keep (w' := w1.drew) rfl).text x.data.toList
    rw [hc, show x.data.toList.length = x.size by simp] at h
    rw [HQ.out]
    exact h
  clear hw1 hn1 hq hql HC hfr hc HQ
  go_wp2_with fail
  go_region_law (first
    | (refine Go.step_copy_string (by rfl) (.tmp 18) (.tmp 19) 22 9 (by rfl) 5 Tryz.underlying22 Tryz.size_byteE R (1 + c) _ _ (by rfl) x (by rfl) (by omega) (fun j hj => (HFr.out j hj).1) (fun j hj => (HFr.out j hj).2) ?_)
    | (go_simp; go_at_call 95; refine HP.out.mono ?_; rintro e w2 ⟨rfl, rfl⟩))
  all_goals
    have HN : Hid (Near R w ((w1.setCell ⟨R, 0, none⟩ (.int .i64 ((c : Int) + (x.size : Int)))).drew.setCells R (1 + c) (x.data.toList.map fun b => .int .u8 (b.toNat : Int)))) := (HN1.out.trans ((Near.set R 0 w1 _).drew)).trans (setCells_near R _ _ _)
    go_wp2_with fail
    refine bodyPost_end (results_none rfl _ _ _) rfl ?_
    exact ⟨rfl, HF.out, HN.out⟩

set_option maxRecDepth 20000 in
set_option maxHeartbeats 4000000 in
theorem wnum_pos (R : Nat) (l : List UInt8) (k0 : Nat) (w : World) (h : Wr w R l) (hn : k0 ≤ 999999999) (hl : l.length < 8990) :
    Calls Tryz.prog 96 #[.pointer (some ⟨R, 0, none⟩), .int .i64 (k0 : Int)] w fun e w' => e = .returned (.tuple #[]) ∧ Wr w' R (l ++ numB (k0 : Int)) ∧ Near R w w' := by
  have HNB : Hid (numB (k0 : Int) = [0] ++ num7 5 (k0 : Int)) := by show _ = _; unfold numB; rw [if_neg (by omega), if_neg (by omega)]; rfl
  have hneg : ¬ (k0 : Int) < 0 := by omega
  have HC : Hid (Calls Tryz.prog 57 #[.pointer (some ⟨R, 0, none⟩), .int .u8 0] w fun e w' => e = .returned (.tuple #[]) ∧ Wr w' R (l ++ [0]) ∧ Near R w w') := put_any R l 0 w h (by omega)
  clear h
  go_enter Tryz.func96, Tryz.ntmps96
  go_wp2_with fail
  refine HC.out.mono ?_
  rintro e w1 ⟨rfl, hw1, hn1⟩
  have HW1 := Lib.hid hw1
  have HN1 := Lib.hid hn1
  clear hw1 hn1 HC
  go_wp2_with fail
  go_loopw [1] (fun nv wr => ∃ (k f : Nat) (q : List UInt8), nv = .int .i64 (k : Int) ∧ k ≤ 999999999 ∧ k < 128 ^ (f + 1) ∧ f ≤ 5 ∧ q.length + f = 6 ∧ Wr wr R (l ++ q) ∧ Near R w wr ∧ numB (k0 : Int) = q ++ num7 f (k : Int)) (fun nv _ => (intOf nv).toNat)
  case atStart => exact ⟨k0, 5, [0], rfl, hn, by omega, by omega, rfl, HW1.out, HN1.out, HNB.out⟩
  case round =>
    obtain ⟨k, f, q, rfl, hk, hkf, hf5, hqf, hw, hnr, hN⟩ := hrel
    have HN := Lib.hid hN
    have HNr := Lib.hid hnr
    have hll : (l ++ q).length < 9000 := by rw [List.length_append]; omega
    by_cases h128 : k < 128
    case pos =>
      have hg : ¬ (k : Int) ≥ 128 := by omega
      have hC := put_any R (l ++ q) (b8 (k : Int)) wr hw hll
      rw [b8_nat (by omega) (by omega)] at hC
      have HC := Lib.hid hC
      have HE : Hid (l ++ numB (k0 : Int) = (l ++ q) ++ [b8 (k : Int)]) := by show _ = _; rw [HN.out, num7_last f k h128, List.append_assoc]
      have hwk : IntKind.u8.wrap (k : Int) = k := by rw [IntKind.wrap_u8]; omega
      clear hC hw hnr hN HW1 HN1 HNB hkf hqf HN
      go_wp2_with fail
      refine HC.out.mono ?_
      rintro e w2 ⟨rfl, hw2, hn2⟩
      have HW2 := Lib.hid hw2
      have HN2 := Lib.hid (HNr.out.trans hn2)
      clear hw2 hn2 HC
      go_wp2_with fail
      refine bodyPost_end (results_none rfl _ _ _) rfl ?_
      exact ⟨rfl, by rw [HE.out]; exact HW2.out, HN2.out⟩
    case neg =>
      have hg : (k : Int) ≥ 128 := by omega
      obtain ⟨g, rfl⟩ : ∃ g, f = g + 1 := by
        cases f with
        | zero => exact absurd hkf (by omega)
        | succ g => exact ⟨g, rfl⟩
      have hm : 0 ≤ (k : Int) % 128 ∧ (k : Int) % 128 < 128 := by omega
      have hC := put_any R (l ++ q) (b8 (128 + (k : Int) % 128)) wr hw hll
      rw [b8_nat (by omega) (by omega), Int.add_comm] at hC
      have HC := Lib.hid hC
      have hwk : IntKind.u8.wrap ((k : Int) % 128 + 128) = (k : Int) % 128 + 128 := by rw [IntKind.wrap_u8]; omega
      have HE : Hid (numB (k0 : Int) = (q ++ [b8 (128 + (k : Int) % 128)]) ++ num7 g ((k / 128 : Nat) : Int)) := by
        show _ = _; rw [HN.out, num7_step g k (by omega), List.append_assoc]; rfl
      have HK : Hid (k / 128 < 128 ^ (g + 1)) := by
        show _ < _
        exact Nat.div_lt_of_lt_mul (by rw [Nat.mul_comm, ← Nat.pow_succ]; exact hkf)
      have HQf := Lib.hid hqf
      have hq : 0 ≤ (k : Int) / 128 ∧ (k : Int) / 128 ≤ 999999999 := by omega
      clear hC hw hnr hN HW1 HN1 HNB hkf hqf HN
      go_wp2_with fail
      refine HC.out.mono ?_
      rintro e w2 ⟨rfl, hw2, hn2⟩
      have HW2 := Lib.hid hw2
      have HN2 := Lib.hid (HNr.out.trans hn2)
      clear hw2 hn2 HC
      go_wp2_with fail
      go_roundw
      case rel =>
        refine ⟨k / 128, g, q ++ [b8 (128 + (k : Int) % 128)], by go_num, by omega, HK.out, by omega, by rw [List.length_append]; have := HQf.out; simp; omega, ?_, HN2.out, HE.out⟩
        rw [← List.append_assoc, Int.add_comm 128]; exact HW2.out
      case measure => simp [intOf]; omega

-- MADE out of wnum_pos
set_option maxRecDepth 20000 in
set_option maxHeartbeats 4000000 in
theorem wnum_neg (R : Nat) (l : List UInt8) (k0 : Nat) (w : World) (h : Wr w R l) (hn : k0 ≤ 999999999) (h1 : 1 ≤ k0) (hl : l.length < 8990) :
    Calls Tryz.prog 96 #[.pointer (some ⟨R, 0, none⟩), .int .i64 (-(k0 : Int))] w fun e w' => e = .returned (.tuple #[]) ∧ Wr w' R (l ++ numB (-(k0 : Int))) ∧ Near R w w' := by
  have HNB : Hid (numB (-(k0 : Int)) = [1] ++ num7 5 (k0 : Int)) := by show _ = _; unfold numB; rw [if_pos (by omega), if_pos (by omega), Int.neg_neg]; rfl
  obtain ⟨nn, hnn⟩ : ∃ nn : Int, -(k0 : Int) = nn := ⟨_, rfl⟩
  rw [hnn]
  rw [hnn] at HNB
  have hneg : nn < 0 := by omega
  have hnb : -999999999 ≤ nn := by omega
  have hnk : -nn = (k0 : Int) := by omega
  clear hnn
  have HC : Hid (Calls Tryz.prog 57 #[.pointer (some ⟨R, 0, none⟩), .int .u8 1] w fun e w' => e = .returned (.tuple #[]) ∧ Wr w' R (l ++ [1]) ∧ Near R w w') := put_any R l 1 w h (by omega)
  clear h
  go_enter Tryz.func96, Tryz.ntmps96
  go_wp2_with fail
  refine HC.out.mono ?_
  rintro e w1 ⟨rfl, hw1, hn1⟩
  have HW1 := Lib.hid hw1
  have HN1 := Lib.hid hn1
  clear hw1 hn1 HC
  go_wp2_with fail
  clear hneg hnb hnk
  go_loopw [1] (fun nv wr => ∃ (k f : Nat) (q : List UInt8), nv = .int .i64 (k : Int) ∧ k ≤ 999999999 ∧ k < 128 ^ (f + 1) ∧ f ≤ 5 ∧ q.length + f = 6 ∧ Wr wr R (l ++ q) ∧ Near R w wr ∧ numB nn = q ++ num7 f (k : Int)) (fun nv _ => (intOf nv).toNat)
  case atStart => exact ⟨k0, 5, [1], rfl, hn, by omega, by omega, rfl, HW1.out, HN1.out, HNB.out⟩
  case round =>
    obtain ⟨k, f, q, rfl, hk, hkf, hf5, hqf, hw, hnr, hN⟩ := hrel
    have HN := Lib.hid hN
    have HNr := Lib.hid hnr
    have hll : (l ++ q).length < 9000 := by rw [List.length_append]; omega
    by_cases h128 : k < 128
    case pos =>
      have hg : ¬ (k : Int) ≥ 128 := by omega
      have hC := put_any R (l ++ q) (b8 (k : Int)) wr hw hll
      rw [b8_nat (by omega) (by omega)] at hC
      have HC := Lib.hid hC
      have HE : Hid (l ++ numB nn = (l ++ q) ++ [b8 (k : Int)]) := by show _ = _; rw [HN.out, num7_last f k h128, List.append_assoc]
      have hwk : IntKind.u8.wrap (k : Int) = k := by rw [IntKind.wrap_u8]; omega
      clear hC hw hnr hN HW1 HN1 HNB hkf hqf HN
      go_wp2_with fail
      refine HC.out.mono ?_
      rintro e w2 ⟨rfl, hw2, hn2⟩
      have HW2 := Lib.hid hw2
      have HN2 := Lib.hid (HNr.out.trans hn2)
      clear hw2 hn2 HC
      go_wp2_with fail
      refine bodyPost_end (results_none rfl _ _ _) rfl ?_
      exact ⟨rfl, by rw [HE.out]; exact HW2.out, HN2.out⟩
    case neg =>
      have hg : (k : Int) ≥ 128 := by omega
      obtain ⟨g, rfl⟩ : ∃ g, f = g + 1 := by
        cases f with
        | zero => exact absurd hkf (by omega)
        | succ g => exact ⟨g, rfl⟩
      have hm : 0 ≤ (k : Int) % 128 ∧ (k : Int) % 128 < 128 := by omega
      have hC := put_any R (l ++ q) (b8 (128 + (k : Int) % 128)) wr hw hll
      rw [b8_nat (by omega) (by omega), Int.add_comm] at hC
      have HC := Lib.hid hC
      have hwk : IntKind.u8.wrap ((k : Int) % 128 + 128) = (k : Int) % 128 + 128 := by rw [IntKind.wrap_u8]; omega
      have HE : Hid (numB nn = (q ++ [b8 (128 + (k : Int) % 128)]) ++ num7 g ((k / 128 : Nat) : Int)) := by
        show _ = _; rw [HN.out, num7_step g k (by omega), List.append_assoc]; rfl
      have HK : Hid (k / 128 < 128 ^ (g + 1)) := by
        show _ < _
        exact Nat.div_lt_of_lt_mul (by rw [Nat.mul_comm, ← Nat.pow_succ]; exact hkf)
      have HQf := Lib.hid hqf
      have hq : 0 ≤ (k : Int) / 128 ∧ (k : Int) / 128 ≤ 999999999 := by omega
      clear hC hw hnr hN HW1 HN1 HNB hkf hqf HN
      go_wp2_with fail
      refine HC.out.mono ?_
      rintro e w2 ⟨rfl, hw2, hn2⟩
      have HW2 := Lib.hid hw2
      have HN2 := Lib.hid (HNr.out.trans hn2)
      clear hw2 hn2 HC
      go_wp2_with fail
      go_roundw
      case rel =>
        refine ⟨k / 128, g, q ++ [b8 (128 + (k : Int) % 128)], by go_num, by omega, HK.out, by omega, by rw [List.length_append]; have := HQf.out; simp; omega, ?_, HN2.out, HE.out⟩
        rw [← List.append_assoc, Int.add_comm 128]; exact HW2.out
      case measure => simp [intOf]; omega

theorem wnum_any (R : Nat) (l : List UInt8) (n : Int) (w : World) (h : Wr w R l) (hn : -999999999 ≤ n ∧ n ≤ 999999999) (hl : l.length < 8990) :
    Calls Tryz.prog 96 #[.pointer (some ⟨R, 0, none⟩), .int .i64 n] w fun e w' => e = .returned (.tuple #[]) ∧ Wr w' R (l ++ numB n) ∧ Near R w w' := by
  by_cases hs : n < 0
  · obtain ⟨k, rfl⟩ : ∃ k : Nat, n = -(k : Int) := ⟨(-n).toNat, by omega⟩
    exact wnum_neg R l k w h (by omega) (by omega) hl
  · obtain ⟨k, rfl⟩ : ∃ k : Nat, n = (k : Int) := ⟨n.toNat, by omega⟩
    exact wnum_pos R l k w h (by omega) hl

end Go.Proofs.YtcpeajdjpecmkaaGreatDoor
