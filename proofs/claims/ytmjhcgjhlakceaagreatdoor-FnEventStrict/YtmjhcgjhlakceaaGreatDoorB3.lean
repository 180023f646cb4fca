/-
  Several texts in one, in their order.
-/
import Derived.Test.YtmjhcgjhlakceaaGreatDoorB1
import Derived.Test.YtmjhcgjhlakceaaGreatDoorB2
import Derived.RegionDies
import Derived.Deep.RegionLaw
import Derived.Laws.IdiomStrings
import Derived.Laws.BytesArg
import Derived.BigQuiet
import Derived.Lib.Hide

namespace Go.Proofs.YtmjhcgjhlakceaaGreatDoor
open Go.RowKit
structure Cu (w : World) (R : Nat) (ao : Option Addr) (l : List UInt8) (cap i : Nat) : Prop where
 box : w.heap[R]? = some (.cells #[.int .i64 (i : Int), .slice ao l.length cap] 56 (0, 0))
 len : l.length <= 9000
 le : i <= l.length
 lc : l.length <= cap /\ cap <= maxLen
 bytes : ∀ j (hj : j < l.length), ∃ b off, ao = some ⟨b, off, none⟩ /\ b ≠ R /\ w.cell? ⟨b, off + j, none⟩ = some (.int .u8 (l[j].toNat : Int))
theorem Cu.lt {w : World} {R : Nat} {ao : Option Addr} {l : List UInt8} {cap i : Nat} (h : Cu w R ao l cap i) : R < w.heap.size := (Array.getElem?_eq_some_iff.1 h.box).1
theorem Cu.keep {w w' : World} {R : Nat} {ao : Option Addr} {l : List UInt8} {cap i j : Nat} (h : Cu w R ao l cap i) (hn : Near R w w') (hb : w'.heap[R]? = some (.cells #[.int .i64 (j : Int), .slice ao l.length cap] 56 (0, 0))) (hj : j <= l.length) : Cu w' R ao l cap j :=
 ⟨hb, h.len, hj, h.lc, fun k hk => by
  obtain ⟨b, off, ha, hne, hc⟩ := h.bytes k hk
  exact ⟨b, off, ha, hne, hn.cell hc hne⟩⟩
theorem Cu.same {w w' : World} {R : Nat} {ao : Option Addr} {l : List UInt8} {cap i : Nat} (h : Cu w R ao l cap i) (hb : Below w.heap.size w w') : Cu w' R ao l cap i := h.keep (Near.of_below hb) ((hb.block R h.lt).trans h.box) h.le
theorem Cu.drewN {w : World} {R : Nat} {ao : Option Addr} {l : List UInt8} {cap i : Nat} (h : Cu w R ao l cap i) (n : Nat) : Cu (w.drewN n) R ao l cap i := ⟨h.box, h.len, h.le, h.lc, h.bytes⟩
theorem Cu.cells {w : World} {R : Nat} {ao : Option Addr} {l : List UInt8} {cap i : Nat} (h : Cu w R ao l cap i) : (w.cell? ⟨R, 0, none⟩ = some (.int .i64 (i : Int)) /\ w.cell? ⟨R, 1, none⟩ = some (.slice ao l.length cap)) /\ w.frozen? ⟨R, 0, none⟩ = false := by
 have hb := h.box
 refine ⟨⟨?_, ?_⟩, ?_⟩ <;> simp [World.cell?, World.frozen?, hb]
theorem Cu.setAt {w : World} {R : Nat} {ao : Option Addr} {l : List UInt8} {cap i : Nat} (h : Cu w R ao l cap i) (j : Nat) (hj : j <= l.length) : Cu (w.setCell ⟨R, 0, none⟩ (.int .i64 (j : Int))) R ao l cap j :=
 h.keep (Near.set R 0 w _) (by simp [World.setCell, Array.getElem?_modify, h.box]) hj
theorem nearC_drewN {R : Nat} {w w' : World} (h : Near R w w') (n : Nat) : Near R w (w'.drewN n) := ⟨h.os, h.tape, h.output, h.size, h.block⟩
set_option maxRecDepth 20000 in
set_option maxHeartbeats 1000000 in
theorem passC_any (w : World) (R : Nat) (ao : Option Addr) (l : List UInt8) (cap i n : Nat) (h : Cu w R ao l cap i) (hn : i + n <= l.length) :
  Calls Tryz.prog 94 #[.pointer (some ⟨R, 0, none⟩), .int .i64 (n : Int)] w fun e w' => e = .returned (.int .i64 (i : Int)) /\ w' = w.setCell ⟨R, 0, none⟩ (.int .i64 ((i : Int) + (n : Int))) := by
 obtain ⟨⟨c0, c1⟩, g0⟩ := h.cells
 have hlen := h.len
 have hw : IntKind.i64.wrap ((i : Int) + (n : Int)) = (i : Int) + (n : Int) := by rw [IntKind.wrap_i64]; omega
 clear h
 go_enter Tryz.func94, Tryz.ntmps94
 go_wp2_with fail
 go_ret
 exact ⟨rfl, rfl⟩
def TakePost (w : World) (R : Nat) (ao : Option Addr) (l : List UInt8) (cap i : Nat) (e : Ending) (w' : World) : Prop :=
 Near R w w' /\ ((∃ h : i < l.length, e = .returned (.int .u8 (l[i].toNat : Int)) /\ Cu w' R ao l cap (i + 1)) ∨ (l.length <= i /\ e = .panicked refusal))
set_option maxRecDepth 20000 in
set_option maxHeartbeats 1000000 in
theorem takeC_any (w : World) (R : Nat) (ao : Option Addr) (l : List UInt8) (cap i : Nat) (h : Cu w R ao l cap i) :
  Calls Tryz.prog 53 #[.pointer (some ⟨R, 0, none⟩)] w (TakePost w R ao l cap i) := by
 obtain ⟨⟨c0, c1⟩, g0⟩ := h.cells
 have hle := h.le
 have hlen := h.len
 have HR := Lib.hid h
 by_cases hi : i < l.length
 case neg =>
  have HP : Hid (TakePost w R ao l cap i (.panicked refusal) w.drew) := ⟨⟨rfl, rfl, rfl, Nat.le_refl _, fun _ _ _ => rfl⟩, .inr ⟨by omega, rfl⟩⟩
  obtain ⟨ln, hln⟩ : ∃ ln, l.length = ln := ⟨_, rfl⟩
  rw [hln] at hi hle hlen c1
  have hge : ¬ (i : Int) < (ln : Int) := by omega
  have hge' : decide ((i : Int) < (ln : Int)) = false := decide_eq_false (by omega)
  clear h hln
  go_enter Tryz.func53, Tryz.ntmps53
  go_wp2_with fail
  go_region_dies
  all_goals (go_at_call 55; refine (demand_no _).mono ?_; rintro e w' ⟨rfl, rfl⟩; exact ⟨rfl, HP.out⟩)
 case pos =>
  obtain ⟨b, off, rfl, hne, hc⟩ := h.bytes i hi
  have hlt := l[i].toNat_lt
  have HF : Hid (∀ W, Near R w W -> Cu W R (some ⟨b, off, none⟩) l cap (i + 1) -> TakePost w R (some ⟨b, off, none⟩) l cap i (.returned (.int .u8 (l[i].toNat : Int))) W) := fun W hn hC => ⟨hn, .inl ⟨hi, rfl, hC⟩⟩
  have HPs : Hid (∀ n, Calls Tryz.prog 94 #[.pointer (some ⟨R, 0, none⟩), .int .i64 1] (w.drewN n) fun e w' => e = .returned (.int .i64 (i : Int)) /\ w' = (w.drewN n).setCell ⟨R, 0, none⟩ (.int .i64 ((i : Int) + 1))) := fun n => passC_any (w.drewN n) R _ l cap i 1 (h.drewN n) (by omega)
  have HSt := Lib.hid (h.setAt (i + 1) (by omega))
  generalize l[i].toNat = v at *
  obtain ⟨ln, hln⟩ : ∃ ln, l.length = ln := ⟨_, rfl⟩
  rw [hln] at hi hle hlen c1
  have hge : (i : Int) < (ln : Int) := by omega
  have hge' : decide ((i : Int) < (ln : Int)) = true := decide_eq_true (by omega)
  clear h hln
  go_enter Tryz.func53, Tryz.ntmps53
  go_wp2_with fail
  go_quiet (first | (go_at_call 55; refine Calls.quiet_of_same (demand_yes _)))
  go_wp2_with fail
  obtain ⟨V, hV⟩ : ∃ V, V = w.drewN nq := ⟨_, rfl⟩
  have HPv : Hid (Calls Tryz.prog 94 #[.pointer (some ⟨R, 0, none⟩), .int .i64 1] V.drew fun e w' => e = .returned (.int .i64 (i : Int)) /\ w' = V.drew.setCell ⟨R, 0, none⟩ (.int .i64 ((i : Int) + 1))) := by rw [hV]; exact HPs.out (nq + 1)
  have e1 : V.cell? ⟨R, 1, none⟩ = some (.slice (some ⟨b, off, none⟩) ln cap) := by rw [hV]; exact c1
  have e1' : (V.drew.setCell ⟨R, 0, none⟩ (.int .i64 ((i : Int) + 1))).cell? ⟨R, 1, none⟩ = some (.slice (some ⟨b, off, none⟩) ln cap) := (World.cell?_setCell_other _ _ _ _ (by simp)).trans e1
  have e2 : (V.drew.setCell ⟨R, 0, none⟩ (.int .i64 ((i : Int) + 1))).cell? ⟨b, off + i, none⟩ = some (.int .u8 (v : Int)) := by
   rw [hV]; exact (World.cell?_setCell_other _ _ _ _ (fun h => hne (by have := congrArg Addr.block h; simpa using this.symm))).trans hc
  have e3 : V.cell? ⟨b, off + i, none⟩ = some (.int .u8 (v : Int)) := by rw [hV]; exact hc
  have hne' : ¬ R = b := fun h => hne h.symm
  have HFin : Hid (TakePost w R (some ⟨b, off, none⟩) l cap i (.returned (.int .u8 (v : Int))) (V.drew.setCell ⟨R, 0, none⟩ (.int .i64 ((i : Int) + 1)))) := by
   rw [hV]
   refine HF.out _ ((nearC_drewN (Near.refl R w) (nq + 1)).trans (Near.set R 0 _ _)) ?_
   have h := (HR.out.drewN (nq + 1)).setAt (i + 1) (by have := HSt.out.le; omega)
   exact h
  rw [<- hV]
  clear hV c0 c1 g0 hc HPs HF HSt HR
  go_region_law (first | (go_simp; go_at_call 94; refine HPv.out.mono ?_; rintro e w' ⟨rfl, rfl⟩))
  all_goals
   go_wp2_with fail
   go_ret
   exact HFin.out
end Go.Proofs.YtmjhcgjhlakceaaGreatDoor

namespace Go.Proofs.YtmjhcgjhlakceaaGreatDoor
open Go.RowKit
def TextC (w : World) (R : Nat) (ao : Option Addr) (l : List UInt8) (cap i : Nat) (e : Ending) (w' : World) : Prop :=
 Near R w w' /\ ((∃ x i', takeS (l.drop i) = some (x, l.drop i') /\ e = .returned (.string x) /\ x.size <= 255 /\ Cu w' R ao l cap i' /\ i < i') ∨ (takeS (l.drop i) = none /\ e = .panicked refusal))
theorem takeS_nil {l : List UInt8} {i : Nat} (h : l.length <= i) : takeS (l.drop i) = none := by
 rw [List.drop_eq_nil_of_le h]; rfl
theorem takeS_at {l : List UInt8} {i : Nat} (h : i < l.length) : takeS (l.drop i) = if l[i].toNat <= l.length - (i + 1) then some ((⟨((l.drop (i + 1)).take l[i].toNat).toArray⟩ : ByteArray), l.drop (i + 1 + l[i].toNat)) else none := by
 rw [List.drop_eq_getElem_cons h]
 show (if l[i].toNat <= (l.drop (i + 1)).length then some ((⟨((l.drop (i + 1)).take l[i].toNat).toArray⟩ : ByteArray), (l.drop (i + 1)).drop l[i].toNat) else none) = _
 rw [List.length_drop, List.drop_drop]
set_option maxRecDepth 20000 in
set_option maxHeartbeats 2000000 in
theorem textC_any (w : World) (R : Nat) (ao : Option Addr) (l : List UInt8) (cap i : Nat) (h : Cu w R ao l cap i) :
  Calls Tryz.prog 93 #[.pointer (some ⟨R, 0, none⟩)] w (TextC w R ao l cap i) := by
 have HC := Lib.hid (takeC_any w R ao l cap i h)
 clear h
 go_enter Tryz.func93, Tryz.ntmps93
 go_wp2_with fail
 refine HC.out.mono ?_
 rintro e w1 ⟨hn1, ⟨hi, rfl, h1⟩ | ⟨hi, rfl⟩⟩
 case inr =>
  have HF : Hid (TextC w R ao l cap i (.panicked refusal) w1) := ⟨hn1, .inr ⟨takeS_nil hi, rfl⟩⟩
  exact ⟨rfl, HF.out⟩
 case inl =>
  obtain ⟨i1, hi1⟩ : ∃ i1, i + 1 = i1 := ⟨_, rfl⟩
  have HTk := Lib.hid (takeS_at hi)
  rw [hi1] at h1 HTk
  have hle := h1.le
  have hlen := h1.len
  have hlc := h1.lc.1
  have hv := l[i].toNat_lt
  obtain ⟨v, hvv⟩ : ∃ v, l[i].toNat = v := ⟨_, rfl⟩
  rw [hvv] at HTk hv
  rw [hvv]
  obtain ⟨⟨c0, c1⟩, g0⟩ := h1.cells
  have HR := Lib.hid h1
  have HN := Lib.hid hn1
  clear HC hvv
  by_cases hgt : v <= l.length - i1
  case neg =>
   have HF : Hid (∀ W, Near R w W -> TextC w R ao l cap i (.panicked refusal) W) := fun W hW => ⟨hW, .inr ⟨by rw [HTk.out, if_neg hgt], rfl⟩⟩
   obtain ⟨ln, hln⟩ : ∃ ln, l.length = ln := ⟨_, rfl⟩
   rw [hln] at hgt hle hlen c1 hlc hi
   have hg : ¬ (v : Int) <= (ln : Int) - (i1 : Int) := by omega
   have hg' : decide ((v : Int) <= (ln : Int) - (i1 : Int)) = false := decide_eq_false (by omega)
   have hws : IntKind.i64.wrap ((ln : Int) - (i1 : Int)) = (ln : Int) - (i1 : Int) := by rw [IntKind.wrap_i64]; omega
   have HP := Lib.hid (HF.out w1.drew (nearC_drewN HN.out 1))
   clear h1 hn1 hln HF
   go_wp2_with fail
   go_region_dies
   all_goals (go_at_call 55; refine (demand_no _).mono ?_; rintro e w' ⟨rfl, rfl⟩; exact ⟨rfl, HP.out⟩)
  case pos =>
   obtain ⟨x, hx⟩ : ∃ x : ByteArray, x = ⟨((l.drop i1).take v).toArray⟩ := ⟨_, rfl⟩
   have hxs : x.size = v := by
    rw [hx]; show ((l.drop i1).take v).toArray.size = v
    rw [List.size_toArray, List.length_take, List.length_drop]; omega
   have HTx : Hid (takeS (l.drop i) = some (x, l.drop (i1 + v))) := by show _ = _; rw [HTk.out, if_pos hgt, <- hx]
   have HBy : Hid (∀ j, j < v -> ∃ b off, ao = some ⟨b, off, none⟩ /\ b ≠ R /\ w1.cell? ⟨b, off + (i1 + j), none⟩ = some (.int .u8 ((((l.drop i1).take v)[j]?.getD 0).toNat : Int))) := fun j hj => by
    obtain ⟨b, off, ha, hne, hc⟩ := h1.bytes (i1 + j) (by omega)
    refine ⟨b, off, ha, hne, ?_⟩
    rw [hc, List.getElem?_take_of_lt hj, List.getElem?_drop, List.getElem?_eq_getElem (by omega)]
    rfl
   have HPs : Hid (∀ n, Calls Tryz.prog 94 #[.pointer (some ⟨R, 0, none⟩), .int .i64 (v : Int)] (w1.drewN n) fun e w' => e = .returned (.int .i64 (i1 : Int)) /\ w' = (w1.drewN n).setCell ⟨R, 0, none⟩ (.int .i64 ((i1 : Int) + (v : Int)))) := fun n => by
    have h := passC_any (w1.drewN n) R ao l cap i1 v (h1.drewN n) (by omega)
    exact h
   obtain ⟨ln, hln⟩ : ∃ ln, l.length = ln := ⟨_, rfl⟩
   have HL := Lib.hid hln
   rw [hln] at hgt hle hlen c1 hlc hi
   have hg : (v : Int) <= (ln : Int) - (i1 : Int) := by omega
   have hg' : decide ((v : Int) <= (ln : Int) - (i1 : Int)) = true := decide_eq_true (by omega)
   have hws : IntKind.i64.wrap ((ln : Int) - (i1 : Int)) = (ln : Int) - (i1 : Int) := by rw [IntKind.wrap_i64]; omega
   clear h1 hn1 hln HTk
   go_wp2_with fail
   go_quiet (first | (go_at_call 55; refine Calls.quiet_of_same (demand_yes _)))
   go_wp2_with fail
   refine (HPs.out _).mono ?_
   rintro e w2 ⟨rfl, rfl⟩
   obtain ⟨V, hV⟩ : ∃ V, V = (w1.drewN nq).setCell ⟨R, 0, none⟩ (.int .i64 ((i1 : Int) + (v : Int))) := ⟨_, rfl⟩
   have e1 : V.cell? ⟨R, 1, none⟩ = some (.slice ao ln cap) := by rw [hV]; exact (World.cell?_setCell_other _ _ _ _ (by simp)).trans c1
   have e0 : V.cell? ⟨R, 0, none⟩ = some (.int .i64 ((i1 : Int) + (v : Int))) := by rw [hV]; exact World.cell?_setCell_same _ _ _ c0
   have HSV : Hid (Cu V R ao l cap (i1 + v)) := by
    rw [hV]
    have h := (HR.out.drewN nq).setAt (i1 + v) (by have := HL.out; omega)
    rw [show ((i1 + v : Nat) : Int) = (i1 : Int) + (v : Int) by omega] at h
    exact h
   have HNV : Hid (Near R w V) := by rw [hV]; exact HN.out.trans ((nearC_drewN (Near.refl R w1) nq).trans (Near.set R 0 _ _))
   rw [<- hV]
   have hz0 : 0 <= (i1 : Int) := by omega
   have hz1 : (i1 : Int) <= (i1 : Int) + (v : Int) := by omega
   have hz2 : (i1 : Int) + (v : Int) <= (cap : Int) := by omega
   have hcv : ∀ n, (convert 22 9 (.slice (if cap = i1 then ao else Option.map (fun x => x.add i1) ao) (((i1 : Int) + (v : Int)).toNat - i1) (cap - i1))).run Tryz.prog (V.drewN n) = .ok (.string x) (V.drewN n) := fun n => by
    have hvv : ((i1 : Int) + (v : Int)).toNat - i1 = v := by omega
    rw [hvv]
    by_cases hv0 : v = 0
    ·have hx0 : x = bs [] := by rw [hx, hv0]; rfl
     rw [hv0, hx0]
     cases hb : (if cap = i1 then ao else Option.map (fun x => x.add i1) ao) with
     | none => exact run_convert_bytes_nil (P := Tryz.prog) (V.drewN n) 22 5 Tryz.underlying22 Tryz.underlying5 0 _ 9 Tryz.underlying9
     | some ad => exact run_convert_bytes_back (P := Tryz.prog) (V.drewN n) 22 9 5 ad _ [] Tryz.underlying22 Tryz.underlying5 Tryz.underlying9 (fun j hj => absurd hj (Nat.not_lt_zero _))
    ·obtain ⟨b, off, hao, hne, -⟩ := HBy.out 0 (by omega)
     rw [if_neg (by omega), hao]
     have hlv : ((l.drop i1).take v).length = v := by rw [List.length_take, List.length_drop]; have := HL.out; omega
     have h := run_convert_bytes_back (P := Tryz.prog) (V.drewN n) 22 9 5 ⟨b, off + i1, none⟩ (cap - i1) ((l.drop i1).take v) Tryz.underlying22 Tryz.underlying5 Tryz.underlying9 (fun j hj => by
      obtain ⟨b', off', hao', -, hc⟩ := HBy.out j (by omega)
      rw [hao] at hao'
      cases hao'
      rw [Addr.add_lit, World.cell?_drewN, hV]
      rw [List.getElem?_eq_getElem hj] at hc
      refine (World.cell?_setCell_other _ _ _ _ (fun h => hne (by have := congrArg Addr.block h; simpa using this.symm))).trans ?_
      rw [Nat.add_assoc off]
      exact hc)
     rw [hlv] at h
     rw [hx, Option.map_some, Addr.add_lit]
     exact h
   have hto : (i1 : Int).toNat = i + 1 := by omega
   obtain ⟨ba, hba⟩ : ∃ ba, (if cap = i1 then ao else Option.map (fun x => x.add i1) ao) = ba := ⟨_, rfl⟩
   rw [hba] at hcv
   have HFin : Hid (∀ n, TextC w R ao l cap i (.returned (.string x)) (V.drewN n)) := fun n => ⟨nearC_drewN HNV.out n, .inl ⟨x, i1 + v, HTx.out, rfl, by omega, HSV.out.drewN n, by omega⟩⟩
   clear hV hx HNV HSV HTx HBy HPs HL HR HN c0 c1 g0
   go_wp2_with fail
   go_quiet (fail)
   go_wp2_with fail
   go_ret
   exact HFin.out _
end Go.Proofs.YtmjhcgjhlakceaaGreatDoor
