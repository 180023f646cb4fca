/-
  Several texts in one, in their order.
-/
import Derived.Test.YtmjhcgjhlakceaaGreatDoorB1
import Derived.Laws.IdiomStrings
import Derived.Laws.BytesArg
import Derived.BigQuiet
import Derived.Lib.Hide

namespace Go.Proofs.YtmjhcgjhlakceaaGreatDoor
open Go.RowKit
structure R4 (w : World) (R : Nat) (ao : Option Addr) (l : List UInt8) (cap i : Nat) (bad : Bool) : Prop where
 box : w.heap[R]? = some (.cells #[.slice ao l.length cap, .int .i64 (i : Int), .bool bad] 45 (0, 0))
 len : l.length <= 9000
 le : i <= l.length
 lc : l.length <= cap /\ cap <= maxLen
 bytes : ∀ j (hj : j < l.length), ∃ b off, ao = some ⟨b, off, none⟩ /\ b ≠ R /\ w.cell? ⟨b, off + j, none⟩ = some (.int .u8 (l[j].toNat : Int))
theorem R4.lt {w : World} {R : Nat} {ao : Option Addr} {l : List UInt8} {cap i : Nat} {bad : Bool} (h : R4 w R ao l cap i bad) : R < w.heap.size := (Array.getElem?_eq_some_iff.1 h.box).1
theorem R4.keep {w w' : World} {R : Nat} {ao : Option Addr} {l : List UInt8} {cap i j : Nat} {bad bad' : Bool} (h : R4 w R ao l cap i bad) (hn : Near R w w') (hb : w'.heap[R]? = some (.cells #[.slice ao l.length cap, .int .i64 (j : Int), .bool bad'] 45 (0, 0))) (hj : j <= l.length) : R4 w' R ao l cap j bad' :=
 ⟨hb, h.len, hj, h.lc, fun k hk => by
  obtain ⟨b, off, ha, hne, hc⟩ := h.bytes k hk
  exact ⟨b, off, ha, hne, hn.cell hc hne⟩⟩
theorem R4.same {w w' : World} {R : Nat} {ao : Option Addr} {l : List UInt8} {cap i : Nat} {bad : Bool} (h : R4 w R ao l cap i bad) (hb : Below w.heap.size w w') : R4 w' R ao l cap i bad := h.keep (Near.of_below hb) ((hb.block R h.lt).trans h.box) h.le
theorem R4.drewN {w : World} {R : Nat} {ao : Option Addr} {l : List UInt8} {cap i : Nat} {bad : Bool} (h : R4 w R ao l cap i bad) (n : Nat) : R4 (w.drewN n) R ao l cap i bad := ⟨h.box, h.len, h.le, h.lc, h.bytes⟩
theorem R4.cells {w : World} {R : Nat} {ao : Option Addr} {l : List UInt8} {cap i : Nat} {bad : Bool} (h : R4 w R ao l cap i bad) : (w.cell? ⟨R, 0, none⟩ = some (.slice ao l.length cap) /\ w.cell? ⟨R, 1, none⟩ = some (.int .i64 (i : Int)) /\ w.cell? ⟨R, 2, none⟩ = some (.bool bad)) /\ w.frozen? ⟨R, 1, none⟩ = false /\ w.frozen? ⟨R, 2, none⟩ = false := by
 have hb := h.box
 refine ⟨⟨?_, ?_, ?_⟩, ?_, ?_⟩ <;> simp [World.cell?, World.frozen?, hb]
theorem R4.setAt {w : World} {R : Nat} {ao : Option Addr} {l : List UInt8} {cap i : Nat} {bad : Bool} (h : R4 w R ao l cap i bad) (j : Nat) (hj : j <= l.length) : R4 (w.setCell ⟨R, 1, none⟩ (.int .i64 (j : Int))) R ao l cap j bad :=
 h.keep (Near.set R 1 w _) (by simp [World.setCell, Array.getElem?_modify, h.box]) hj
theorem R4.setBad {w : World} {R : Nat} {ao : Option Addr} {l : List UInt8} {cap i : Nat} {bad : Bool} (h : R4 w R ao l cap i bad) : R4 (w.setCell ⟨R, 2, none⟩ (.bool true)) R ao l cap i true :=
 h.keep (Near.set R 2 w _) (by simp [World.setCell, Array.getElem?_modify, h.box]) h.le
def oneR (l : List UInt8) (i : Nat) (bad : Bool) (v i' : Nat) (bad' : Bool) : Prop :=
 (l.length <= i /\ v = 0 /\ i' = i /\ bad' = true) ∨ ∃ h : i < l.length, v = l[i].toNat /\ i' = i + 1 /\ bad' = bad
def OnePost (w : World) (R : Nat) (ao : Option Addr) (l : List UInt8) (cap i : Nat) (bad : Bool) (e : Ending) (w' : World) : Prop :=
 ∃ (v i' : Nat) (bad' : Bool), e = .returned (.int .i64 (v : Int)) /\ v <= 255 /\ oneR l i bad v i' bad' /\ R4 w' R ao l cap i' bad' /\ Near R w w'
theorem near_drewN {R : Nat} {w w' : World} (h : Near R w w') (n : Nat) : Near R w (w'.drewN n) := ⟨h.os, h.tape, h.output, h.size, h.block⟩
set_option maxRecDepth 20000 in
set_option maxHeartbeats 2000000 in
theorem one_any (w : World) (R : Nat) (ao : Option Addr) (l : List UInt8) (cap i : Nat) (bad : Bool) (h : R4 w R ao l cap i bad) :
  Calls Tryz.prog 19 #[.pointer (some ⟨R, 0, none⟩)] w (OnePost w R ao l cap i bad) := by
 have hle := h.le
 have hlen := h.len
 obtain ⟨⟨c0, c1, c2⟩, g1, g2⟩ := h.cells
 have HR := Lib.hid h
 by_cases hi : i < l.length
 case neg =>
  obtain ⟨ln, hln⟩ : ∃ ln, l.length = ln := ⟨_, rfl⟩
  have HL := Lib.hid hln
  rw [hln] at hi hle hlen c0
  have hge : (i : Int) ≥ (ln : Int) := by omega
  have hge' : decide ((ln : Int) <= (i : Int)) = true := decide_eq_true (by omega)
  have hge'' : decide ((i : Int) ≥ (ln : Int)) = true := decide_eq_true (by omega)
  clear h hln
  go_enter Tryz.func19, Tryz.ntmps19
  go_wp2_with fail
  go_quiet (fail)
  go_wp2_with fail
  go_ret
  refine ⟨0, i, true, rfl, by omega, .inl ⟨by have := HL.out; omega, rfl, rfl, rfl⟩, ?_, ?_⟩
  ·have h := (HR.out.drewN nq).setBad
   exact h
  ·exact (near_drewN (Near.refl R w) nq).trans (Near.set R 2 _ _)
 case pos =>
  obtain ⟨b, off, rfl, hne, hc⟩ := h.bytes i hi
  have hlt := l[i].toNat_lt
  have HV : Hid (oneR l i bad l[i].toNat (i + 1) bad) := .inr ⟨hi, rfl, rfl, rfl⟩
  have HSt := Lib.hid (h.setAt (i + 1) (by omega))
  have hc' : (w.setCell ⟨R, 1, none⟩ (.int .i64 ((i : Int) + 1))).cell? ⟨b, off + i, none⟩ = some (.int .u8 (l[i].toNat : Int)) := (World.cell?_setCell_other _ _ _ _ (by simp)).trans hc
  have d0 : (w.setCell ⟨R, 1, none⟩ (.int .i64 ((i : Int) + 1))).cell? ⟨R, 0, none⟩ = some (.slice (some ⟨b, off, none⟩) l.length cap) := (World.cell?_setCell_other _ _ _ _ (by simp)).trans c0
  have d1 : (w.setCell ⟨R, 1, none⟩ (.int .i64 ((i : Int) + 1))).cell? ⟨R, 1, none⟩ = some (.int .i64 ((i : Int) + 1)) := World.cell?_setCell_same _ _ _ c1
  generalize l[i].toNat = v at *
  obtain ⟨ln, hln⟩ : ∃ ln, l.length = ln := ⟨_, rfl⟩
  rw [hln] at hi hle hlen c0 d0
  have hge : ¬ (i : Int) ≥ (ln : Int) := by omega
  have hge' : decide ((ln : Int) <= (i : Int)) = false := decide_eq_false (by omega)
  have hge'' : decide ((i : Int) ≥ (ln : Int)) = false := decide_eq_false (by omega)
  have hsub : (i : Int) + 1 - 1 = i := by omega
  have hilt : (i : Int) < (ln : Int) := by omega
  clear h hc hln
  go_enter Tryz.func19, Tryz.ntmps19
  go_wp2_with fail
  go_quiet (fail)
  go_wp2_with fail
  obtain ⟨V, hV⟩ : ∃ V, V = (w.drewN nq).setCell ⟨R, 1, none⟩ (.int .i64 ((i : Int) + 1)) := ⟨_, rfl⟩
  have e0 : V.cell? ⟨R, 0, none⟩ = some (.slice (some ⟨b, off, none⟩) ln cap) := by rw [hV]; exact d0
  have e1 : V.cell? ⟨R, 1, none⟩ = some (.int .i64 ((i : Int) + 1)) := by rw [hV]; exact d1
  have e2 : V.cell? ⟨b, off + i, none⟩ = some (.int .u8 (v : Int)) := by rw [hV]; exact hc'
  have HSV : Hid (R4 V R (some ⟨b, off, none⟩) l cap (i + 1) bad) := by rw [hV]; exact ⟨HSt.out.box, HSt.out.len, HSt.out.le, HSt.out.lc, HSt.out.bytes⟩
  have HNV : Hid (Near R w V) := by rw [hV]; exact (near_drewN (Near.refl R w) nq).trans (Near.set R 1 _ _)
  rw [<- hV]
  clear hV d0 d1 hc' c0 c1 c2 g1 g2
  go_quiet (fail)
  go_wp2_with fail
  go_ret
  exact ⟨v, i + 1, bad, rfl, by omega, HV.out, HSV.out.drewN _, near_drewN HNV.out _⟩
def shortR (l : List UInt8) (i : Nat) (bad : Bool) (x : ByteArray) (i' : Nat) (bad' : Bool) : Prop :=
 ∀ (y : ByteArray) (r : List UInt8), bad = false -> y.size <= 255 -> l.drop i = shortB y ++ r -> x = y /\ i' = i + (shortB y).length /\ bad' = false /\ l.drop i' = r
def ShortPost (w : World) (R : Nat) (ao : Option Addr) (l : List UInt8) (cap i : Nat) (bad : Bool) (e : Ending) (w' : World) : Prop :=
 ∃ (x : ByteArray) (i' : Nat) (bad' : Bool), e = .returned (.string x) /\ x.size <= 255 /\ shortR l i bad x i' bad' /\ R4 w' R ao l cap i' bad' /\ Near R w w'
theorem oneR_cons {l : List UInt8} {i : Nat} {bad : Bool} {v i' : Nat} {bad' : Bool} (h : oneR l i bad v i' bad') {b : UInt8} {r : List UInt8} (hd : l.drop i = b :: r) : v = b.toNat /\ i' = i + 1 /\ bad' = bad /\ l.drop i' = r := by
 have hi : i < l.length := by
  apply Classical.byContradiction
  intro hn
  rw [List.drop_eq_nil_of_le (by omega)] at hd
  cases hd
 rw [List.drop_eq_getElem_cons hi] at hd
 injection hd with h1 h2
 rcases h with ⟨hc, -⟩ | ⟨h', rfl, rfl, rfl⟩
 ·omega
 ·exact ⟨by rw [<- h1], rfl, rfl, h2⟩
set_option maxRecDepth 20000 in
set_option maxHeartbeats 2000000 in
theorem short_any (w : World) (R : Nat) (ao : Option Addr) (l : List UInt8) (cap i : Nat) (bad : Bool) (h : R4 w R ao l cap i bad) :
  Calls Tryz.prog 18 #[.pointer (some ⟨R, 0, none⟩)] w (ShortPost w R ao l cap i bad) := by
 have HC := Lib.hid (one_any w R ao l cap i bad h)
 clear h
 go_enter Tryz.func18, Tryz.ntmps18
 go_wp2_with fail
 refine HC.out.mono ?_
 rintro e w1 ⟨v, i1, bad1, rfl, hv, hone, h1, hn1⟩
 clear HC
 have hle := h1.le
 have hlen := h1.len
 have hlc := h1.lc.1
 obtain ⟨⟨c0, c1, c2⟩, g1, g2⟩ := h1.cells
 have HR := Lib.hid h1
 have HN := Lib.hid hn1
 have HOne := Lib.hid hone
 by_cases hgt : v <= l.length - i1
 case neg =>
  have HS : Hid (shortR l i bad (⟨#[]⟩ : ByteArray) i1 true) := fun y r hb hy hd => by
   obtain ⟨e1, e2, e3, e4⟩ := oneR_cons HOne.out (b := b8 (y.size : Int)) (r := y.data.toList ++ r) (by rw [hd]; rfl)
   have hl4 : (l.drop i1).length = (y.data.toList ++ r).length := by rw [e4]
   rw [List.length_drop, List.length_append] at hl4
   rw [b8_toNat (by omega)] at e1
   have : y.data.toList.length = y.size := by simp
   omega
  obtain ⟨ln, hln⟩ : ∃ ln, l.length = ln := ⟨_, rfl⟩
  rw [hln] at hgt hle hlen c0 hlc
  have hg : (v : Int) > (ln : Int) - (i1 : Int) := by omega
  have hg' : decide ((ln : Int) - (i1 : Int) < (v : Int)) = true := decide_eq_true (by omega)
  have hg'' : decide ((v : Int) > (ln : Int) - (i1 : Int)) = true := decide_eq_true (by omega)
  clear h1 hn1 hone hln
  go_wp2_with fail
  go_quiet (fail)
  go_wp2_with fail
  go_ret
  refine ⟨_, i1, true, rfl, by show (0 : Nat) <= 255; omega, HS.out, ?_, ?_⟩
  ·have h := (HR.out.drewN nq).setBad
   exact h
  ·exact HN.out.trans ((near_drewN (Near.refl R w1) nq).trans (Near.set R 2 _ _))
 case pos =>
  obtain ⟨x, hx⟩ : ∃ x : ByteArray, x = ⟨((l.drop i1).take v).toArray⟩ := ⟨_, rfl⟩
  have hxs : x.size = v := by
   rw [hx]; show ((l.drop i1).take v).toArray.size = v
   rw [List.size_toArray, List.length_take, List.length_drop]; omega
  have HS : Hid (shortR l i bad x (i1 + v) bad1) := fun y r hb hy hd => by
   obtain ⟨e1, e2, e3, e4⟩ := oneR_cons HOne.out (b := b8 (y.size : Int)) (r := y.data.toList ++ r) (by rw [hd]; rfl)
   rw [b8_toNat (by omega)] at e1
   have hyl : y.data.toList.length = y.size := by simp
   have hxy : x = y := by
    rw [hx, e4, e1, List.take_append_of_le_length (by omega), List.take_of_length_le (by omega)]
   refine ⟨hxy, by rw [e2, e1]; simp [shortB]; omega, by rw [e3]; exact hb, ?_⟩
   rw [<- List.drop_drop, e4, e1, List.drop_append_of_le_length (by omega), List.drop_eq_nil_of_le (by omega)]
   rfl
  have HSt := Lib.hid (h1.setAt (i1 + v) (by omega))
  have HBy : Hid (∀ j, j < v -> ∃ b off, ao = some ⟨b, off, none⟩ /\ b ≠ R /\ w1.cell? ⟨b, off + (i1 + j), none⟩ = some (.int .u8 ((((l.drop i1).take v)[j]?.getD 0).toNat : Int))) := fun j hj => by
   obtain ⟨b, off, ha, hne, hc⟩ := h1.bytes (i1 + j) (by omega)
   refine ⟨b, off, ha, hne, ?_⟩
   rw [hc, List.getElem?_take_of_lt hj, List.getElem?_drop, List.getElem?_eq_getElem (by omega)]
   rfl
  obtain ⟨ln, hln⟩ : ∃ ln, l.length = ln := ⟨_, rfl⟩
  have HL := Lib.hid hln
  rw [hln] at hgt hle hlen c0 hlc
  have hg : ¬ (v : Int) > (ln : Int) - (i1 : Int) := by omega
  have hg' : decide ((ln : Int) - (i1 : Int) < (v : Int)) = false := decide_eq_false (by omega)
  have hg'' : decide ((v : Int) > (ln : Int) - (i1 : Int)) = false := decide_eq_false (by omega)
  clear h1 hn1 hone hln
  go_wp2_with fail
  go_quiet (fail)
  go_wp2_with fail
  obtain ⟨V, hV⟩ : ∃ V, V = (w1.drewN nq).setCell ⟨R, 1, none⟩ (.int .i64 ((i1 : Int) + (v : Int))) := ⟨_, rfl⟩
  have e0 : V.cell? ⟨R, 0, none⟩ = some (.slice ao ln cap) := by rw [hV]; exact (World.cell?_setCell_other _ _ _ _ (by simp)).trans c0
  have e1 : V.cell? ⟨R, 1, none⟩ = some (.int .i64 ((i1 : Int) + (v : Int))) := by rw [hV]; exact World.cell?_setCell_same _ _ _ c1
  have HSV : Hid (R4 V R ao l cap (i1 + v) bad1) := by
   rw [hV]
   have h := HSt.out
   rw [show ((i1 + v : Nat) : Int) = (i1 : Int) + (v : Int) by omega] at h
   exact ⟨h.box, h.len, h.le, h.lc, h.bytes⟩
  have HNV : Hid (Near R w V) := by rw [hV]; exact HN.out.trans ((near_drewN (Near.refl R w1) nq).trans (Near.set R 1 _ _))
  rw [<- hV]
  have hsub : (i1 : Int) + (v : Int) - (v : Int) = i1 := by omega
  have hz0 : 0 <= (i1 : Int) := by omega
  have hz1 : (i1 : Int) <= (i1 : Int) + (v : Int) := by omega
  have hz2 : (i1 : Int) + (v : Int) <= (cap : Int) := by omega
  have hwi : IntKind.i64.wrap (i1 : Int) = i1 := by rw [IntKind.wrap_i64]; omega
  have hcv : ∀ n, (convert 22 9 (.slice (if cap = i1 then ao else Option.map (fun x => x.add i1) ao) (((i1 : Int) + (v : Int)).toNat - i1) (cap - i1))).run Tryz.prog (V.drewN n) = .ok (.string x) (V.drewN n) := fun n => by
   have hvv : ((i1 : Int) + (v : Int)).toNat - i1 = v := by omega
   rw [hvv]
   by_cases hv0 : v = 0
   ·have hx0 : x = bs [] := by rw [hx, hv0]; rfl
    rw [hv0, hx0]
    cases hb : (if cap = i1 then ao else Option.map (fun x => x.add i1) ao) with
    | none => exact run_convert_bytes_nil (P := Tryz.prog) (V.drewN n) 22 5 Tryz.underlying22 Tryz.underlying5 0 _ 9 Tryz.underlying9
    | some ad => exact run_convert_bytes_back (P := Tryz.prog) (V.drewN n) 22 9 5 ad _ [] Tryz.underlying22 Tryz.underlying5 Tryz.underlying9 (fun j hj => absurd hj (Nat.not_lt_zero _))
   ·obtain ⟨b, off, hao, hne, -⟩ := HBy.out 0 (by omega)
    rw [if_neg (by omega), hao]
    have hlv : ((l.drop i1).take v).length = v := by rw [List.length_take, List.length_drop]; have := HL.out; omega
    have h := run_convert_bytes_back (P := Tryz.prog) (V.drewN n) 22 9 5 ⟨b, off + i1, none⟩ (cap - i1) ((l.drop i1).take v) Tryz.underlying22 Tryz.underlying5 Tryz.underlying9 (fun j hj => by
     obtain ⟨b', off', hao', -, hc⟩ := HBy.out j (by omega)
     rw [hao] at hao'
     cases hao'
     rw [Addr.add_lit, World.cell?_drewN, hV]
     rw [List.getElem?_eq_getElem hj] at hc
     refine (World.cell?_setCell_other _ _ _ _ (by simp)).trans ?_
     rw [Nat.add_assoc]
     exact hc)
    rw [hlv] at h
    rw [hx, Option.map_some, Addr.add_lit]
    exact h
  obtain ⟨ba, hba⟩ : ∃ ba, (if cap = i1 then ao else Option.map (fun x => x.add i1) ao) = ba := ⟨_, rfl⟩
  rw [hba] at hcv
  clear hV hx
  go_quiet (fail)
  go_wp2_with fail
  go_ret
  exact ⟨x, i1 + v, bad1, rfl, by omega, HS.out, HSV.out.drewN _, near_drewN HNV.out _⟩
end Go.Proofs.YtmjhcgjhlakceaaGreatDoor

namespace Go.Proofs.YtmjhcgjhlakceaaGreatDoor
open Go.RowKit
def numR (l : List UInt8) (i : Nat) (bad : Bool) (v : Int) (i' : Nat) (bad' : Bool) : Prop :=
 ∀ (u : Int) (r : List UInt8), bad = false -> (-999999999 <= u /\ u <= 999999999) -> l.drop i = numB u ++ r -> v = u /\ i' = i + (numB u).length /\ bad' = false /\ l.drop i' = r
def Num4Post (w : World) (R : Nat) (ao : Option Addr) (l : List UInt8) (cap i : Nat) (bad : Bool) (e : Ending) (w' : World) : Prop :=
 ∃ (v : Int) (i' : Nat) (bad' : Bool), e = .returned (.int .i64 v) /\ (-99999999999 <= v /\ v <= 99999999999) /\ numR l i bad v i' bad' /\ R4 w' R ao l cap i' bad' /\ Near R w w'
def midN (l : List UInt8) (i0 : Nat) (bad0 : Bool) (k n i1 : Nat) (bd : Bool) : Prop :=
 ∀ (N : Nat) (r : List UInt8), bad0 = false -> N <= 999999999 -> l.drop i0 = num7 5 (N : Int) ++ r -> ∃ M f, N = n + M * 128 ^ k /\ (k = 0 ∨ 0 < M) /\ k + f = 5 /\ l.drop i1 = num7 f (M : Int) ++ r /\ bd = false /\ i1 + (num7 f (M : Int)).length = i0 + (num7 5 (N : Int)).length
def endN (l : List UInt8) (i0 : Nat) (bad0 : Bool) (n i1 : Nat) (bd : Bool) : Prop :=
 ∀ (N : Nat) (r : List UInt8), bad0 = false -> N <= 999999999 -> l.drop i0 = num7 5 (N : Int) ++ r -> n = N /\ l.drop i1 = r /\ bd = false /\ i1 = i0 + (num7 5 (N : Int)).length
theorem midN_start (l : List UInt8) (i0 : Nat) (bad0 : Bool) : midN l i0 bad0 0 0 i0 bad0 := fun N r hb hN hd => ⟨N, 5, by simp, .inl rfl, rfl, hd, hb, rfl⟩
theorem midN_over {l : List UInt8} {i0 : Nat} {bad0 : Bool} {n i1 : Nat} {bd : Bool} (h : midN l i0 bad0 5 n i1 bd) : endN l i0 bad0 n i1 bd := fun N r hb hN hd => by
 obtain ⟨M, f, e1, e2, -⟩ := h N r hb hN hd
 have : 0 < M := by omega
 have : M * 128 ^ 5 <= 999999999 := by omega
 have : 128 ^ 5 <= M * 128 ^ 5 := Nat.le_mul_of_pos_left _ (by omega)
 have h5 : (128 : Nat) ^ 5 = 34359738368 := by decide
 omega
theorem midN_last {l : List UInt8} {i0 : Nat} {bad0 : Bool} {k n i1 : Nat} {bd : Bool} {x i2 : Nat} {bd2 : Bool} (h : midN l i0 bad0 k n i1 bd) (ho : oneR l i1 bd x i2 bd2) (hx : x < 128) : endN l i0 bad0 (n + x % 128 * 128 ^ k) i2 bd2 := fun N r hb hN hd => by
 obtain ⟨M, f, e1, e2, e3, e4, e5, e6⟩ := h N r hb hN hd
 by_cases hM : M < 128
 ·rw [num7_small f M hM] at e4 e6
  obtain ⟨o1, o2, o3, o4⟩ := oneR_cons ho (b := b8 (M : Int)) (r := r) (by rw [e4]; rfl)
  rw [b8_toNat (by omega)] at o1
  refine ⟨by rw [o1, Nat.mod_eq_of_lt hM]; exact e1.symm, o4, by rw [o3]; exact e5, ?_⟩
  simp at e6
  omega
 ·cases f with
  | zero =>
   have : k = 5 := by omega
   subst this
   have h5 : (128 : Nat) ^ 5 = 34359738368 := by decide
   have : 128 ^ 5 <= M * 128 ^ 5 := Nat.le_mul_of_pos_left _ (by omega)
   omega
  | succ f =>
   have hn : num7 (f + 1) (M : Int) = b8 ((M % 128 + 128 : Nat) : Int) :: num7 f ((M / 128 : Nat) : Int) := by
    rw [num7, if_neg (by omega)]; rfl
   rw [hn] at e4
   obtain ⟨o1, -⟩ := oneR_cons ho (b := b8 ((M % 128 + 128 : Nat) : Int)) (r := num7 f ((M / 128 : Nat) : Int) ++ r) (by rw [e4]; rfl)
   rw [b8_toNat (by omega)] at o1
   omega
theorem midN_next {l : List UInt8} {i0 : Nat} {bad0 : Bool} {k n i1 : Nat} {bd : Bool} {x i2 : Nat} {bd2 : Bool} (h : midN l i0 bad0 k n i1 bd) (ho : oneR l i1 bd x i2 bd2) (hx : ¬ x < 128) : midN l i0 bad0 (k + 1) (n + x % 128 * 128 ^ k) i2 bd2 := fun N r hb hN hd => by
 obtain ⟨M, f, e1, e2, e3, e4, e5, e6⟩ := h N r hb hN hd
 by_cases hM : M < 128
 ·rw [num7_small f M hM] at e4
  obtain ⟨o1, -⟩ := oneR_cons ho (b := b8 (M : Int)) (r := r) (by rw [e4]; rfl)
  rw [b8_toNat (by omega)] at o1
  omega
 ·cases f with
  | zero =>
   have : k = 5 := by omega
   subst this
   have h5 : (128 : Nat) ^ 5 = 34359738368 := by decide
   have : 128 ^ 5 <= M * 128 ^ 5 := Nat.le_mul_of_pos_left _ (by omega)
   omega
  | succ f =>
   have hn : num7 (f + 1) (M : Int) = b8 ((M % 128 + 128 : Nat) : Int) :: num7 f ((M / 128 : Nat) : Int) := by
    rw [num7, if_neg (by omega)]; rfl
   rw [hn] at e4 e6
   obtain ⟨o1, o2, o3, o4⟩ := oneR_cons ho (b := b8 ((M % 128 + 128 : Nat) : Int)) (r := num7 f ((M / 128 : Nat) : Int) ++ r) (by rw [e4]; rfl)
   rw [b8_toNat (by omega)] at o1
   have hx2 : x % 128 = M % 128 := by omega
   refine ⟨M / 128, f, ?_, .inr (by omega), by omega, o4, by rw [o3]; exact e5, ?_⟩
   ·rw [hx2, Nat.pow_succ]
    have e : M / 128 * (128 ^ k * 128) = (128 * (M / 128)) * 128 ^ k := by rw [Nat.mul_comm (128 ^ k), <- Nat.mul_assoc, Nat.mul_comm (M / 128)]
    rw [e, Nat.add_assoc, <- Nat.add_mul, Nat.mod_add_div]
    exact e1
   ·simp only [List.length_cons] at e6
    omega
theorem numR_of {l : List UInt8} {i : Nat} {bad : Bool} {v0 i0 : Nat} {bad0 : Bool} {n i' : Nat} {bad' : Bool} (ho : oneR l i bad v0 i0 bad0) (he : endN l i0 bad0 n i' bad') : numR l i bad (if v0 = 1 then -(n : Int) else (n : Int)) i' bad' := fun u r hb hu hd => by
 have hnb : numB u = (if u < 0 then 1 else 0) :: num7 5 (if u < 0 then -u else u) := rfl
 obtain ⟨o1, o2, o3, o4⟩ := oneR_cons ho (b := if u < 0 then 1 else 0) (r := num7 5 (if u < 0 then -u else u) ++ r) (by rw [hd, hnb]; rfl)
 have hlen : (numB u).length = (num7 5 (if u < 0 then -u else u)).length + 1 := by rw [hnb]; rfl
 by_cases hneg : u < 0
 ·rw [if_pos hneg] at o1 o4 hlen
  obtain ⟨k, rfl⟩ : ∃ k : Nat, u = -(k : Int) := ⟨(-u).toNat, by omega⟩
  rw [Int.neg_neg] at o4 hlen
  obtain ⟨e1, e2, e3, e4⟩ := he k r (by rw [o3]; exact hb) (by omega) o4
  have hv1 : v0 = 1 := by rw [o1]; rfl
  rw [if_pos hv1]
  exact ⟨by rw [e1], by omega, e3, e2⟩
 ·rw [if_neg hneg] at o1 o4 hlen
  obtain ⟨k, rfl⟩ : ∃ k : Nat, u = (k : Int) := ⟨u.toNat, by omega⟩
  obtain ⟨e1, e2, e3, e4⟩ := he k r (by rw [o3]; exact hb) (by omega) o4
  have hv1 : ¬ v0 = 1 := by rw [o1]; decide
  rw [if_neg hv1]
  exact ⟨by rw [e1], by omega, e3, e2⟩
set_option maxRecDepth 20000 in
set_option maxHeartbeats 4000000 in
theorem num4_any (w : World) (R : Nat) (ao : Option Addr) (l : List UInt8) (cap i : Nat) (bad : Bool) (h : R4 w R ao l cap i bad) :
  Calls Tryz.prog 47 #[.pointer (some ⟨R, 0, none⟩)] w (Num4Post w R ao l cap i bad) := by
 have HC := Lib.hid (one_any w R ao l cap i bad h)
 clear h
 go_enter Tryz.func47, Tryz.ntmps47
 go_wp2_with fail
 refine HC.out.mono ?_
 rintro e w1 ⟨v0, i0, bad0, rfl, hv0, hone, h1, hn1⟩
 have HR1 := Lib.hid h1
 have HN1 := Lib.hid hn1
 have HOne := Lib.hid hone
 clear HC h1 hn1 hone
 have HEnd : Hid (∀ (n i' : Nat) (bad' : Bool) (w' : World), n <= 34359738368 -> endN l i0 bad0 n i' bad' -> R4 w' R ao l cap i' bad' -> Near R w w' -> (v0 = 1 -> Num4Post w R ao l cap i bad (.returned (.int .i64 (-(n : Int)))) w') /\ (¬ v0 = 1 -> Num4Post w R ao l cap i bad (.returned (.int .i64 (n : Int))) w')) := fun n i' bad' w' hn he h4 hN => by
  have hnr := numR_of HOne.out he
  refine ⟨fun h => ?_, fun h => ?_⟩
  ·rw [if_pos h] at hnr; exact ⟨_, i', bad', rfl, by omega, hnr, h4, hN⟩
  ·rw [if_neg h] at hnr; exact ⟨_, i', bad', rfl, by omega, hnr, h4, hN⟩
 go_wp2_with fail
 go_loopw [4, 5, 6] (fun nv pv kv wr => ∃ (k n p i1 : Nat) (bd : Bool), k <= 5 /\ kv = .int .i64 (k : Int) /\ nv = .int .i64 (n : Int) /\ pv = .int .i64 (p : Int) /\ p = 128 ^ k /\ n < p /\ p <= 34359738368 /\ midN l i0 bad0 k n i1 bd /\ R4 wr R ao l cap i1 bd /\ Near R w wr) (fun _ _ kv _ => 5 - (intOf kv).toNat)
 case atStart => exact ⟨0, 0, 1, i0, bad0, by omega, rfl, rfl, rfl, rfl, by omega, by omega, midN_start _ _ _, HR1.out, HN1.out⟩
 case round =>
  obtain ⟨k, n, p, i1, bd, hk, rfl, rfl, rfl, hp, hnp, hpb, hmid, h4, hnr⟩ := hrel
  have HMid := Lib.hid hmid
  have HR4 := Lib.hid h4
  have HNr := Lib.hid hnr
  have HP := Lib.hid hp
  clear hmid h4 hnr hp
  by_cases hk5 : k < 5
  case neg =>
   have e5 : k = 5 := by omega
   have HE := Lib.hid (HEnd.out n i1 bd wr (by omega) (midN_over (e5 ▸ HMid.out)) HR4.out HNr.out)
   have hkn : ¬ (k : Int) < 5 := by omega
   by_cases hs : v0 = 1
   ·have HF := Lib.hid (HE.out.1 hs)
    have hsi : (v0 : Int) = 1 := by omega
    clear hs
    go_wp2_with fail
    go_ret
    exact HF.out
   ·have HF := Lib.hid (HE.out.2 hs)
    have hsi : ¬ (v0 : Int) = 1 := by omega
    clear hs
    go_wp2_with fail
    go_ret
    exact HF.out
  case pos =>
   have hkp : (k : Int) < 5 := by omega
   have HC := Lib.hid (one_any wr R ao l cap i1 bd HR4.out)
   go_wp2_with fail
   refine HC.out.mono ?_
   rintro e w2 ⟨x, i2, bd2, rfl, hx, hox, h42, hn2⟩
   have HOx := Lib.hid hox
   have HR2 := Lib.hid h42
   have HN2 := Lib.hid (HNr.out.trans hn2)
   clear HC hox h42 hn2 HR4 HNr
   have hp4 : p <= 268435456 := by
    have h1 := HP.out
    have h2 : 128 ^ k <= 128 ^ 4 := Nat.pow_le_pow_right (by omega) (by omega)
    have h3 : (128 : Nat) ^ 4 = 268435456 := by decide
    omega
   have hmm : (x : Int) % 128 = ((x % 128 : Nat) : Int) := by omega
   obtain ⟨y, hy⟩ : ∃ y, y = x % 128 := ⟨_, rfl⟩
   have hy1 : y <= 127 := by omega
   obtain ⟨z, hz⟩ : ∃ z, z = y * p := ⟨_, rfl⟩
   have hz1 : z <= 127 * p := by rw [hz]; exact Nat.mul_le_mul_right _ hy1
   have hmm2 : (x : Int) % 128 * (p : Int) = (z : Int) := by rw [hmm, <- hy, hz]; push_cast; rfl
   have HZ : Hid (z = x % 128 * 128 ^ k) := by show z = _; rw [hz, hy, HP.out]
   have hnz : n + z < 128 * p := by omega
   have HPn : Hid (128 * p = 128 ^ (k + 1)) := by show _ = _; rw [HP.out, Nat.pow_succ, Nat.mul_comm]
   clear hmm hz hy
   by_cases hx128 : x < 128
   case pos =>
    have HE := Lib.hid (HEnd.out (n + z) i2 bd2 w2 (by omega) (by rw [HZ.out]; exact midN_last HMid.out HOx.out hx128) HR2.out HN2.out)
    have hxp : (x : Int) < 128 := by omega
    by_cases hs : v0 = 1
    ·have HF := Lib.hid (HE.out.1 hs)
     have hsi : (v0 : Int) = 1 := by omega
     clear hs
     go_wp2_with fail
     go_ret
     have h := HF.out
     rw [show ((n + z : Nat) : Int) = (n : Int) + (z : Int) by omega] at h
     exact h
    ·have HF := Lib.hid (HE.out.2 hs)
     have hsi : ¬ (v0 : Int) = 1 := by omega
     clear hs
     go_wp2_with fail
     go_ret
     have h := HF.out
     rw [show ((n + z : Nat) : Int) = (n : Int) + (z : Int) by omega] at h
     exact h
   case neg =>
    have hxn : ¬ (x : Int) < 128 := by omega
    have HM2 : Hid (midN l i0 bad0 (k + 1) (n + z) i2 bd2) := by rw [HZ.out]; exact midN_next HMid.out HOx.out hx128
    go_wp2_with fail
    go_roundw
    case rel => exact ⟨k + 1, n + z, 128 * p, i2, bd2, by omega, by go_num, by go_num, by go_num, HPn.out, hnz, by omega, HM2.out, HR2.out, HN2.out⟩
    case measure => simp [intOf]; omega
end Go.Proofs.YtmjhcgjhlakceaaGreatDoor

namespace Go.Proofs.YtmjhcgjhlakceaaGreatDoor
open Go.RowKit
theorem empty_of {x : ByteArray} (hx : x.toList.isEmpty = true) : x = ByteArray.empty := by
 have h : x.data.toList = [] := by rw [<- ByteArray.toList_eq]; simpa using hx
 cases x with | mk dd => simp at h; subst h; rfl
theorem good_shape (L : Nat) (t : T (L + 1)) (d : Int) (hg : goodT (L + 1) t d = true) (hc : cntT (L + 1) t <= 120) : d <= 6 /\
  ((∃ v : Int, t = (⟨1, v, ByteArray.empty, [], []⟩ : Nd (T L)) /\ -999999999 <= v /\ v <= 999999999) ∨
   (∃ x : ByteArray, t = (⟨2, 0, x, [], []⟩ : Nd (T L)) /\ x.size <= 255) ∨
   (∃ k : Nat, t = (⟨3, (k : Int), ByteArray.empty, [], []⟩ : Nd (T L)) /\ k <= 255) ∨
   (∃ (s : Nat) (ns : List ByteArray) (ks : List (T L)), t = (⟨(s : Int), 0, ByteArray.empty, ns, ks⟩ : Nd (T L)) /\ (s = 4 ∨ s = 5 ∨ s = 6) /\ ks.length <= 119 /\ ((s : Int) = 5 -> ns.length = ks.length) /\ ((s : Int) ≠ 5 -> ns = []) /\ (∀ y, y ∈ ns -> y.size <= 255) /\ ∀ k, k ∈ ks -> goodT L k (d + 1) = true /\ cntT L k <= 120)) := by
 simp only [goodT, Bool.and_eq_true, List.all_eq_true] at hg
 obtain ⟨⟨hd, ha⟩, hk⟩ := hg
 have ha' : aloneF (Nd.sort t) (Nd.num t) (Nd.text t) (Nd.names t) (Nd.kids t).length = true := ha
 have hcc : cntT (L + 1) t = 1 + sumL (fun k => cntT L k) (Nd.kids t) := rfl
 have hkc : ∀ k, k ∈ Nd.kids t -> cntT L k <= 120 := fun k hkm => by
  have := sumL_mono (fun x => cntT L x) (Nd.kids t) _ hkm
  omega
 obtain ⟨s, m, x, ns, ks⟩ := t
 have ha2 : aloneF s m x ns ks.length = true := ha'
 have hkl : ks.length <= 119 := by
  have h1 : ∀ (l : List (T L)), (∀ y, y ∈ l -> 1 <= cntT L y) -> l.length <= sumL (fun k => cntT L k) l := by
   intro l
   induction l with
   | nil => intro _; simp [sumL]
   | cons a l ih =>
    intro h
    have h0 := h a (List.mem_cons_self ..)
    have h2 := ih (fun x hx => h x (List.mem_cons_of_mem _ hx))
    simp only [List.length_cons, sumL]
    omega
  have := h1 ks (fun y hy => cntT_pos L y (d + 1) (hk y hy))
  have hc' : 1 + sumL (fun k => cntT L k) ks <= 120 := by rw [<- show cntT (L + 1) (⟨s, m, x, ns, ks⟩ : Nd (T L)) = 1 + sumL (fun k => cntT L k) ks from rfl]; exact hc
  omega
 refine ⟨by simpa using hd, ?_⟩
 unfold aloneF at ha2
 by_cases h1 : s = 1
 ·rw [if_pos h1] at ha2
  subst h1
  simp at ha2
  obtain ⟨⟨⟨hv, hx⟩, hn⟩, hks⟩ := ha2
  have hxe := empty_of (x := x) (by simpa using hx)
  subst hxe hn hks
  exact .inl ⟨m, rfl, by omega, by omega⟩
 rw [if_neg h1] at ha2
 by_cases h2 : s = 2
 ·rw [if_pos h2] at ha2
  subst h2
  simp [textB] at ha2
  obtain ⟨⟨⟨hm, hx, -⟩, hn⟩, hks⟩ := ha2
  subst hm hn hks
  exact .inr (.inl ⟨x, rfl, by omega⟩)
 rw [if_neg h2] at ha2
 by_cases h3 : s = 3
 ·rw [if_pos h3] at ha2
  subst h3
  simp at ha2
  obtain ⟨⟨⟨hm, hx⟩, hn⟩, hks⟩ := ha2
  have hxe := empty_of (x := x) (by simpa using hx)
  subst hxe hn hks
  obtain ⟨k, rfl⟩ : ∃ k : Nat, m = (k : Int) := ⟨m.toNat, by omega⟩
  exact .inr (.inr (.inl ⟨k, rfl, by omega⟩))
 rw [if_neg h3] at ha2
 have hs : s = 4 ∨ s = 5 ∨ s = 6 := by
  by_cases h4 : s = 4
  ·exact .inl h4
  ·rw [if_neg h4] at ha2
   by_cases h5 : s = 5
   ·exact .inr (.inl h5)
   ·rw [if_neg h5] at ha2
    by_cases h6 : s = 6
    ·exact .inr (.inr h6)
    ·rw [if_neg h6] at ha2; cases ha2
 have hfacts : m = 0 /\ x = ByteArray.empty /\ (s = 5 -> ns.length = ks.length) /\ (s ≠ 5 -> ns = []) /\ ∀ y, y ∈ ns -> y.size <= 255 := by
  by_cases h4 : s = 4
  ·rw [if_pos h4] at ha2
   simp only [Bool.and_eq_true, beq_iff_eq] at ha2
   have hn : ns = [] := List.eq_nil_of_length_eq_zero (by have := ha2.1.2; omega)
   exact ⟨ha2.1.1.1, empty_of ha2.1.1.2, fun h => by omega, fun _ => hn, fun y hy => by rw [hn] at hy; cases hy⟩
  ·rw [if_neg h4] at ha2
   by_cases h5 : s = 5
   ·rw [if_pos h5] at ha2
    simp only [Bool.and_eq_true, beq_iff_eq] at ha2
    exact ⟨ha2.1.1.1, empty_of ha2.1.1.2, fun _ => by have := ha2.1.2; omega, fun h => absurd h5 h, fun y hy => by have := riseB_names _ ha2.2 y hy; omega⟩
   ·rw [if_neg h5] at ha2
    rw [if_pos (by omega)] at ha2
    simp only [Bool.and_eq_true, beq_iff_eq] at ha2
    have hn : ns = [] := List.eq_nil_of_length_eq_zero (by have := ha2.1.2; omega)
    exact ⟨ha2.1.1.1, empty_of ha2.1.1.2, fun h => by omega, fun _ => hn, fun y hy => by rw [hn] at hy; cases hy⟩
 obtain ⟨hm0, hx0, h5, hn5, hy⟩ := hfacts
 subst hm0 hx0
 obtain ⟨sn, hsn⟩ : ∃ sn : Nat, s = (sn : Int) := ⟨s.toNat, by omega⟩
 subst hsn
 exact .inr (.inr (.inr ⟨sn, ns, ks, rfl, by omega, hkl, h5, hn5, hy, fun k hkm => ⟨hk k hkm, hkc k hkm⟩⟩))
def treeR (m : Nat) (d : Int) (l : List UInt8) (i : Nat) (bad : Bool) (t : T m) (i' : Nat) (bad' : Bool) : Prop :=
 ∀ (t0 : T m) (r : List UInt8), bad = false -> goodT m t0 d = true -> cntT m t0 <= 120 -> l.drop i = packT m t0 ++ r -> t = t0 /\ bad' = false /\ l.drop i' = r
theorem treeR_deep {m : Nat} {d : Int} {l : List UInt8} {i : Nat} {bad : Bool} {t : T (m + 1)} {i' : Nat} {bad' : Bool} (h : 6 < d) : treeR (m + 1) d l i bad t i' bad' := fun t0 r _ hg hc _ => by
 have := (good_shape m t0 d hg hc).1
 omega
theorem tree_head {m : Nat} {d : Int} {l : List UInt8} {i : Nat} {bad : Bool} {v i1 : Nat} {bad1 : Bool} (ho : oneR l i bad v i1 bad1) {t0 : T (m + 1)} {r : List UInt8} (hg : goodT (m + 1) t0 d = true) (hc : cntT (m + 1) t0 <= 120) (hd : l.drop i = packT (m + 1) t0 ++ r) : bad1 = bad /\
  ((v = 1 /\ ∃ x : Int, t0 = (⟨1, x, ByteArray.empty, [], []⟩ : Nd (T m)) /\ (-999999999 <= x /\ x <= 999999999) /\ l.drop i1 = numB x ++ r) ∨
   (v = 2 /\ ∃ x : ByteArray, t0 = (⟨2, 0, x, [], []⟩ : Nd (T m)) /\ x.size <= 255 /\ l.drop i1 = shortB x ++ r) ∨
   (v = 3 /\ ∃ k : Nat, t0 = (⟨3, (k : Int), ByteArray.empty, [], []⟩ : Nd (T m)) /\ k <= 255 /\ l.drop i1 = b8 (k : Int) :: r) ∨
   (¬ v = 1 /\ ¬ v = 2 /\ ¬ v = 3 /\ ∃ (ns : List ByteArray) (ks : List (T m)), t0 = (⟨(v : Int), 0, ByteArray.empty, ns, ks⟩ : Nd (T m)) /\ ks.length <= 119 /\ ((v : Int) = 5 -> ns.length = ks.length) /\ ((v : Int) ≠ 5 -> ns = []) /\ (∀ y, y ∈ ns -> y.size <= 255) /\ (∀ k, k ∈ ks -> goodT m k (d + 1) = true /\ cntT m k <= 120) /\ l.drop i1 = b8 (ks.length : Int) :: ((partsP (packT m) (v : Int) ns ks).flatten ++ r))) := by
 rcases (good_shape m t0 d hg hc).2 with ⟨x, rfl, h1, h2⟩ | ⟨x, rfl, h1⟩ | ⟨k, rfl, h1⟩ | ⟨s, ns, ks, rfl, hs, hl, h5, hn, hy, hk⟩
 ·obtain ⟨o1, o2, o3, o4⟩ := oneR_cons ho (b := b8 1) (r := numB x ++ r) (by rw [hd]; rfl)
  exact ⟨o3, .inl ⟨o1, x, rfl, ⟨h1, h2⟩, o4⟩⟩
 ·obtain ⟨o1, o2, o3, o4⟩ := oneR_cons ho (b := b8 2) (r := shortB x ++ r) (by rw [hd]; rfl)
  exact ⟨o3, .inr (.inl ⟨o1, x, rfl, h1, o4⟩)⟩
 ·obtain ⟨o1, o2, o3, o4⟩ := oneR_cons ho (b := b8 3) (r := b8 (k : Int) :: r) (by rw [hd]; rfl)
  exact ⟨o3, .inr (.inr (.inl ⟨o1, k, rfl, h1, o4⟩))⟩
 ·have hp : packT (m + 1) (⟨(s : Int), 0, ByteArray.empty, ns, ks⟩ : Nd (T m)) = b8 (s : Int) :: b8 (ks.length : Int) :: (partsP (packT m) (s : Int) ns ks).flatten :=
   packT_deep (⟨(s : Int), 0, ByteArray.empty, ns, ks⟩ : Nd (T m)) (by show ¬ (s : Int) = 1; omega) (by show ¬ (s : Int) = 2; omega) (by show ¬ (s : Int) = 3; omega)
  rw [hp] at hd
  obtain ⟨o1, o2, o3, o4⟩ := oneR_cons ho (b := b8 (s : Int)) (r := b8 (ks.length : Int) :: ((partsP (packT m) (s : Int) ns ks).flatten ++ r)) (by rw [hd]; rfl)
  rw [b8_toNat (by omega)] at o1
  subst o1
  exact ⟨o3, .inr (.inr (.inr ⟨by omega, by omega, by omega, ns, ks, rfl, hl, h5, hn, hy, hk, o4⟩))⟩
theorem treeR_bad {m : Nat} {d : Int} {l : List UInt8} {i : Nat} {bad : Bool} {v i1 : Nat} (ho : oneR l i bad v i1 true) {t : T (m + 1)} {i' : Nat} {bad' : Bool} : treeR (m + 1) d l i bad t i' bad' := fun t0 r hb hg hc hd => by
 have := (tree_head ho hg hc hd).1
 rw [hb] at this
 cases this
theorem treeR_num {m : Nat} {d : Int} {l : List UInt8} {i : Nat} {bad : Bool} {i1 : Nat} {bad1 : Bool} (ho : oneR l i bad 1 i1 bad1) {x : Int} {i2 : Nat} {bad2 : Bool} (hn : numR l i1 bad1 x i2 bad2) : treeR (m + 1) d l i bad (⟨1, x, ByteArray.empty, [], []⟩ : Nd (T m)) i2 bad2 := fun t0 r hb hg hc hd => by
 obtain ⟨e, h | h | h | h⟩ := tree_head ho hg hc hd
 ·obtain ⟨-, y, rfl, hy, hd1⟩ := h
  obtain ⟨n1, -, n3, n4⟩ := hn y r (by rw [e]; exact hb) hy hd1
  rw [n1]
  exact ⟨rfl, n3, n4⟩
 ·omega
 ·omega
 ·omega
theorem treeR_text {m : Nat} {d : Int} {l : List UInt8} {i : Nat} {bad : Bool} {i1 : Nat} {bad1 : Bool} (ho : oneR l i bad 2 i1 bad1) {x : ByteArray} {i2 : Nat} {bad2 : Bool} (hn : shortR l i1 bad1 x i2 bad2) : treeR (m + 1) d l i bad (⟨2, 0, x, [], []⟩ : Nd (T m)) i2 bad2 := fun t0 r hb hg hc hd => by
 obtain ⟨e, h | h | h | h⟩ := tree_head ho hg hc hd
 ·omega
 ·obtain ⟨-, y, rfl, hy, hd1⟩ := h
  obtain ⟨n1, -, n3, n4⟩ := hn y r (by rw [e]; exact hb) hy hd1
  rw [n1]
  exact ⟨rfl, n3, n4⟩
 ·omega
 ·omega
theorem treeR_flag {m : Nat} {d : Int} {l : List UInt8} {i : Nat} {bad : Bool} {i1 : Nat} {bad1 : Bool} (ho : oneR l i bad 3 i1 bad1) {v i2 : Nat} {bad2 : Bool} (hn : oneR l i1 bad1 v i2 bad2) : treeR (m + 1) d l i bad (⟨3, (v : Int), ByteArray.empty, [], []⟩ : Nd (T m)) i2 bad2 := fun t0 r hb hg hc hd => by
 obtain ⟨e, h | h | h | h⟩ := tree_head ho hg hc hd
 ·omega
 ·omega
 ·obtain ⟨-, k, rfl, hk, hd1⟩ := h
  obtain ⟨n1, -, n3, n4⟩ := oneR_cons hn hd1
  rw [b8_toNat (by omega)] at n1
  rw [n1]
  exact ⟨rfl, by rw [n3, e]; exact hb, n4⟩
 ·omega
def midT (m : Nat) (dp so : Int) (l : List UInt8) (i1 : Nat) (bd1 : Bool) (n0 : Nat) (ns : List ByteArray) (ks : List (T m)) (k i' : Nat) (bad' : Bool) : Prop :=
 ∀ (ns0 : List ByteArray) (ks0 : List (T m)) (r : List UInt8), bd1 = false -> ks0.length = n0 -> (∀ x, x ∈ ks0 -> goodT m x dp = true /\ cntT m x <= 120) -> (so = 5 -> ns0.length = ks0.length) -> (so ≠ 5 -> ns0 = []) -> (∀ s, s ∈ ns0 -> s.size <= 255) -> l.drop i1 = (partsP (packT m) so ns0 ks0).flatten ++ r ->
  ∃ ns1 ks1, ns0 = ns ++ ns1 /\ ks0 = ks ++ ks1 /\ ks1.length = k /\ (so = 5 -> ns1.length = ks1.length) /\ (so ≠ 5 -> ns1 = []) /\ bad' = false /\ l.drop i' = (partsP (packT m) so ns1 ks1).flatten ++ r
theorem midT_start (m : Nat) (dp so : Int) (l : List UInt8) (i1 : Nat) (bd1 : Bool) (n0 : Nat) : midT m dp so l i1 bd1 n0 [] [] n0 i1 bd1 := fun ns0 ks0 _ hb hl _ h5 hn _ hd => ⟨ns0, ks0, rfl, rfl, hl, h5, hn, hb, hd⟩
theorem midT_five {m : Nat} {dp : Int} {l : List UInt8} {i1 : Nat} {bd1 : Bool} {n0 : Nat} {ns : List ByteArray} {ks : List (T m)} {k i' : Nat} {bad' : Bool} (h : midT m dp 5 l i1 bd1 n0 ns ks (k + 1) i' bad') {x : ByteArray} {i2 : Nat} {bad2 : Bool} (hs : shortR l i' bad' x i2 bad2) {t : T m} {i3 : Nat} {bad3 : Bool} (ht : treeR m dp l i2 bad2 t i3 bad3) :
  midT m dp 5 l i1 bd1 n0 (ns ++ [x]) (ks ++ [t]) k i3 bad3 := fun ns0 ks0 r hb hl hk h5 hn hy hd => by
 obtain ⟨ns1, ks1, e1, e2, e3, e4, -, e6, e7⟩ := h ns0 ks0 r hb hl hk h5 hn hy hd
 have e4 := e4 rfl
 cases ks1 with
 | nil => simp at e3
 | cons t1 ks1 =>
  cases ns1 with
  | nil => simp at e4
  | cons x1 ns1 =>
   have e : (partsP (packT m) 5 (x1 :: ns1) (t1 :: ks1)).flatten ++ r = shortB x1 ++ (packT m t1 ++ ((partsP (packT m) 5 ns1 ks1).flatten ++ r)) := by
    unfold partsP; rw [if_pos rfl, if_pos rfl]; simp
   rw [e] at e7
   obtain ⟨s1, -, s3, s4⟩ := hs x1 _ e6 (hy x1 (by rw [e1]; simp)) e7
   have hk1 := hk t1 (by rw [e2]; simp)
   obtain ⟨t1', t2, t3⟩ := ht t1 _ s3 hk1.1 hk1.2 s4
   refine ⟨ns1, ks1, by rw [e1, s1]; simp, by rw [e2, t1']; simp, by simpa using e3, fun _ => by simpa using e4, fun h => absurd rfl h, t2, t3⟩
theorem midT_more {m : Nat} {dp so : Int} (hso : so ≠ 5) {l : List UInt8} {i1 : Nat} {bd1 : Bool} {n0 : Nat} {ns : List ByteArray} {ks : List (T m)} {k i' : Nat} {bad' : Bool} (h : midT m dp so l i1 bd1 n0 ns ks (k + 1) i' bad') {t : T m} {i3 : Nat} {bad3 : Bool} (ht : treeR m dp l i' bad' t i3 bad3) :
  midT m dp so l i1 bd1 n0 ns (ks ++ [t]) k i3 bad3 := fun ns0 ks0 r hb hl hk h5 hn hy hd => by
 obtain ⟨ns1, ks1, e1, e2, e3, -, e5, e6, e7⟩ := h ns0 ks0 r hb hl hk h5 hn hy hd
 have e5 := e5 hso
 subst e5
 cases ks1 with
 | nil => simp at e3
 | cons t1 ks1 =>
  have e : (partsP (packT m) so [] (t1 :: ks1)).flatten ++ r = packT m t1 ++ ((partsP (packT m) so [] ks1).flatten ++ r) := by
   unfold partsP; rw [if_neg hso, if_neg hso]; simp
  rw [e] at e7
  have hk1 := hk t1 (by rw [e2]; simp)
  obtain ⟨t1', t2, t3⟩ := ht t1 _ e6 hk1.1 hk1.2 e7
  exact ⟨[], ks1, e1, by rw [e2, t1']; simp, by simpa using e3, fun h => absurd h hso, fun _ => rfl, t2, t3⟩
theorem treeR_many {m : Nat} {d : Int} {l : List UInt8} {i : Nat} {bad : Bool} {v i1 : Nat} {bad1 : Bool} (ho : oneR l i bad v i1 bad1) (h1 : ¬ v = 1) (h2 : ¬ v = 2) (h3 : ¬ v = 3) {n0 i2 : Nat} {bad2 : Bool} (hn : oneR l i1 bad1 n0 i2 bad2) {ns : List ByteArray} {ks : List (T m)} {k i3 : Nat} {bad3 : Bool} (hm : midT m (d + 1) (v : Int) l i2 bad2 n0 ns ks k i3 bad3) (hend : k = 0 ∨ bad3 = true) :
  treeR (m + 1) d l i bad (⟨(v : Int), 0, ByteArray.empty, ns, ks⟩ : Nd (T m)) i3 bad3 := fun t0 r hb hg hc hd => by
 obtain ⟨e, h | h | h | h⟩ := tree_head ho hg hc hd
 ·exact absurd h.1 h1
 ·exact absurd h.1 h2
 ·exact absurd h.1 h3
 ·obtain ⟨-, -, -, ns0, ks0, rfl, hl, h5, hn5, hy, hk, hd1⟩ := h
  obtain ⟨n1, -, n3, n4⟩ := oneR_cons hn hd1
  rw [b8_toNat (by omega)] at n1
  obtain ⟨ns1, ks1, e1, e2, e3, e4, e5, e6, e7⟩ := hm ns0 ks0 r (by rw [n3, e]; exact hb) n1.symm hk h5 hn5 hy n4
  have hk0 : k = 0 := by
   rcases hend with h | h
   ·exact h
   ·rw [e6] at h; cases h
  have hks : ks1 = [] := List.eq_nil_of_length_eq_zero (by omega)
  have hns : ns1 = [] := by
   by_cases h : (v : Int) = 5
   ·exact List.eq_nil_of_length_eq_zero (by rw [e4 h, hks]; rfl)
   ·exact e5 h
  subst hks hns
  rw [List.append_nil] at e1 e2
  subst e1 e2
  refine ⟨rfl, e6, ?_⟩
  rw [e7]
  unfold partsP
  split <;> simp
end Go.Proofs.YtmjhcgjhlakceaaGreatDoor
