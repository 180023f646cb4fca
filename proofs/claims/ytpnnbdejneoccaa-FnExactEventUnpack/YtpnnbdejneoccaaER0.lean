/-
  The specification's reader of bytes: one byte, a short text.
-/
import Derived.Test.YtpnnbdejneoccaaEP1
import Derived.Test.YtpnnbdejneoccaaB5
import Derived.Test.YtpnnbdejneoccaaB1
import Derived.Laws.IdiomStrings
import Derived.Laws.BytesArg
import Derived.BigQuiet
import Derived.Lib.Hide
namespace Go.Proofs.Ytpnnbdejneoccaa
open Go.RowKit

/-- The reader's block, and the bytes that it reads. -/
structure R4 (w : World) (R : Nat) (ao : Option Addr) (l : List UInt8) (cap i : Nat) (bad : Bool) : Prop where
  box : w.heap[R]? = some (.cells #[.slice ao l.length cap, .int .i64 (i : Int), .bool bad] 63 (0, 0))
  len : l.length ≤ 9000
  le : i ≤ l.length
  lc : l.length ≤ cap ∧ cap ≤ maxLen
  bytes : ∀ j (hj : j < l.length), ∃ b off, ao = some ⟨b, off, none⟩ ∧ b ≠ R ∧ w.cell? ⟨b, off + j, none⟩ = some (.int .u8 (l[j].toNat : Int))

theorem R4.lt {w : World} {R : Nat} {ao : Option Addr} {l : List UInt8} {cap i : Nat} {bad : Bool} (h : R4 w R ao l cap i bad) : R < w.heap.size := (Array.getElem?_eq_some_iff.1 h.box).1

theorem R4.keep {w w' : World} {R : Nat} {ao : Option Addr} {l : List UInt8} {cap i j : Nat} {bad bad' : Bool} (h : R4 w R ao l cap i bad) (hn : Near R w w') (hb : w'.heap[R]? = some (.cells #[.slice ao l.length cap, .int .i64 (j : Int), .bool bad'] 63 (0, 0))) (hj : j ≤ l.length) : R4 w' R ao l cap j bad' :=
  ⟨hb, h.len, hj, h.lc, fun k hk => by
    obtain ⟨b, off, ha, hne, hc⟩ := h.bytes k hk
    exact ⟨b, off, ha, hne, hn.cell hc hne⟩⟩

theorem R4.same {w w' : World} {R : Nat} {ao : Option Addr} {l : List UInt8} {cap i : Nat} {bad : Bool} (h : R4 w R ao l cap i bad) (hb : Below w.heap.size w w') : R4 w' R ao l cap i bad := h.keep (Near.of_below hb) ((hb.block R h.lt).trans h.box) h.le
theorem R4.drewN {w : World} {R : Nat} {ao : Option Addr} {l : List UInt8} {cap i : Nat} {bad : Bool} (h : R4 w R ao l cap i bad) (n : Nat) : R4 (w.drewN n) R ao l cap i bad := ⟨h.box, h.len, h.le, h.lc, h.bytes⟩

theorem R4.cells {w : World} {R : Nat} {ao : Option Addr} {l : List UInt8} {cap i : Nat} {bad : Bool} (h : R4 w R ao l cap i bad) : (w.cell? ⟨R, 0, none⟩ = some (.slice ao l.length cap) ∧ w.cell? ⟨R, 1, none⟩ = some (.int .i64 (i : Int)) ∧ w.cell? ⟨R, 2, none⟩ = some (.bool bad)) ∧ w.frozen? ⟨R, 1, none⟩ = false ∧ w.frozen? ⟨R, 2, none⟩ = false := by
  have hb := h.box
  refine ⟨⟨?_, ?_, ?_⟩, ?_, ?_⟩ <;> simp [World.cell?, World.frozen?, hb]

theorem R4.setAt {w : World} {R : Nat} {ao : Option Addr} {l : List UInt8} {cap i : Nat} {bad : Bool} (h : R4 w R ao l cap i bad) (j : Nat) (hj : j ≤ l.length) : R4 (w.setCell ⟨R, 1, none⟩ (.int .i64 (j : Int))) R ao l cap j bad :=
  h.keep (Near.set R 1 w _) (by simp [World.setCell, Array.getElem?_modify, h.box]) hj
theorem R4.setBad {w : World} {R : Nat} {ao : Option Addr} {l : List UInt8} {cap i : Nat} {bad : Bool} (h : R4 w R ao l cap i bad) : R4 (w.setCell ⟨R, 2, none⟩ (.bool true)) R ao l cap i true :=
  h.keep (Near.set R 2 w _) (by simp [World.setCell, Array.getElem?_modify, h.box]) h.le

/-- What one byte is. -/
def oneR (l : List UInt8) (i : Nat) (bad : Bool) (v i' : Nat) (bad' : Bool) : Prop :=
  (l.length ≤ i ∧ v = 0 ∧ i' = i ∧ bad' = true) ∨ ∃ h : i < l.length, v = l[i].toNat ∧ i' = i + 1 ∧ bad' = bad

/-- What reading one byte makes. -/
def OnePost (w : World) (R : Nat) (ao : Option Addr) (l : List UInt8) (cap i : Nat) (bad : Bool) (e : Ending) (w' : World) : Prop :=
  ∃ (v i' : Nat) (bad' : Bool), e = .returned (.int .i64 (v : Int)) ∧ v ≤ 255 ∧ oneR l i bad v i' bad' ∧ R4 w' R ao l cap i' bad' ∧ Near R w w'

theorem near_drewN {R : Nat} {w w' : World} (h : Near R w w') (n : Nat) : Near R w (w'.drewN n) := ⟨h.os, h.tape, h.output, h.size, h.block⟩

set_option maxRecDepth 20000 in
set_option maxHeartbeats 2000000 in
theorem one_any (w : World) (R : Nat) (ao : Option Addr) (l : List UInt8) (cap i : Nat) (bad : Bool) (h : R4 w R ao l cap i bad) :
    Calls Try.prog 29 #[.pointer (some ⟨R, 0, none⟩)] w (OnePost w R ao l cap i bad) := by
  have hle := h.le
  have hlen := h.len
  obtain ⟨⟨c0, c1, c2⟩, g1, g2⟩ := h.cells
  have HR := Lib.hid h
  by_cases hi : i < l.length
  case neg =>
    obtain ⟨ln, hln⟩ : ∃ ln, l.length = ln := ⟨_, rfl⟩
    have HL := Lib.hid hln
    rw [hln] at hi hle hlen c0
    have hge : (i : Int) ≥ (ln : Int) := by omega
    have hge' : decide ((ln : Int) ≤ (i : Int)) = true := decide_eq_true (by omega)
    have hge'' : decide ((i : Int) ≥ (ln : Int)) = true := decide_eq_true (by omega)
    clear h hln
    go_enter Try.func29, Try.ntmps29
    go_wp2_with fail
    go_quiet (fail)
    go_wp2_with fail
    go_ret
    refine ⟨0, i, true, rfl, by omega, .inl ⟨by have := HL.out; omega, rfl, rfl, rfl⟩, ?_, ?_⟩
    · have h := (HR.out.drewN nq).setBad
      exact h
    · exact (near_drewN (Near.refl R w) nq).trans (Near.set R 2 _ _)
  case pos =>
    obtain ⟨b, off, rfl, hne, hc⟩ := h.bytes i hi
    have hlt := l[i].toNat_lt
    have HV : Hid (oneR l i bad l[i].toNat (i + 1) bad) := .inr ⟨hi, rfl, rfl, rfl⟩
    have HSt := Lib.hid (h.setAt (i + 1) (by omega))
    have hc' : (w.setCell ⟨R, 1, none⟩ (.int .i64 ((i : Int) + 1))).cell? ⟨b, off + i, none⟩ = some (.int .u8 (l[i].toNat : Int)) := (World.cell?_setCell_other _ _ _ _ (by simp)).trans hc
    have d0 : (w.setCell ⟨R, 1, none⟩ (.int .i64 ((i : Int) + 1))).cell? ⟨R, 0, none⟩ = some (.slice (some ⟨b, off, none⟩) l.length cap) := (World.cell?_setCell_other _ _ _ _ (by simp)).trans c0
    have d1 : (w.setCell ⟨R, 1, none⟩ (.int .i64 ((i : Int) + 1))).cell? ⟨R, 1, none⟩ = some (.int .i64 ((i : Int) + 1)) := World.cell?_setCell_same _ _ _ c1
    generalize l[i].toNat = v at *
    obtain ⟨ln, hln⟩ : ∃ ln, l.length = ln := ⟨_, rfl⟩
    rw [hln] at hi hle hlen c0 d0
    have hge : ¬ (i : Int) ≥ (ln : Int) := by omega
    have hge' : decide ((ln : Int) ≤ (i : Int)) = false := decide_eq_false (by omega)
    have hge'' : decide ((i : Int) ≥ (ln : Int)) = false := decide_eq_false (by omega)
    have hsub : (i : Int) + 1 - 1 = i := by omega
    have hilt : (i : Int) < (ln : Int) := by omega
    clear h hc hln
    go_enter Try.func29, Try.ntmps29
    go_wp2_with fail
    go_quiet (fail)
    go_wp2_with fail
    obtain ⟨V, hV⟩ : ∃ V, V = (w.drewN nq).setCell ⟨R, 1, none⟩ (.int .i64 ((i : Int) + 1)) := ⟨_, rfl⟩
    have e0 : V.cell? ⟨R, 0, none⟩ = some (.slice (some ⟨b, off, none⟩) ln cap) := by rw [hV]; exact d0
    have e1 : V.cell? ⟨R, 1, none⟩ = some (.int .i64 ((i : Int) + 1)) := by rw [hV]; exact d1
    have e2 : V.cell? ⟨b, off + i, none⟩ = some (.int .u8 (v : Int)) := by rw [hV]; exact hc'
    have HSV : Hid (R4 V R (some ⟨b, off, none⟩) l cap (i + 1) bad) := by rw [hV]; exact ⟨HSt.out.box, HSt.out.len, HSt.out.le, HSt.out.lc, HSt.out.bytes⟩
    have HNV : Hid (Near R w V) := by rw [hV]; exact (near_drewN (Near.refl R w) nq).trans (Near.set R 1 _ _)
    rw [← hV]
    clear hV d0 d1 hc' c0 c1 c2 g1 g2
    go_quiet (fail)
    go_wp2_with fail
    go_ret
    exact ⟨v, i + 1, bad, rfl, by omega, HV.out, HSV.out.drewN _, near_drewN HNV.out _⟩

/-- What a short text is. -/
def shortR (l : List UInt8) (i : Nat) (bad : Bool) (x : ByteArray) (i' : Nat) (bad' : Bool) : Prop :=
  ∀ (y : ByteArray) (r : List UInt8), bad = false → y.size ≤ 255 → l.drop i = shortB y ++ r → x = y ∧ i' = i + (shortB y).length ∧ bad' = false ∧ l.drop i' = r

def ShortPost (w : World) (R : Nat) (ao : Option Addr) (l : List UInt8) (cap i : Nat) (bad : Bool) (e : Ending) (w' : World) : Prop :=
  ∃ (x : ByteArray) (i' : Nat) (bad' : Bool), e = .returned (.string x) ∧ x.size ≤ 255 ∧ shortR l i bad x i' bad' ∧ R4 w' R ao l cap i' bad' ∧ Near R w w'

theorem oneR_cons {l : List UInt8} {i : Nat} {bad : Bool} {v i' : Nat} {bad' : Bool} (h : oneR l i bad v i' bad') {b : UInt8} {r : List UInt8} (hd : l.drop i = b :: r) : v = b.toNat ∧ i' = i + 1 ∧ bad' = bad ∧ l.drop i' = r := by
  have hi : i < l.length := by
    apply Classical.byContradiction
    intro hn
    rw [List.drop_eq_nil_of_le (by omega)] at hd
    cases hd
  rw [List.drop_eq_getElem_cons hi] at hd
  injection hd with h1 h2
  rcases h with ⟨hc, -⟩ | ⟨h', rfl, rfl, rfl⟩
  · omega
  · exact ⟨by rw [← h1], rfl, rfl, h2⟩

set_option maxRecDepth 20000 in
set_option maxHeartbeats 2000000 in
theorem short_any (w : World) (R : Nat) (ao : Option Addr) (l : List UInt8) (cap i : Nat) (bad : Bool) (h : R4 w R ao l cap i bad) :
    Calls Try.prog 28 #[.pointer (some ⟨R, 0, none⟩)] w (ShortPost w R ao l cap i bad) := by
  have HC := Lib.hid (one_any w R ao l cap i bad h)
  clear h
  go_enter Try.func28, Try.ntmps28
  go_wp2_with fail
  refine HC.out.mono ?_
  rintro e w1 ⟨v, i1, bad1, rfl, hv, hone, h1, hn1⟩
  clear HC
  have hle := h1.le
  have hlen := h1.len
  have hlc := h1.lc.1
  obtain ⟨⟨c0, c1, c2⟩, g1, g2⟩ := h1.cells
  have HR := Lib.hid h1
  have HN := Lib.hid hn1
  have HOne := Lib.hid hone
  by_cases hgt : v ≤ l.length - i1
  case neg =>
    have HS : Hid (shortR l i bad (⟨#[]⟩ : ByteArray) i1 true) := fun y r hb hy hd => by
      obtain ⟨e1, e2, e3, e4⟩ := oneR_cons HOne.out (b := b8 (y.size : Int)) (r := y.data.toList ++ r) (by rw [hd]; rfl)
      have hl4 : (l.drop i1).length = (y.data.toList ++ r).length := by rw [e4]
      rw [List.length_drop, List.length_append] at hl4
      rw [b8_toNat (by omega)] at e1
      have : y.data.toList.length = y.size := by simp
      omega
    obtain ⟨ln, hln⟩ : ∃ ln, l.length = ln := ⟨_, rfl⟩
    rw [hln] at hgt hle hlen c0 hlc
    have hg : (v : Int) > (ln : Int) - (i1 : Int) := by omega
    have hg' : decide ((ln : Int) - (i1 : Int) < (v : Int)) = true := decide_eq_true (by omega)
    have hg'' : decide ((v : Int) > (ln : Int) - (i1 : Int)) = true := decide_eq_true (by omega)
    clear h1 hn1 hone hln
    go_wp2_with fail
    go_quiet (fail)
    go_wp2_with fail
    go_ret
    refine ⟨_, i1, true, rfl, by show (0 : Nat) ≤ 255; omega, HS.out, ?_, ?_⟩
    · have h := (HR.out.drewN nq).setBad
      exact h
    · exact HN.out.trans ((near_drewN (Near.refl R w1) nq).trans (Near.set R 2 _ _))
  case pos =>
    obtain ⟨x, hx⟩ : ∃ x : ByteArray, x = ⟨((l.drop i1).take v).toArray⟩ := ⟨_, rfl⟩
    have hxs : x.size = v := by
      rw [hx]; show ((l.drop i1).take v).toArray.size = v
      rw [List.size_toArray, List.length_take, List.length_drop]; omega
    have HS : Hid (shortR l i bad x (i1 + v) bad1) := fun y r hb hy hd => by
      obtain ⟨e1, e2, e3, e4⟩ := oneR_cons HOne.out (b := b8 (y.size : Int)) (r := y.data.toList ++ r) (by rw [hd]; rfl)
      rw [b8_toNat (by omega)] at e1
      have hyl : y.data.toList.length = y.size := by simp
      have hxy : x = y := by
        rw [hx, e4, e1, List.take_append_of_le_length (by omega), List.take_of_length_le (by omega)]
      refine ⟨hxy, by rw [e2, e1]; simp [shortB]; omega, by rw [e3]; exact hb, ?_⟩
      rw [← List.drop_drop, e4, e1, List.drop_append_of_le_length (by omega), List.drop_eq_nil_of_le (by omega)]
      rfl
    have HSt := Lib.hid (h1.setAt (i1 + v) (by omega))
    have HBy : Hid (∀ j, j < v → ∃ b off, ao = some ⟨b, off, none⟩ ∧ b ≠ R ∧ w1.cell? ⟨b, off + (i1 + j), none⟩ = some (.int .u8 ((((l.drop i1).take v)[j]?.getD 0).toNat : Int))) := fun j hj => by
      obtain ⟨b, off, ha, hne, hc⟩ := h1.bytes (i1 + j) (by omega)
      refine ⟨b, off, ha, hne, ?_⟩
      rw [hc, List.getElem?_take_of_lt hj, List.getElem?_drop, List.getElem?_eq_getElem (by omega)]
      rfl
    obtain ⟨ln, hln⟩ : ∃ ln, l.length = ln := ⟨_, rfl⟩
    have HL := Lib.hid hln
    rw [hln] at hgt hle hlen c0 hlc
    have hg : ¬ (v : Int) > (ln : Int) - (i1 : Int) := by omega
    have hg' : decide ((ln : Int) - (i1 : Int) < (v : Int)) = false := decide_eq_false (by omega)
    have hg'' : decide ((v : Int) > (ln : Int) - (i1 : Int)) = false := decide_eq_false (by omega)
    clear h1 hn1 hone hln
    go_wp2_with fail
    go_quiet (fail)
    go_wp2_with fail
    obtain ⟨V, hV⟩ : ∃ V, V = (w1.drewN nq).setCell ⟨R, 1, none⟩ (.int .i64 ((i1 : Int) + (v : Int))) := ⟨_, rfl⟩
    have e0 : V.cell? ⟨R, 0, none⟩ = some (.slice ao ln cap) := by rw [hV]; exact (World.cell?_setCell_other _ _ _ _ (by simp)).trans c0
    have e1 : V.cell? ⟨R, 1, none⟩ = some (.int .i64 ((i1 : Int) + (v : Int))) := by rw [hV]; exact World.cell?_setCell_same _ _ _ c1
    have HSV : Hid (R4 V R ao l cap (i1 + v) bad1) := by
      rw [hV]
      have h := HSt.out
      rw [show ((i1 + v : Nat) : Int) = (i1 : Int) + (v : Int) by omega] at h
      exact ⟨h.box, h.len, h.le, h.lc, h.bytes⟩
    have HNV : Hid (Near R w V) := by rw [hV]; exact HN.out.trans ((near_drewN (Near.refl R w1) nq).trans (Near.set R 1 _ _))
    rw [← hV]
    have hsub : (i1 : Int) + (v : Int) - (v : Int) = i1 := by omega
    have hz0 : 0 ≤ (i1 : Int) := by omega
    have hz1 : (i1 : Int) ≤ (i1 : Int) + (v : Int) := by omega
    have hz2 : (i1 : Int) + (v : Int) ≤ (cap : Int) := by omega
    have hwi : IntKind.i64.wrap (i1 : Int) = i1 := by rw [IntKind.wrap_i64]; omega
    have hcv : ∀ n, (convert 29 9 (.slice (if cap = i1 then ao else Option.map (fun x => x.add i1) ao) (((i1 : Int) + (v : Int)).toNat - i1) (cap - i1))).run Try.prog (V.drewN n) = .ok (.string x) (V.drewN n) := fun n => by
      have hvv : ((i1 : Int) + (v : Int)).toNat - i1 = v := by omega
      rw [hvv]
      by_cases hv0 : v = 0
      · have hx0 : x = bs [] := by rw [hx, hv0]; rfl
        rw [hv0, hx0]
        cases hb : (if cap = i1 then ao else Option.map (fun x => x.add i1) ao) with
        | none => exact run_convert_bytes_nil (P := Try.prog) (V.drewN n) 29 5 Try.underlying29 Try.underlying5 0 _ 9 Try.underlying9
        | some ad => exact run_convert_bytes_back (P := Try.prog) (V.drewN n) 29 9 5 ad _ [] Try.underlying29 Try.underlying5 Try.underlying9 (fun j hj => absurd hj (Nat.not_lt_zero _))
      · obtain ⟨b, off, hao, hne, -⟩ := HBy.out 0 (by omega)
        rw [if_neg (by omega), hao]
        have hlv : ((l.drop i1).take v).length = v := by rw [List.length_take, List.length_drop]; have := HL.out; omega
        have h := run_convert_bytes_back (P := Try.prog) (V.drewN n) 29 9 5 ⟨b, off + i1, none⟩ (cap - i1) ((l.drop i1).take v) Try.underlying29 Try.underlying5 Try.underlying9 (fun j hj => by
          obtain ⟨b', off', hao', -, hc⟩ := HBy.out j (by omega)
          rw [hao] at hao'
          cases hao'
          rw [Addr.add_lit, World.cell?_drewN, hV]
          rw [List.getElem?_eq_getElem hj] at hc
          refine (World.cell?_setCell_other _ _ _ _ (by simp)).trans ?_
          rw [Nat.add_assoc]
          exact hc)
        rw [hlv] at h
        rw [hx, Option.map_some, Addr.add_lit]
        exact h
    obtain ⟨ba, hba⟩ : ∃ ba, (if cap = i1 then ao else Option.map (fun x => x.add i1) ao) = ba := ⟨_, rfl⟩
    rw [hba] at hcv
    clear hV hx
    go_quiet (fail)
    go_wp2_with fail
    go_ret
    exact ⟨x, i1 + v, bad1, rfl, by omega, HS.out, HSV.out.drewN _, near_drewN HNV.out _⟩

end Go.Proofs.Ytpnnbdejneoccaa
