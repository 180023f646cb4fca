/-
  Several texts in one, in their order.
-/
import Derived.Test.YtfbfchffnapnnaaGreatDoorKMade
import Derived.Test.YtfbfchffnapnnaaGreatDoorB1
import Derived.Maps.Views
import Derived.Maps.OwnSet
import Derived.Test.YtfbfchffnapnnaaGreatDoorB7
import Derived.Deep.WholeRow
import Derived.Deep.Cut
import Derived.Deep.CutRange
import Derived.LoopTactic

/-
  Where a name stands: the map of places, asked; the program's field.
-/
namespace Go.Proofs.YtfbfchffnapnnaaGreatDoor
open Go.RowKit Go.WideMaps Go.Maps

theorem placesTo_map (l : List ByteArray) : ∀ k, IsMap (placesTo l k) := by
  intro k
  induction k with
  | zero => exact ⟨_, rfl⟩
  | succ k ih => exact ih.put _ _

theorem key_lit (s : ByteArray) : WideAt.IsKeyLit (.string s.data.toList) := trivial

theorem key_ne {a b : ByteArray} (h : a ≠ b) : (Lit.string a.data.toList) ≠ .string b.data.toList := by
  intro e
  apply h
  exact WideShapes.bytes_inj (by injection e)

theorem places_not (l : List ByteArray) (s : ByteArray) : ∀ k, (∀ i, i < k → l.getD i ByteArray.empty ≠ s) → has (placesTo l k) (.string s.data.toList) = false := by
  intro k
  induction k with
  | zero => intro _; rfl
  | succ k ih =>
    intro h
    rw [placesTo, has_put_other (key_ne (fun e => h k (by omega) e.symm))]
    exact ih (fun i hi => h i (by omega))

theorem places_at (l : List ByteArray) (i : Nat) : ∀ k, i < k → (∀ j, j < k → j ≠ i → l.getD j ByteArray.empty ≠ l.getD i ByteArray.empty) →
    has (placesTo l k) (.string (l.getD i ByteArray.empty).data.toList) = true ∧ ∀ z, (placesTo l k).atKey (.string (l.getD i ByteArray.empty).data.toList) z = .lit (.int .i64 i) := by
  intro k
  induction k with
  | zero => intro h; exact absurd h (Nat.not_lt_zero _)
  | succ k ih =>
    intro hi h
    by_cases hik : i = k
    · subst hik
      exact ⟨has_put_same (placesTo_map l i) (key_lit _) _, fun z => atKey_put_same (placesTo_map l i) (key_lit _) _ z⟩
    · have hne : (Lit.string (l.getD i ByteArray.empty).data.toList) ≠ .string (l.getD k ByteArray.empty).data.toList := key_ne (fun e => h k (by omega) (fun e => hik e.symm) e.symm)
      have := ih (by omega) (fun j hj hji => h j (by omega) hji)
      exact ⟨by rw [placesTo, has_put_other hne]; exact this.1, fun z => by rw [placesTo, atKey_put_other hne]; exact this.2 z⟩

theorem zero_int (w : World) : (zeroValue 3).run Tryz.prog w = .ok (.int .i64 0) w := by kernel_rfl

/-- The map, asked for a name that is there. -/
theorem lit_int {a b : Int} (h : (DataW.lit (Lit.int .i64 a) : DataW Unit) = .lit (.int .i64 b)) : a = b := by
  cases h; rfl

theorem look_yes {S : Nat → Prop} {w : World} {l : List ByteArray} {v : Value} (h : PlacesIn S w l v) (ha : Asc l) (i : Nat) (hi : i < l.length) (hs : l[i].size ≤ maxLen) :
    (Instr.lookup 104 v (.string l[i]) true).run Tryz.prog w = .ok (.tuple #[.int .i64 i, .bool true]) w := by
  obtain ⟨mb, rfl, -, hown⟩ := h
  have hg : ∀ j (h : j < l.length), l.getD j ByteArray.empty = l[j] := fun j h => by simp [List.getD, h]
  obtain ⟨p1, p2⟩ := places_at l i l.length hi (fun j hj hji e => hji (asc_inj ha j i hj hi (by rw [← hg j hj, ← hg i hi]; exact e)))
  rw [hg i hi] at p1 p2
  obtain ⟨c, ps, hrun, hv⟩ := hown.look_ok Tryz.skeyed Tryz.underlying104 (zero_int w) (plainElem_int Tryz.underlying3 (a := 0) (by decide)) (keyOf_string_mk Tryz.underlying9 hs)
  obtain ⟨c', rfl, hc, -⟩ := plainElem_int_inv Tryz.underlying3 hv
  rw [p1] at hrun
  have e := congrArg Prod.fst hc
  rw [p2] at e
  have e2 := lit_int e
  subst e2
  exact hrun

theorem look_no {S : Nat → Prop} {w : World} {l : List ByteArray} {v : Value} (h : PlacesIn S w l v) (s : ByteArray) (hn : s ∉ l) (hs : s.size ≤ maxLen) :
    ∃ c, (Instr.lookup 104 v (.string s) true).run Tryz.prog w = .ok (.tuple #[.int .i64 c, .bool false]) w := by
  obtain ⟨mb, rfl, -, hown⟩ := h
  have p1 := places_not l s l.length (fun i hi e => hn (by rw [← e]; simp [List.getD, hi]))
  obtain ⟨c, ps, hrun, hv⟩ := hown.look_ok Tryz.skeyed Tryz.underlying104 (zero_int w) (plainElem_int Tryz.underlying3 (a := 0) (by decide)) (keyOf_string_mk Tryz.underlying9 hs)
  obtain ⟨c', rfl, hc, -⟩ := plainElem_int_inv Tryz.underlying3 hv
  rw [p1] at hrun
  exact ⟨c', hrun⟩

set_option maxRecDepth 20000 in
set_option maxHeartbeats 1000000 in
theorem field_yes (S : Nat → Prop) (w : World) (l : List ByteArray) (pv : Value) (b g o len cap kb i : Nat) (h2 : w.cell? ⟨b, 2, none⟩ = some pv) (hp : PlacesIn S w l pv) (ha : Asc l) (hi : i < l.length) (hs : l[i].size ≤ maxLen)
    (h3 : w.cell? ⟨b, 3, none⟩ = some (.slice (some ⟨g, o, none⟩) len cap)) (hil : i < len) (hk : w.cell? ⟨g, o + i, none⟩ = some (.pointer (some ⟨kb, 0, none⟩))) :
    Calls Tryz.prog 91 #[.pointer (some ⟨b, 0, none⟩), .string l[i]] w fun e w' => e = .returned (.pointer (some ⟨kb, 0, none⟩)) ∧ w' = w := by
  have hrun := look_yes hp ha i hi hs
  obtain ⟨mb, rfl, -⟩ := hp
  clear ha
  generalize l[i] = s at *
  go_enter Tryz.func91, Tryz.ntmps91
  go_wp2_with fail
  go_ret
  exact ⟨rfl, rfl⟩

set_option maxRecDepth 20000 in
set_option maxHeartbeats 1000000 in
theorem field_no (S : Nat → Prop) (w : World) (l : List ByteArray) (pv : Value) (b : Nat) (s : ByteArray) (h2 : w.cell? ⟨b, 2, none⟩ = some pv) (hp : PlacesIn S w l pv) (hn : s ∉ l) (hs : s.size ≤ maxLen) :
    Calls Tryz.prog 91 #[.pointer (some ⟨b, 0, none⟩), .string s] w fun e w' => e = .returned (.pointer none) ∧ w' = w := by
  obtain ⟨c, hrun⟩ := look_no hp s hn hs
  obtain ⟨mb, rfl, -⟩ := hp
  go_enter Tryz.func91, Tryz.ntmps91
  go_wp2_with fail
  go_ret
  exact ⟨rfl, rfl⟩

end Go.Proofs.YtfbfchffnapnnaaGreatDoor

/-
  The program's table of widenings: how it is made.
-/
namespace Go.Proofs.YtfbfchffnapnnaaGreatDoor
open Go.RowKit

theorem widen_row (w : World) : (w.alloc (.cells #[.nilFunc, .nilFunc, .nilFunc, .nilFunc, .nilFunc, .nilFunc, .nilFunc, .nilFunc, .nilFunc, .nilFunc, .nilFunc, .nilFunc, .nilFunc, .nilFunc, .nilFunc, .nilFunc, .nilFunc, .nilFunc, .nilFunc, .nilFunc, .nilFunc, .nilFunc, .nilFunc, .nilFunc, .nilFunc, .nilFunc, .nilFunc, .nilFunc, .nilFunc, .nilFunc, .nilFunc, .nilFunc, .nilFunc, .nilFunc, .nilFunc, .nilFunc, .nilFunc, .nilFunc, .nilFunc, .nilFunc, .nilFunc, .nilFunc, .nilFunc, .nilFunc, .nilFunc, .nilFunc, .nilFunc, .nilFunc, .nilFunc] 87)).rowIs w.heap.size 87 49 (fun _ => .nilFunc) := by
  have hz : (#[Value.nilFunc, Value.nilFunc, Value.nilFunc, Value.nilFunc, Value.nilFunc, Value.nilFunc, Value.nilFunc, Value.nilFunc, Value.nilFunc, Value.nilFunc, Value.nilFunc, Value.nilFunc, Value.nilFunc, Value.nilFunc, Value.nilFunc, Value.nilFunc, Value.nilFunc, Value.nilFunc, Value.nilFunc, Value.nilFunc, Value.nilFunc, Value.nilFunc, Value.nilFunc, Value.nilFunc, Value.nilFunc, Value.nilFunc, Value.nilFunc, Value.nilFunc, Value.nilFunc, Value.nilFunc, Value.nilFunc, Value.nilFunc, Value.nilFunc, Value.nilFunc, Value.nilFunc, Value.nilFunc, Value.nilFunc, Value.nilFunc, Value.nilFunc, Value.nilFunc, Value.nilFunc, Value.nilFunc, Value.nilFunc, Value.nilFunc, Value.nilFunc, Value.nilFunc, Value.nilFunc, Value.nilFunc, Value.nilFunc] : Array Value) = (List.replicate 49 Value.nilFunc).toArray := rfl
  rw [hz]
  have := World.rowIs_alloc w (List.replicate 49 Value.nilFunc).toArray 87 (fun _ => .nilFunc) (fun i hi => by
    have hi' : i < 49 := by simpa using hi
    rw [← Array.getElem?_toList]
    show (List.replicate 49 Value.nilFunc)[i]? = _
    rw [List.getElem?_replicate, if_pos hi'])
  have e : (List.replicate 49 Value.nilFunc).toArray.size = 49 := rfl
  rw [e] at this
  exact this

/-- A method of the table at R. -/
def widF (R f : Nat) : Value := .func (.func f) #[.pointer (some ⟨R, 0, none⟩)] #[]

/-- What the table has of two sorts. -/
def widV (R i j : Nat) : Value :=
  if j = 6 then (if i = 6 then widF R 82 else widF R 81)
  else if i = j then (if i = 4 then widF R 79 else if i = 5 then widF R 80 else widF R 78)
  else .nilFunc

/-- The table at R. -/
def TabW (w : World) (R : Nat) : Prop := ∀ i j : Nat, 1 ≤ i → i ≤ 6 → 1 ≤ j → j ≤ 6 → w.cell? ⟨R, i * 7 + j, none⟩ = some (widV R i j)

theorem TabW.keep {w w' : World} {R : Nat} (h : TabW w R) (hb : w'.heap[R]? = w.heap[R]?) : TabW w' R := fun i j h1 h2 h3 h4 => (World.cell?_of_block (a := ⟨R, i * 7 + j, none⟩) hb).trans (h i j h1 h2 h3 h4)

/-- The table behind setLike and k - 1 rounds of the loop. -/
def widG (R k q : Nat) : Value :=
  if q % 7 = 6 ∧ 1 ≤ q / 7 ∧ q / 7 < k then widF R 81
  else if q = 40 then widF R 80 else if q = 32 then widF R 79 else if q = 24 then widF R 78 else if q = 16 then widF R 78 else if q = 8 then widF R 78 else .nilFunc

theorem widG_fin (R i j : Nat) (h1 : 1 ≤ i) (h2 : i ≤ 6) (h3 : 1 ≤ j) (h4 : j ≤ 6) : (if i * 7 + j = 48 then widF R 82 else widG R 6 (i * 7 + j)) = widV R i j := by
  have hi : i = 1 ∨ i = 2 ∨ i = 3 ∨ i = 4 ∨ i = 5 ∨ i = 6 := by omega
  have hj : j = 1 ∨ j = 2 ∨ j = 3 ∨ j = 4 ∨ j = 5 ∨ j = 6 := by omega
  rcases hi with rfl | rfl | rfl | rfl | rfl | rfl <;> rcases hj with rfl | rfl | rfl | rfl | rfl | rfl <;> rfl

set_option maxRecDepth 20000 in
set_option maxHeartbeats 1000000 in
theorem setLike_any (R : Nat) (F : Nat → Value) (n1 n2 n3 : Nat) (w : World) (hr : w.rowIs R 87 49 F) :
    Calls Tryz.prog 77 #[.pointer (some ⟨R, 0, none⟩), widF R n1, widF R n2, widF R n3] w fun e w' => e = .returned (.tuple #[]) ∧ w' = ((((w.setCell ⟨R, 8, none⟩ (widF R n1)).setCell ⟨R, 16, none⟩ (widF R n1)).setCell ⟨R, 24, none⟩ (widF R n1)).setCell ⟨R, 32, none⟩ (widF R n2)).setCell ⟨R, 40, none⟩ (widF R n3) := by
  have hst : ∀ (a : Addr) (md : Mode) (fn : Fn) (first cap : Array Value) (w : World), (store a (.func fn first cap) md).run Tryz.prog w = stored Tryz.prog w a (.func fn first cap) md := fun a md _ _ _ w => run_store _ w a _ md rfl
  have a1 := hr.cell (i := 8) (by omega)
  have a2 := hr.cell (i := 16) (by omega)
  have a3 := hr.cell (i := 24) (by omega)
  have a4 := hr.cell (i := 32) (by omega)
  have a5 := hr.cell (i := 40) (by omega)
  have b1 := hr.frozen 8
  have b2 := hr.frozen 16
  have b3 := hr.frozen 24
  have b4 := hr.frozen 32
  have b5 := hr.frozen 40
  clear hr
  unfold widF
  go_enter Tryz.func77, Tryz.ntmps77
  go_wp2_with fail
  go_end0
  exact ⟨rfl, rfl⟩

set_option maxRecDepth 20000 in
set_option maxHeartbeats 2000000 in
theorem newWidenings_any (w : World) :
    Calls Tryz.prog 37 #[] w fun e w' => e = .returned (.pointer (some ⟨w.heap.size, 0, none⟩)) ∧ Below w.heap.size w w' ∧ TabW w' w.heap.size ∧ w.heap.size < w'.heap.size := by
  have hmf : ∀ (fn : Fn) (first cap : Array Value) (w : World), (Instr.makeFunc fn first cap).run Tryz.prog w = .ok (.func fn first cap) w := fun _ _ _ _ => rfl
  have hst : ∀ (a : Addr) (md : Mode) (fn : Fn) (first cap : Array Value) (w : World), (store a (.func fn first cap) md).run Tryz.prog w = stored Tryz.prog w a (.func fn first cap) md := fun a md _ _ _ w => run_store _ w a _ md rfl
  have HR0 : Hid (World.rowIs _ w.heap.size 87 49 (fun _ => .nilFunc)) := widen_row w
  have HB0 : Hid (Below w.heap.size w (w.alloc (.cells #[.nilFunc, .nilFunc, .nilFunc, .nilFunc, .nilFunc, .nilFunc, .nilFunc, .nilFunc, .nilFunc, .nilFunc, .nilFunc, .nilFunc, .nilFunc, .nilFunc, .nilFunc, .nilFunc, .nilFunc, .nilFunc, .nilFunc, .nilFunc, .nilFunc, .nilFunc, .nilFunc, .nilFunc, .nilFunc, .nilFunc, .nilFunc, .nilFunc, .nilFunc, .nilFunc, .nilFunc, .nilFunc, .nilFunc, .nilFunc, .nilFunc, .nilFunc, .nilFunc, .nilFunc, .nilFunc, .nilFunc, .nilFunc, .nilFunc, .nilFunc, .nilFunc, .nilFunc, .nilFunc, .nilFunc, .nilFunc, .nilFunc] 87))) := (Below.refl _ _).alloc (Nat.le_refl _) _
  have HZ0 : Hid ((w.alloc (.cells #[.nilFunc, .nilFunc, .nilFunc, .nilFunc, .nilFunc, .nilFunc, .nilFunc, .nilFunc, .nilFunc, .nilFunc, .nilFunc, .nilFunc, .nilFunc, .nilFunc, .nilFunc, .nilFunc, .nilFunc, .nilFunc, .nilFunc, .nilFunc, .nilFunc, .nilFunc, .nilFunc, .nilFunc, .nilFunc, .nilFunc, .nilFunc, .nilFunc, .nilFunc, .nilFunc, .nilFunc, .nilFunc, .nilFunc, .nilFunc, .nilFunc, .nilFunc, .nilFunc, .nilFunc, .nilFunc, .nilFunc, .nilFunc, .nilFunc, .nilFunc, .nilFunc, .nilFunc, .nilFunc, .nilFunc, .nilFunc, .nilFunc] 87)).heap.size = w.heap.size + 1) := by show _ = _; simp
  obtain ⟨W, hW⟩ : ∃ W, W = w.alloc (.cells #[.nilFunc, .nilFunc, .nilFunc, .nilFunc, .nilFunc, .nilFunc, .nilFunc, .nilFunc, .nilFunc, .nilFunc, .nilFunc, .nilFunc, .nilFunc, .nilFunc, .nilFunc, .nilFunc, .nilFunc, .nilFunc, .nilFunc, .nilFunc, .nilFunc, .nilFunc, .nilFunc, .nilFunc, .nilFunc, .nilFunc, .nilFunc, .nilFunc, .nilFunc, .nilFunc, .nilFunc, .nilFunc, .nilFunc, .nilFunc, .nilFunc, .nilFunc, .nilFunc, .nilFunc, .nilFunc, .nilFunc, .nilFunc, .nilFunc, .nilFunc, .nilFunc, .nilFunc, .nilFunc, .nilFunc, .nilFunc, .nilFunc] 87) := ⟨_, rfl⟩
  rw [← hW] at HR0 HB0 HZ0
  have HC : Hid (Calls Tryz.prog 77 #[.pointer (some ⟨w.heap.size, 0, none⟩), widF w.heap.size 78, widF w.heap.size 79, widF w.heap.size 80] W _) := setLike_any w.heap.size _ _ _ _ W HR0.out
  unfold widF at HC
  go_enter Tryz.func37, Tryz.ntmps37
  go_wp2_with fail
  rw [← hW]
  clear hW
  refine HC.out.mono ?_
  rintro e w1 ⟨rfl, hw1⟩
  have HR1 : Hid (w1.rowIs w.heap.size 87 49 (widG w.heap.size 1)) := by
    rw [hw1]
    refine (((((HR0.out.set 8 _).set 16 _).set 24 _).set 32 _).set 40 _).congr (fun q _ => ?_)
    have e : ¬ (q % 7 = 6 ∧ 1 ≤ q / 7 ∧ q / 7 < 1) := by omega
    show _ = if q % 7 = 6 ∧ 1 ≤ q / 7 ∧ q / 7 < 1 then _ else _
    conv => rhs; rw [if_neg e]
    rfl
  have HB1 : Hid (Below w.heap.size w w1) := by
    rw [hw1]
    exact ((((HB0.out.setCell (Nat.le_refl _) _).setCell (Nat.le_refl _) _).setCell (Nat.le_refl _) _).setCell (Nat.le_refl _) _).setCell (Nat.le_refl _) _
  have HZ1 : Hid (w1.heap.size = w.heap.size + 1) := by show w1.heap.size = _; rw [hw1]; simpa using HZ0.out
  clear hw1 HC HR0 HB0 HZ0
  go_wp2_with fail
  go_loopw [2] (fun d wr => ∃ k : Nat, 1 ≤ k ∧ k ≤ 6 ∧ d = .int .i64 (k : Int) ∧ Below w.heap.size w wr ∧ wr.heap.size = w.heap.size + 1 ∧ wr.rowIs w.heap.size 87 49 (widG w.heap.size k)) (fun d _ => 6 - (intOf d).toNat)
  case atStart => exact ⟨1, by omega, by omega, rfl, HB1.out, HZ1.out, HR1.out⟩
  case round =>
    obtain ⟨k, hk0, hk1, rfl, hb, hz, hr⟩ := hrel
    have HR : Hid (wr.rowIs w.heap.size 87 49 (widG w.heap.size k)) := hr
    have HB : Hid (Below w.heap.size w wr) := hb
    have HZ : Hid (wr.heap.size = w.heap.size + 1) := hz
    clear HR1 HB1 HZ1 hz
    by_cases hlt : k ≤ 5
    · have hki : (k : Int) ≤ 5 := by omega
      have hk7 : (k : Int) < 7 := by omega
      have hc := hr.cell (i := k * 7 + 6) (by omega)
      have hf := hr.frozen (k * 7 + 6)
      clear hr hb
      go_wp2_with fail
      go_roundw
      case rel =>
        refine ⟨k + 1, by omega, by omega, by go_num, HB.out.setCell (Nat.le_refl _) _, by simpa using HZ.out, (HR.out.set (k * 7 + 6) _).congr (fun q hq => ?_)⟩
        show (if q = k * 7 + 6 then widF w.heap.size 81 else widG w.heap.size k q) = widG w.heap.size (k + 1) q
        unfold widG
        by_cases hj : q = k * 7 + 6
        · rw [if_pos hj, if_pos (by omega)]
        · rw [if_neg hj]
          by_cases hj2 : q % 7 = 6 ∧ 1 ≤ q / 7 ∧ q / 7 < k
          · rw [if_pos hj2, if_pos (by omega)]
          · have e : ¬ (q % 7 = 6 ∧ 1 ≤ q / 7 ∧ q / 7 < k + 1) := by omega
            rw [if_neg hj2, if_neg e]
      case measure => simp [intOf]; omega
    · have hk : k = 6 := by omega
      subst hk
      have hki : ¬ (6 : Int) ≤ 5 := by omega
      have hc := hr.cell (i := 48) (by omega)
      have hf := hr.frozen 48
      have HFin : Hid (TabW (wr.setCell ⟨w.heap.size, 48, none⟩ (widF w.heap.size 82)) w.heap.size) := fun i j h1 h2 h3 h4 => by
        rw [(HR.out.set 48 (widF w.heap.size 82)).cell (by omega)]
        exact congrArg some (widG_fin w.heap.size i j h1 h2 h3 h4)
      have HBF : Hid (Below w.heap.size w (wr.setCell ⟨w.heap.size, 48, none⟩ (widF w.heap.size 82))) := HB.out.setCell (Nat.le_refl _) _
      clear hr hb
      unfold widF at HFin HBF
      go_wp2_with fail
      go_ret
      exact ⟨rfl, HBF.out, HFin.out, by rw [show (wr.setCell _ _).heap.size = wr.heap.size by simp, HZ.out]; omega⟩

end Go.Proofs.YtfbfchffnapnnaaGreatDoor
