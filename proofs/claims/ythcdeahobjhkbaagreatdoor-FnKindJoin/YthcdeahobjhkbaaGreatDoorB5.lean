/-
  Several texts in one, in their order.
-/
import Derived.Test.YthcdeahobjhkbaaGreatDoorKMade
import Derived.Test.YthcdeahobjhkbaaGreatDoorKFind
import Derived.Test.YthcdeahobjhkbaaGreatDoorB4
import Derived.Deep.WholeRow
import Derived.Deep.Cut
import Derived.Deep.CutRange
import Derived.LoopTactic

/-
  The program's table of widenings: how it is made.
-/
namespace Go.Proofs.YthcdeahobjhkbaaGreatDoor
open Go.RowKit

theorem widen_row (w : World) : (w.alloc (.cells #[.nilFunc, .nilFunc, .nilFunc, .nilFunc, .nilFunc, .nilFunc, .nilFunc, .nilFunc, .nilFunc, .nilFunc, .nilFunc, .nilFunc, .nilFunc, .nilFunc, .nilFunc, .nilFunc, .nilFunc, .nilFunc, .nilFunc, .nilFunc, .nilFunc, .nilFunc, .nilFunc, .nilFunc, .nilFunc, .nilFunc, .nilFunc, .nilFunc, .nilFunc, .nilFunc, .nilFunc, .nilFunc, .nilFunc, .nilFunc, .nilFunc, .nilFunc, .nilFunc, .nilFunc, .nilFunc, .nilFunc, .nilFunc, .nilFunc, .nilFunc, .nilFunc, .nilFunc, .nilFunc, .nilFunc, .nilFunc, .nilFunc] 68)).rowIs w.heap.size 68 49 (fun _ => .nilFunc) := by
  have hz : (#[Value.nilFunc, Value.nilFunc, Value.nilFunc, Value.nilFunc, Value.nilFunc, Value.nilFunc, Value.nilFunc, Value.nilFunc, Value.nilFunc, Value.nilFunc, Value.nilFunc, Value.nilFunc, Value.nilFunc, Value.nilFunc, Value.nilFunc, Value.nilFunc, Value.nilFunc, Value.nilFunc, Value.nilFunc, Value.nilFunc, Value.nilFunc, Value.nilFunc, Value.nilFunc, Value.nilFunc, Value.nilFunc, Value.nilFunc, Value.nilFunc, Value.nilFunc, Value.nilFunc, Value.nilFunc, Value.nilFunc, Value.nilFunc, Value.nilFunc, Value.nilFunc, Value.nilFunc, Value.nilFunc, Value.nilFunc, Value.nilFunc, Value.nilFunc, Value.nilFunc, Value.nilFunc, Value.nilFunc, Value.nilFunc, Value.nilFunc, Value.nilFunc, Value.nilFunc, Value.nilFunc, Value.nilFunc, Value.nilFunc] : Array Value) = (List.replicate 49 Value.nilFunc).toArray := rfl
  rw [hz]
  have := World.rowIs_alloc w (List.replicate 49 Value.nilFunc).toArray 68 (fun _ => .nilFunc) (fun i hi => by
    have hi' : i < 49 := by simpa using hi
    rw [← Array.getElem?_toList]
    show (List.replicate 49 Value.nilFunc)[i]? = _
    rw [List.getElem?_replicate, if_pos hi'])
  have e : (List.replicate 49 Value.nilFunc).toArray.size = 49 := rfl
  rw [e] at this
  exact this

/-- A method of the table at R. -/
def widF (R f : Nat) : Value := .func (.func f) #[.pointer (some ⟨R, 0, none⟩)] #[]

/-- What the table has of two sorts. -/
def widV (R i j : Nat) : Value :=
  if j = 6 then (if i = 6 then widF R 47 else widF R 46)
  else if i = j then (if i = 4 then widF R 44 else if i = 5 then widF R 45 else widF R 43)
  else .nilFunc

/-- The table at R. -/
def TabW (w : World) (R : Nat) : Prop := ∀ i j : Nat, 1 ≤ i → i ≤ 6 → 1 ≤ j → j ≤ 6 → w.cell? ⟨R, i * 7 + j, none⟩ = some (widV R i j)

theorem TabW.keep {w w' : World} {R : Nat} (h : TabW w R) (hb : w'.heap[R]? = w.heap[R]?) : TabW w' R := fun i j h1 h2 h3 h4 => (World.cell?_of_block (a := ⟨R, i * 7 + j, none⟩) hb).trans (h i j h1 h2 h3 h4)

/-- The table behind setLike and k - 1 rounds of the loop. -/
def widG (R k q : Nat) : Value :=
  if q % 7 = 6 ∧ 1 ≤ q / 7 ∧ q / 7 < k then widF R 46
  else if q = 40 then widF R 45 else if q = 32 then widF R 44 else if q = 24 then widF R 43 else if q = 16 then widF R 43 else if q = 8 then widF R 43 else .nilFunc

theorem widG_fin (R i j : Nat) (h1 : 1 ≤ i) (h2 : i ≤ 6) (h3 : 1 ≤ j) (h4 : j ≤ 6) : (if i * 7 + j = 48 then widF R 47 else widG R 6 (i * 7 + j)) = widV R i j := by
  have hi : i = 1 ∨ i = 2 ∨ i = 3 ∨ i = 4 ∨ i = 5 ∨ i = 6 := by omega
  have hj : j = 1 ∨ j = 2 ∨ j = 3 ∨ j = 4 ∨ j = 5 ∨ j = 6 := by omega
  rcases hi with rfl | rfl | rfl | rfl | rfl | rfl <;> rcases hj with rfl | rfl | rfl | rfl | rfl | rfl <;> rfl

set_option maxRecDepth 20000 in
set_option maxHeartbeats 1000000 in
theorem setLike_any (R : Nat) (F : Nat → Value) (n1 n2 n3 : Nat) (w : World) (hr : w.rowIs R 68 49 F) :
    Calls Tryz.prog 42 #[.pointer (some ⟨R, 0, none⟩), widF R n1, widF R n2, widF R n3] w fun e w' => e = .returned (.tuple #[]) ∧ w' = ((((w.setCell ⟨R, 8, none⟩ (widF R n1)).setCell ⟨R, 16, none⟩ (widF R n1)).setCell ⟨R, 24, none⟩ (widF R n1)).setCell ⟨R, 32, none⟩ (widF R n2)).setCell ⟨R, 40, none⟩ (widF R n3) := by
  have hst : ∀ (a : Addr) (md : Mode) (fn : Fn) (first cap : Array Value) (w : World), (store a (.func fn first cap) md).run Tryz.prog w = stored Tryz.prog w a (.func fn first cap) md := fun a md _ _ _ w => run_store _ w a _ md rfl
  have a1 := hr.cell (i := 8) (by omega)
  have a2 := hr.cell (i := 16) (by omega)
  have a3 := hr.cell (i := 24) (by omega)
  have a4 := hr.cell (i := 32) (by omega)
  have a5 := hr.cell (i := 40) (by omega)
  have b1 := hr.frozen 8
  have b2 := hr.frozen 16
  have b3 := hr.frozen 24
  have b4 := hr.frozen 32
  have b5 := hr.frozen 40
  clear hr
  unfold widF
  go_enter Tryz.func42, Tryz.ntmps42
  go_wp2_with fail
  go_end0
  exact ⟨rfl, rfl⟩

set_option maxRecDepth 20000 in
set_option maxHeartbeats 2000000 in
theorem newWidenings_any (w : World) :
    Calls Tryz.prog 23 #[] w fun e w' => e = .returned (.pointer (some ⟨w.heap.size, 0, none⟩)) ∧ Below w.heap.size w w' ∧ TabW w' w.heap.size ∧ w.heap.size < w'.heap.size := by
  have hmf : ∀ (fn : Fn) (first cap : Array Value) (w : World), (Instr.makeFunc fn first cap).run Tryz.prog w = .ok (.func fn first cap) w := fun _ _ _ _ => rfl
  have hst : ∀ (a : Addr) (md : Mode) (fn : Fn) (first cap : Array Value) (w : World), (store a (.func fn first cap) md).run Tryz.prog w = stored Tryz.prog w a (.func fn first cap) md := fun a md _ _ _ w => run_store _ w a _ md rfl
  have HR0 : Hid (World.rowIs _ w.heap.size 68 49 (fun _ => .nilFunc)) := widen_row w
  have HB0 : Hid (Below w.heap.size w (w.alloc (.cells #[.nilFunc, .nilFunc, .nilFunc, .nilFunc, .nilFunc, .nilFunc, .nilFunc, .nilFunc, .nilFunc, .nilFunc, .nilFunc, .nilFunc, .nilFunc, .nilFunc, .nilFunc, .nilFunc, .nilFunc, .nilFunc, .nilFunc, .nilFunc, .nilFunc, .nilFunc, .nilFunc, .nilFunc, .nilFunc, .nilFunc, .nilFunc, .nilFunc, .nilFunc, .nilFunc, .nilFunc, .nilFunc, .nilFunc, .nilFunc, .nilFunc, .nilFunc, .nilFunc, .nilFunc, .nilFunc, .nilFunc, .nilFunc, .nilFunc, .nilFunc, .nilFunc, .nilFunc, .nilFunc, .nilFunc, .nilFunc, .nilFunc] 68))) := (Below.refl _ _).alloc (Nat.le_refl _) _
  have HZ0 : Hid ((w.alloc (.cells #[.nilFunc, .nilFunc, .nilFunc, .nilFunc, .nilFunc, .nilFunc, .nilFunc, .nilFunc, .nilFunc, .nilFunc, .nilFunc, .nilFunc, .nilFunc, .nilFunc, .nilFunc, .nilFunc, .nilFunc, .nilFunc, .nilFunc, .nilFunc, .nilFunc, .nilFunc, .nilFunc, .nilFunc, .nilFunc, .nilFunc, .nilFunc, .nilFunc, .nilFunc, .nilFunc, .nilFunc, .nilFunc, .nilFunc, .nilFunc, .nilFunc, .nilFunc, .nilFunc, .nilFunc, .nilFunc, .nilFunc, .nilFunc, .nilFunc, .nilFunc, .nilFunc, .nilFunc, .nilFunc, .nilFunc, .nilFunc, .nilFunc] 68)).heap.size = w.heap.size + 1) := by show _ = _; simp
  obtain ⟨W, hW⟩ : ∃ W, W = w.alloc (.cells #[.nilFunc, .nilFunc, .nilFunc, .nilFunc, .nilFunc, .nilFunc, .nilFunc, .nilFunc, .nilFunc, .nilFunc, .nilFunc, .nilFunc, .nilFunc, .nilFunc, .nilFunc, .nilFunc, .nilFunc, .nilFunc, .nilFunc, .nilFunc, .nilFunc, .nilFunc, .nilFunc, .nilFunc, .nilFunc, .nilFunc, .nilFunc, .nilFunc, .nilFunc, .nilFunc, .nilFunc, .nilFunc, .nilFunc, .nilFunc, .nilFunc, .nilFunc, .nilFunc, .nilFunc, .nilFunc, .nilFunc, .nilFunc, .nilFunc, .nilFunc, .nilFunc, .nilFunc, .nilFunc, .nilFunc, .nilFunc, .nilFunc] 68) := ⟨_, rfl⟩
  rw [← hW] at HR0 HB0 HZ0
  have HC : Hid (Calls Tryz.prog 42 #[.pointer (some ⟨w.heap.size, 0, none⟩), widF w.heap.size 43, widF w.heap.size 44, widF w.heap.size 45] W _) := setLike_any w.heap.size _ _ _ _ W HR0.out
  unfold widF at HC
  go_enter Tryz.func23, Tryz.ntmps23
  go_wp2_with fail
  rw [← hW]
  clear hW
  refine HC.out.mono ?_
  rintro e w1 ⟨rfl, hw1⟩
  have HR1 : Hid (w1.rowIs w.heap.size 68 49 (widG w.heap.size 1)) := by
    rw [hw1]
    refine (((((HR0.out.set 8 _).set 16 _).set 24 _).set 32 _).set 40 _).congr (fun q _ => ?_)
    have e : ¬ (q % 7 = 6 ∧ 1 ≤ q / 7 ∧ q / 7 < 1) := by omega
    show _ = if q % 7 = 6 ∧ 1 ≤ q / 7 ∧ q / 7 < 1 then _ else _
    conv => rhs; rw [if_neg e]
    rfl
  have HB1 : Hid (Below w.heap.size w w1) := by
    rw [hw1]
    exact ((((HB0.out.setCell (Nat.le_refl _) _).setCell (Nat.le_refl _) _).setCell (Nat.le_refl _) _).setCell (Nat.le_refl _) _).setCell (Nat.le_refl _) _
  have HZ1 : Hid (w1.heap.size = w.heap.size + 1) := by show w1.heap.size = _; rw [hw1]; simpa using HZ0.out
  clear hw1 HC HR0 HB0 HZ0
  go_wp2_with fail
  go_loopw [2] (fun d wr => ∃ k : Nat, 1 ≤ k ∧ k ≤ 6 ∧ d = .int .i64 (k : Int) ∧ Below w.heap.size w wr ∧ wr.heap.size = w.heap.size + 1 ∧ wr.rowIs w.heap.size 68 49 (widG w.heap.size k)) (fun d _ => 6 - (intOf d).toNat)
  case atStart => exact ⟨1, by omega, by omega, rfl, HB1.out, HZ1.out, HR1.out⟩
  case round =>
    obtain ⟨k, hk0, hk1, rfl, hb, hz, hr⟩ := hrel
    have HR := hidF hr
    have HB : Hid (Below w.heap.size w wr) := hb
    have HZ := hidF hz
    clear HR1 HB1 HZ1 hz
    by_cases hlt : k ≤ 5
    · have hki : (k : Int) ≤ 5 := by omega
      have hk7 : (k : Int) < 7 := by omega
      have hc := hr.cell (i := k * 7 + 6) (by omega)
      have hf := hr.frozen (k * 7 + 6)
      clear hr hb
      go_wp2_with fail
      go_roundw
      case rel =>
        refine ⟨k + 1, by omega, by omega, by go_num, HB.out.setCell (Nat.le_refl _) _, by simpa using HZ.out, (HR.out.set (k * 7 + 6) _).congr (fun q hq => ?_)⟩
        show (if q = k * 7 + 6 then widF w.heap.size 46 else widG w.heap.size k q) = widG w.heap.size (k + 1) q
        unfold widG
        by_cases hj : q = k * 7 + 6
        · rw [if_pos hj, if_pos (by omega)]
        · rw [if_neg hj]
          by_cases hj2 : q % 7 = 6 ∧ 1 ≤ q / 7 ∧ q / 7 < k
          · rw [if_pos hj2, if_pos (by omega)]
          · have e : ¬ (q % 7 = 6 ∧ 1 ≤ q / 7 ∧ q / 7 < k + 1) := by omega
            rw [if_neg hj2, if_neg e]
      case measure => simp [intOf]; omega
    · have hk : k = 6 := by omega
      subst hk
      have hki : ¬ (6 : Int) ≤ 5 := by omega
      have hc := hr.cell (i := 48) (by omega)
      have hf := hr.frozen 48
      have HFin : Hid (TabW (wr.setCell ⟨w.heap.size, 48, none⟩ (widF w.heap.size 47)) w.heap.size) := fun i j h1 h2 h3 h4 => by
        rw [(HR.out.set 48 (widF w.heap.size 47)).cell (by omega)]
        exact congrArg some (widG_fin w.heap.size i j h1 h2 h3 h4)
      have HBF : Hid (Below w.heap.size w (wr.setCell ⟨w.heap.size, 48, none⟩ (widF w.heap.size 47))) := HB.out.setCell (Nat.le_refl _) _
      clear hr hb
      unfold widF at HFin HBF
      go_wp2_with fail
      go_ret
      exact ⟨rfl, HBF.out, HFin.out, by rw [show (wr.setCell _ _).heap.size = wr.heap.size by simp, HZ.out]; omega⟩

end Go.Proofs.YthcdeahobjhkbaaGreatDoor

/-
  The program's table of joinings: how it is made.
-/
namespace Go.Proofs.YthcdeahobjhkbaaGreatDoor
open Go.RowKit

theorem join_row (w : World) : (w.alloc (.cells #[.nilFunc, .nilFunc, .nilFunc, .nilFunc, .nilFunc, .nilFunc, .nilFunc, .nilFunc, .nilFunc, .nilFunc, .nilFunc, .nilFunc, .nilFunc, .nilFunc, .nilFunc, .nilFunc, .nilFunc, .nilFunc, .nilFunc, .nilFunc, .nilFunc, .nilFunc, .nilFunc, .nilFunc, .nilFunc, .nilFunc, .nilFunc, .nilFunc, .nilFunc, .nilFunc, .nilFunc, .nilFunc, .nilFunc, .nilFunc, .nilFunc, .nilFunc, .nilFunc, .nilFunc, .nilFunc, .nilFunc, .nilFunc, .nilFunc, .nilFunc, .nilFunc, .nilFunc, .nilFunc, .nilFunc, .nilFunc, .nilFunc] 56)).rowIs w.heap.size 56 49 (fun _ => .nilFunc) := by
  have hz : (#[Value.nilFunc, Value.nilFunc, Value.nilFunc, Value.nilFunc, Value.nilFunc, Value.nilFunc, Value.nilFunc, Value.nilFunc, Value.nilFunc, Value.nilFunc, Value.nilFunc, Value.nilFunc, Value.nilFunc, Value.nilFunc, Value.nilFunc, Value.nilFunc, Value.nilFunc, Value.nilFunc, Value.nilFunc, Value.nilFunc, Value.nilFunc, Value.nilFunc, Value.nilFunc, Value.nilFunc, Value.nilFunc, Value.nilFunc, Value.nilFunc, Value.nilFunc, Value.nilFunc, Value.nilFunc, Value.nilFunc, Value.nilFunc, Value.nilFunc, Value.nilFunc, Value.nilFunc, Value.nilFunc, Value.nilFunc, Value.nilFunc, Value.nilFunc, Value.nilFunc, Value.nilFunc, Value.nilFunc, Value.nilFunc, Value.nilFunc, Value.nilFunc, Value.nilFunc, Value.nilFunc, Value.nilFunc, Value.nilFunc] : Array Value) = (List.replicate 49 Value.nilFunc).toArray := rfl
  rw [hz]
  have := World.rowIs_alloc w (List.replicate 49 Value.nilFunc).toArray 56 (fun _ => .nilFunc) (fun i hi => by
    have hi' : i < 49 := by simpa using hi
    rw [← Array.getElem?_toList]
    show (List.replicate 49 Value.nilFunc)[i]? = _
    rw [List.getElem?_replicate, if_pos hi'])
  have e : (List.replicate 49 Value.nilFunc).toArray.size = 49 := rfl
  rw [e] at this
  exact this

/-- What the table has of two sorts. -/
def jnV (R i j : Nat) : Value :=
  if i = 6 ∨ j = 6 then widF R 38
  else if i = j then (if i = 4 then widF R 36 else if i = 5 then widF R 37 else widF R 35)
  else .nilFunc

/-- The table at R. -/
def TabJ (w : World) (R : Nat) : Prop := ∀ i j : Nat, 1 ≤ i → i ≤ 6 → 1 ≤ j → j ≤ 6 → w.cell? ⟨R, i * 7 + j, none⟩ = some (jnV R i j)

theorem TabJ.keep {w w' : World} {R : Nat} (h : TabJ w R) (hb : w'.heap[R]? = w.heap[R]?) : TabJ w' R := fun i j h1 h2 h3 h4 => (World.cell?_of_block (a := ⟨R, i * 7 + j, none⟩) hb).trans (h i j h1 h2 h3 h4)

/-- The table behind setLike and k - 1 rounds of the loop. -/
def jnG (R k q : Nat) : Value :=
  if (q % 7 = 6 ∧ 1 ≤ q / 7 ∧ q / 7 < k) ∨ (q / 7 = 6 ∧ 1 ≤ q % 7 ∧ q % 7 < k) then widF R 38
  else if q = 40 then widF R 37 else if q = 32 then widF R 36 else if q = 24 then widF R 35 else if q = 16 then widF R 35 else if q = 8 then widF R 35 else .nilFunc

theorem jnG_fin (R i j : Nat) (h1 : 1 ≤ i) (h2 : i ≤ 6) (h3 : 1 ≤ j) (h4 : j ≤ 6) : jnG R 7 (i * 7 + j) = jnV R i j := by
  have hi : i = 1 ∨ i = 2 ∨ i = 3 ∨ i = 4 ∨ i = 5 ∨ i = 6 := by omega
  have hj : j = 1 ∨ j = 2 ∨ j = 3 ∨ j = 4 ∨ j = 5 ∨ j = 6 := by omega
  rcases hi with rfl | rfl | rfl | rfl | rfl | rfl <;> rcases hj with rfl | rfl | rfl | rfl | rfl | rfl <;> rfl

set_option maxRecDepth 20000 in
set_option maxHeartbeats 1000000 in
theorem setLikeJ_any (R : Nat) (F : Nat → Value) (n1 n2 n3 : Nat) (w : World) (hr : w.rowIs R 56 49 F) :
    Calls Tryz.prog 34 #[.pointer (some ⟨R, 0, none⟩), widF R n1, widF R n2, widF R n3] w fun e w' => e = .returned (.tuple #[]) ∧ w' = ((((w.setCell ⟨R, 8, none⟩ (widF R n1)).setCell ⟨R, 16, none⟩ (widF R n1)).setCell ⟨R, 24, none⟩ (widF R n1)).setCell ⟨R, 32, none⟩ (widF R n2)).setCell ⟨R, 40, none⟩ (widF R n3) := by
  have hst : ∀ (a : Addr) (md : Mode) (fn : Fn) (first cap : Array Value) (w : World), (store a (.func fn first cap) md).run Tryz.prog w = stored Tryz.prog w a (.func fn first cap) md := fun a md _ _ _ w => run_store _ w a _ md rfl
  have a1 := hr.cell (i := 8) (by omega)
  have a2 := hr.cell (i := 16) (by omega)
  have a3 := hr.cell (i := 24) (by omega)
  have a4 := hr.cell (i := 32) (by omega)
  have a5 := hr.cell (i := 40) (by omega)
  have b1 := hr.frozen 8
  have b2 := hr.frozen 16
  have b3 := hr.frozen 24
  have b4 := hr.frozen 32
  have b5 := hr.frozen 40
  clear hr
  unfold widF
  go_enter Tryz.func34, Tryz.ntmps34
  go_wp2_with fail
  go_end0
  exact ⟨rfl, rfl⟩

set_option maxRecDepth 20000 in
set_option maxHeartbeats 2000000 in
theorem newJoins_any (w : World) :
    Calls Tryz.prog 19 #[] w fun e w' => e = .returned (.pointer (some ⟨w.heap.size, 0, none⟩)) ∧ Below w.heap.size w w' ∧ TabJ w' w.heap.size ∧ w.heap.size < w'.heap.size := by
  have hmf : ∀ (fn : Fn) (first cap : Array Value) (w : World), (Instr.makeFunc fn first cap).run Tryz.prog w = .ok (.func fn first cap) w := fun _ _ _ _ => rfl
  have hst : ∀ (a : Addr) (md : Mode) (fn : Fn) (first cap : Array Value) (w : World), (store a (.func fn first cap) md).run Tryz.prog w = stored Tryz.prog w a (.func fn first cap) md := fun a md _ _ _ w => run_store _ w a _ md rfl
  have HR0 : Hid (World.rowIs _ w.heap.size 56 49 (fun _ => .nilFunc)) := join_row w
  have HB0 : Hid (Below w.heap.size w (w.alloc (.cells #[.nilFunc, .nilFunc, .nilFunc, .nilFunc, .nilFunc, .nilFunc, .nilFunc, .nilFunc, .nilFunc, .nilFunc, .nilFunc, .nilFunc, .nilFunc, .nilFunc, .nilFunc, .nilFunc, .nilFunc, .nilFunc, .nilFunc, .nilFunc, .nilFunc, .nilFunc, .nilFunc, .nilFunc, .nilFunc, .nilFunc, .nilFunc, .nilFunc, .nilFunc, .nilFunc, .nilFunc, .nilFunc, .nilFunc, .nilFunc, .nilFunc, .nilFunc, .nilFunc, .nilFunc, .nilFunc, .nilFunc, .nilFunc, .nilFunc, .nilFunc, .nilFunc, .nilFunc, .nilFunc, .nilFunc, .nilFunc, .nilFunc] 56))) := (Below.refl _ _).alloc (Nat.le_refl _) _
  have HZ0 : Hid ((w.alloc (.cells #[.nilFunc, .nilFunc, .nilFunc, .nilFunc, .nilFunc, .nilFunc, .nilFunc, .nilFunc, .nilFunc, .nilFunc, .nilFunc, .nilFunc, .nilFunc, .nilFunc, .nilFunc, .nilFunc, .nilFunc, .nilFunc, .nilFunc, .nilFunc, .nilFunc, .nilFunc, .nilFunc, .nilFunc, .nilFunc, .nilFunc, .nilFunc, .nilFunc, .nilFunc, .nilFunc, .nilFunc, .nilFunc, .nilFunc, .nilFunc, .nilFunc, .nilFunc, .nilFunc, .nilFunc, .nilFunc, .nilFunc, .nilFunc, .nilFunc, .nilFunc, .nilFunc, .nilFunc, .nilFunc, .nilFunc, .nilFunc, .nilFunc] 56)).heap.size = w.heap.size + 1) := by show _ = _; simp
  obtain ⟨W, hW⟩ : ∃ W, W = w.alloc (.cells #[.nilFunc, .nilFunc, .nilFunc, .nilFunc, .nilFunc, .nilFunc, .nilFunc, .nilFunc, .nilFunc, .nilFunc, .nilFunc, .nilFunc, .nilFunc, .nilFunc, .nilFunc, .nilFunc, .nilFunc, .nilFunc, .nilFunc, .nilFunc, .nilFunc, .nilFunc, .nilFunc, .nilFunc, .nilFunc, .nilFunc, .nilFunc, .nilFunc, .nilFunc, .nilFunc, .nilFunc, .nilFunc, .nilFunc, .nilFunc, .nilFunc, .nilFunc, .nilFunc, .nilFunc, .nilFunc, .nilFunc, .nilFunc, .nilFunc, .nilFunc, .nilFunc, .nilFunc, .nilFunc, .nilFunc, .nilFunc, .nilFunc] 56) := ⟨_, rfl⟩
  rw [← hW] at HR0 HB0 HZ0
  have HC : Hid (Calls Tryz.prog 34 #[.pointer (some ⟨w.heap.size, 0, none⟩), widF w.heap.size 35, widF w.heap.size 36, widF w.heap.size 37] W _) := setLikeJ_any w.heap.size _ _ _ _ W HR0.out
  unfold widF at HC
  go_enter Tryz.func19, Tryz.ntmps19
  go_wp2_with fail
  rw [← hW]
  clear hW
  refine HC.out.mono ?_
  rintro e w1 ⟨rfl, hw1⟩
  have HR1 : Hid (w1.rowIs w.heap.size 56 49 (jnG w.heap.size 1)) := by
    rw [hw1]
    refine (((((HR0.out.set 8 _).set 16 _).set 24 _).set 32 _).set 40 _).congr (fun q _ => ?_)
    have e : ¬ ((q % 7 = 6 ∧ 1 ≤ q / 7 ∧ q / 7 < 1) ∨ (q / 7 = 6 ∧ 1 ≤ q % 7 ∧ q % 7 < 1)) := by omega
    show _ = if (q % 7 = 6 ∧ 1 ≤ q / 7 ∧ q / 7 < 1) ∨ (q / 7 = 6 ∧ 1 ≤ q % 7 ∧ q % 7 < 1) then _ else _
    conv => rhs; rw [if_neg e]
    rfl
  have HB1 : Hid (Below w.heap.size w w1) := by
    rw [hw1]
    exact ((((HB0.out.setCell (Nat.le_refl _) _).setCell (Nat.le_refl _) _).setCell (Nat.le_refl _) _).setCell (Nat.le_refl _) _).setCell (Nat.le_refl _) _
  have HZ1 : Hid (w1.heap.size = w.heap.size + 1) := by show w1.heap.size = _; rw [hw1]; simpa using HZ0.out
  clear hw1 HC HR0 HB0 HZ0
  go_wp2_with fail
  go_loopw [2] (fun d wr => ∃ k : Nat, 1 ≤ k ∧ k ≤ 7 ∧ d = .int .i64 (k : Int) ∧ Below w.heap.size w wr ∧ wr.heap.size = w.heap.size + 1 ∧ wr.rowIs w.heap.size 56 49 (jnG w.heap.size k)) (fun d _ => 7 - (intOf d).toNat)
  case atStart => exact ⟨1, by omega, by omega, rfl, HB1.out, HZ1.out, HR1.out⟩
  case round =>
    obtain ⟨k, hk0, hk1, rfl, hb, hz, hr⟩ := hrel
    have HR := hidF hr
    have HB : Hid (Below w.heap.size w wr) := hb
    have HZ := hidF hz
    clear HR1 HB1 HZ1 hz
    by_cases hlt : k ≤ 6
    · have hki : (k : Int) ≤ 6 := by omega
      have hk7 : (k : Int) < 7 := by omega
      have hc := hr.cell (i := k * 7 + 6) (by omega)
      have hf := hr.frozen (k * 7 + 6)
      have hr2 := hr.set (k * 7 + 6) (widF w.heap.size 38)
      have hc2 := hr2.cell (i := 42 + k) (by omega)
      have hf2 := hr2.frozen (42 + k)
      unfold widF at hc2 hf2
      clear hr hb hr2
      go_wp2_with fail
      go_roundw
      case rel =>
        refine ⟨k + 1, by omega, by omega, by go_num, (HB.out.setCell (Nat.le_refl _) _).setCell (Nat.le_refl _) _, by simpa using HZ.out, ((HR.out.set (k * 7 + 6) _).set (42 + k) _).congr (fun q hq => ?_)⟩
        show (if q = 42 + k then widF w.heap.size 38 else if q = k * 7 + 6 then widF w.heap.size 38 else jnG w.heap.size k q) = jnG w.heap.size (k + 1) q
        unfold jnG
        by_cases hj : q = 42 + k
        · rw [if_pos hj, if_pos (by omega)]
        · rw [if_neg hj]
          by_cases hj3 : q = k * 7 + 6
          · rw [if_pos hj3, if_pos (by omega)]
          · rw [if_neg hj3]
            by_cases hj2 : (q % 7 = 6 ∧ 1 ≤ q / 7 ∧ q / 7 < k) ∨ (q / 7 = 6 ∧ 1 ≤ q % 7 ∧ q % 7 < k)
            · rw [if_pos hj2, if_pos (by omega)]
            · have e : ¬ ((q % 7 = 6 ∧ 1 ≤ q / 7 ∧ q / 7 < k + 1) ∨ (q / 7 = 6 ∧ 1 ≤ q % 7 ∧ q % 7 < k + 1)) := by omega
              rw [if_neg hj2, if_neg e]
      case measure => simp [intOf]; omega
    · have hk : k = 7 := by omega
      subst hk
      have hki : ¬ (7 : Int) ≤ 6 := by omega
      have HFin : Hid (TabJ wr w.heap.size) := fun i j h1 h2 h3 h4 => by
        rw [HR.out.cell (by omega)]
        exact congrArg some (jnG_fin w.heap.size i j h1 h2 h3 h4)
      clear hr hb
      go_wp2_with fail
      go_ret
      exact ⟨rfl, HB.out, HFin.out, by rw [HZ.out]; omega⟩

end Go.Proofs.YthcdeahobjhkbaaGreatDoor
