/-
  The program's widenings: the table is asked; KindFits's part behind the face.
-/
import Derived.Test.YtpalkdcgbbbmeaaGreatDoorKW1
import Derived.BigQuiet
namespace Go.Proofs.YtpalkdcgbbbmeaaGreatDoor
open Go.RowKit

theorem wfuncIn_nil {P : Program} {t : TypeId} {ps rs : Array TypeId} {b : Bool} (d : Nat) (fn : Fn) (first cap : Array Value) (w : World) (h : P.underlying t = some (.func ps rs b)) : (Op.equalIn (d + 1) t (.func fn first cap) .nilFunc).run P w = .ok false w := by
  simp [Op.equalIn, run_underlying h]

theorem wnilIn_nil {P : Program} {t : TypeId} {ps rs : Array TypeId} {b : Bool} (d : Nat) (w : World) (h : P.underlying t = some (.func ps rs b)) : (Op.equalIn (d + 1) t .nilFunc .nilFunc).run P w = .ok true w := by
  simp [Op.equalIn, run_underlying h]

theorem Tryz.wfunc_eq (fn : Fn) (first cap : Array Value) (w : World) : (binOp .eql 82 (.func fn first cap) .nilFunc).run Tryz.prog w = .ok (.bool false) w := by
  have : (Op.equal 82 (.func fn first cap) .nilFunc).run Tryz.prog w = .ok false w := wfuncIn_nil 9999 fn first cap w Tryz.underlying82
  simp only [binOp]
  simp [this]

theorem Tryz.wfunc_nil (w : World) : (binOp .eql 82 .nilFunc .nilFunc).run Tryz.prog w = .ok (.bool true) w := by
  have : (Op.equal 82 .nilFunc .nilFunc).run Tryz.prog w = .ok true w := wnilIn_nil 9999 w Tryz.underlying82
  simp only [binOp]
  simp [this]

set_option maxRecDepth 20000 in
set_option maxHeartbeats 1000000 in
theorem of_nil (R pa pb i j : Nat) (x : ByteArray) (w : World) (h1 : 1 ≤ i) (h2 : i ≤ 6) (h3 : 1 ≤ j) (h4 : j ≤ 6) (ha : w.cell? ⟨pa, 0, none⟩ = some (.int .i64 (i : Int))) (hb : w.cell? ⟨pb, 0, none⟩ = some (.int .i64 (j : Int))) (hT : w.cell? ⟨R, i * 7 + j, none⟩ = some .nilFunc)
    (hla : pa < w.heap.size) (hlb : pb < w.heap.size) (hlR : R < w.heap.size) :
    Calls Tryz.prog 38 #[.pointer (some ⟨R, 0, none⟩), .agg #[.pointer (some ⟨pa, 0, none⟩), .pointer (some ⟨pb, 0, none⟩), .string x]] w fun e w' => Below w.heap.size w w' ∧ ∃ y : ByteArray, e = .returned (.tuple #[.nilFunc, .iface 132 (.agg #[.string y])]) := by
  have hb0 : Below w.heap.size w (w.alloc (.cells #[.pointer (some ⟨pa, 0, none⟩), .pointer (some ⟨pb, 0, none⟩), .string x] 67)) := (Below.refl _ _).alloc (Nat.le_refl _) _
  have ha' := (hb0.cell (p := ⟨pa, 0, none⟩) hla).trans ha
  have hb' := (hb0.cell (p := ⟨pb, 0, none⟩) hlb).trans hb
  have hT' := (hb0.cell (p := ⟨R, i * 7 + j, none⟩) hlR).trans hT
  have hq1 := Tryz.wfunc_nil
  have hq2 := Tryz.wfunc_eq
  have hi7 : (i : Int) < 7 := by omega
  have hj7 : (j : Int) < 7 := by omega
  clear ha hb hT
  go_enter Tryz.func38, Tryz.ntmps38
  go_wp2_with fail
  go_quiet (fail)
  go_wp2_with fail
  go_quiet (fail)
  go_wp2_with fail
  go_ret2
  exact ⟨below_drewN (below_drewN hb0 _) _, _, rfl⟩

set_option maxRecDepth 20000 in
set_option maxHeartbeats 1000000 in
theorem of_ofLeaves (R pa pb i j : Nat) (r : Bool) (x : ByteArray) (w : World) (h1 : 1 ≤ i) (h2 : i ≤ 6) (h3 : 1 ≤ j) (h4 : j ≤ 6) (ha : w.cell? ⟨pa, 0, none⟩ = some (.int .i64 (i : Int))) (hb : w.cell? ⟨pb, 0, none⟩ = some (.int .i64 (j : Int))) (hT : w.cell? ⟨R, i * 7 + j, none⟩ = some (widF R 73))
    (hla : pa < w.heap.size) (hlb : pb < w.heap.size) (hlR : R < w.heap.size)
    (hC : ∀ W, Below w.heap.size w W → Calls Tryz.prog 73 #[.pointer (some ⟨R, 0, none⟩), .agg #[.pointer (some ⟨pa, 0, none⟩), .pointer (some ⟨pb, 0, none⟩), .string x]] W fun e w' => Below W.heap.size W w' ∧ ∃ v u, e = .returned (.tuple #[v, u]) ∧ (r = true ∧ (∃ fn first cap, v = .func fn first cap) ∧ u = .nilIface ∨ r = false ∧ v = .nilFunc ∧ ∃ y : ByteArray, u = .iface 132 (.agg #[.string y]))) :
    Calls Tryz.prog 38 #[.pointer (some ⟨R, 0, none⟩), .agg #[.pointer (some ⟨pa, 0, none⟩), .pointer (some ⟨pb, 0, none⟩), .string x]] w fun e w' => Below w.heap.size w w' ∧ ∃ v u, e = .returned (.tuple #[v, u]) ∧ (r = true ∧ (∃ fn first cap, v = .func fn first cap) ∧ u = .nilIface ∨ r = false ∧ v = .nilFunc ∧ ∃ y : ByteArray, u = .iface 132 (.agg #[.string y])) := by
  have hb0 : Below w.heap.size w (w.alloc (.cells #[.pointer (some ⟨pa, 0, none⟩), .pointer (some ⟨pb, 0, none⟩), .string x] 67)) := (Below.refl _ _).alloc (Nat.le_refl _) _
  have ha' := (hb0.cell (p := ⟨pa, 0, none⟩) hla).trans ha
  have hb' := (hb0.cell (p := ⟨pb, 0, none⟩) hlb).trans hb
  have hT' := (hb0.cell (p := ⟨R, i * 7 + j, none⟩) hlR).trans hT
  have hq1 := Tryz.wfunc_nil
  have hq2 := Tryz.wfunc_eq
  have hi7 : (i : Int) < 7 := by omega
  have hj7 : (j : Int) < 7 := by omega
  have HC : Hid (∀ W, Below w.heap.size w W → _) := hC
  clear ha hb hT hC
  unfold widF at hT'
  go_enter Tryz.func38, Tryz.ntmps38
  go_wp2_with fail
  go_quiet (fail)
  go_wp2_with fail
  refine (HC.out _ (below_drewN hb0 _)).mono ?_
  rintro e w2 ⟨hb2, v, u, rfl, hvu⟩
  have HB : Hid (Below w.heap.size w w2) := below_step (below_drewN hb0 _) (below_drewN hb0 _).size hb2
  have HVU : Hid (r = true ∧ (∃ fn first cap, v = .func fn first cap) ∧ u = .nilIface ∨ r = false ∧ v = .nilFunc ∧ ∃ y : ByteArray, u = .iface 132 (.agg #[.string y])) := hvu
  clear hvu hb2
  go_wp2_with fail
  go_ret2
  exact ⟨HB.out, v, u, rfl, HVU.out⟩

set_option maxRecDepth 20000 in
set_option maxHeartbeats 1000000 in
theorem of_ofLists (R pa pb i j : Nat) (r : Bool) (x : ByteArray) (w : World) (h1 : 1 ≤ i) (h2 : i ≤ 6) (h3 : 1 ≤ j) (h4 : j ≤ 6) (ha : w.cell? ⟨pa, 0, none⟩ = some (.int .i64 (i : Int))) (hb : w.cell? ⟨pb, 0, none⟩ = some (.int .i64 (j : Int))) (hT : w.cell? ⟨R, i * 7 + j, none⟩ = some (widF R 74))
    (hla : pa < w.heap.size) (hlb : pb < w.heap.size) (hlR : R < w.heap.size)
    (hC : ∀ W, Below w.heap.size w W → Calls Tryz.prog 74 #[.pointer (some ⟨R, 0, none⟩), .agg #[.pointer (some ⟨pa, 0, none⟩), .pointer (some ⟨pb, 0, none⟩), .string x]] W fun e w' => Below W.heap.size W w' ∧ ∃ v u, e = .returned (.tuple #[v, u]) ∧ (r = true ∧ (∃ fn first cap, v = .func fn first cap) ∧ u = .nilIface ∨ r = false ∧ v = .nilFunc ∧ ∃ y : ByteArray, u = .iface 132 (.agg #[.string y]))) :
    Calls Tryz.prog 38 #[.pointer (some ⟨R, 0, none⟩), .agg #[.pointer (some ⟨pa, 0, none⟩), .pointer (some ⟨pb, 0, none⟩), .string x]] w fun e w' => Below w.heap.size w w' ∧ ∃ v u, e = .returned (.tuple #[v, u]) ∧ (r = true ∧ (∃ fn first cap, v = .func fn first cap) ∧ u = .nilIface ∨ r = false ∧ v = .nilFunc ∧ ∃ y : ByteArray, u = .iface 132 (.agg #[.string y])) := by
  have hb0 : Below w.heap.size w (w.alloc (.cells #[.pointer (some ⟨pa, 0, none⟩), .pointer (some ⟨pb, 0, none⟩), .string x] 67)) := (Below.refl _ _).alloc (Nat.le_refl _) _
  have ha' := (hb0.cell (p := ⟨pa, 0, none⟩) hla).trans ha
  have hb' := (hb0.cell (p := ⟨pb, 0, none⟩) hlb).trans hb
  have hT' := (hb0.cell (p := ⟨R, i * 7 + j, none⟩) hlR).trans hT
  have hq1 := Tryz.wfunc_nil
  have hq2 := Tryz.wfunc_eq
  have hi7 : (i : Int) < 7 := by omega
  have hj7 : (j : Int) < 7 := by omega
  have HC : Hid (∀ W, Below w.heap.size w W → _) := hC
  clear ha hb hT hC
  unfold widF at hT'
  go_enter Tryz.func38, Tryz.ntmps38
  go_wp2_with fail
  go_quiet (fail)
  go_wp2_with fail
  refine (HC.out _ (below_drewN hb0 _)).mono ?_
  rintro e w2 ⟨hb2, v, u, rfl, hvu⟩
  have HB : Hid (Below w.heap.size w w2) := below_step (below_drewN hb0 _) (below_drewN hb0 _).size hb2
  have HVU : Hid (r = true ∧ (∃ fn first cap, v = .func fn first cap) ∧ u = .nilIface ∨ r = false ∧ v = .nilFunc ∧ ∃ y : ByteArray, u = .iface 132 (.agg #[.string y])) := hvu
  clear hvu hb2
  go_wp2_with fail
  go_ret2
  exact ⟨HB.out, v, u, rfl, HVU.out⟩

set_option maxRecDepth 20000 in
set_option maxHeartbeats 1000000 in
theorem of_ofForms (R pa pb i j : Nat) (r : Bool) (x : ByteArray) (w : World) (h1 : 1 ≤ i) (h2 : i ≤ 6) (h3 : 1 ≤ j) (h4 : j ≤ 6) (ha : w.cell? ⟨pa, 0, none⟩ = some (.int .i64 (i : Int))) (hb : w.cell? ⟨pb, 0, none⟩ = some (.int .i64 (j : Int))) (hT : w.cell? ⟨R, i * 7 + j, none⟩ = some (widF R 75))
    (hla : pa < w.heap.size) (hlb : pb < w.heap.size) (hlR : R < w.heap.size)
    (hC : ∀ W, Below w.heap.size w W → Calls Tryz.prog 75 #[.pointer (some ⟨R, 0, none⟩), .agg #[.pointer (some ⟨pa, 0, none⟩), .pointer (some ⟨pb, 0, none⟩), .string x]] W fun e w' => Below W.heap.size W w' ∧ ∃ v u, e = .returned (.tuple #[v, u]) ∧ (r = true ∧ (∃ fn first cap, v = .func fn first cap) ∧ u = .nilIface ∨ r = false ∧ v = .nilFunc ∧ ∃ y : ByteArray, u = .iface 132 (.agg #[.string y]))) :
    Calls Tryz.prog 38 #[.pointer (some ⟨R, 0, none⟩), .agg #[.pointer (some ⟨pa, 0, none⟩), .pointer (some ⟨pb, 0, none⟩), .string x]] w fun e w' => Below w.heap.size w w' ∧ ∃ v u, e = .returned (.tuple #[v, u]) ∧ (r = true ∧ (∃ fn first cap, v = .func fn first cap) ∧ u = .nilIface ∨ r = false ∧ v = .nilFunc ∧ ∃ y : ByteArray, u = .iface 132 (.agg #[.string y])) := by
  have hb0 : Below w.heap.size w (w.alloc (.cells #[.pointer (some ⟨pa, 0, none⟩), .pointer (some ⟨pb, 0, none⟩), .string x] 67)) := (Below.refl _ _).alloc (Nat.le_refl _) _
  have ha' := (hb0.cell (p := ⟨pa, 0, none⟩) hla).trans ha
  have hb' := (hb0.cell (p := ⟨pb, 0, none⟩) hlb).trans hb
  have hT' := (hb0.cell (p := ⟨R, i * 7 + j, none⟩) hlR).trans hT
  have hq1 := Tryz.wfunc_nil
  have hq2 := Tryz.wfunc_eq
  have hi7 : (i : Int) < 7 := by omega
  have hj7 : (j : Int) < 7 := by omega
  have HC : Hid (∀ W, Below w.heap.size w W → _) := hC
  clear ha hb hT hC
  unfold widF at hT'
  go_enter Tryz.func38, Tryz.ntmps38
  go_wp2_with fail
  go_quiet (fail)
  go_wp2_with fail
  refine (HC.out _ (below_drewN hb0 _)).mono ?_
  rintro e w2 ⟨hb2, v, u, rfl, hvu⟩
  have HB : Hid (Below w.heap.size w w2) := below_step (below_drewN hb0 _) (below_drewN hb0 _).size hb2
  have HVU : Hid (r = true ∧ (∃ fn first cap, v = .func fn first cap) ∧ u = .nilIface ∨ r = false ∧ v = .nilFunc ∧ ∃ y : ByteArray, u = .iface 132 (.agg #[.string y])) := hvu
  clear hvu hb2
  go_wp2_with fail
  go_ret2
  exact ⟨HB.out, v, u, rfl, HVU.out⟩

set_option maxRecDepth 20000 in
set_option maxHeartbeats 1000000 in
theorem of_intoMaybe (R pa pb i j : Nat) (r : Bool) (x : ByteArray) (w : World) (h1 : 1 ≤ i) (h2 : i ≤ 6) (h3 : 1 ≤ j) (h4 : j ≤ 6) (ha : w.cell? ⟨pa, 0, none⟩ = some (.int .i64 (i : Int))) (hb : w.cell? ⟨pb, 0, none⟩ = some (.int .i64 (j : Int))) (hT : w.cell? ⟨R, i * 7 + j, none⟩ = some (widF R 76))
    (hla : pa < w.heap.size) (hlb : pb < w.heap.size) (hlR : R < w.heap.size)
    (hC : ∀ W, Below w.heap.size w W → Calls Tryz.prog 76 #[.pointer (some ⟨R, 0, none⟩), .agg #[.pointer (some ⟨pa, 0, none⟩), .pointer (some ⟨pb, 0, none⟩), .string x]] W fun e w' => Below W.heap.size W w' ∧ ∃ v u, e = .returned (.tuple #[v, u]) ∧ (r = true ∧ (∃ fn first cap, v = .func fn first cap) ∧ u = .nilIface ∨ r = false ∧ v = .nilFunc ∧ ∃ y : ByteArray, u = .iface 132 (.agg #[.string y]))) :
    Calls Tryz.prog 38 #[.pointer (some ⟨R, 0, none⟩), .agg #[.pointer (some ⟨pa, 0, none⟩), .pointer (some ⟨pb, 0, none⟩), .string x]] w fun e w' => Below w.heap.size w w' ∧ ∃ v u, e = .returned (.tuple #[v, u]) ∧ (r = true ∧ (∃ fn first cap, v = .func fn first cap) ∧ u = .nilIface ∨ r = false ∧ v = .nilFunc ∧ ∃ y : ByteArray, u = .iface 132 (.agg #[.string y])) := by
  have hb0 : Below w.heap.size w (w.alloc (.cells #[.pointer (some ⟨pa, 0, none⟩), .pointer (some ⟨pb, 0, none⟩), .string x] 67)) := (Below.refl _ _).alloc (Nat.le_refl _) _
  have ha' := (hb0.cell (p := ⟨pa, 0, none⟩) hla).trans ha
  have hb' := (hb0.cell (p := ⟨pb, 0, none⟩) hlb).trans hb
  have hT' := (hb0.cell (p := ⟨R, i * 7 + j, none⟩) hlR).trans hT
  have hq1 := Tryz.wfunc_nil
  have hq2 := Tryz.wfunc_eq
  have hi7 : (i : Int) < 7 := by omega
  have hj7 : (j : Int) < 7 := by omega
  have HC : Hid (∀ W, Below w.heap.size w W → _) := hC
  clear ha hb hT hC
  unfold widF at hT'
  go_enter Tryz.func38, Tryz.ntmps38
  go_wp2_with fail
  go_quiet (fail)
  go_wp2_with fail
  refine (HC.out _ (below_drewN hb0 _)).mono ?_
  rintro e w2 ⟨hb2, v, u, rfl, hvu⟩
  have HB : Hid (Below w.heap.size w w2) := below_step (below_drewN hb0 _) (below_drewN hb0 _).size hb2
  have HVU : Hid (r = true ∧ (∃ fn first cap, v = .func fn first cap) ∧ u = .nilIface ∨ r = false ∧ v = .nilFunc ∧ ∃ y : ByteArray, u = .iface 132 (.agg #[.string y])) := hvu
  clear hvu hb2
  go_wp2_with fail
  go_ret2
  exact ⟨HB.out, v, u, rfl, HVU.out⟩

set_option maxRecDepth 20000 in
set_option maxHeartbeats 1000000 in
theorem of_ofMaybes (R pa pb i j : Nat) (r : Bool) (x : ByteArray) (w : World) (h1 : 1 ≤ i) (h2 : i ≤ 6) (h3 : 1 ≤ j) (h4 : j ≤ 6) (ha : w.cell? ⟨pa, 0, none⟩ = some (.int .i64 (i : Int))) (hb : w.cell? ⟨pb, 0, none⟩ = some (.int .i64 (j : Int))) (hT : w.cell? ⟨R, i * 7 + j, none⟩ = some (widF R 77))
    (hla : pa < w.heap.size) (hlb : pb < w.heap.size) (hlR : R < w.heap.size)
    (hC : ∀ W, Below w.heap.size w W → Calls Tryz.prog 77 #[.pointer (some ⟨R, 0, none⟩), .agg #[.pointer (some ⟨pa, 0, none⟩), .pointer (some ⟨pb, 0, none⟩), .string x]] W fun e w' => Below W.heap.size W w' ∧ ∃ v u, e = .returned (.tuple #[v, u]) ∧ (r = true ∧ (∃ fn first cap, v = .func fn first cap) ∧ u = .nilIface ∨ r = false ∧ v = .nilFunc ∧ ∃ y : ByteArray, u = .iface 132 (.agg #[.string y]))) :
    Calls Tryz.prog 38 #[.pointer (some ⟨R, 0, none⟩), .agg #[.pointer (some ⟨pa, 0, none⟩), .pointer (some ⟨pb, 0, none⟩), .string x]] w fun e w' => Below w.heap.size w w' ∧ ∃ v u, e = .returned (.tuple #[v, u]) ∧ (r = true ∧ (∃ fn first cap, v = .func fn first cap) ∧ u = .nilIface ∨ r = false ∧ v = .nilFunc ∧ ∃ y : ByteArray, u = .iface 132 (.agg #[.string y])) := by
  have hb0 : Below w.heap.size w (w.alloc (.cells #[.pointer (some ⟨pa, 0, none⟩), .pointer (some ⟨pb, 0, none⟩), .string x] 67)) := (Below.refl _ _).alloc (Nat.le_refl _) _
  have ha' := (hb0.cell (p := ⟨pa, 0, none⟩) hla).trans ha
  have hb' := (hb0.cell (p := ⟨pb, 0, none⟩) hlb).trans hb
  have hT' := (hb0.cell (p := ⟨R, i * 7 + j, none⟩) hlR).trans hT
  have hq1 := Tryz.wfunc_nil
  have hq2 := Tryz.wfunc_eq
  have hi7 : (i : Int) < 7 := by omega
  have hj7 : (j : Int) < 7 := by omega
  have HC : Hid (∀ W, Below w.heap.size w W → _) := hC
  clear ha hb hT hC
  unfold widF at hT'
  go_enter Tryz.func38, Tryz.ntmps38
  go_wp2_with fail
  go_quiet (fail)
  go_wp2_with fail
  refine (HC.out _ (below_drewN hb0 _)).mono ?_
  rintro e w2 ⟨hb2, v, u, rfl, hvu⟩
  have HB : Hid (Below w.heap.size w w2) := below_step (below_drewN hb0 _) (below_drewN hb0 _).size hb2
  have HVU : Hid (r = true ∧ (∃ fn first cap, v = .func fn first cap) ∧ u = .nilIface ∨ r = false ∧ v = .nilFunc ∧ ∃ y : ByteArray, u = .iface 132 (.agg #[.string y])) := hvu
  clear hvu hb2
  go_wp2_with fail
  go_ret2
  exact ⟨HB.out, v, u, rfl, HVU.out⟩

end Go.Proofs.YtpalkdcgbbbmeaaGreatDoor
