/-
  The program's widenings: the table is asked; KindFits's part behind the face.
-/
import Derived.Test.YtamkblgldlkooaaDoorKW1
import Derived.BigQuiet
namespace Go.Proofs.YtamkblgldlkooaaDoor
open Go.RowKit

theorem wfuncIn_nil {P : Program} {t : TypeId} {ps rs : Array TypeId} {b : Bool} (d : Nat) (fn : Fn) (first cap : Array Value) (w : World) (h : P.underlying t = some (.func ps rs b)) : (Op.equalIn (d + 1) t (.func fn first cap) .nilFunc).run P w = .ok false w := by
  simp [Op.equalIn, run_underlying h]

theorem wnilIn_nil {P : Program} {t : TypeId} {ps rs : Array TypeId} {b : Bool} (d : Nat) (w : World) (h : P.underlying t = some (.func ps rs b)) : (Op.equalIn (d + 1) t .nilFunc .nilFunc).run P w = .ok true w := by
  simp [Op.equalIn, run_underlying h]

theorem Tryd.wfunc_eq (fn : Fn) (first cap : Array Value) (w : World) : (binOp .eql 51 (.func fn first cap) .nilFunc).run Tryd.prog w = .ok (.bool false) w := by
  have : (Op.equal 51 (.func fn first cap) .nilFunc).run Tryd.prog w = .ok false w := wfuncIn_nil 9999 fn first cap w Tryd.underlying51
  simp only [binOp]
  simp [this]

theorem Tryd.wfunc_nil (w : World) : (binOp .eql 51 .nilFunc .nilFunc).run Tryd.prog w = .ok (.bool true) w := by
  have : (Op.equal 51 .nilFunc .nilFunc).run Tryd.prog w = .ok true w := wnilIn_nil 9999 w Tryd.underlying51
  simp only [binOp]
  simp [this]

set_option maxRecDepth 20000 in
set_option maxHeartbeats 1000000 in
theorem of_nil (R pa pb i j : Nat) (x : ByteArray) (w : World) (h1 : 1 ≤ i) (h2 : i ≤ 6) (h3 : 1 ≤ j) (h4 : j ≤ 6) (ha : w.cell? ⟨pa, 0, none⟩ = some (.int .i64 (i : Int))) (hb : w.cell? ⟨pb, 0, none⟩ = some (.int .i64 (j : Int))) (hT : w.cell? ⟨R, i * 7 + j, none⟩ = some .nilFunc)
    (hla : pa < w.heap.size) (hlb : pb < w.heap.size) (hlR : R < w.heap.size) :
    Calls Tryd.prog 17 #[.pointer (some ⟨R, 0, none⟩), .agg #[.pointer (some ⟨pa, 0, none⟩), .pointer (some ⟨pb, 0, none⟩), .string x]] w fun e w' => Below w.heap.size w w' ∧ ∃ y : ByteArray, e = .returned (.tuple #[.nilFunc, .iface 72 (.agg #[.string y])]) := by
  have hb0 : Below w.heap.size w (w.alloc (.cells #[.pointer (some ⟨pa, 0, none⟩), .pointer (some ⟨pb, 0, none⟩), .string x] 41)) := (Below.refl _ _).alloc (Nat.le_refl _) _
  have ha' := (hb0.cell (p := ⟨pa, 0, none⟩) hla).trans ha
  have hb' := (hb0.cell (p := ⟨pb, 0, none⟩) hlb).trans hb
  have hT' := (hb0.cell (p := ⟨R, i * 7 + j, none⟩) hlR).trans hT
  have hq1 := Tryd.wfunc_nil
  have hq2 := Tryd.wfunc_eq
  have hi7 : (i : Int) < 7 := by omega
  have hj7 : (j : Int) < 7 := by omega
  clear ha hb hT
  go_enter Tryd.func17, Tryd.ntmps17
  go_wp2_with fail
  go_quiet (fail)
  go_wp2_with fail
  go_quiet (fail)
  go_wp2_with fail
  go_ret2
  exact ⟨below_drewN (below_drewN hb0 _) _, _, rfl⟩

set_option maxRecDepth 20000 in
set_option maxHeartbeats 1000000 in
theorem of_ofLeaves (R pa pb i j : Nat) (r : Bool) (x : ByteArray) (w : World) (h1 : 1 ≤ i) (h2 : i ≤ 6) (h3 : 1 ≤ j) (h4 : j ≤ 6) (ha : w.cell? ⟨pa, 0, none⟩ = some (.int .i64 (i : Int))) (hb : w.cell? ⟨pb, 0, none⟩ = some (.int .i64 (j : Int))) (hT : w.cell? ⟨R, i * 7 + j, none⟩ = some (widF R 25))
    (hla : pa < w.heap.size) (hlb : pb < w.heap.size) (hlR : R < w.heap.size)
    (hC : ∀ W, Below w.heap.size w W → Calls Tryd.prog 25 #[.pointer (some ⟨R, 0, none⟩), .agg #[.pointer (some ⟨pa, 0, none⟩), .pointer (some ⟨pb, 0, none⟩), .string x]] W fun e w' => Below W.heap.size W w' ∧ ∃ v u, e = .returned (.tuple #[v, u]) ∧ (r = true ∧ (∃ fn first cap, v = .func fn first cap) ∧ u = .nilIface ∨ r = false ∧ v = .nilFunc ∧ ∃ y : ByteArray, u = .iface 72 (.agg #[.string y]))) :
    Calls Tryd.prog 17 #[.pointer (some ⟨R, 0, none⟩), .agg #[.pointer (some ⟨pa, 0, none⟩), .pointer (some ⟨pb, 0, none⟩), .string x]] w fun e w' => Below w.heap.size w w' ∧ ∃ v u, e = .returned (.tuple #[v, u]) ∧ (r = true ∧ (∃ fn first cap, v = .func fn first cap) ∧ u = .nilIface ∨ r = false ∧ v = .nilFunc ∧ ∃ y : ByteArray, u = .iface 72 (.agg #[.string y])) := by
  have hb0 : Below w.heap.size w (w.alloc (.cells #[.pointer (some ⟨pa, 0, none⟩), .pointer (some ⟨pb, 0, none⟩), .string x] 41)) := (Below.refl _ _).alloc (Nat.le_refl _) _
  have ha' := (hb0.cell (p := ⟨pa, 0, none⟩) hla).trans ha
  have hb' := (hb0.cell (p := ⟨pb, 0, none⟩) hlb).trans hb
  have hT' := (hb0.cell (p := ⟨R, i * 7 + j, none⟩) hlR).trans hT
  have hq1 := Tryd.wfunc_nil
  have hq2 := Tryd.wfunc_eq
  have hi7 : (i : Int) < 7 := by omega
  have hj7 : (j : Int) < 7 := by omega
  have HC : Hid (∀ W, Below w.heap.size w W → _) := hC
  clear ha hb hT hC
  unfold widF at hT'
  go_enter Tryd.func17, Tryd.ntmps17
  go_wp2_with fail
  go_quiet (fail)
  go_wp2_with fail
  refine (HC.out _ (below_drewN hb0 _)).mono ?_
  rintro e w2 ⟨hb2, v, u, rfl, hvu⟩
  have HB : Hid (Below w.heap.size w w2) := below_step (below_drewN hb0 _) (below_drewN hb0 _).size hb2
  have HVU : Hid (r = true ∧ (∃ fn first cap, v = .func fn first cap) ∧ u = .nilIface ∨ r = false ∧ v = .nilFunc ∧ ∃ y : ByteArray, u = .iface 72 (.agg #[.string y])) := hvu
  clear hvu hb2
  go_wp2_with fail
  go_ret2
  exact ⟨HB.out, v, u, rfl, HVU.out⟩

set_option maxRecDepth 20000 in
set_option maxHeartbeats 1000000 in
theorem of_ofLists (R pa pb i j : Nat) (r : Bool) (x : ByteArray) (w : World) (h1 : 1 ≤ i) (h2 : i ≤ 6) (h3 : 1 ≤ j) (h4 : j ≤ 6) (ha : w.cell? ⟨pa, 0, none⟩ = some (.int .i64 (i : Int))) (hb : w.cell? ⟨pb, 0, none⟩ = some (.int .i64 (j : Int))) (hT : w.cell? ⟨R, i * 7 + j, none⟩ = some (widF R 26))
    (hla : pa < w.heap.size) (hlb : pb < w.heap.size) (hlR : R < w.heap.size)
    (hC : ∀ W, Below w.heap.size w W → Calls Tryd.prog 26 #[.pointer (some ⟨R, 0, none⟩), .agg #[.pointer (some ⟨pa, 0, none⟩), .pointer (some ⟨pb, 0, none⟩), .string x]] W fun e w' => Below W.heap.size W w' ∧ ∃ v u, e = .returned (.tuple #[v, u]) ∧ (r = true ∧ (∃ fn first cap, v = .func fn first cap) ∧ u = .nilIface ∨ r = false ∧ v = .nilFunc ∧ ∃ y : ByteArray, u = .iface 72 (.agg #[.string y]))) :
    Calls Tryd.prog 17 #[.pointer (some ⟨R, 0, none⟩), .agg #[.pointer (some ⟨pa, 0, none⟩), .pointer (some ⟨pb, 0, none⟩), .string x]] w fun e w' => Below w.heap.size w w' ∧ ∃ v u, e = .returned (.tuple #[v, u]) ∧ (r = true ∧ (∃ fn first cap, v = .func fn first cap) ∧ u = .nilIface ∨ r = false ∧ v = .nilFunc ∧ ∃ y : ByteArray, u = .iface 72 (.agg #[.string y])) := by
  have hb0 : Below w.heap.size w (w.alloc (.cells #[.pointer (some ⟨pa, 0, none⟩), .pointer (some ⟨pb, 0, none⟩), .string x] 41)) := (Below.refl _ _).alloc (Nat.le_refl _) _
  have ha' := (hb0.cell (p := ⟨pa, 0, none⟩) hla).trans ha
  have hb' := (hb0.cell (p := ⟨pb, 0, none⟩) hlb).trans hb
  have hT' := (hb0.cell (p := ⟨R, i * 7 + j, none⟩) hlR).trans hT
  have hq1 := Tryd.wfunc_nil
  have hq2 := Tryd.wfunc_eq
  have hi7 : (i : Int) < 7 := by omega
  have hj7 : (j : Int) < 7 := by omega
  have HC : Hid (∀ W, Below w.heap.size w W → _) := hC
  clear ha hb hT hC
  unfold widF at hT'
  go_enter Tryd.func17, Tryd.ntmps17
  go_wp2_with fail
  go_quiet (fail)
  go_wp2_with fail
  refine (HC.out _ (below_drewN hb0 _)).mono ?_
  rintro e w2 ⟨hb2, v, u, rfl, hvu⟩
  have HB : Hid (Below w.heap.size w w2) := below_step (below_drewN hb0 _) (below_drewN hb0 _).size hb2
  have HVU : Hid (r = true ∧ (∃ fn first cap, v = .func fn first cap) ∧ u = .nilIface ∨ r = false ∧ v = .nilFunc ∧ ∃ y : ByteArray, u = .iface 72 (.agg #[.string y])) := hvu
  clear hvu hb2
  go_wp2_with fail
  go_ret2
  exact ⟨HB.out, v, u, rfl, HVU.out⟩

set_option maxRecDepth 20000 in
set_option maxHeartbeats 1000000 in
theorem of_ofForms (R pa pb i j : Nat) (r : Bool) (x : ByteArray) (w : World) (h1 : 1 ≤ i) (h2 : i ≤ 6) (h3 : 1 ≤ j) (h4 : j ≤ 6) (ha : w.cell? ⟨pa, 0, none⟩ = some (.int .i64 (i : Int))) (hb : w.cell? ⟨pb, 0, none⟩ = some (.int .i64 (j : Int))) (hT : w.cell? ⟨R, i * 7 + j, none⟩ = some (widF R 27))
    (hla : pa < w.heap.size) (hlb : pb < w.heap.size) (hlR : R < w.heap.size)
    (hC : ∀ W, Below w.heap.size w W → Calls Tryd.prog 27 #[.pointer (some ⟨R, 0, none⟩), .agg #[.pointer (some ⟨pa, 0, none⟩), .pointer (some ⟨pb, 0, none⟩), .string x]] W fun e w' => Below W.heap.size W w' ∧ ∃ v u, e = .returned (.tuple #[v, u]) ∧ (r = true ∧ (∃ fn first cap, v = .func fn first cap) ∧ u = .nilIface ∨ r = false ∧ v = .nilFunc ∧ ∃ y : ByteArray, u = .iface 72 (.agg #[.string y]))) :
    Calls Tryd.prog 17 #[.pointer (some ⟨R, 0, none⟩), .agg #[.pointer (some ⟨pa, 0, none⟩), .pointer (some ⟨pb, 0, none⟩), .string x]] w fun e w' => Below w.heap.size w w' ∧ ∃ v u, e = .returned (.tuple #[v, u]) ∧ (r = true ∧ (∃ fn first cap, v = .func fn first cap) ∧ u = .nilIface ∨ r = false ∧ v = .nilFunc ∧ ∃ y : ByteArray, u = .iface 72 (.agg #[.string y])) := by
  have hb0 : Below w.heap.size w (w.alloc (.cells #[.pointer (some ⟨pa, 0, none⟩), .pointer (some ⟨pb, 0, none⟩), .string x] 41)) := (Below.refl _ _).alloc (Nat.le_refl _) _
  have ha' := (hb0.cell (p := ⟨pa, 0, none⟩) hla).trans ha
  have hb' := (hb0.cell (p := ⟨pb, 0, none⟩) hlb).trans hb
  have hT' := (hb0.cell (p := ⟨R, i * 7 + j, none⟩) hlR).trans hT
  have hq1 := Tryd.wfunc_nil
  have hq2 := Tryd.wfunc_eq
  have hi7 : (i : Int) < 7 := by omega
  have hj7 : (j : Int) < 7 := by omega
  have HC : Hid (∀ W, Below w.heap.size w W → _) := hC
  clear ha hb hT hC
  unfold widF at hT'
  go_enter Tryd.func17, Tryd.ntmps17
  go_wp2_with fail
  go_quiet (fail)
  go_wp2_with fail
  refine (HC.out _ (below_drewN hb0 _)).mono ?_
  rintro e w2 ⟨hb2, v, u, rfl, hvu⟩
  have HB : Hid (Below w.heap.size w w2) := below_step (below_drewN hb0 _) (below_drewN hb0 _).size hb2
  have HVU : Hid (r = true ∧ (∃ fn first cap, v = .func fn first cap) ∧ u = .nilIface ∨ r = false ∧ v = .nilFunc ∧ ∃ y : ByteArray, u = .iface 72 (.agg #[.string y])) := hvu
  clear hvu hb2
  go_wp2_with fail
  go_ret2
  exact ⟨HB.out, v, u, rfl, HVU.out⟩

set_option maxRecDepth 20000 in
set_option maxHeartbeats 1000000 in
theorem of_intoMaybe (R pa pb i j : Nat) (r : Bool) (x : ByteArray) (w : World) (h1 : 1 ≤ i) (h2 : i ≤ 6) (h3 : 1 ≤ j) (h4 : j ≤ 6) (ha : w.cell? ⟨pa, 0, none⟩ = some (.int .i64 (i : Int))) (hb : w.cell? ⟨pb, 0, none⟩ = some (.int .i64 (j : Int))) (hT : w.cell? ⟨R, i * 7 + j, none⟩ = some (widF R 28))
    (hla : pa < w.heap.size) (hlb : pb < w.heap.size) (hlR : R < w.heap.size)
    (hC : ∀ W, Below w.heap.size w W → Calls Tryd.prog 28 #[.pointer (some ⟨R, 0, none⟩), .agg #[.pointer (some ⟨pa, 0, none⟩), .pointer (some ⟨pb, 0, none⟩), .string x]] W fun e w' => Below W.heap.size W w' ∧ ∃ v u, e = .returned (.tuple #[v, u]) ∧ (r = true ∧ (∃ fn first cap, v = .func fn first cap) ∧ u = .nilIface ∨ r = false ∧ v = .nilFunc ∧ ∃ y : ByteArray, u = .iface 72 (.agg #[.string y]))) :
    Calls Tryd.prog 17 #[.pointer (some ⟨R, 0, none⟩), .agg #[.pointer (some ⟨pa, 0, none⟩), .pointer (some ⟨pb, 0, none⟩), .string x]] w fun e w' => Below w.heap.size w w' ∧ ∃ v u, e = .returned (.tuple #[v, u]) ∧ (r = true ∧ (∃ fn first cap, v = .func fn first cap) ∧ u = .nilIface ∨ r = false ∧ v = .nilFunc ∧ ∃ y : ByteArray, u = .iface 72 (.agg #[.string y])) := by
  have hb0 : Below w.heap.size w (w.alloc (.cells #[.pointer (some ⟨pa, 0, none⟩), .pointer (some ⟨pb, 0, none⟩), .string x] 41)) := (Below.refl _ _).alloc (Nat.le_refl _) _
  have ha' := (hb0.cell (p := ⟨pa, 0, none⟩) hla).trans ha
  have hb' := (hb0.cell (p := ⟨pb, 0, none⟩) hlb).trans hb
  have hT' := (hb0.cell (p := ⟨R, i * 7 + j, none⟩) hlR).trans hT
  have hq1 := Tryd.wfunc_nil
  have hq2 := Tryd.wfunc_eq
  have hi7 : (i : Int) < 7 := by omega
  have hj7 : (j : Int) < 7 := by omega
  have HC : Hid (∀ W, Below w.heap.size w W → _) := hC
  clear ha hb hT hC
  unfold widF at hT'
  go_enter Tryd.func17, Tryd.ntmps17
  go_wp2_with fail
  go_quiet (fail)
  go_wp2_with fail
  refine (HC.out _ (below_drewN hb0 _)).mono ?_
  rintro e w2 ⟨hb2, v, u, rfl, hvu⟩
  have HB : Hid (Below w.heap.size w w2) := below_step (below_drewN hb0 _) (below_drewN hb0 _).size hb2
  have HVU : Hid (r = true ∧ (∃ fn first cap, v = .func fn first cap) ∧ u = .nilIface ∨ r = false ∧ v = .nilFunc ∧ ∃ y : ByteArray, u = .iface 72 (.agg #[.string y])) := hvu
  clear hvu hb2
  go_wp2_with fail
  go_ret2
  exact ⟨HB.out, v, u, rfl, HVU.out⟩

set_option maxRecDepth 20000 in
set_option maxHeartbeats 1000000 in
theorem of_ofMaybes (R pa pb i j : Nat) (r : Bool) (x : ByteArray) (w : World) (h1 : 1 ≤ i) (h2 : i ≤ 6) (h3 : 1 ≤ j) (h4 : j ≤ 6) (ha : w.cell? ⟨pa, 0, none⟩ = some (.int .i64 (i : Int))) (hb : w.cell? ⟨pb, 0, none⟩ = some (.int .i64 (j : Int))) (hT : w.cell? ⟨R, i * 7 + j, none⟩ = some (widF R 29))
    (hla : pa < w.heap.size) (hlb : pb < w.heap.size) (hlR : R < w.heap.size)
    (hC : ∀ W, Below w.heap.size w W → Calls Tryd.prog 29 #[.pointer (some ⟨R, 0, none⟩), .agg #[.pointer (some ⟨pa, 0, none⟩), .pointer (some ⟨pb, 0, none⟩), .string x]] W fun e w' => Below W.heap.size W w' ∧ ∃ v u, e = .returned (.tuple #[v, u]) ∧ (r = true ∧ (∃ fn first cap, v = .func fn first cap) ∧ u = .nilIface ∨ r = false ∧ v = .nilFunc ∧ ∃ y : ByteArray, u = .iface 72 (.agg #[.string y]))) :
    Calls Tryd.prog 17 #[.pointer (some ⟨R, 0, none⟩), .agg #[.pointer (some ⟨pa, 0, none⟩), .pointer (some ⟨pb, 0, none⟩), .string x]] w fun e w' => Below w.heap.size w w' ∧ ∃ v u, e = .returned (.tuple #[v, u]) ∧ (r = true ∧ (∃ fn first cap, v = .func fn first cap) ∧ u = .nilIface ∨ r = false ∧ v = .nilFunc ∧ ∃ y : ByteArray, u = .iface 72 (.agg #[.string y])) := by
  have hb0 : Below w.heap.size w (w.alloc (.cells #[.pointer (some ⟨pa, 0, none⟩), .pointer (some ⟨pb, 0, none⟩), .string x] 41)) := (Below.refl _ _).alloc (Nat.le_refl _) _
  have ha' := (hb0.cell (p := ⟨pa, 0, none⟩) hla).trans ha
  have hb' := (hb0.cell (p := ⟨pb, 0, none⟩) hlb).trans hb
  have hT' := (hb0.cell (p := ⟨R, i * 7 + j, none⟩) hlR).trans hT
  have hq1 := Tryd.wfunc_nil
  have hq2 := Tryd.wfunc_eq
  have hi7 : (i : Int) < 7 := by omega
  have hj7 : (j : Int) < 7 := by omega
  have HC : Hid (∀ W, Below w.heap.size w W → _) := hC
  clear ha hb hT hC
  unfold widF at hT'
  go_enter Tryd.func17, Tryd.ntmps17
  go_wp2_with fail
  go_quiet (fail)
  go_wp2_with fail
  refine (HC.out _ (below_drewN hb0 _)).mono ?_
  rintro e w2 ⟨hb2, v, u, rfl, hvu⟩
  have HB : Hid (Below w.heap.size w w2) := below_step (below_drewN hb0 _) (below_drewN hb0 _).size hb2
  have HVU : Hid (r = true ∧ (∃ fn first cap, v = .func fn first cap) ∧ u = .nilIface ∨ r = false ∧ v = .nilFunc ∧ ∃ y : ByteArray, u = .iface 72 (.agg #[.string y])) := hvu
  clear hvu hb2
  go_wp2_with fail
  go_ret2
  exact ⟨HB.out, v, u, rfl, HVU.out⟩

end Go.Proofs.YtamkblgldlkooaaDoor
