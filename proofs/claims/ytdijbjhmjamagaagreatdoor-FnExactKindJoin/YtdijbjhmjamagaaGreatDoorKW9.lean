/-
  KindFits of the program, where the first schema fits into the second.
-/
import Derived.Test.YtdijbjhmjamagaaGreatDoorB16
import Derived.Deep.RegionHeld
import Derived.Deep.RegionLaw
import Derived.BigQuiet
import Derived.Deep.AppendLies
import Derived.Lib.Hide
import Derived.WalkSmall
import Derived.LoopTactic
import Derived.Test.YtdijbjhmjamagaaGreatDoorB1
namespace Go.Proofs.YtdijbjhmjamagaaGreatDoor
open Go.RowKit

set_option maxRecDepth 20000 in
set_option maxHeartbeats 400000 in
theorem asNil_any (v : Value) (w : World) : Calls Tryz.prog 55 #[.nilIface, v] w fun e w' => e = .returned (.bool false) ∧ w' = w := by
  go_enter Tryz.func55, Tryz.ntmps55
  go_wp2_with fail
  go_ret
  exact ⟨rfl, rfl⟩

set_option maxRecDepth 20000 in
set_option maxHeartbeats 400000 in
theorem isMisfit_nil (w : World) : Calls Tryz.prog 27 #[.nilIface] w fun e w' => e = .returned (.bool false) ∧ Below w.heap.size w w' := by
  go_enter Tryz.func27, Tryz.ntmps27
  go_wp2_with fail
  refine (asNil_any _ _).mono ?_
  rintro e w1 ⟨rfl, rfl⟩
  go_wp2_with fail
  go_ret
  exact ⟨rfl, (Below.refl _ _).alloc (Nat.le_refl _) _⟩

set_option maxRecDepth 20000 in
set_option maxHeartbeats 1000000 in
theorem innerPair_yes (n m : Nat) (S : Nat → Prop) (a : K n) (b : K m) (x0 z0 : Int) (xa ya za ua : Option Addr) (xl xc yl yc zl zc ul uc : Nat) (w : World) (ha : KindIn S w n a (.int .i64 x0) (.slice xa xl xc) (.slice ya yl yc)) (hb : KindIn S w m b (.int .i64 z0) (.slice za zl zc) (.slice ua ul uc)) (hB : ∀ b, S b → b < w.heap.size) (hoa : okK n a = true) (hob : okK m b = true) :
    Calls Tryz.prog 24 #[.agg #[.int .i64 x0, .slice xa xl xc, .slice ya yl yc], .agg #[.int .i64 z0, .slice za zl zc, .slice ua ul uc]] w fun e w' => Below w.heap.size w w' ∧ ∃ pa pb, e = .returned (.tuple #[.agg #[.pointer (some ⟨pa, 0, none⟩), .pointer (some ⟨pb, 0, none⟩), .string ⟨#[]⟩], .bool true]) ∧
      InnerK (fun b => b < w'.heap.size) w' n a (.pointer (some ⟨pa, 0, none⟩)) ∧ InnerK (fun b => b < w'.heap.size) w' m b (.pointer (some ⟨pb, 0, none⟩)) := by
  obtain ⟨W1, hW1⟩ : ∃ W1, W1 = ((w.alloc (.cells #[.int .i64 x0, .slice xa xl xc, .slice ya yl yc] 26)).alloc (.cells #[.int .i64 z0, .slice za zl zc, .slice ua ul uc] 26)).alloc (.cells #[.pointer none, .pointer none, .string ⟨#[]⟩] 50) := ⟨_, rfl⟩
  have hb1 : Below w.heap.size w W1 := by rw [hW1]; exact (((Below.refl _ _).alloc (Nat.le_refl _) _).alloc (by simp) _).alloc (by simp; omega) _
  have hz1 : W1.heap.size = w.heap.size + 3 := by rw [hW1]; simp
  have kA : W1.heap[w.heap.size + 1]? = some (.cells #[.int .i64 z0, .slice za zl zc, .slice ua ul uc] 26 (0, 0)) := by
    rw [hW1, Below.heap_alloc _ _ _ (by simp)]
    have := heap_alloc_new (w.alloc (.cells #[.int .i64 x0, .slice xa xl xc, .slice ya yl yc] 26)) (.cells #[.int .i64 z0, .slice za zl zc, .slice ua ul uc] 26)
    simpa using this
  have kZ : W1.heap[w.heap.size + 2]? = some (.cells #[.pointer none, .pointer none, .string ⟨#[]⟩] 50 (0, 0)) := by
    have := heap_alloc_new ((w.alloc (.cells #[.int .i64 x0, .slice xa xl xc, .slice ya yl yc] 26)).alloc (.cells #[.int .i64 z0, .slice za zl zc, .slice ua ul uc] 26)) (.cells #[.pointer none, .pointer none, .string ⟨#[]⟩] 50)
    rw [hW1]; simpa using this
  obtain ⟨ha1, hB1⟩ := ha.step hB hb1
  obtain ⟨hb1', -⟩ := hb.step hB hb1
  have HA : Hid (Calls Tryz.prog 49 #[.agg #[.int .i64 x0, .slice xa xl xc, .slice ya yl yc]] W1 fun e w' => Below W1.heap.size W1 w' ∧ ∃ pa, e = .returned (.tuple #[.pointer (some ⟨pa, 0, none⟩), .bool true]) ∧ InnerK (fun b => b < w'.heap.size ∧ b ≠ w.heap.size + 2) w' n a (.pointer (some ⟨pa, 0, none⟩))) := (innerKind_any n S a _ _ _ W1 ha1 hB1).mono fun e w' h => by
    obtain ⟨h1, ⟨-, v, rfl, hin⟩ | ⟨h2, -⟩⟩ := h
    · obtain ⟨p, rfl, -⟩ := id hin.ptr
      exact ⟨h1, p, rfl, hin.keep (fun _ _ => rfl) (fun b hb => hb.elim (fun h => ⟨Nat.lt_of_lt_of_le (hB1 b h) h1.size, by have := hB b h; omega⟩) (fun h => ⟨h.2, by omega⟩))⟩
    · rw [hoa] at h2; cases h2
  have HBk : Hid (∀ W, Below W1.heap.size W1 W → Calls Tryz.prog 49 #[.agg #[.int .i64 z0, .slice za zl zc, .slice ua ul uc]] W fun e w' => Below W.heap.size W w' ∧ ∃ pb, e = .returned (.tuple #[.pointer (some ⟨pb, 0, none⟩), .bool true]) ∧ InnerK (fun b => b < w'.heap.size ∧ b ≠ w.heap.size + 2) w' m b (.pointer (some ⟨pb, 0, none⟩))) := fun W hW => by
    obtain ⟨hb2, hB2⟩ := hb1'.step hB1 hW
    refine (innerKind_any m S b _ _ _ W hb2 hB2).mono fun e w' h => ?_
    obtain ⟨h1, ⟨-, v, rfl, hin⟩ | ⟨h2, -⟩⟩ := h
    · obtain ⟨p, rfl, -⟩ := id hin.ptr
      exact ⟨h1, p, rfl, hin.keep (fun _ _ => rfl) (fun b hb => hb.elim (fun h => ⟨Nat.lt_of_lt_of_le (hB2 b h) h1.size, by have := hB b h; omega⟩) (fun h => ⟨h.2, by have := hW.size; omega⟩))⟩
    · rw [hob] at h2; cases h2
  have HB1 : Hid (Below w.heap.size w W1) := hb1
  clear ha hb ha1 hb1' hb1 hoa hob hB1
  go_enter Tryz.func24, Tryz.ntmps24
  go_wp2_with fail
  rw [← hW1]
  clear hW1
  refine HA.out.mono ?_
  rintro e w2 ⟨hb2, pa, rfl, hia⟩
  have HA2 : Hid (Below W1.heap.size W1 w2 ∧ InnerK (fun b => b < w2.heap.size ∧ b ≠ w.heap.size + 2) w2 n a (.pointer (some ⟨pa, 0, none⟩))) := ⟨hb2, hia⟩
  have kA2 := (hb2.block (w.heap.size + 1) (by omega)).trans kA
  have q0 : w2.cell? ⟨w.heap.size + 1, 0, none⟩ = some (.int .i64 z0) := by simp [World.cell?, kA2]
  have q1 : w2.cell? ⟨w.heap.size + 1, 1, none⟩ = some (.slice za zl zc) := by simp [World.cell?, kA2]
  have q2 : w2.cell? ⟨w.heap.size + 1, 2, none⟩ = some (.slice ua ul uc) := by simp [World.cell?, kA2]
  have HB2 : Hid (Calls Tryz.prog 49 _ w2 _) := HBk.out w2 hb2
  clear hb2 hia kA2 HA
  go_wp2_with fail
  refine HB2.out.mono ?_
  rintro e w3 ⟨hb3, pb, rfl, hib⟩
  have hbW := HA2.out.1
  have kZ3 := (hb3.block (w.heap.size + 2) (by have := hbW.size; omega)).trans ((hbW.block (w.heap.size + 2) (by omega)).trans kZ)
  have z0' : w3.cell? ⟨w.heap.size + 1 + 1, 0, none⟩ = some (.pointer none) := by simp [World.cell?, kZ3]
  have z1' : w3.cell? ⟨w.heap.size + 1 + 1, 1, none⟩ = some (.pointer none) := by simp [World.cell?, kZ3]
  have z2' : w3.cell? ⟨w.heap.size + 1 + 1, 2, none⟩ = some (.string ⟨#[]⟩) := by simp [World.cell?, kZ3]
  have f0' : w3.frozen? ⟨w.heap.size + 1 + 1, 0, none⟩ = false := by simp [World.frozen?, kZ3]
  have f1' : w3.frozen? ⟨w.heap.size + 1 + 1, 1, none⟩ = false := by simp [World.frozen?, kZ3]
  have f2' : w3.frozen? ⟨w.heap.size + 1 + 1, 2, none⟩ = false := by simp [World.frozen?, kZ3]
  have HEnd : Hid (Below w.heap.size w (put3 w3 (w.heap.size + 1 + 1) 0 (.pointer (some ⟨pa, 0, none⟩)) (.pointer (some ⟨pb, 0, none⟩)) (.string ⟨#[]⟩)) ∧ InnerK (fun b => b < (put3 w3 (w.heap.size + 1 + 1) 0 (.pointer (some ⟨pa, 0, none⟩)) (.pointer (some ⟨pb, 0, none⟩)) (.string ⟨#[]⟩)).heap.size) (put3 w3 (w.heap.size + 1 + 1) 0 (.pointer (some ⟨pa, 0, none⟩)) (.pointer (some ⟨pb, 0, none⟩)) (.string ⟨#[]⟩)) n a (.pointer (some ⟨pa, 0, none⟩)) ∧
      InnerK (fun b => b < (put3 w3 (w.heap.size + 1 + 1) 0 (.pointer (some ⟨pa, 0, none⟩)) (.pointer (some ⟨pb, 0, none⟩)) (.string ⟨#[]⟩)).heap.size) (put3 w3 (w.heap.size + 1 + 1) 0 (.pointer (some ⟨pa, 0, none⟩)) (.pointer (some ⟨pb, 0, none⟩)) (.string ⟨#[]⟩)) m b (.pointer (some ⟨pb, 0, none⟩))) := by
    refine ⟨?_, HA2.out.2.keep (fun b hb => (put3_other (by omega)).trans (hb3.block b hb.1)) (fun b hb => by rw [put3_size]; have := hb3.size; omega), hib.keep (fun b hb => put3_other (by omega)) (fun b hb => by rw [put3_size]; exact hb.1)⟩
    have h3 : Below w.heap.size w w3 := (HB1.out.trans (hbW.mono (by omega))).trans (hb3.mono (by have := hbW.size; omega))
    exact ((h3.setCell (by show _ ≤ w.heap.size + 1 + 1; omega) _).setCell (by show _ ≤ w.heap.size + 1 + 1; omega) _).setCell (by show _ ≤ w.heap.size + 1 + 1; omega) _
  clear q0 q1 q2 kZ3 HB2 hb3 hib hbW
  go_wp2_with fail
  refine bodyPost_ret (v := .tuple #[.agg #[.pointer (some ⟨pa, 0, none⟩), .pointer (some ⟨pb, 0, none⟩), .string ⟨#[]⟩], .bool true]) (by simp [results, Tryz.results24, go_sem, z0', z1', z2']) rfl ?_
  exact ⟨HEnd.out.1, pa, pb, rfl, HEnd.out.2.1, HEnd.out.2.2⟩

end Go.Proofs.YtdijbjhmjamagaaGreatDoor
