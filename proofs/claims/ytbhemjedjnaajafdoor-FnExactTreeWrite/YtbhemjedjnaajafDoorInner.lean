/-
  The face that recovers: caughtTree, innerTree, TreeOk of the program.
-/
import Derived.Test.YtbhemjedjnaajafDoorTake2
import Derived.Defers
import Derived.Recover
namespace Go.Proofs.YtbhemjedjnaajafDoor
open Go.RowKit

theorem Tryd.assert_yes (w : World) : (Instr.typeAssert (.iface 85 (.agg #[])) 20 85 true).run Tryd.prog w = .ok (.tuple #[.agg #[], .bool true]) w := by kernel_rfl
theorem Tryd.assert_nil (w : World) : (Instr.typeAssert .nilIface 20 85 true).run Tryd.prog w = .ok (.tuple #[.agg #[], .bool false]) w := by kernel_rfl

set_option maxHeartbeats 400000 in
theorem catch_refusal (w : World) :
    CallsD Tryd.prog 47 #[] (.panicking [{ v := .iface 85 (.agg #[]), recovered := false }]) w fun e u' w' =>
      e = .returned (.tuple #[]) ∧ u' = .panicking [{ v := .iface 85 (.agg #[]), recovered := true }] ∧ w' = w := by
  have hta := Tryd.assert_yes
  refine callsD_of_wpS Tryd.func47 rfl fun c₀ cs hu => ?_
  apply wpS_seq
  apply wpS_region
  simp [wpOpsS, go_sem, recoverD, hu, Tryd.ntmps47, Exit.thenS]
  refine wpS_of_wp ?_
  go_wp2
  exact ⟨rfl, _, rfl, .tuple #[], by simp [results, Tryd.results47], rfl, rfl, rfl⟩

set_option maxHeartbeats 400000 in
theorem catch_nothing (w : World) :
    CallsD Tryd.prog 47 #[] .returning w fun e u' w' => e = .returned (.tuple #[]) ∧ u' = .returning ∧ w' = w := by
  have hta := Tryd.assert_nil
  refine callsD_of_wpS Tryd.func47 rfl fun c₀ cs hu => ?_
  apply wpS_seq
  apply wpS_region
  simp [wpOpsS, go_sem, recoverD, hu, Tryd.ntmps47, Exit.thenS]
  refine wpS_of_wp ?_
  go_wp2
  exact ⟨rfl, _, by rw [← hu], .tuple #[], by simp [results, Tryd.results47], rfl, rfl, rfl⟩

/-- What the inner reading of a tree does. -/
def InnerPost (n : Nat) (t : T n) (w : World) (e : Ending) (w' : World) : Prop :=
  Below w.heap.size w w' ∧ ((okT n t = true ∧ ∃ v, e = .returned v ∧ InnerIn (fun b => b < w'.heap.size) w' n t v) ∨ (okT n t = false ∧ e = .panicked refusal))

set_option maxHeartbeats 400000 in
theorem inner1_any (n : Nat) (t : T n) (c0 c1 c2 c3 c4 : Value) (c : Nat) (w : World) (ht : TreeIn (fun b => b < w.heap.size) w n t c0 c1 c2 c3 c4)
    (e0 : w.cell? ⟨c, 0, none⟩ = some c0) (e1 : w.cell? ⟨c, 1, none⟩ = some c1) (e2 : w.cell? ⟨c, 2, none⟩ = some c2) (e3 : w.cell? ⟨c, 3, none⟩ = some c3) (e4 : w.cell? ⟨c, 4, none⟩ = some c4) :
    Calls Tryd.prog 35 #[.pointer (some ⟨c, 0, none⟩)] w (InnerPost n t w) := by
  have hb0 := (Below.refl w.heap.size w).alloc (Nat.le_refl _) (.cells #[.int .i64 0, .int .i64 0] 64)
  have ht' := ht.keep (same_below hb0 (fun _ h => h)) (fun _ h => h)
  have hbnd : Bnd (w.alloc (.cells #[.int .i64 0, .int .i64 0] 64)) w.heap.size 0 0 := heap_alloc_new w _
  have hcl : c < w.heap.size := by
    have h := e0
    exact Classical.byContradiction fun hge => by
      have : w.heap[c]? = none := Array.getElem?_eq_none (by omega)
      simp [World.cell?, this] at h
  clear ht
  go_enter Tryd.func35, Tryd.ntmps35
  go_wp2_with fail
  refine (take_any n w.heap.size w.heap.size t c0 c1 c2 c3 c4 0 0 _ ht' (Nat.le_refl _) hbnd (by omega) (by omega) (by omega) (by omega)).mono ?_
  rintro e w1 ⟨hnear, ⟨hg, hc, v, rfl, hbnd1, hin⟩ | ⟨hbad, rfl⟩⟩
  · have hok : okT n t = true := by simp only [okT, Bool.and_eq_true, decide_eq_true_eq]; exact ⟨hg, by omega⟩
    have hz := hnear.size
    simp at hz
    have HP : Hid (InnerPost n t w (.returned v) w1) := ⟨hb0.trans (hnear.below (Nat.le_refl _) (by simp)), .inl ⟨hok, v, rfl, hin.keep (fun _ _ => rfl) (fun b hb => by rcases hb with hb | hb <;> omega)⟩⟩
    clear hnear hg hc hbnd1 hin hok
    go_wp2_with fail
    go_ret
    exact HP.out
  · have hok : okT n t = false := by
      rw [Bool.eq_false_iff]
      intro h
      simp only [okT, Bool.and_eq_true, decide_eq_true_eq] at h
      exact hbad ⟨h.1, by omega⟩
    exact ⟨rfl, hb0.trans (hnear.below (Nat.le_refl _) (by simp)), .inr ⟨hok, rfl⟩⟩

/-- What the face over it does. -/
def FacePost (n : Nat) (t : T n) (w : World) (e : Ending) (w' : World) : Prop :=
  Below w.heap.size w w' ∧ ((okT n t = true ∧ ∃ v, e = .returned (.tuple #[v, .bool true]) ∧ InnerIn (fun b => b < w'.heap.size) w' n t v) ∨ (okT n t = false ∧ e = .returned (.tuple #[.nilIface, .bool false])))

set_option maxHeartbeats 400000 in
theorem caught_any (n : Nat) (t : T n) (c0 c1 c2 c3 c4 : Value) (c : Nat) (w : World) (ht : TreeIn (fun b => b < w.heap.size) w n t c0 c1 c2 c3 c4)
    (e0 : w.cell? ⟨c, 0, none⟩ = some c0) (e1 : w.cell? ⟨c, 1, none⟩ = some c1) (e2 : w.cell? ⟨c, 2, none⟩ = some c2) (e3 : w.cell? ⟨c, 3, none⟩ = some c3) (e4 : w.cell? ⟨c, 4, none⟩ = some c4) :
    Calls Tryd.prog 25 #[.func (.func 35) #[] #[.pointer (some ⟨c, 0, none⟩)]] w (FacePost n t w) := by
  have HC : Hid (Calls Tryd.prog 35 #[.pointer (some ⟨c, 0, none⟩)] w (InnerPost n t w)) := inner1_any n t c0 c1 c2 c3 c4 c w ht e0 e1 e2 e3 e4
  clear ht e0 e1 e2 e3 e4
  go_enter_defers Tryd.func25, Tryd.ntmps25
  go_wp2_with fail
  refine HC.out.mono ?_
  rintro e w1 ⟨hb, ⟨hok, v, rfl, hin⟩ | ⟨hok, rfl⟩⟩
  · have HP : Hid (FacePost n t w (.returned (.tuple #[v, .bool true])) w1) := ⟨hb, .inl ⟨hok, v, rfl, hin⟩⟩
    clear hb hok hin HC
    go_wp2_with fail
    refine leaves_cons (f := 47) (args := #[]) (by simp) (by simp [go_sem]) ?_
    refine (catch_nothing _).mono ?_
    rintro e u' w'' ⟨rfl, rfl, rfl⟩
    exact ⟨.tuple #[v, .bool true], by simp [results, Tryd.results25, go_sem], HP.out⟩
  · refine leaves_cons (f := 47) (args := #[]) (by simp) (by simp [go_sem]) ?_
    refine (catch_refusal _).mono ?_
    rintro e u' w'' ⟨rfl, rfl, rfl⟩
    exact ⟨.tuple #[.nilIface, .bool false], by simp [results, Tryd.results25, go_sem], hb, .inr ⟨hok, rfl⟩⟩

set_option maxHeartbeats 400000 in
theorem innerTree_any (n : Nat) (S : Nat → Prop) (t : T n) (c0 c1 c2 c3 c4 : Value) (w : World) (ht : TreeIn S w n t c0 c1 c2 c3 c4) (hB : ∀ b, S b → b < w.heap.size) :
    Calls Tryd.prog 20 #[.agg #[c0, c1, c2, c3, c4]] w (FacePost n t w) := by
  have hmf : ∀ (fn : Fn) (first cap : Array Value) (w : World), (Instr.makeFunc fn first cap).run Tryd.prog w = .ok (.func fn first cap) w := fun _ _ _ _ => rfl
  obtain ⟨x0, x1, x2, xa, xl, xc, ya, yl, yc, rfl, rfl, rfl, rfl, rfl⟩ := ht.shape
  have hb0 := (Below.refl w.heap.size w).alloc (Nat.le_refl _) (.cells #[.int .i64 x0, .int .i64 x1, .string x2, .slice xa xl xc, .slice ya yl yc] 30)
  have ht' := ht.keep (S' := fun b => b < (w.alloc (.cells #[.int .i64 x0, .int .i64 x1, .string x2, .slice xa xl xc, .slice ya yl yc] 30)).heap.size) (same_below hb0 hB) (fun b hb => by have := hB b hb; simp; omega)
  have HC : Hid (Calls Tryd.prog 25 _ _ (FacePost n t _)) := caught_any n t _ _ _ _ _ w.heap.size _ ht' (by simp [go_sem]) (by simp [go_sem]) (by simp [go_sem]) (by simp [go_sem]) (by simp [go_sem])
  clear ht ht'
  go_enter Tryd.func20, Tryd.ntmps20
  go_wp2_with fail
  refine HC.out.mono ?_
  rintro e w1 ⟨hb, ⟨hok, v, rfl, hin⟩ | ⟨hok, rfl⟩⟩
  · have HP : Hid (FacePost n t w (.returned (.tuple #[v, .bool true])) w1) := ⟨below_step hb0 (by simp) hb, .inl ⟨hok, v, rfl, hin⟩⟩
    clear hb hok hin HC hb0
    go_wp2_with fail
    go_ret2
    exact HP.out
  · have HP : Hid (FacePost n t w (.returned (.tuple #[.nilIface, .bool false])) w1) := ⟨below_step hb0 (by simp) hb, .inr ⟨hok, rfl⟩⟩
    clear hb hok HC hb0
    go_wp2_with fail
    go_ret2
    exact HP.out

end Go.Proofs.YtbhemjedjnaajafDoor
