/-
  The specification on upcasters' nodes: whether a node is ok but for its kids.
-/
import Derived.Test.YtlinplghgamgbaaGreatDoorB20
import Derived.Test.YtlinplghgamgbaaGreatDoorSL2
import Derived.Test.YtlinplghgamgbaaGreatDoorB3
import Derived.Test.YtlinplghgamgbaaGreatDoorKRd4
import Derived.Test.YtlinplghgamgbaaGreatDoorB22
import Derived.BigQuiet
import Derived.Deep.RegionHeld
namespace Go.Proofs.YtlinplghgamgbaaGreatDoor
open Go.RowKit

theorem alone_no {α : Type} (n : Nd α) (act : Bool) (h : ¬ ((1 ≤ n.sort ∧ n.sort ≤ 43) ∧ act = decide (36 ≤ n.sort))) : aloneS n act = false := by
  unfold aloneS
  by_cases h1 : 1 ≤ n.sort ∧ n.sort ≤ 43
  · have h2 : (act == decide (36 ≤ n.sort)) = false := by
      rw [Bool.eq_false_iff]; intro e; exact h ⟨h1, by simpa using e⟩
    rw [h2]; simp
  · rw [decide_eq_false h1]; rfl

set_option maxRecDepth 20000 in
set_option maxHeartbeats 1000000 in
theorem l11Alone_no (m : Nat) (n : Nd (T m)) (na ka : Option Addr) (nc kc : Nat) (act : Bool) (w : World) (h : ¬ ((1 ≤ n.sort ∧ n.sort ≤ 43) ∧ act = decide (36 ≤ n.sort))) :
    Calls Tryz.prog 34 #[.agg #[.int .i64 n.sort, .int .i64 n.num, .string n.text, .slice na n.names.length nc, .slice ka n.kids.length kc], .bool act] w fun e w' => e = .returned (.bool (aloneS n act)) ∧ Below w.heap.size w w' := by
  have hb0 := (Below.refl w.heap.size w).alloc (Nat.le_refl _) (.cells #[.int .i64 n.sort, .int .i64 n.num, .string n.text, .slice na n.names.length nc, .slice ka n.kids.length kc] 30)
  have HA := hidF (alone_no n act h)
  have HIn : Hid (∀ w, Calls Tryz.prog 45 #[.int .i64 n.sort, .int .i64 1, .int .i64 43] w _) := fun w => l6In_any n.sort 1 43 w
  by_cases h1 : 1 ≤ n.sort ∧ n.sort ≤ 43
  · have h2 : ¬ act = decide (36 ≤ n.sort) := fun e => h ⟨h1, e⟩
    rw [decide_eq_true h1] at HIn
    clear h h1
    generalize n.sort = s at *
    by_cases h36 : 36 ≤ s
    · rw [decide_eq_true h36] at h2
      have hd : decide (36 ≤ s) = true := decide_eq_true h36
      obtain rfl : act = false := by cases act <;> simp_all
      go_enter Tryz.func34, Tryz.ntmps34
      go_wp2_with fail
      refine (HIn.out _).mono ?_
      rintro e w1 ⟨rfl, rfl⟩
      go_wp2_with fail
      go_ret
      exact ⟨bool_ret HA.out.symm, hb0⟩
    · rw [decide_eq_false h36] at h2
      have hd : decide (36 ≤ s) = false := decide_eq_false h36
      obtain rfl : act = true := by cases act <;> simp_all
      go_enter Tryz.func34, Tryz.ntmps34
      go_wp2_with fail
      refine (HIn.out _).mono ?_
      rintro e w1 ⟨rfl, rfl⟩
      go_wp2_with fail
      go_ret
      exact ⟨bool_ret HA.out.symm, hb0⟩
  · rw [decide_eq_false h1] at HIn
    clear h h1
    go_enter Tryz.func34, Tryz.ntmps34
    go_wp2_with fail
    refine (HIn.out _).mono ?_
    rintro e w1 ⟨rfl, rfl⟩
    go_wp2_with fail
    go_ret
    exact ⟨bool_ret HA.out.symm, hb0⟩

set_option maxRecDepth 20000 in
set_option maxHeartbeats 1000000 in
theorem l11Alone_form (S : Nat → Prop) (m : Nat) (num : Int) (text : ByteArray) (names : List ByteArray) (kids : List (T m)) (na ka : Option Addr) (nc kc : Nat) (w : World) (h3 : StrsIn S w names (.slice na names.length nc)) (hB : ∀ b, S b → b < w.heap.size) :
    Calls Tryz.prog 34 #[.agg #[.int .i64 24, .int .i64 num, .string text, .slice na names.length nc, .slice ka kids.length kc], .bool false] w fun e w' => e = .returned (.bool ((num == 0) && text.toList.isEmpty && riseB names && (names.length == kids.length) && !(names.any (fun y => y == bs [101, 110, 100])))) ∧ Below w.heap.size w w' := by
  have hb0 := (Below.refl w.heap.size w).alloc (Nat.le_refl _) (.cells #[.int .i64 24, .int .i64 num, .string text, .slice na names.length nc, .slice ka kids.length kc] 30)
  have h3' := h3.keep (same_below hb0 hB) (fun _ h => h)
  have HIn : Hid (∀ w, Calls Tryz.prog 45 #[.int .i64 24, .int .i64 1, .int .i64 43] w _) := fun w => l6In_any 24 1 43 w
  have HR : Hid (Calls Tryz.prog 46 _ _ _) := l1Rise_any S names _ _ h3' (fun b hb => Nat.lt_of_lt_of_le (hB b hb) hb0.size)
  have HH : Hid (∀ w1, Below w.heap.size w w1 → Calls Tryz.prog 47 #[.slice na names.length nc, .string (bs [101, 110, 100])] w1 _) := fun w1 hb1 => l6Has_any S names _ (bs [101, 110, 100]) w1 (h3.keep (same_below hb1 hB) (fun _ h => h))
  have HX : Hid (∀ w1, Below (w.alloc (.cells #[.int .i64 24, .int .i64 num, .string text, .slice na names.length nc, .slice ka kids.length kc] 30)).heap.size (w.alloc (.cells #[.int .i64 24, .int .i64 num, .string text, .slice na names.length nc, .slice ka kids.length kc] 30)) w1 → Below w.heap.size w w1 ∧ w1.cell? ⟨w.heap.size, 3, none⟩ = some (.slice na names.length nc) ∧ w1.cell? ⟨w.heap.size, 4, none⟩ = some (.slice ka kids.length kc)) := by
    intro w1 hb1
    have h5 := five_of ((hb1.block w.heap.size (by simp)).trans (heap_alloc_last w _))
    exact ⟨below_step hb0 (by simp) hb1, h5.2.2.2.1, h5.2.2.2.2⟩
  have hie : ((names.length : Int) == (kids.length : Int)) = (names.length == kids.length) := by
    by_cases h : names.length = kids.length
    · rw [h]; simp
    · have h2 : ¬ (names.length : Int) = (kids.length : Int) := by omega
      rw [beq_eq_false_iff_ne.2 h, beq_eq_false_iff_ne.2 h2]
  have hem : (text.toList == []) = text.toList.isEmpty := by cases text.toList <;> rfl
  clear h3 h3'
  generalize riseB names = ri at *
  generalize (names.any (fun y => y == bs [101, 110, 100])) = ha at *
  generalize (names.length == kids.length) = le at *
  generalize text.toList.isEmpty = em at *
  generalize hnz : (num == 0) = nz at *
  by_cases h0 : nz = true
  · subst h0
    cases em with
    | false =>
      go_enter Tryz.func34, Tryz.ntmps34
      go_wp2_with fail
      refine (HIn.out _).mono ?_
      rintro e w1 ⟨rfl, rfl⟩
      go_wp2_with fail
      go_ret
      exact ⟨bool_ret (by simp), hb0⟩
    | true =>
      cases ri with
      | false =>
        go_enter Tryz.func34, Tryz.ntmps34
        go_wp2_with fail
        refine (HIn.out _).mono ?_
        rintro e w1 ⟨rfl, rfl⟩
        go_wp2_with fail
        refine HR.out.mono ?_
        rintro e w1 ⟨rfl, hb1⟩
        obtain ⟨hb2, z3, z4⟩ := HX.out w1 hb1
        clear hb1
        go_wp2_with fail
        go_ret
        exact ⟨bool_ret (by simp), hb2⟩
      | true =>
        cases le with
        | false =>
          go_enter Tryz.func34, Tryz.ntmps34
          go_wp2_with fail
          refine (HIn.out _).mono ?_
          rintro e w1 ⟨rfl, rfl⟩
          go_wp2_with fail
          refine HR.out.mono ?_
          rintro e w1 ⟨rfl, hb1⟩
          obtain ⟨hb2, z3, z4⟩ := HX.out w1 hb1
          clear hb1
          go_wp2_with fail
          go_ret
          exact ⟨bool_ret (by simp), hb2⟩
        | true =>
          go_enter Tryz.func34, Tryz.ntmps34
          go_wp2_with fail
          refine (HIn.out _).mono ?_
          rintro e w1 ⟨rfl, rfl⟩
          go_wp2_with fail
          refine HR.out.mono ?_
          rintro e w1 ⟨rfl, hb1⟩
          obtain ⟨hb2, z3, z4⟩ := HX.out w1 hb1
          clear hb1
          go_wp2_with fail
          refine (HH.out _ hb2).mono ?_
          rintro e w2 ⟨rfl, rfl⟩
          go_wp2_with fail
          go_ret
          exact ⟨bool_ret (by simp), hb2⟩
  · obtain rfl : nz = false := by simpa using h0
    go_enter Tryz.func34, Tryz.ntmps34
    go_wp2_with fail
    refine (HIn.out _).mono ?_
    rintro e w1 ⟨rfl, rfl⟩
    go_wp2_with fail
    go_ret
    exact ⟨bool_ret (by simp), hb0⟩

end Go.Proofs.YtlinplghgamgbaaGreatDoor
