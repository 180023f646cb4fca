/-
  The specification's reader of schemas: leaves; where nothing is read.
-/
import Derived.Test.YtkaannpoldenkagKRd0
import Derived.Test.YtkaannpoldenkagKAns
namespace Go.Proofs.Ytkaannpoldenkag
open Go.RowKit

theorem leafK_in (S : Nat → Prop) (w : World) (m : Nat) (x : Int) (hx : (Lit.int .i64 x).wf = true) : KindIn S w (m + 1) (⟨x, [], []⟩ : Kd (K m)) (.int .i64 x) (.slice none 0 0) (.slice none 0 0) :=
  ⟨rfl, hx, ⟨none, 0, rfl, by simp [maxLen], fun s h => (by cases h), fun h => absurd rfl h⟩, ⟨none, 0, rfl, by simp [maxLen], fun h => absurd rfl h⟩⟩

theorem zeroK_cells {w : World} {N : Nat} (h : w.heap[N]? = some (.cells #[.int .i64 0, .slice none 0 0, .slice none 0 0] 30 (0, 0))) :
    (w.cell? ⟨N, 0, none⟩ = some (.int .i64 0) ∧ w.cell? ⟨N, 1, none⟩ = some (.slice none 0 0) ∧ w.cell? ⟨N, 2, none⟩ = some (.slice none 0 0)) ∧
      w.frozen? ⟨N, 0, none⟩ = false ∧ w.frozen? ⟨N, 1, none⟩ = false ∧ w.frozen? ⟨N, 2, none⟩ = false := by
  refine ⟨⟨?_, ?_, ?_⟩, ?_, ?_, ?_⟩ <;> simp [World.cell?, World.frozen?, h]

set_option maxRecDepth 20000 in
set_option maxHeartbeats 1000000 in
/-- Nothing is read: too deep, or bad before. -/
theorem l2_stop (n m R : Nat) (s : ByteArray) (i : Nat) (bad : Bool) (w : World) (h : RdS w R s i bad) (hb : bad = true ∨ n = 0) (hi : bad = false → i ≤ s.size) :
    Calls Try.prog 35 #[.pointer (some ⟨R, 0, none⟩), .int .i64 (7 - (n : Int))] w (ReadKPost (m + 1) n w R s i bad) := by
  have hR := h.lt
  have hG : GotK (m + 1) n s i bad (⟨0, [], []⟩ : Kd (K m)) i true := by
    refine ⟨Nat.le_refl _, fun h => (by cases h), fun hf => (by have := hi hf; omega), fun _ => rfl, fun t0 post hf he hg => ?_⟩
    rcases hb with hb | hb
    · rw [hb] at hf; cases hf
    · subst hb
      simp [goodK] at hg
  have HP : Hid (∀ o, ReadKPost (m + 1) n w R s i bad (.returned (.agg #[.int .i64 0, .slice none 0 0, .slice none 0 0])) ((w.setCell ⟨R, 2, none⟩ (.bool true)).alloc o)) := fun o =>
    ⟨(Near.set R 2 w _).trans (Near.alloc _ _ _), _, _, _, _, i, true, rfl, leafK_in _ _ m 0 rfl, (Below.heap_alloc _ _ _ (by simpa using hR)).trans (h.set2 true), hG⟩
  have c2 := h.cell2
  have fz := h.free 2
  have hdeep : bad = false → (6 : Int) < 7 - (n : Int) := fun hf => by
    rcases hb with hb | hb
    · rw [hb] at hf; cases hf
    · omega
  clear hG h
  cases bad with
  | true =>
    clear hdeep hi
    go_enter Try.func35, Try.ntmps35
    go_wp2_with fail
    refine bodyPost_ret (v := .agg #[.int .i64 0, .slice none 0 0, .slice none 0 0]) (by simp [results, Try.results35, go_sem]) rfl ?_
    exact HP.out _
  | false =>
    have hdp := hdeep rfl
    clear hdeep hi
    go_enter Try.func35, Try.ntmps35
    go_wp2_with fail
    refine bodyPost_ret (v := .agg #[.int .i64 0, .slice none 0 0, .slice none 0 0]) (by simp [results, Try.results35, go_sem]) rfl ?_
    exact HP.out _

set_option maxRecDepth 20000 in
set_option maxHeartbeats 1000000 in
theorem l2_num (n m R : Nat) (s : ByteArray) (i : Nat) (w : World) (h : RdS w R s i false) (hs : s.size ≤ 10000) (hi : i ≤ s.size) (hl : lookB s i = 110) :
    Calls Try.prog 35 #[.pointer (some ⟨R, 0, none⟩), .int .i64 (7 - ((n + 1 : Nat) : Int))] w (ReadKPost (m + 1) (n + 1) w R s i false) := by
  have hR := h.lt
  obtain ⟨W1, hW1⟩ : ∃ W1, W1 = w.alloc (.cells #[.int .i64 0, .slice none 0 0, .slice none 0 0] 30) := ⟨_, rfl⟩
  have hz1 : W1.heap.size = w.heap.size + 1 := by rw [hW1]; simp
  have hb1 : Below w.heap.size w W1 := by rw [hW1]; exact (Below.refl _ _).alloc (Nat.le_refl _) _
  have hzero : W1.heap[w.heap.size]? = some (.cells #[.int .i64 0, .slice none 0 0, .slice none 0 0] 30 (0, 0)) := by rw [hW1]; exact heap_alloc_new _ _
  have hr1 : RdS W1 R s i false := (hb1.block R hR).trans h
  have c2 := hr1.cell2
  rw [hW1] at c2
  have hdeep : ¬ (6 : Int) < 7 - ((n + 1 : Nat) : Int) := by omega
  have HL : Hid (Calls Try.prog 61 #[.pointer (some ⟨R, 0, none⟩)] W1 fun e w' => e = .returned (.int .u8 (((lookB s i).toNat : Nat) : Int)) ∧ Near R w w' ∧ RdS w' R s i false ∧ w'.heap.size = w.heap.size + 1 ∧ w'.heap[w.heap.size]? = some (.cells #[.int .i64 0, .slice none 0 0, .slice none 0 0] 30 (0, 0))) :=
    (look_any W1 R s i false hr1).mono fun e w' ⟨he, k, hk⟩ => by
      subst hk
      exact ⟨he, ((Near.of_below hb1).trans (Near.refl R W1)).drewN k, hr1.drewN k, hz1, hzero⟩
  have HLK : Hid (lookB s i = 110) := hl
  have hc : ((lookB s i).toNat : Nat) = 110 := by rw [hl]; rfl
  rw [hc] at HL
  clear hr1 hzero hb1 h hl hc
  generalize hdp : 7 - ((n + 1 : Nat) : Int) = dp at *
  go_enter Try.func35, Try.ntmps35
  go_wp2_with fail
  rw [← hW1]
  clear hW1 c2
  refine HL.out.mono ?_
  rintro e w2 ⟨rfl, hn2, hr2, hz2, hzero2⟩
  have HE : Hid (Calls Try.prog 62 #[.pointer (some ⟨R, 0, none⟩), .string ⟨#[110, 117, 109]⟩] w2 _) := eat_any w2 R s ⟨#[110, 117, 109]⟩ i false hr2 hs (by decide) hi
  clear HL hr2
  go_wp2_with fail
  refine HE.out.mono ?_
  rintro e w3 ⟨rfl, hn3, hor⟩
  have hz3 := hn3.size
  obtain ⟨⟨r0, r1, r2⟩, f0, f1, f2⟩ := zeroK_cells ((hn3.block w.heap.size (by omega) (by omega)).trans hzero2)
  have HP : Hid (ReadKPost (m + 1) (n + 1) w R s i false (.returned (.agg #[.int .i64 1, .slice none 0 0, .slice none 0 0])) (put3 w3 w.heap.size 0 (.int .i64 1) (.slice none 0 0) (.slice none 0 0))) := by
    rcases hor with ⟨q1, q2, q3⟩ | ⟨q1, q3⟩
    · exact rk_exit (hn2.trans hn3) hR q3 (leafK_in _ _ m 1 rfl) (leaf_got (x := ⟨#[110, 117, 109]⟩) hi (.inl ⟨q1, q2, rfl, rfl⟩) (by decide) (fun t0 post he hg => num_one HLK.out t0 post he hg))
    · exact rk_exit (hn2.trans hn3) hR q3 (leafK_in _ _ m 1 rfl) (leaf_got (x := ⟨#[110, 117, 109]⟩) hi (.inr ⟨q1, rfl, rfl⟩) (by decide) (fun t0 post he hg => num_one HLK.out t0 post he hg))
  clear HE hor hn3 hn2 hzero2
  go_wp2_with fail
  refine bodyPost_ret (v := .agg #[.int .i64 1, .slice none 0 0, .slice none 0 0]) (by simp [results, Try.results35, go_sem, r0, r1, r2]) rfl ?_
  exact HP.out

set_option maxRecDepth 20000 in
set_option maxHeartbeats 1000000 in
theorem l2_text (n m R : Nat) (s : ByteArray) (i : Nat) (w : World) (h : RdS w R s i false) (hs : s.size ≤ 10000) (hi : i ≤ s.size) (hl : lookB s i = 116) :
    Calls Try.prog 35 #[.pointer (some ⟨R, 0, none⟩), .int .i64 (7 - ((n + 1 : Nat) : Int))] w (ReadKPost (m + 1) (n + 1) w R s i false) := by
  have hR := h.lt
  obtain ⟨W1, hW1⟩ : ∃ W1, W1 = w.alloc (.cells #[.int .i64 0, .slice none 0 0, .slice none 0 0] 30) := ⟨_, rfl⟩
  have hz1 : W1.heap.size = w.heap.size + 1 := by rw [hW1]; simp
  have hb1 : Below w.heap.size w W1 := by rw [hW1]; exact (Below.refl _ _).alloc (Nat.le_refl _) _
  have hzero : W1.heap[w.heap.size]? = some (.cells #[.int .i64 0, .slice none 0 0, .slice none 0 0] 30 (0, 0)) := by rw [hW1]; exact heap_alloc_new _ _
  have hr1 : RdS W1 R s i false := (hb1.block R hR).trans h
  have c2 := hr1.cell2
  rw [hW1] at c2
  have hdeep : ¬ (6 : Int) < 7 - ((n + 1 : Nat) : Int) := by omega
  have HL : Hid (Calls Try.prog 61 #[.pointer (some ⟨R, 0, none⟩)] W1 fun e w' => e = .returned (.int .u8 (((lookB s i).toNat : Nat) : Int)) ∧ Near R w w' ∧ RdS w' R s i false ∧ w'.heap.size = w.heap.size + 1 ∧ w'.heap[w.heap.size]? = some (.cells #[.int .i64 0, .slice none 0 0, .slice none 0 0] 30 (0, 0))) :=
    (look_any W1 R s i false hr1).mono fun e w' ⟨he, k, hk⟩ => by
      subst hk
      exact ⟨he, ((Near.of_below hb1).trans (Near.refl R W1)).drewN k, hr1.drewN k, hz1, hzero⟩
  have HLK : Hid (lookB s i = 116) := hl
  have hc : ((lookB s i).toNat : Nat) = 116 := by rw [hl]; rfl
  rw [hc] at HL
  clear hr1 hzero hb1 h hl hc
  generalize hdp : 7 - ((n + 1 : Nat) : Int) = dp at *
  go_enter Try.func35, Try.ntmps35
  go_wp2_with fail
  rw [← hW1]
  clear hW1 c2
  refine HL.out.mono ?_
  rintro e w2 ⟨rfl, hn2, hr2, hz2, hzero2⟩
  have HE : Hid (Calls Try.prog 62 #[.pointer (some ⟨R, 0, none⟩), .string ⟨#[116, 101, 120, 116]⟩] w2 _) := eat_any w2 R s ⟨#[116, 101, 120, 116]⟩ i false hr2 hs (by decide) hi
  clear HL hr2
  go_wp2_with fail
  refine HE.out.mono ?_
  rintro e w3 ⟨rfl, hn3, hor⟩
  have hz3 := hn3.size
  obtain ⟨⟨r0, r1, r2⟩, f0, f1, f2⟩ := zeroK_cells ((hn3.block w.heap.size (by omega) (by omega)).trans hzero2)
  have HP : Hid (ReadKPost (m + 1) (n + 1) w R s i false (.returned (.agg #[.int .i64 2, .slice none 0 0, .slice none 0 0])) (put3 w3 w.heap.size 0 (.int .i64 2) (.slice none 0 0) (.slice none 0 0))) := by
    rcases hor with ⟨q1, q2, q3⟩ | ⟨q1, q3⟩
    · exact rk_exit (hn2.trans hn3) hR q3 (leafK_in _ _ m 2 rfl) (leaf_got (x := ⟨#[116, 101, 120, 116]⟩) hi (.inl ⟨q1, q2, rfl, rfl⟩) (by decide) (fun t0 post he hg => text_one HLK.out t0 post he hg))
    · exact rk_exit (hn2.trans hn3) hR q3 (leafK_in _ _ m 2 rfl) (leaf_got (x := ⟨#[116, 101, 120, 116]⟩) hi (.inr ⟨q1, rfl, rfl⟩) (by decide) (fun t0 post he hg => text_one HLK.out t0 post he hg))
  clear HE hor hn3 hn2 hzero2
  go_wp2_with fail
  refine bodyPost_ret (v := .agg #[.int .i64 2, .slice none 0 0, .slice none 0 0]) (by simp [results, Try.results35, go_sem, r0, r1, r2]) rfl ?_
  exact HP.out

set_option maxRecDepth 20000 in
set_option maxHeartbeats 1000000 in
theorem l2_flag (n m R : Nat) (s : ByteArray) (i : Nat) (w : World) (h : RdS w R s i false) (hs : s.size ≤ 10000) (hi : i ≤ s.size) (hl : lookB s i = 102) :
    Calls Try.prog 35 #[.pointer (some ⟨R, 0, none⟩), .int .i64 (7 - ((n + 1 : Nat) : Int))] w (ReadKPost (m + 1) (n + 1) w R s i false) := by
  have hR := h.lt
  obtain ⟨W1, hW1⟩ : ∃ W1, W1 = w.alloc (.cells #[.int .i64 0, .slice none 0 0, .slice none 0 0] 30) := ⟨_, rfl⟩
  have hz1 : W1.heap.size = w.heap.size + 1 := by rw [hW1]; simp
  have hb1 : Below w.heap.size w W1 := by rw [hW1]; exact (Below.refl _ _).alloc (Nat.le_refl _) _
  have hzero : W1.heap[w.heap.size]? = some (.cells #[.int .i64 0, .slice none 0 0, .slice none 0 0] 30 (0, 0)) := by rw [hW1]; exact heap_alloc_new _ _
  have hr1 : RdS W1 R s i false := (hb1.block R hR).trans h
  have c2 := hr1.cell2
  rw [hW1] at c2
  have hdeep : ¬ (6 : Int) < 7 - ((n + 1 : Nat) : Int) := by omega
  have HL : Hid (Calls Try.prog 61 #[.pointer (some ⟨R, 0, none⟩)] W1 fun e w' => e = .returned (.int .u8 (((lookB s i).toNat : Nat) : Int)) ∧ Near R w w' ∧ RdS w' R s i false ∧ w'.heap.size = w.heap.size + 1 ∧ w'.heap[w.heap.size]? = some (.cells #[.int .i64 0, .slice none 0 0, .slice none 0 0] 30 (0, 0))) :=
    (look_any W1 R s i false hr1).mono fun e w' ⟨he, k, hk⟩ => by
      subst hk
      exact ⟨he, ((Near.of_below hb1).trans (Near.refl R W1)).drewN k, hr1.drewN k, hz1, hzero⟩
  have HLK : Hid (lookB s i = 102) := hl
  have hc : ((lookB s i).toNat : Nat) = 102 := by rw [hl]; rfl
  rw [hc] at HL
  clear hr1 hzero hb1 h hl hc
  generalize hdp : 7 - ((n + 1 : Nat) : Int) = dp at *
  go_enter Try.func35, Try.ntmps35
  go_wp2_with fail
  rw [← hW1]
  clear hW1 c2
  refine HL.out.mono ?_
  rintro e w2 ⟨rfl, hn2, hr2, hz2, hzero2⟩
  have HE : Hid (Calls Try.prog 62 #[.pointer (some ⟨R, 0, none⟩), .string ⟨#[102, 108, 97, 103]⟩] w2 _) := eat_any w2 R s ⟨#[102, 108, 97, 103]⟩ i false hr2 hs (by decide) hi
  clear HL hr2
  go_wp2_with fail
  refine HE.out.mono ?_
  rintro e w3 ⟨rfl, hn3, hor⟩
  have hz3 := hn3.size
  obtain ⟨⟨r0, r1, r2⟩, f0, f1, f2⟩ := zeroK_cells ((hn3.block w.heap.size (by omega) (by omega)).trans hzero2)
  have HP : Hid (ReadKPost (m + 1) (n + 1) w R s i false (.returned (.agg #[.int .i64 3, .slice none 0 0, .slice none 0 0])) (put3 w3 w.heap.size 0 (.int .i64 3) (.slice none 0 0) (.slice none 0 0))) := by
    rcases hor with ⟨q1, q2, q3⟩ | ⟨q1, q3⟩
    · exact rk_exit (hn2.trans hn3) hR q3 (leafK_in _ _ m 3 rfl) (leaf_got (x := ⟨#[102, 108, 97, 103]⟩) hi (.inl ⟨q1, q2, rfl, rfl⟩) (by decide) (fun t0 post he hg => flag_one HLK.out t0 post he hg))
    · exact rk_exit (hn2.trans hn3) hR q3 (leafK_in _ _ m 3 rfl) (leaf_got (x := ⟨#[102, 108, 97, 103]⟩) hi (.inr ⟨q1, rfl, rfl⟩) (by decide) (fun t0 post he hg => flag_one HLK.out t0 post he hg))
  clear HE hor hn3 hn2 hzero2
  go_wp2_with fail
  refine bodyPost_ret (v := .agg #[.int .i64 3, .slice none 0 0, .slice none 0 0]) (by simp [results, Try.results35, go_sem, r0, r1, r2]) rfl ?_
  exact HP.out

end Go.Proofs.Ytkaannpoldenkag
