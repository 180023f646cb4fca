/-
  Several texts in one, in their order.
-/
import Derived.Test.YtlinplghgamgbaaGreatDoorKRd0
import Derived.Test.YtlinplghgamgbaaGreatDoorB8

/-
  The specification's reader of schemas: leaves; where nothing is read.
-/
namespace Go.Proofs.YtlinplghgamgbaaGreatDoor
open Go.RowKit

theorem leafK_in (S : Nat → Prop) (w : World) (m : Nat) (x : Int) (hx : (Lit.int .i64 x).wf = true) : KindIn S w (m + 1) (⟨x, [], []⟩ : Kd (K m)) (.int .i64 x) (.slice none 0 0) (.slice none 0 0) :=
  ⟨rfl, hx, ⟨none, 0, rfl, by simp [maxLen], fun s h => (by cases h), fun h => absurd rfl h⟩, ⟨none, 0, rfl, by simp [maxLen], fun h => absurd rfl h⟩⟩

theorem zeroK_cells {w : World} {N : Nat} (h : w.heap[N]? = some (.cells #[.int .i64 0, .slice none 0 0, .slice none 0 0] 70 (0, 0))) :
    (w.cell? ⟨N, 0, none⟩ = some (.int .i64 0) ∧ w.cell? ⟨N, 1, none⟩ = some (.slice none 0 0) ∧ w.cell? ⟨N, 2, none⟩ = some (.slice none 0 0)) ∧
      w.frozen? ⟨N, 0, none⟩ = false ∧ w.frozen? ⟨N, 1, none⟩ = false ∧ w.frozen? ⟨N, 2, none⟩ = false := by
  refine ⟨⟨?_, ?_, ?_⟩, ?_, ?_, ?_⟩ <;> simp [World.cell?, World.frozen?, h]

set_option maxRecDepth 20000 in
set_option maxHeartbeats 1000000 in
/-- Nothing is read: too deep, or bad before. -/
theorem l2_stop (n m R : Nat) (s : ByteArray) (i : Nat) (bad : Bool) (w : World) (h : RdS w R s i bad) (hb : bad = true ∨ n = 0) (hi : bad = false → i ≤ s.size) :
    Calls Tryz.prog 58 #[.pointer (some ⟨R, 0, none⟩), .int .i64 (7 - (n : Int))] w (ReadKPost (m + 1) n w R s i bad) := by
  have hR := h.lt
  have hG : GotK (m + 1) n s i bad (⟨0, [], []⟩ : Kd (K m)) i true := by
    refine ⟨Nat.le_refl _, fun h => (by cases h), fun hf => (by have := hi hf; omega), fun _ => rfl, fun t0 post hf he hg => ?_⟩
    rcases hb with hb | hb
    · rw [hb] at hf; cases hf
    · subst hb
      simp [goodK] at hg
  have HP : Hid (∀ o, ReadKPost (m + 1) n w R s i bad (.returned (.agg #[.int .i64 0, .slice none 0 0, .slice none 0 0])) ((w.setCell ⟨R, 2, none⟩ (.bool true)).alloc o)) := fun o =>
    ⟨(Near.set R 2 w _).trans (Near.alloc _ _ _), _, _, _, _, i, true, rfl, leafK_in _ _ m 0 rfl, (Below.heap_alloc _ _ _ (by simpa using hR)).trans (h.set2 true), hG⟩
  have c2 := h.cell2
  have fz := h.free 2
  have hdeep : bad = false → (6 : Int) < 7 - (n : Int) := fun hf => by
    rcases hb with hb | hb
    · rw [hb] at hf; cases hf
    · omega
  clear hG h
  cases bad with
  | true =>
    clear hdeep hi
    go_enter Tryz.func58, Tryz.ntmps58
    go_wp2_with fail
    refine bodyPost_ret (v := .agg #[.int .i64 0, .slice none 0 0, .slice none 0 0]) (by simp [results, Tryz.results58, go_sem]) rfl ?_
    exact HP.out _
  | false =>
    have hdp := hdeep rfl
    clear hdeep hi
    go_enter Tryz.func58, Tryz.ntmps58
    go_wp2_with fail
    refine bodyPost_ret (v := .agg #[.int .i64 0, .slice none 0 0, .slice none 0 0]) (by simp [results, Tryz.results58, go_sem]) rfl ?_
    exact HP.out _

set_option maxRecDepth 20000 in
set_option maxHeartbeats 1000000 in
theorem l2_num (n m R : Nat) (s : ByteArray) (i : Nat) (w : World) (h : RdS w R s i false) (hs : s.size ≤ 10000) (hi : i ≤ s.size) (hl : lookB s i = 110) :
    Calls Tryz.prog 58 #[.pointer (some ⟨R, 0, none⟩), .int .i64 (7 - ((n + 1 : Nat) : Int))] w (ReadKPost (m + 1) (n + 1) w R s i false) := by
  have hR := h.lt
  obtain ⟨W1, hW1⟩ : ∃ W1, W1 = w.alloc (.cells #[.int .i64 0, .slice none 0 0, .slice none 0 0] 70) := ⟨_, rfl⟩
  have hz1 : W1.heap.size = w.heap.size + 1 := by rw [hW1]; simp
  have hb1 : Below w.heap.size w W1 := by rw [hW1]; exact (Below.refl _ _).alloc (Nat.le_refl _) _
  have hzero : W1.heap[w.heap.size]? = some (.cells #[.int .i64 0, .slice none 0 0, .slice none 0 0] 70 (0, 0)) := by rw [hW1]; exact heap_alloc_new _ _
  have hr1 : RdS W1 R s i false := (hb1.block R hR).trans h
  have c2 := hr1.cell2
  rw [hW1] at c2
  have hdeep : ¬ (6 : Int) < 7 - ((n + 1 : Nat) : Int) := by omega
  have HL : Hid (Calls Tryz.prog 72 #[.pointer (some ⟨R, 0, none⟩)] W1 fun e w' => e = .returned (.int .u8 (((lookB s i).toNat : Nat) : Int)) ∧ Near R w w' ∧ RdS w' R s i false ∧ w'.heap.size = w.heap.size + 1 ∧ w'.heap[w.heap.size]? = some (.cells #[.int .i64 0, .slice none 0 0, .slice none 0 0] 70 (0, 0))) :=
    (look_any W1 R s i false hr1).mono fun e w' ⟨he, k, hk⟩ => by
      subst hk
      exact ⟨he, ((Near.of_below hb1).trans (Near.refl R W1)).drewN k, hr1.drewN k, hz1, hzero⟩
  have HLK : Hid (lookB s i = 110) := hl
  have hc : ((lookB s i).toNat : Nat) = 110 := by rw [hl]; rfl
  rw [hc] at HL
  clear hr1 hzero hb1 h hl hc
  generalize hdp : 7 - ((n + 1 : Nat) : Int) = dp at *
  go_enter Tryz.func58, Tryz.ntmps58
  go_wp2_with fail
  rw [← hW1]
  clear hW1 c2
  refine HL.out.mono ?_
  rintro e w2 ⟨rfl, hn2, hr2, hz2, hzero2⟩
  have HE : Hid (Calls Tryz.prog 73 #[.pointer (some ⟨R, 0, none⟩), .string ⟨#[110, 117, 109]⟩] w2 _) := eat_any w2 R s ⟨#[110, 117, 109]⟩ i false hr2 hs (by decide) hi
  clear HL hr2
  go_wp2_with fail
  refine HE.out.mono ?_
  rintro e w3 ⟨rfl, hn3, hor⟩
  have hz3 := hn3.size
  obtain ⟨⟨r0, r1, r2⟩, f0, f1, f2⟩ := zeroK_cells ((hn3.block w.heap.size (by omega) (by omega)).trans hzero2)
  have HP : Hid (ReadKPost (m + 1) (n + 1) w R s i false (.returned (.agg #[.int .i64 1, .slice none 0 0, .slice none 0 0])) (put3 w3 w.heap.size 0 (.int .i64 1) (.slice none 0 0) (.slice none 0 0))) := by
    rcases hor with ⟨q1, q2, q3⟩ | ⟨q1, q3⟩
    · exact rk_exit (hn2.trans hn3) hR q3 (leafK_in _ _ m 1 rfl) (leaf_got (x := ⟨#[110, 117, 109]⟩) hi (.inl ⟨q1, q2, rfl, rfl⟩) (by decide) (fun t0 post he hg => num_one HLK.out t0 post he hg))
    · exact rk_exit (hn2.trans hn3) hR q3 (leafK_in _ _ m 1 rfl) (leaf_got (x := ⟨#[110, 117, 109]⟩) hi (.inr ⟨q1, rfl, rfl⟩) (by decide) (fun t0 post he hg => num_one HLK.out t0 post he hg))
  clear HE hor hn3 hn2 hzero2
  go_wp2_with fail
  refine bodyPost_ret (v := .agg #[.int .i64 1, .slice none 0 0, .slice none 0 0]) (by simp [results, Tryz.results58, go_sem, r0, r1, r2]) rfl ?_
  exact HP.out

set_option maxRecDepth 20000 in
set_option maxHeartbeats 1000000 in
theorem l2_text (n m R : Nat) (s : ByteArray) (i : Nat) (w : World) (h : RdS w R s i false) (hs : s.size ≤ 10000) (hi : i ≤ s.size) (hl : lookB s i = 116) :
    Calls Tryz.prog 58 #[.pointer (some ⟨R, 0, none⟩), .int .i64 (7 - ((n + 1 : Nat) : Int))] w (ReadKPost (m + 1) (n + 1) w R s i false) := by
  have hR := h.lt
  obtain ⟨W1, hW1⟩ : ∃ W1, W1 = w.alloc (.cells #[.int .i64 0, .slice none 0 0, .slice none 0 0] 70) := ⟨_, rfl⟩
  have hz1 : W1.heap.size = w.heap.size + 1 := by rw [hW1]; simp
  have hb1 : Below w.heap.size w W1 := by rw [hW1]; exact (Below.refl _ _).alloc (Nat.le_refl _) _
  have hzero : W1.heap[w.heap.size]? = some (.cells #[.int .i64 0, .slice none 0 0, .slice none 0 0] 70 (0, 0)) := by rw [hW1]; exact heap_alloc_new _ _
  have hr1 : RdS W1 R s i false := (hb1.block R hR).trans h
  have c2 := hr1.cell2
  rw [hW1] at c2
  have hdeep : ¬ (6 : Int) < 7 - ((n + 1 : Nat) : Int) := by omega
  have HL : Hid (Calls Tryz.prog 72 #[.pointer (some ⟨R, 0, none⟩)] W1 fun e w' => e = .returned (.int .u8 (((lookB s i).toNat : Nat) : Int)) ∧ Near R w w' ∧ RdS w' R s i false ∧ w'.heap.size = w.heap.size + 1 ∧ w'.heap[w.heap.size]? = some (.cells #[.int .i64 0, .slice none 0 0, .slice none 0 0] 70 (0, 0))) :=
    (look_any W1 R s i false hr1).mono fun e w' ⟨he, k, hk⟩ => by
      subst hk
      exact ⟨he, ((Near.of_below hb1).trans (Near.refl R W1)).drewN k, hr1.drewN k, hz1, hzero⟩
  have HLK : Hid (lookB s i = 116) := hl
  have hc : ((lookB s i).toNat : Nat) = 116 := by rw [hl]; rfl
  rw [hc] at HL
  clear hr1 hzero hb1 h hl hc
  generalize hdp : 7 - ((n + 1 : Nat) : Int) = dp at *
  go_enter Tryz.func58, Tryz.ntmps58
  go_wp2_with fail
  rw [← hW1]
  clear hW1 c2
  refine HL.out.mono ?_
  rintro e w2 ⟨rfl, hn2, hr2, hz2, hzero2⟩
  have HE : Hid (Calls Tryz.prog 73 #[.pointer (some ⟨R, 0, none⟩), .string ⟨#[116, 101, 120, 116]⟩] w2 _) := eat_any w2 R s ⟨#[116, 101, 120, 116]⟩ i false hr2 hs (by decide) hi
  clear HL hr2
  go_wp2_with fail
  refine HE.out.mono ?_
  rintro e w3 ⟨rfl, hn3, hor⟩
  have hz3 := hn3.size
  obtain ⟨⟨r0, r1, r2⟩, f0, f1, f2⟩ := zeroK_cells ((hn3.block w.heap.size (by omega) (by omega)).trans hzero2)
  have HP : Hid (ReadKPost (m + 1) (n + 1) w R s i false (.returned (.agg #[.int .i64 2, .slice none 0 0, .slice none 0 0])) (put3 w3 w.heap.size 0 (.int .i64 2) (.slice none 0 0) (.slice none 0 0))) := by
    rcases hor with ⟨q1, q2, q3⟩ | ⟨q1, q3⟩
    · exact rk_exit (hn2.trans hn3) hR q3 (leafK_in _ _ m 2 rfl) (leaf_got (x := ⟨#[116, 101, 120, 116]⟩) hi (.inl ⟨q1, q2, rfl, rfl⟩) (by decide) (fun t0 post he hg => text_one HLK.out t0 post he hg))
    · exact rk_exit (hn2.trans hn3) hR q3 (leafK_in _ _ m 2 rfl) (leaf_got (x := ⟨#[116, 101, 120, 116]⟩) hi (.inr ⟨q1, rfl, rfl⟩) (by decide) (fun t0 post he hg => text_one HLK.out t0 post he hg))
  clear HE hor hn3 hn2 hzero2
  go_wp2_with fail
  refine bodyPost_ret (v := .agg #[.int .i64 2, .slice none 0 0, .slice none 0 0]) (by simp [results, Tryz.results58, go_sem, r0, r1, r2]) rfl ?_
  exact HP.out

set_option maxRecDepth 20000 in
set_option maxHeartbeats 1000000 in
theorem l2_flag (n m R : Nat) (s : ByteArray) (i : Nat) (w : World) (h : RdS w R s i false) (hs : s.size ≤ 10000) (hi : i ≤ s.size) (hl : lookB s i = 102) :
    Calls Tryz.prog 58 #[.pointer (some ⟨R, 0, none⟩), .int .i64 (7 - ((n + 1 : Nat) : Int))] w (ReadKPost (m + 1) (n + 1) w R s i false) := by
  have hR := h.lt
  obtain ⟨W1, hW1⟩ : ∃ W1, W1 = w.alloc (.cells #[.int .i64 0, .slice none 0 0, .slice none 0 0] 70) := ⟨_, rfl⟩
  have hz1 : W1.heap.size = w.heap.size + 1 := by rw [hW1]; simp
  have hb1 : Below w.heap.size w W1 := by rw [hW1]; exact (Below.refl _ _).alloc (Nat.le_refl _) _
  have hzero : W1.heap[w.heap.size]? = some (.cells #[.int .i64 0, .slice none 0 0, .slice none 0 0] 70 (0, 0)) := by rw [hW1]; exact heap_alloc_new _ _
  have hr1 : RdS W1 R s i false := (hb1.block R hR).trans h
  have c2 := hr1.cell2
  rw [hW1] at c2
  have hdeep : ¬ (6 : Int) < 7 - ((n + 1 : Nat) : Int) := by omega
  have HL : Hid (Calls Tryz.prog 72 #[.pointer (some ⟨R, 0, none⟩)] W1 fun e w' => e = .returned (.int .u8 (((lookB s i).toNat : Nat) : Int)) ∧ Near R w w' ∧ RdS w' R s i false ∧ w'.heap.size = w.heap.size + 1 ∧ w'.heap[w.heap.size]? = some (.cells #[.int .i64 0, .slice none 0 0, .slice none 0 0] 70 (0, 0))) :=
    (look_any W1 R s i false hr1).mono fun e w' ⟨he, k, hk⟩ => by
      subst hk
      exact ⟨he, ((Near.of_below hb1).trans (Near.refl R W1)).drewN k, hr1.drewN k, hz1, hzero⟩
  have HLK : Hid (lookB s i = 102) := hl
  have hc : ((lookB s i).toNat : Nat) = 102 := by rw [hl]; rfl
  rw [hc] at HL
  clear hr1 hzero hb1 h hl hc
  generalize hdp : 7 - ((n + 1 : Nat) : Int) = dp at *
  go_enter Tryz.func58, Tryz.ntmps58
  go_wp2_with fail
  rw [← hW1]
  clear hW1 c2
  refine HL.out.mono ?_
  rintro e w2 ⟨rfl, hn2, hr2, hz2, hzero2⟩
  have HE : Hid (Calls Tryz.prog 73 #[.pointer (some ⟨R, 0, none⟩), .string ⟨#[102, 108, 97, 103]⟩] w2 _) := eat_any w2 R s ⟨#[102, 108, 97, 103]⟩ i false hr2 hs (by decide) hi
  clear HL hr2
  go_wp2_with fail
  refine HE.out.mono ?_
  rintro e w3 ⟨rfl, hn3, hor⟩
  have hz3 := hn3.size
  obtain ⟨⟨r0, r1, r2⟩, f0, f1, f2⟩ := zeroK_cells ((hn3.block w.heap.size (by omega) (by omega)).trans hzero2)
  have HP : Hid (ReadKPost (m + 1) (n + 1) w R s i false (.returned (.agg #[.int .i64 3, .slice none 0 0, .slice none 0 0])) (put3 w3 w.heap.size 0 (.int .i64 3) (.slice none 0 0) (.slice none 0 0))) := by
    rcases hor with ⟨q1, q2, q3⟩ | ⟨q1, q3⟩
    · exact rk_exit (hn2.trans hn3) hR q3 (leafK_in _ _ m 3 rfl) (leaf_got (x := ⟨#[102, 108, 97, 103]⟩) hi (.inl ⟨q1, q2, rfl, rfl⟩) (by decide) (fun t0 post he hg => flag_one HLK.out t0 post he hg))
    · exact rk_exit (hn2.trans hn3) hR q3 (leafK_in _ _ m 3 rfl) (leaf_got (x := ⟨#[102, 108, 97, 103]⟩) hi (.inr ⟨q1, rfl, rfl⟩) (by decide) (fun t0 post he hg => flag_one HLK.out t0 post he hg))
  clear HE hor hn3 hn2 hzero2
  go_wp2_with fail
  refine bodyPost_ret (v := .agg #[.int .i64 3, .slice none 0 0, .slice none 0 0]) (by simp [results, Tryz.results58, go_sem, r0, r1, r2]) rfl ?_
  exact HP.out

end Go.Proofs.YtlinplghgamgbaaGreatDoor

/-
  The specification's reader of schemas: maybes and lists.
-/
namespace Go.Proofs.YtlinplghgamgbaaGreatDoor
open Go.RowKit

theorem oneK_in {S : Nat → Prop} {w : World} {m : Nat} {x : Int} {t : K m} {b c : Nat} {c0 c1 c2 : Value} (hx : (Lit.int .i64 x).wf = true) (hb : S b) (h0 : w.cell? ⟨b, 0, none⟩ = some c0) (h1 : w.cell? ⟨b, 1, none⟩ = some c1) (h2 : w.cell? ⟨b, 2, none⟩ = some c2) (ht : KindIn S w m t c0 c1 c2) :
    KindIn S w (m + 1) (⟨x, [], [t]⟩ : Kd (K m)) (.int .i64 x) (.slice none 0 0) (.slice (some ⟨b, 0, none⟩) 1 c) := by
  refine ⟨rfl, hx, ⟨none, 0, rfl, by simp [maxLen], fun s h => (by cases h), fun h => absurd rfl h⟩, ⟨some ⟨b, 0, none⟩, c, rfl, by simp [maxLen], fun _ => ⟨b, 0, rfl, hb, fun i hi => ?_⟩⟩⟩
  have : i = 0 := by simpa using hi
  subst this
  exact ⟨c0, c1, c2, by simpa using h0, by simpa using h1, by simpa using h2, ht⟩

set_option maxRecDepth 20000 in
set_option maxHeartbeats 1000000 in
theorem l2_maybe (n : Nat) (hn : ReadKSaid n) (m R : Nat) (s : ByteArray) (i : Nat) (w : World) (hm : n + 1 ≤ m) (hn6 : n ≤ 6) (h : RdS w R s i false) (hs : s.size ≤ 10000) (hi : i ≤ s.size) (hl : lookB s i = 63) :
    Calls Tryz.prog 58 #[.pointer (some ⟨R, 0, none⟩), .int .i64 (7 - ((n + 1 : Nat) : Int))] w (ReadKPost (m + 1) (n + 1) w R s i false) := by
  have hR := h.lt
  obtain ⟨W1, hW1⟩ : ∃ W1, W1 = w.alloc (.cells #[.int .i64 0, .slice none 0 0, .slice none 0 0] 70) := ⟨_, rfl⟩
  have hz1 : W1.heap.size = w.heap.size + 1 := by rw [hW1]; simp
  have hb1 : Below w.heap.size w W1 := by rw [hW1]; exact (Below.refl _ _).alloc (Nat.le_refl _) _
  have hzero : W1.heap[w.heap.size]? = some (.cells #[.int .i64 0, .slice none 0 0, .slice none 0 0] 70 (0, 0)) := by rw [hW1]; exact heap_alloc_new _ _
  have hr1 : RdS W1 R s i false := (hb1.block R hR).trans h
  have c2 := hr1.cell2
  rw [hW1] at c2
  have hdeep : ¬ (6 : Int) < 7 - ((n + 1 : Nat) : Int) := by omega
  have HL : Hid (Calls Tryz.prog 72 #[.pointer (some ⟨R, 0, none⟩)] W1 fun e w' => e = .returned (.int .u8 (((lookB s i).toNat : Nat) : Int)) ∧ Near R w w' ∧ RdS w' R s i false ∧ w'.heap.size = w.heap.size + 1 ∧ w'.heap[w.heap.size]? = some (.cells #[.int .i64 0, .slice none 0 0, .slice none 0 0] 70 (0, 0))) :=
    (look_any W1 R s i false hr1).mono fun e w' ⟨he, k, hk⟩ => by
      subst hk
      exact ⟨he, ((Near.of_below hb1).trans (Near.refl R W1)).drewN k, hr1.drewN k, hz1, hzero⟩
  have HLK : Hid (lookB s i = 63) := hl
  have HLE : Hid (_ ∧ _) := look_eat hl (by decide)
  have hc : ((lookB s i).toNat : Nat) = 63 := by rw [hl]; rfl
  rw [hc] at HL
  have hw6 : IntKind.i64.wrap (7 - ((n + 1 : Nat) : Int) + 1) = 7 - (n : Int) := by rw [IntKind.wrap_i64]; omega
  have HN : Hid (ReadKSaid n) := hn
  clear hr1 hzero hb1 h hl hc hn
  generalize hdp : 7 - ((n + 1 : Nat) : Int) = dp at *
  clear hdp
  go_enter Tryz.func58, Tryz.ntmps58
  go_wp2_with fail
  rw [← hW1]
  clear hW1 c2
  refine HL.out.mono ?_
  rintro e w2 ⟨rfl, hn2, hr2, hz2, hzero2⟩
  have HE : Hid (Calls Tryz.prog 73 #[.pointer (some ⟨R, 0, none⟩), .string ⟨#[63]⟩] w2 _) := eat_any w2 R s ⟨#[63]⟩ i false hr2 hs (by decide) hi
  clear HL hr2
  go_wp2_with fail
  refine HE.out.mono ?_
  rintro e w3 ⟨rfl, hn3, ⟨q1, q2, q3⟩ | ⟨q1, q3⟩⟩
  case inr =>
    have q1 : eatP [63] (s.data.toList.drop i) = none := q1
    rw [HLE.out.1] at q1
    cases q1
  have q3 : RdS w3 R s ((i + 1 : Nat) : Int) false := q3
  have hz3 := hn3.size
  have hzero3 := (hn3.block w.heap.size (by omega) (by omega)).trans hzero2
  have hn13 := hn2.trans hn3
  have hilt := HLE.out.2
  have HK : Hid (Calls Tryz.prog 58 #[.pointer (some ⟨R, 0, none⟩), .int .i64 (7 - (n : Int))] w3 (ReadKPost m n w3 R s (i + 1) false)) := HN.out m R s (i + 1) false w3 hm q3 hs (fun _ => by omega) (by omega)
  clear HE hn2 hn3 hzero2 q1 q2 q3 HN HLE
  go_wp2_with fail
  refine HK.out.mono ?_
  rintro e w4 ⟨hn4, t, d0, d1, d2, i1, bad1, rfl, ht, hr4, hG⟩
  obtain ⟨u0, ua, ul, uc, ya, yl, yc, rfl, rfl, rfl⟩ := ht.shape
  have hz4 := hn4.size
  have hzero4 := (hn4.block w.heap.size (by omega) (by omega)).trans hzero3
  have hn14 := hn13.trans hn4
  clear HK hzero3 hn13
  have hx5 := Box3.new w4 (.int .i64 u0) (.slice ua ul uc) (.slice ya yl yc) 70
  have hn5 : Near R w (w4.alloc (.cells #[.int .i64 u0, .slice ua ul uc, .slice ya yl yc] 70)) := hn14.trans (Near.alloc _ _ _)
  obtain ⟨⟨r0, r1, r2⟩, f0, f1, f2⟩ := zeroK_cells ((Below.heap_alloc w4 (.cells #[.int .i64 u0, .slice ua ul uc, .slice ya yl yc] 70) w.heap.size (by omega)).trans hzero4)
  have HP : Hid (ReadKPost (m + 1) (n + 1) w R s i false (.returned (.agg #[.int .i64 6, .slice none 0 0, .slice (some ⟨w4.heap.size, 0, none⟩) 1 1])) (put3 (w4.alloc (.cells #[.int .i64 u0, .slice ua ul uc, .slice ya yl yc] 70)) w.heap.size 0 (.int .i64 6) (.slice none 0 0) (.slice (some ⟨w4.heap.size, 0, none⟩) 1 1))) := by
    refine rk_exit hn5 hR ((Below.heap_alloc _ _ _ (by have := hr4.lt; omega)).trans hr4) (oneK_in (t := t) rfl ⟨by omega, by simp⟩ hx5.c0 hx5.c1 hx5.c2 ?_) (maybe_got HLK.out hG)
    exact ht.keep (fun b hb => Below.heap_alloc _ _ _ hb.2) (fun b hb => ⟨by omega, by simp; omega⟩)
  clear hr4 hG ht hx5 hn5 hzero4 hn14 hn4
  go_wp2_with fail
  refine bodyPost_ret (v := .agg #[.int .i64 6, .slice none 0 0, .slice (some ⟨w4.heap.size, 0, none⟩) 1 1]) (by simp [results, Tryz.results58, go_sem, r0, r1, r2]) rfl ?_
  exact HP.out

set_option maxRecDepth 20000 in
set_option maxHeartbeats 1000000 in
theorem l2_list (n : Nat) (hn : ReadKSaid n) (m R : Nat) (s : ByteArray) (i : Nat) (w : World) (hm : n + 1 ≤ m) (hn6 : n ≤ 6) (h : RdS w R s i false) (hs : s.size ≤ 10000) (hi : i ≤ s.size) (hl : lookB s i = 91) :
    Calls Tryz.prog 58 #[.pointer (some ⟨R, 0, none⟩), .int .i64 (7 - ((n + 1 : Nat) : Int))] w (ReadKPost (m + 1) (n + 1) w R s i false) := by
  have hR := h.lt
  obtain ⟨W1, hW1⟩ : ∃ W1, W1 = w.alloc (.cells #[.int .i64 0, .slice none 0 0, .slice none 0 0] 70) := ⟨_, rfl⟩
  have hz1 : W1.heap.size = w.heap.size + 1 := by rw [hW1]; simp
  have hb1 : Below w.heap.size w W1 := by rw [hW1]; exact (Below.refl _ _).alloc (Nat.le_refl _) _
  have hzero : W1.heap[w.heap.size]? = some (.cells #[.int .i64 0, .slice none 0 0, .slice none 0 0] 70 (0, 0)) := by rw [hW1]; exact heap_alloc_new _ _
  have hr1 : RdS W1 R s i false := (hb1.block R hR).trans h
  have c2 := hr1.cell2
  rw [hW1] at c2
  have hdeep : ¬ (6 : Int) < 7 - ((n + 1 : Nat) : Int) := by omega
  have HL : Hid (Calls Tryz.prog 72 #[.pointer (some ⟨R, 0, none⟩)] W1 fun e w' => e = .returned (.int .u8 (((lookB s i).toNat : Nat) : Int)) ∧ Near R w w' ∧ RdS w' R s i false ∧ w'.heap.size = w.heap.size + 1 ∧ w'.heap[w.heap.size]? = some (.cells #[.int .i64 0, .slice none 0 0, .slice none 0 0] 70 (0, 0))) :=
    (look_any W1 R s i false hr1).mono fun e w' ⟨he, k, hk⟩ => by
      subst hk
      exact ⟨he, ((Near.of_below hb1).trans (Near.refl R W1)).drewN k, hr1.drewN k, hz1, hzero⟩
  have HLK : Hid (lookB s i = 91) := hl
  have HLE : Hid (_ ∧ _) := look_eat hl (by decide)
  have hc : ((lookB s i).toNat : Nat) = 91 := by rw [hl]; rfl
  rw [hc] at HL
  have hw6 : IntKind.i64.wrap (7 - ((n + 1 : Nat) : Int) + 1) = 7 - (n : Int) := by rw [IntKind.wrap_i64]; omega
  have HN : Hid (ReadKSaid n) := hn
  clear hr1 hzero hb1 h hl hc hn
  generalize hdp : 7 - ((n + 1 : Nat) : Int) = dp at *
  clear hdp
  go_enter Tryz.func58, Tryz.ntmps58
  go_wp2_with fail
  rw [← hW1]
  clear hW1 c2
  refine HL.out.mono ?_
  rintro e w2 ⟨rfl, hn2, hr2, hz2, hzero2⟩
  have HE : Hid (Calls Tryz.prog 73 #[.pointer (some ⟨R, 0, none⟩), .string ⟨#[91]⟩] w2 _) := eat_any w2 R s ⟨#[91]⟩ i false hr2 hs (by decide) hi
  clear HL hr2
  go_wp2_with fail
  refine HE.out.mono ?_
  rintro e w3 ⟨rfl, hn3, ⟨q1, q2, q3⟩ | ⟨q1, q3⟩⟩
  case inr =>
    have q1 : eatP [91] (s.data.toList.drop i) = none := q1
    rw [HLE.out.1] at q1
    cases q1
  have q3 : RdS w3 R s ((i + 1 : Nat) : Int) false := q3
  have hz3 := hn3.size
  have hzero3 := (hn3.block w.heap.size (by omega) (by omega)).trans hzero2
  have hn13 := hn2.trans hn3
  have hilt := HLE.out.2
  have HK : Hid (Calls Tryz.prog 58 #[.pointer (some ⟨R, 0, none⟩), .int .i64 (7 - (n : Int))] w3 (ReadKPost m n w3 R s (i + 1) false)) := HN.out m R s (i + 1) false w3 hm q3 hs (fun _ => by omega) (by omega)
  clear HE hn2 hn3 hzero2 q1 q2 q3 HN HLE
  go_wp2_with fail
  refine HK.out.mono ?_
  rintro e w4 ⟨hn4, t, d0, d1, d2, i1, bad1, rfl, ht, hr4, hG⟩
  obtain ⟨u0, ua, ul, uc, ya, yl, yc, rfl, rfl, rfl⟩ := ht.shape
  have hz4 := hn4.size
  have hzero4 := (hn4.block w.heap.size (by omega) (by omega)).trans hzero3
  have hn14 := hn13.trans hn4
  clear HK hzero3 hn13
  obtain ⟨W5, hW5⟩ : ∃ W5, W5 = (w4.alloc (.cells #[.int .i64 u0, .slice ua ul uc, .slice ya yl yc] 70)).alloc (.cells #[.int .i64 4, .slice none 0 0, .slice (some ⟨w4.heap.size, 0, none⟩) 1 1] 70) := ⟨_, rfl⟩
  have hz5 : W5.heap.size = w4.heap.size + 2 := by rw [hW5]; simp
  have hb45 : Below w4.heap.size w4 W5 := by rw [hW5]; exact ((Below.refl _ _).alloc (Nat.le_refl _) _).alloc (by simp) _
  have hx5 : Box3 W5 w4.heap.size (.int .i64 u0) (.slice ua ul uc) (.slice ya yl yc) := by
    rw [hW5]; exact (Box3.new w4 (.int .i64 u0) (.slice ua ul uc) (.slice ya yl yc) 70).keep ((Below.refl _ _).alloc (Nat.le_refl _) _)
  have hy5 : Box3 W5 (w4.heap.size + 1) (.int .i64 4) (.slice none 0 0) (.slice (some ⟨w4.heap.size, 0, none⟩) 1 1) := by
    have := Box3.new (w4.alloc (.cells #[.int .i64 u0, .slice ua ul uc, .slice ya yl yc] 70)) (.int .i64 4) (.slice none 0 0) (.slice (some ⟨w4.heap.size, 0, none⟩) 1 1) 70
    rw [hW5]; simpa using this
  have hr5 : RdS W5 R s i1 bad1 := (hb45.block R hr4.lt).trans hr4
  have hR4 := hr4.lt
  obtain ⟨g1, g2, g3, g4, g5⟩ := id hG
  have g3 := g3 rfl
  have HG : Hid (GotK m n s (i + 1) false t i1 bad1) := hG
  have HE5 : Hid (Calls Tryz.prog 73 #[.pointer (some ⟨R, 0, none⟩), .string ⟨#[93]⟩] W5 fun e w' => e = .returned (.tuple #[]) ∧ Near R W5 w' ∧ ∃ (i' : Nat) (bad' : Bool), RdS w' R s i' bad' ∧ GotK (m + 1) (n + 1) s i false (⟨4, [], [t]⟩ : Kd (K m)) i' bad') := by
    by_cases hin : i1 ≤ s.size
    · refine (eat_any W5 R s ⟨#[93]⟩ i1 bad1 hr5 hs (by decide) hin).mono ?_
      rintro e w' ⟨rfl, hn, ⟨q1, q2, q3⟩ | ⟨q1, q3⟩⟩
      · exact ⟨rfl, hn, i1 + 1, bad1, q3, list_got HLK.out HG.out (.inl ⟨q1, q2, rfl, rfl⟩)⟩
      · exact ⟨rfl, hn, i1, true, q3, list_got HLK.out HG.out (.inr ⟨fun _ => q1, rfl, rfl⟩)⟩
    · refine (eat_far W5 R s ⟨#[93]⟩ i1 bad1 hr5 (by decide) (by have : (⟨#[93]⟩ : ByteArray).size = 1 := rfl; omega) (by omega)).mono ?_
      rintro e w' ⟨rfl, hn, q3⟩
      exact ⟨rfl, hn, i1, true, q3, list_got HLK.out HG.out (.inr ⟨fun hf => absurd (g2 hf).2.2 hin, rfl, rfl⟩)⟩
  have HT : Hid (KindIn (fun b => w3.heap.size ≤ b ∧ b < w4.heap.size) w4 m t (.int .i64 u0) (.slice ua ul uc) (.slice ya yl yc)) := ht
  clear hG hr4 hr5 ht g1 g2 g3 g4 g5
  go_wp2_with fail
  rw [← hW5]
  clear hW5
  refine HE5.out.mono ?_
  rintro e w6 ⟨rfl, hn6', i2, bad2, hr6, hG6⟩
  have hz6 := hn6'.size
  have y6 := hy5.c0
  have k0 : w6.cell? ⟨w4.heap.size + 1, 0, none⟩ = some (.int .i64 4) := (World.cell?_of_block (w := W5) (w' := w6) (a := ⟨w4.heap.size + 1, 0, none⟩) (hn6'.block (w4.heap.size + 1) (by omega) (by omega))).trans hy5.c0
  have k1 : w6.cell? ⟨w4.heap.size + 1, 1, none⟩ = some (.slice none 0 0) := (World.cell?_of_block (w := W5) (w' := w6) (a := ⟨w4.heap.size + 1, 1, none⟩) (hn6'.block (w4.heap.size + 1) (by omega) (by omega))).trans hy5.c1
  have k2 : w6.cell? ⟨w4.heap.size + 1, 2, none⟩ = some (.slice (some ⟨w4.heap.size, 0, none⟩) 1 1) := (World.cell?_of_block (w := W5) (w' := w6) (a := ⟨w4.heap.size + 1, 2, none⟩) (hn6'.block (w4.heap.size + 1) (by omega) (by omega))).trans hy5.c2
  obtain ⟨⟨r0, r1, r2⟩, f0, f1, f2⟩ := zeroK_cells ((hn6'.block w.heap.size (by omega) (by omega)).trans ((hb45.block _ (by omega)).trans hzero4))
  have HP : Hid (ReadKPost (m + 1) (n + 1) w R s i false (.returned (.agg #[.int .i64 4, .slice none 0 0, .slice (some ⟨w4.heap.size, 0, none⟩) 1 1])) (put3 w6 w.heap.size 0 (.int .i64 4) (.slice none 0 0) (.slice (some ⟨w4.heap.size, 0, none⟩) 1 1))) := by
    have hc : ∀ o, w6.cell? ⟨w4.heap.size, o, none⟩ = W5.cell? ⟨w4.heap.size, o, none⟩ := fun o => World.cell?_of_block (w := W5) (w' := w6) (a := ⟨w4.heap.size, o, none⟩) (hn6'.block w4.heap.size (by omega) (by omega))
    refine rk_exit ((hn14.trans (Near.of_below hb45)).trans hn6') hR hr6 (oneK_in (t := t) rfl ⟨by omega, by omega⟩ ((hc 0).trans hx5.c0) ((hc 1).trans hx5.c1) ((hc 2).trans hx5.c2) ?_) hG6
    refine HT.out.keep (fun b hb => ?_) (fun b hb => ⟨by omega, by omega⟩)
    rw [hn6'.block b (by omega) (by omega), hb45.block b hb.2]
  clear HE5 hn6' hr6 hG6 hx5 hy5 y6 hb45 hzero4 hn14 hn4 HT HG
  go_wp2_with fail
  refine bodyPost_ret (v := .agg #[.int .i64 4, .slice none 0 0, .slice (some ⟨w4.heap.size, 0, none⟩) 1 1]) (by simp [results, Tryz.results58, go_sem, r0, r1, r2]) rfl ?_
  exact HP.out

end Go.Proofs.YtlinplghgamgbaaGreatDoor
