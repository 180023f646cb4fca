/-
  The specification's reader of trees: leaves; where nothing is read.
-/
import Derived.Test.YtjnhklacadbpoaaGreatDoorB11
namespace Go.Proofs.YtjnhklacadbpoaaGreatDoor
open Go.RowKit

theorem zeroT_cells {w : World} {N : Nat} (h : w.heap[N]? = some (.cells #[.int .i64 0, .int .i64 0, .string ⟨#[]⟩, .slice none 0 0, .slice none 0 0] 26 (0, 0))) :
    (w.cell? ⟨N, 0, none⟩ = some (.int .i64 0) ∧ w.cell? ⟨N, 1, none⟩ = some (.int .i64 0) ∧ w.cell? ⟨N, 2, none⟩ = some (.string ⟨#[]⟩) ∧ w.cell? ⟨N, 3, none⟩ = some (.slice none 0 0) ∧ w.cell? ⟨N, 4, none⟩ = some (.slice none 0 0)) ∧
      w.frozen? ⟨N, 0, none⟩ = false ∧ w.frozen? ⟨N, 1, none⟩ = false ∧ w.frozen? ⟨N, 2, none⟩ = false ∧ w.frozen? ⟨N, 3, none⟩ = false ∧ w.frozen? ⟨N, 4, none⟩ = false := by
  refine ⟨⟨?_, ?_, ?_, ?_, ?_⟩, ?_, ?_, ?_, ?_, ?_⟩ <;> simp [World.cell?, World.frozen?, h]

theorem leafT_in (S : Nat → Prop) (w : World) (m : Nat) (x v : Int) (tx : ByteArray) (hx : (Lit.int .i64 x).wf = true) (hv : (Lit.int .i64 v).wf = true) (ht : tx.size ≤ 10000) : TreeIn S w (m + 1) (⟨x, v, tx, [], []⟩ : Nd (T m)) (.int .i64 x) (.int .i64 v) (.string tx) (.slice none 0 0) (.slice none 0 0) :=
  ⟨rfl, rfl, rfl, by show tx.size ≤ _; unfold maxLen; omega, hx, hv, ⟨none, 0, rfl, by simp [maxLen], fun s h => (by cases h), fun h => absurd rfl h⟩, ⟨none, 0, rfl, by simp [maxLen], fun h => absurd rfl h⟩⟩

theorem wfT (x : Int) (h0 : -9999999999 ≤ x) (h1 : x ≤ 9999999999) : (Lit.int .i64 x).wf = true := by
  simp only [Lit.wf, Bool.and_eq_true, decide_eq_true_eq]
  have a : IntKind.i64.min = -9223372036854775808 := by rfl
  have b : IntKind.i64.max = 9223372036854775807 := by rfl
  rw [a, b]; omega

theorem rt_exit {m n R i i' : Nat} {s : ByteArray} {bad bad' : Bool} {w W : World} {t : T m} {g0 g1 g2 g3 g4 : Value} (hn : Near R w W) (hR : R < w.heap.size) (hr : RdS W R s i' bad') (hk : TreeIn (fun b => w.heap.size + 1 ≤ b ∧ b < W.heap.size) W m t g0 g1 g2 g3 g4) (hg : GotT m n s i bad t i' bad') :
    ReadPost m n w R s i bad (.returned (.agg #[g0, g1, g2, g3, g4])) (put5 W w.heap.size 0 g0 g1 g2 g3 g4) := by
  have q : ∀ b, b ≠ w.heap.size → (put5 W w.heap.size 0 g0 g1 g2 g3 g4).heap[b]? = W.heap[b]? := fun b h => put5_other h
  have hz : (put5 W w.heap.size 0 g0 g1 g2 g3 g4).heap.size = W.heap.size := put5_size
  have hbl : Below 0 W (put5 W w.heap.size 0 g0 g1 g2 g3 g4) := put5_below (Below.refl 0 W) (Nat.zero_le _)
  exact ⟨⟨hbl.os.trans hn.os, hbl.tape.trans hn.tape, hbl.output.trans hn.output, by rw [hz]; exact hn.size, fun b hb hne => (q b (by omega)).trans (hn.block b hb hne)⟩, t, _, _, _, _, _, i', bad', rfl, hk.keep (fun b hb => q b (by omega)) (fun b hb => ⟨by omega, by rw [hz]; exact hb.2⟩), (q R (by omega)).trans hr, hg⟩

set_option maxRecDepth 20000 in
set_option maxHeartbeats 1000000 in
/-- Nothing is read: too deep, or bad before. -/
theorem l1_stop (n m R : Nat) (s : ByteArray) (i : Nat) (bad : Bool) (w : World) (h : RdS w R s i bad) (hb : bad = true ∨ n = 0) (hi : bad = false → i ≤ s.size) :
    Calls Tryz.prog 36 #[.pointer (some ⟨R, 0, none⟩), .int .i64 (7 - (n : Int))] w (ReadPost (m + 1) n w R s i bad) := by
  have hR := h.lt
  have hG : GotT (m + 1) n s i bad (⟨0, 0, ⟨#[]⟩, [], []⟩ : Nd (T m)) i true := by
    refine ⟨Nat.le_refl _, fun h => (by cases h), fun hf => (by have := hi hf; omega), fun _ => rfl, fun t0 post hf he hg _ => ?_⟩
    rcases hb with hb | hb
    · rw [hb] at hf; cases hf
    · subst hb
      simp [goodT] at hg
  have HP : Hid (∀ o, ReadPost (m + 1) n w R s i bad (.returned (.agg #[.int .i64 0, .int .i64 0, .string ⟨#[]⟩, .slice none 0 0, .slice none 0 0])) ((w.setCell ⟨R, 2, none⟩ (.bool true)).alloc o)) := fun o =>
    ⟨(Near.set R 2 w _).trans (Near.alloc _ _ _), _, _, _, _, _, _, i, true, rfl, leafT_in _ _ m 0 0 _ rfl rfl (by decide), (Below.heap_alloc _ _ _ (by simpa using hR)).trans (h.set2 true), hG⟩
  have c2 := h.cell2
  have fz := h.free 2
  have hdeep : bad = false → (6 : Int) < 7 - (n : Int) := fun hf => by
    rcases hb with hb | hb
    · rw [hb] at hf; cases hf
    · omega
  clear hG h
  cases bad with
  | true =>
    clear hdeep hi
    go_enter Tryz.func36, Tryz.ntmps36
    go_wp2_with fail
    refine bodyPost_ret (v := .agg #[.int .i64 0, .int .i64 0, .string ⟨#[]⟩, .slice none 0 0, .slice none 0 0]) (by simp [results, Tryz.results36, go_sem]) rfl ?_
    exact HP.out _
  | false =>
    have hdp := hdeep rfl
    clear hdeep hi
    go_enter Tryz.func36, Tryz.ntmps36
    go_wp2_with fail
    refine bodyPost_ret (v := .agg #[.int .i64 0, .int .i64 0, .string ⟨#[]⟩, .slice none 0 0, .slice none 0 0]) (by simp [results, Tryz.results36, go_sem]) rfl ?_
    exact HP.out _

set_option maxRecDepth 20000 in
set_option maxHeartbeats 2000000 in
theorem l1_yes (n m R : Nat) (s : ByteArray) (i : Nat) (w : World) (h : RdS w R s i false) (hs : s.size ≤ 10000) (hi : i ≤ s.size) (hl : lookB s i = 121) :
    Calls Tryz.prog 36 #[.pointer (some ⟨R, 0, none⟩), .int .i64 (7 - ((n + 1 : Nat) : Int))] w (ReadPost (m + 1) (n + 1) w R s i false) := by
  have hR := h.lt
  obtain ⟨W1, hW1⟩ : ∃ W1, W1 = w.alloc (.cells #[.int .i64 0, .int .i64 0, .string ⟨#[]⟩, .slice none 0 0, .slice none 0 0] 26) := ⟨_, rfl⟩
  have hz1 : W1.heap.size = w.heap.size + 1 := by rw [hW1]; simp
  have hb1 : Below w.heap.size w W1 := by rw [hW1]; exact (Below.refl _ _).alloc (Nat.le_refl _) _
  have hzero : W1.heap[w.heap.size]? = some (.cells #[.int .i64 0, .int .i64 0, .string ⟨#[]⟩, .slice none 0 0, .slice none 0 0] 26 (0, 0)) := by rw [hW1]; exact heap_alloc_new _ _
  have hr1 : RdS W1 R s i false := (hb1.block R hR).trans h
  have c2 := hr1.cell2
  rw [hW1] at c2
  have hdeep : ¬ (6 : Int) < 7 - ((n + 1 : Nat) : Int) := by omega
  have HL : Hid (Calls Tryz.prog 75 #[.pointer (some ⟨R, 0, none⟩)] W1 fun e w' => e = .returned (.int .u8 (((lookB s i).toNat : Nat) : Int)) ∧ Near R w w' ∧ RdS w' R s i false ∧ w'.heap.size = w.heap.size + 1 ∧ w'.heap[w.heap.size]? = some (.cells #[.int .i64 0, .int .i64 0, .string ⟨#[]⟩, .slice none 0 0, .slice none 0 0] 26 (0, 0))) :=
    (look_any W1 R s i false hr1).mono fun e w' ⟨he, k, hk⟩ => by
      subst hk
      exact ⟨he, ((Near.of_below hb1).trans (Near.refl R W1)).drewN k, hr1.drewN k, hz1, hzero⟩
  have HLK : Hid (lookB s i = 121) := hl
  have hc : ((lookB s i).toNat : Nat) = 121 := by rw [hl]; rfl
  rw [hc] at HL
  clear hr1 hzero hb1 h hl hc
  generalize hdp : 7 - ((n + 1 : Nat) : Int) = dp at *
  clear hdp
  go_enter Tryz.func36, Tryz.ntmps36
  go_wp2_with fail
  rw [← hW1]
  clear hW1 c2
  refine HL.out.mono ?_
  rintro e w2 ⟨rfl, hn2, hr2, hz2, hzero2⟩
  have HE : Hid (Calls Tryz.prog 77 #[.pointer (some ⟨R, 0, none⟩), .string ⟨#[121, 101, 115]⟩] w2 _) := eat_any w2 R s ⟨#[121, 101, 115]⟩ i false hr2 hs (by decide) hi
  clear HL hr2
  go_wp2_with fail
  refine HE.out.mono ?_
  rintro e w3 ⟨rfl, hn3, hor⟩
  have hz3 := hn3.size
  obtain ⟨⟨r0, r1, r2, r3, r4⟩, f0, f1, f2, f3, f4⟩ := zeroT_cells ((hn3.block w.heap.size (by omega) (by omega)).trans hzero2)
  have HP : Hid (ReadPost (m + 1) (n + 1) w R s i false (.returned (.agg #[.int .i64 3, .int .i64 1, .string ⟨#[]⟩, .slice none 0 0, .slice none 0 0])) (put5 w3 w.heap.size 0 (.int .i64 3) (.int .i64 1) (.string ⟨#[]⟩) (.slice none 0 0) (.slice none 0 0))) := by
    rcases hor with ⟨q1, q2, q3⟩ | ⟨q1, q3⟩
    · exact rt_exit (hn2.trans hn3) hR q3 (leafT_in _ _ m 3 1 _ rfl rfl (by decide)) (word_got (x := ⟨#[121, 101, 115]⟩) hi (.inl ⟨q1, q2, rfl, rfl⟩) (by decide) (fun t0 post he hg => yes_one HLK.out t0 post he hg))
    · exact rt_exit (hn2.trans hn3) hR q3 (leafT_in _ _ m 3 1 _ rfl rfl (by decide)) (word_got (x := ⟨#[121, 101, 115]⟩) hi (.inr ⟨q1, rfl, rfl⟩) (by decide) (fun t0 post he hg => yes_one HLK.out t0 post he hg))
  clear HE hor hn3 hn2 hzero2
  go_wp2_with fail
  refine bodyPost_ret (v := .agg #[.int .i64 3, .int .i64 1, .string ⟨#[]⟩, .slice none 0 0, .slice none 0 0]) (by simp [results, Tryz.results36, go_sem, r0, r1, r2, r3, r4]) rfl ?_
  exact HP.out

set_option maxRecDepth 20000 in
set_option maxHeartbeats 2000000 in
theorem l1_no (n m R : Nat) (s : ByteArray) (i : Nat) (w : World) (h : RdS w R s i false) (hs : s.size ≤ 10000) (hi : i ≤ s.size) (hl : lookB s i = 110) :
    Calls Tryz.prog 36 #[.pointer (some ⟨R, 0, none⟩), .int .i64 (7 - ((n + 1 : Nat) : Int))] w (ReadPost (m + 1) (n + 1) w R s i false) := by
  have hR := h.lt
  obtain ⟨W1, hW1⟩ : ∃ W1, W1 = w.alloc (.cells #[.int .i64 0, .int .i64 0, .string ⟨#[]⟩, .slice none 0 0, .slice none 0 0] 26) := ⟨_, rfl⟩
  have hz1 : W1.heap.size = w.heap.size + 1 := by rw [hW1]; simp
  have hb1 : Below w.heap.size w W1 := by rw [hW1]; exact (Below.refl _ _).alloc (Nat.le_refl _) _
  have hzero : W1.heap[w.heap.size]? = some (.cells #[.int .i64 0, .int .i64 0, .string ⟨#[]⟩, .slice none 0 0, .slice none 0 0] 26 (0, 0)) := by rw [hW1]; exact heap_alloc_new _ _
  have hr1 : RdS W1 R s i false := (hb1.block R hR).trans h
  have c2 := hr1.cell2
  rw [hW1] at c2
  have hdeep : ¬ (6 : Int) < 7 - ((n + 1 : Nat) : Int) := by omega
  have HL : Hid (Calls Tryz.prog 75 #[.pointer (some ⟨R, 0, none⟩)] W1 fun e w' => e = .returned (.int .u8 (((lookB s i).toNat : Nat) : Int)) ∧ Near R w w' ∧ RdS w' R s i false ∧ w'.heap.size = w.heap.size + 1 ∧ w'.heap[w.heap.size]? = some (.cells #[.int .i64 0, .int .i64 0, .string ⟨#[]⟩, .slice none 0 0, .slice none 0 0] 26 (0, 0))) :=
    (look_any W1 R s i false hr1).mono fun e w' ⟨he, k, hk⟩ => by
      subst hk
      exact ⟨he, ((Near.of_below hb1).trans (Near.refl R W1)).drewN k, hr1.drewN k, hz1, hzero⟩
  have HLK : Hid (lookB s i = 110) := hl
  have hc : ((lookB s i).toNat : Nat) = 110 := by rw [hl]; rfl
  rw [hc] at HL
  clear hr1 hzero hb1 h hl hc
  generalize hdp : 7 - ((n + 1 : Nat) : Int) = dp at *
  clear hdp
  go_enter Tryz.func36, Tryz.ntmps36
  go_wp2_with fail
  rw [← hW1]
  clear hW1 c2
  refine HL.out.mono ?_
  rintro e w2 ⟨rfl, hn2, hr2, hz2, hzero2⟩
  have HE : Hid (Calls Tryz.prog 77 #[.pointer (some ⟨R, 0, none⟩), .string ⟨#[110, 111]⟩] w2 _) := eat_any w2 R s ⟨#[110, 111]⟩ i false hr2 hs (by decide) hi
  clear HL hr2
  go_wp2_with fail
  refine HE.out.mono ?_
  rintro e w3 ⟨rfl, hn3, hor⟩
  have hz3 := hn3.size
  obtain ⟨⟨r0, r1, r2, r3, r4⟩, f0, f1, f2, f3, f4⟩ := zeroT_cells ((hn3.block w.heap.size (by omega) (by omega)).trans hzero2)
  have HP : Hid (ReadPost (m + 1) (n + 1) w R s i false (.returned (.agg #[.int .i64 3, .int .i64 0, .string ⟨#[]⟩, .slice none 0 0, .slice none 0 0])) (put5 w3 w.heap.size 0 (.int .i64 3) (.int .i64 0) (.string ⟨#[]⟩) (.slice none 0 0) (.slice none 0 0))) := by
    rcases hor with ⟨q1, q2, q3⟩ | ⟨q1, q3⟩
    · exact rt_exit (hn2.trans hn3) hR q3 (leafT_in _ _ m 3 0 _ rfl rfl (by decide)) (word_got (x := ⟨#[110, 111]⟩) hi (.inl ⟨q1, q2, rfl, rfl⟩) (by decide) (fun t0 post he hg => no_one HLK.out t0 post he hg))
    · exact rt_exit (hn2.trans hn3) hR q3 (leafT_in _ _ m 3 0 _ rfl rfl (by decide)) (word_got (x := ⟨#[110, 111]⟩) hi (.inr ⟨q1, rfl, rfl⟩) (by decide) (fun t0 post he hg => no_one HLK.out t0 post he hg))
  clear HE hor hn3 hn2 hzero2
  go_wp2_with fail
  refine bodyPost_ret (v := .agg #[.int .i64 3, .int .i64 0, .string ⟨#[]⟩, .slice none 0 0, .slice none 0 0]) (by simp [results, Tryz.results36, go_sem, r0, r1, r2, r3, r4]) rfl ?_
  exact HP.out

set_option maxRecDepth 20000 in
set_option maxHeartbeats 2000000 in
theorem l1_none (n m R : Nat) (s : ByteArray) (i : Nat) (w : World) (h : RdS w R s i false) (hs : s.size ≤ 10000) (hi : i ≤ s.size) (hl : lookB s i = 126) :
    Calls Tryz.prog 36 #[.pointer (some ⟨R, 0, none⟩), .int .i64 (7 - ((n + 1 : Nat) : Int))] w (ReadPost (m + 1) (n + 1) w R s i false) := by
  have hR := h.lt
  obtain ⟨W1, hW1⟩ : ∃ W1, W1 = w.alloc (.cells #[.int .i64 0, .int .i64 0, .string ⟨#[]⟩, .slice none 0 0, .slice none 0 0] 26) := ⟨_, rfl⟩
  have hz1 : W1.heap.size = w.heap.size + 1 := by rw [hW1]; simp
  have hb1 : Below w.heap.size w W1 := by rw [hW1]; exact (Below.refl _ _).alloc (Nat.le_refl _) _
  have hzero : W1.heap[w.heap.size]? = some (.cells #[.int .i64 0, .int .i64 0, .string ⟨#[]⟩, .slice none 0 0, .slice none 0 0] 26 (0, 0)) := by rw [hW1]; exact heap_alloc_new _ _
  have hr1 : RdS W1 R s i false := (hb1.block R hR).trans h
  have c2 := hr1.cell2
  rw [hW1] at c2
  have hdeep : ¬ (6 : Int) < 7 - ((n + 1 : Nat) : Int) := by omega
  have HL : Hid (Calls Tryz.prog 75 #[.pointer (some ⟨R, 0, none⟩)] W1 fun e w' => e = .returned (.int .u8 (((lookB s i).toNat : Nat) : Int)) ∧ Near R w w' ∧ RdS w' R s i false ∧ w'.heap.size = w.heap.size + 1 ∧ w'.heap[w.heap.size]? = some (.cells #[.int .i64 0, .int .i64 0, .string ⟨#[]⟩, .slice none 0 0, .slice none 0 0] 26 (0, 0))) :=
    (look_any W1 R s i false hr1).mono fun e w' ⟨he, k, hk⟩ => by
      subst hk
      exact ⟨he, ((Near.of_below hb1).trans (Near.refl R W1)).drewN k, hr1.drewN k, hz1, hzero⟩
  have HLK : Hid (lookB s i = 126) := hl
  have hc : ((lookB s i).toNat : Nat) = 126 := by rw [hl]; rfl
  rw [hc] at HL
  clear hr1 hzero hb1 h hl hc
  generalize hdp : 7 - ((n + 1 : Nat) : Int) = dp at *
  clear hdp
  go_enter Tryz.func36, Tryz.ntmps36
  go_wp2_with fail
  rw [← hW1]
  clear hW1 c2
  refine HL.out.mono ?_
  rintro e w2 ⟨rfl, hn2, hr2, hz2, hzero2⟩
  have HE : Hid (Calls Tryz.prog 77 #[.pointer (some ⟨R, 0, none⟩), .string ⟨#[126]⟩] w2 _) := eat_any w2 R s ⟨#[126]⟩ i false hr2 hs (by decide) hi
  clear HL hr2
  go_wp2_with fail
  refine HE.out.mono ?_
  rintro e w3 ⟨rfl, hn3, hor⟩
  have hz3 := hn3.size
  obtain ⟨⟨r0, r1, r2, r3, r4⟩, f0, f1, f2, f3, f4⟩ := zeroT_cells ((hn3.block w.heap.size (by omega) (by omega)).trans hzero2)
  have HP : Hid (ReadPost (m + 1) (n + 1) w R s i false (.returned (.agg #[.int .i64 6, .int .i64 0, .string ⟨#[]⟩, .slice none 0 0, .slice none 0 0])) (put5 w3 w.heap.size 0 (.int .i64 6) (.int .i64 0) (.string ⟨#[]⟩) (.slice none 0 0) (.slice none 0 0))) := by
    rcases hor with ⟨q1, q2, q3⟩ | ⟨q1, q3⟩
    · exact rt_exit (hn2.trans hn3) hR q3 (leafT_in _ _ m 6 0 _ rfl rfl (by decide)) (word_got (x := ⟨#[126]⟩) hi (.inl ⟨q1, q2, rfl, rfl⟩) (by decide) (fun t0 post he hg => none_one HLK.out t0 post he hg))
    · exact rt_exit (hn2.trans hn3) hR q3 (leafT_in _ _ m 6 0 _ rfl rfl (by decide)) (word_got (x := ⟨#[126]⟩) hi (.inr ⟨q1, rfl, rfl⟩) (by decide) (fun t0 post he hg => none_one HLK.out t0 post he hg))
  clear HE hor hn3 hn2 hzero2
  go_wp2_with fail
  refine bodyPost_ret (v := .agg #[.int .i64 6, .int .i64 0, .string ⟨#[]⟩, .slice none 0 0, .slice none 0 0]) (by simp [results, Tryz.results36, go_sem, r0, r1, r2, r3, r4]) rfl ?_
  exact HP.out

set_option maxRecDepth 20000 in
set_option maxHeartbeats 2000000 in
theorem l1_text (n m R : Nat) (s : ByteArray) (i : Nat) (w : World) (h : RdS w R s i false) (hs : s.size ≤ 10000) (hi : i ≤ s.size) (hl : lookB s i = 34) :
    Calls Tryz.prog 36 #[.pointer (some ⟨R, 0, none⟩), .int .i64 (7 - ((n + 1 : Nat) : Int))] w (ReadPost (m + 1) (n + 1) w R s i false) := by
  have hR := h.lt
  obtain ⟨W1, hW1⟩ : ∃ W1, W1 = w.alloc (.cells #[.int .i64 0, .int .i64 0, .string ⟨#[]⟩, .slice none 0 0, .slice none 0 0] 26) := ⟨_, rfl⟩
  have hz1 : W1.heap.size = w.heap.size + 1 := by rw [hW1]; simp
  have hb1 : Below w.heap.size w W1 := by rw [hW1]; exact (Below.refl _ _).alloc (Nat.le_refl _) _
  have hzero : W1.heap[w.heap.size]? = some (.cells #[.int .i64 0, .int .i64 0, .string ⟨#[]⟩, .slice none 0 0, .slice none 0 0] 26 (0, 0)) := by rw [hW1]; exact heap_alloc_new _ _
  have hr1 : RdS W1 R s i false := (hb1.block R hR).trans h
  have c2 := hr1.cell2
  rw [hW1] at c2
  have hdeep : ¬ (6 : Int) < 7 - ((n + 1 : Nat) : Int) := by omega
  have HL : Hid (Calls Tryz.prog 75 #[.pointer (some ⟨R, 0, none⟩)] W1 fun e w' => e = .returned (.int .u8 (((lookB s i).toNat : Nat) : Int)) ∧ Near R w w' ∧ RdS w' R s i false ∧ w'.heap.size = w.heap.size + 1 ∧ w'.heap[w.heap.size]? = some (.cells #[.int .i64 0, .int .i64 0, .string ⟨#[]⟩, .slice none 0 0, .slice none 0 0] 26 (0, 0))) :=
    (look_any W1 R s i false hr1).mono fun e w' ⟨he, k, hk⟩ => by
      subst hk
      exact ⟨he, ((Near.of_below hb1).trans (Near.refl R W1)).drewN k, hr1.drewN k, hz1, hzero⟩
  have HLK : Hid (lookB s i = 34) := hl
  have hc : ((lookB s i).toNat : Nat) = 34 := by rw [hl]; rfl
  rw [hc] at HL
  have hilt : i < s.size := Classical.byContradiction fun hge => by rw [lookB_out s i (by omega)] at hl; exact absurd hl (by decide)
  have h34 : s[i] = 34 := by rw [← lookB_in s i hilt]; exact hl
  clear hr1 hzero hb1 h hl hc
  generalize hdp : 7 - ((n + 1 : Nat) : Int) = dp at *
  clear hdp
  go_enter Tryz.func36, Tryz.ntmps36
  go_wp2_with fail
  rw [← hW1]
  clear hW1 c2
  refine HL.out.mono ?_
  rintro e w2 ⟨rfl, hn2, hr2, hz2, hzero2⟩
  have HT : Hid (Calls Tryz.prog 76 #[.pointer (some ⟨R, 0, none⟩)] w2 (TextPost w2 R s i false)) := text_any w2 R s i false hr2 hs hilt h34
  clear HL hr2 h34
  go_wp2_with fail
  refine HT.out.mono ?_
  rintro e w3 ⟨hn3, hor⟩
  obtain ⟨x, i', bad', rfl, hx, hr3, hG⟩ : ∃ (x : ByteArray) (i' : Nat) (bad' : Bool), e = .returned (.string x) ∧ x.size ≤ 10000 ∧ RdS w3 R s i' bad' ∧ GotT (m + 1) (n + 1) s i false (⟨2, 0, x, [], []⟩ : Nd (T m)) i' bad' := by
    rcases hor with ⟨x, r, q1, rfl, q3, q4⟩ | ⟨q1, x, q2, rfl, q3⟩
    · exact ⟨bs x, _, false, rfl, by rw [bs_size]; omega, q3, quoted_got HLK.out q1 q4⟩
    · exact ⟨x, s.size, true, rfl, q2, q3, quoted_bad HLK.out hi q1⟩
  have hz3 := hn3.size
  obtain ⟨⟨r0, r1, r2, r3, r4⟩, f0, f1, f2, f3, f4⟩ := zeroT_cells ((hn3.block w.heap.size (by omega) (by omega)).trans hzero2)
  have HP : Hid (ReadPost (m + 1) (n + 1) w R s i false (.returned (.agg #[.int .i64 2, .int .i64 0, .string x, .slice none 0 0, .slice none 0 0])) (put5 w3 w.heap.size 0 (.int .i64 2) (.int .i64 0) (.string x) (.slice none 0 0) (.slice none 0 0))) :=
    rt_exit (hn2.trans hn3) hR hr3 (leafT_in _ _ m 2 0 _ rfl rfl hx) hG
  clear HT hor hn3 hn2 hzero2 hr3 hG
  go_wp2_with fail
  refine bodyPost_ret (v := .agg #[.int .i64 2, .int .i64 0, .string x, .slice none 0 0, .slice none 0 0]) (by simp [results, Tryz.results36, go_sem, r0, r1, r2, r3, r4]) rfl ?_
  exact HP.out

set_option maxRecDepth 20000 in
set_option maxHeartbeats 2000000 in
theorem l1_num (n m R : Nat) (s : ByteArray) (i : Nat) (w : World) (h : RdS w R s i false) (hs : s.size ≤ 10000) (hi : i ≤ s.size) (h1n : ¬ lookB s i = 34) (h2n : ¬ lookB s i = 121) (h3n : ¬ lookB s i = 110) (h4n : ¬ lookB s i = 126) (h5n : ¬ lookB s i = 63) (h6n : ¬ lookB s i = 91) (h7n : ¬ lookB s i = 123) :
    Calls Tryz.prog 36 #[.pointer (some ⟨R, 0, none⟩), .int .i64 (7 - ((n + 1 : Nat) : Int))] w (ReadPost (m + 1) (n + 1) w R s i false) := by
  have hR := h.lt
  obtain ⟨W1, hW1⟩ : ∃ W1, W1 = w.alloc (.cells #[.int .i64 0, .int .i64 0, .string ⟨#[]⟩, .slice none 0 0, .slice none 0 0] 26) := ⟨_, rfl⟩
  have hz1 : W1.heap.size = w.heap.size + 1 := by rw [hW1]; simp
  have hb1 : Below w.heap.size w W1 := by rw [hW1]; exact (Below.refl _ _).alloc (Nat.le_refl _) _
  have hzero : W1.heap[w.heap.size]? = some (.cells #[.int .i64 0, .int .i64 0, .string ⟨#[]⟩, .slice none 0 0, .slice none 0 0] 26 (0, 0)) := by rw [hW1]; exact heap_alloc_new _ _
  have hr1 : RdS W1 R s i false := (hb1.block R hR).trans h
  have c2 := hr1.cell2
  rw [hW1] at c2
  have hdeep : ¬ (6 : Int) < 7 - ((n + 1 : Nat) : Int) := by omega
  have HL : Hid (Calls Tryz.prog 75 #[.pointer (some ⟨R, 0, none⟩)] W1 fun e w' => e = .returned (.int .u8 (((lookB s i).toNat : Nat) : Int)) ∧ Near R w w' ∧ RdS w' R s i false ∧ w'.heap.size = w.heap.size + 1 ∧ w'.heap[w.heap.size]? = some (.cells #[.int .i64 0, .int .i64 0, .string ⟨#[]⟩, .slice none 0 0, .slice none 0 0] 26 (0, 0))) :=
    (look_any W1 R s i false hr1).mono fun e w' ⟨he, k, hk⟩ => by
      subst hk
      exact ⟨he, ((Near.of_below hb1).trans (Near.refl R W1)).drewN k, hr1.drewN k, hz1, hzero⟩
  have hcne : ∀ c : UInt8, ¬ lookB s i = c → ((((lookB s i).toNat : Nat) : Int) == (c.toNat : Int)) = false := fun c hc => by
    rw [beq_eq_false_iff_ne]
    intro e
    apply hc
    apply UInt8.toNat_inj.1
    omega
  have e1 : ((((lookB s i).toNat : Nat) : Int) == 34) = false := hcne 34 h1n
  have e2 : ((((lookB s i).toNat : Nat) : Int) == 121) = false := hcne 121 h2n
  have e3 : ((((lookB s i).toNat : Nat) : Int) == 110) = false := hcne 110 h3n
  have e4 : ((((lookB s i).toNat : Nat) : Int) == 126) = false := hcne 126 h4n
  have e5 : ((((lookB s i).toNat : Nat) : Int) == 63) = false := hcne 63 h5n
  have e6 : ((((lookB s i).toNat : Nat) : Int) == 91) = false := hcne 91 h6n
  have e7 : ((((lookB s i).toNat : Nat) : Int) == 123) = false := hcne 123 h7n
  have HNo : Hid (¬ lookB s i = 34 ∧ ¬ lookB s i = 121 ∧ ¬ lookB s i = 110 ∧ ¬ lookB s i = 126 ∧ ¬ lookB s i = 63 ∧ ¬ lookB s i = 91 ∧ ¬ lookB s i = 123) := ⟨h1n, h2n, h3n, h4n, h5n, h6n, h7n⟩
  have HNu : Hid (∀ w2, RdS w2 R s i false → Calls Tryz.prog 79 #[.pointer (some ⟨R, 0, none⟩)] w2 fun e w' => Near R w2 w' ∧ ∃ (v : Int) (i' : Nat) (bad' : Bool), e = .returned (.int .i64 v) ∧ (Lit.int .i64 v).wf = true ∧ RdS w' R s i' bad' ∧ GotT (m + 1) (n + 1) s i false (⟨1, v, ByteArray.empty, [], []⟩ : Nd (T m)) i' bad') := by
    intro w2 hr2
    have fin : ∀ (neg : Bool) (F : Nat), neg = decide (lookB s i = 45) → F = (if neg = true then i + 1 else i) → ∀ e w', NumPost w2 R s false neg F e w' → (Near R w2 w' ∧ ∃ (v : Int) (i' : Nat) (bad' : Bool), e = .returned (.int .i64 v) ∧ (Lit.int .i64 v).wf = true ∧ RdS w' R s i' bad' ∧ GotT (m + 1) (n + 1) s i false (⟨1, v, ByteArray.empty, [], []⟩ : Nd (T m)) i' bad') := by
      rintro neg F hneg hF e w' ⟨hn, k, hk, hsz, hall, hend, rfl, hr⟩
      have hlt := decVal_lt10 _ hall (by rw [List.length_take]; omega)
      refine ⟨hn, _, F + k, _, rfl, ?_, hr, numT_got h1n h2n h3n h4n h5n h6n h7n hneg hF hsz hall hend rfl⟩
      generalize decVal ((s.data.toList.drop F).take k) = u at hlt
      refine wfT _ ?_ ?_ <;> (cases neg <;> simp <;> omega)
    by_cases h45 : lookB s i = 45
    · have hilt : i < s.size := Classical.byContradiction fun hge => by rw [lookB_out s i (by omega)] at h45; exact absurd h45 (by decide)
      exact (num_neg w2 R s i false hr2 hs hilt h45).mono (fin true (i + 1) (by simp [h45]) rfl)
    · exact (num_pos w2 R s i false hr2 hs hi h45).mono (fin false i (by simp [h45]) rfl)
  clear hcne h1n h2n h3n h4n h5n h6n h7n
  generalize ((lookB s i).toNat : Nat) = cc at *
  clear hr1 hzero hb1 h
  generalize hdp : 7 - ((n + 1 : Nat) : Int) = dp at *
  clear hdp
  go_enter Tryz.func36, Tryz.ntmps36
  go_wp2_with fail
  rw [← hW1]
  clear hW1 c2
  refine HL.out.mono ?_
  rintro e w2 ⟨rfl, hn2, hr2, hz2, hzero2⟩
  have HT : Hid (Calls Tryz.prog 79 #[.pointer (some ⟨R, 0, none⟩)] w2 _) := HNu.out w2 hr2
  clear HL hr2 HNu
  go_wp2_with fail
  refine HT.out.mono ?_
  rintro e w3 ⟨hn3, v, i', bad', rfl, hwf, hr3, hG⟩
  have hz3 := hn3.size
  obtain ⟨⟨r0, r1, r2, r3, r4⟩, f0, f1, f2, f3, f4⟩ := zeroT_cells ((hn3.block w.heap.size (by omega) (by omega)).trans hzero2)
  have HP : Hid (ReadPost (m + 1) (n + 1) w R s i false (.returned (.agg #[.int .i64 1, .int .i64 v, .string ⟨#[]⟩, .slice none 0 0, .slice none 0 0])) (put5 w3 w.heap.size 0 (.int .i64 1) (.int .i64 v) (.string ⟨#[]⟩) (.slice none 0 0) (.slice none 0 0))) :=
    rt_exit (hn2.trans hn3) hR hr3 (leafT_in _ _ m 1 v _ rfl hwf (by decide)) hG
  clear HT hn3 hn2 hzero2 hr3 hG e1 e2 e3 e4 e5 e6 e7 hwf
  go_wp2_with fail
  refine bodyPost_ret (v := .agg #[.int .i64 1, .int .i64 v, .string ⟨#[]⟩, .slice none 0 0, .slice none 0 0]) (by simp [results, Tryz.results36, go_sem, r0, r1, r2, r3, r4]) rfl ?_
  exact HP.out

end Go.Proofs.YtjnhklacadbpoaaGreatDoor
