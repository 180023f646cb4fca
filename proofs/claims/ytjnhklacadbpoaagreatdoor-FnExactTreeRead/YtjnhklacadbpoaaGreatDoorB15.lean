/-
  Several texts in one, in their order.
-/
import Derived.Test.YtjnhklacadbpoaaGreatDoorTRd1
import Derived.Test.YtjnhklacadbpoaaGreatDoorTRdF
import Derived.Test.YtjnhklacadbpoaaGreatDoorB8
import Derived.Test.YtjnhklacadbpoaaGreatDoorTParse
import Derived.Test.YtjnhklacadbpoaaGreatDoorB12
import Derived.Test.YtjnhklacadbpoaaGreatDoorSpec3

/-
  The specification's reader of trees: maybes, lists and forms; whole.
-/
namespace Go.Proofs.YtjnhklacadbpoaaGreatDoor
open Go.RowKit

theorem oneT_in {S : Nat → Prop} {w : World} {m : Nat} {x : Int} {t : T m} {b c : Nat} {c0 c1 c2 c3 c4 : Value} (hx : (Lit.int .i64 x).wf = true) (hb : S b) (h : Box5 w b c0 c1 c2 c3 c4) (ht : TreeIn S w m t c0 c1 c2 c3 c4) :
    TreeIn S w (m + 1) (⟨x, 0, ByteArray.empty, [], [t]⟩ : Nd (T m)) (.int .i64 x) (.int .i64 0) (.string ⟨#[]⟩) (.slice none 0 0) (.slice (some ⟨b, 0, none⟩) 1 c) := by
  refine ⟨rfl, rfl, rfl, by show ByteArray.empty.size ≤ _; unfold maxLen; decide, hx, by rfl, ⟨none, 0, rfl, by simp [maxLen], fun s h => (by cases h), fun h => absurd rfl h⟩, ⟨some ⟨b, 0, none⟩, c, rfl, by simp [maxLen], fun _ => ⟨b, 0, rfl, hb, fun i hi => ?_⟩⟩⟩
  have : i = 0 := by simpa using hi
  subst this
  exact ⟨c0, c1, c2, c3, c4, by simpa using h.c0, by simpa using h.c1, by simpa using h.c2, by simpa using h.c3, by simpa using h.c4, ht⟩

set_option maxRecDepth 20000 in
set_option maxHeartbeats 2000000 in
theorem l1_some (n : Nat) (hn : ReadSaid n) (m R : Nat) (s : ByteArray) (i : Nat) (w : World) (hm : n + 1 ≤ m) (hn6 : n ≤ 5) (h : RdS w R s i false) (hs : s.size ≤ 10000) (hi : i ≤ s.size) (hl : lookB s i = 63) :
    Calls Tryz.prog 36 #[.pointer (some ⟨R, 0, none⟩), .int .i64 (7 - ((n + 1 : Nat) : Int))] w (ReadPost (m + 1) (n + 1) w R s i false) := by
  have hR := h.lt
  obtain ⟨W1, hW1⟩ : ∃ W1, W1 = w.alloc (.cells #[.int .i64 0, .int .i64 0, .string ⟨#[]⟩, .slice none 0 0, .slice none 0 0] 26) := ⟨_, rfl⟩
  have hz1 : W1.heap.size = w.heap.size + 1 := by rw [hW1]; simp
  have hb1 : Below w.heap.size w W1 := by rw [hW1]; exact (Below.refl _ _).alloc (Nat.le_refl _) _
  have hzero : W1.heap[w.heap.size]? = some (.cells #[.int .i64 0, .int .i64 0, .string ⟨#[]⟩, .slice none 0 0, .slice none 0 0] 26 (0, 0)) := by rw [hW1]; exact heap_alloc_new _ _
  have hr1 : RdS W1 R s i false := (hb1.block R hR).trans h
  have c2 := hr1.cell2
  rw [hW1] at c2
  have hdeep : ¬ (6 : Int) < 7 - ((n + 1 : Nat) : Int) := by omega
  have HL : Hid (Calls Tryz.prog 75 #[.pointer (some ⟨R, 0, none⟩)] W1 fun e w' => e = .returned (.int .u8 (((lookB s i).toNat : Nat) : Int)) ∧ Near R w w' ∧ RdS w' R s i false ∧ w'.heap.size = w.heap.size + 1 ∧ w'.heap[w.heap.size]? = some (.cells #[.int .i64 0, .int .i64 0, .string ⟨#[]⟩, .slice none 0 0, .slice none 0 0] 26 (0, 0))) :=
    (look_any W1 R s i false hr1).mono fun e w' ⟨he, k, hk⟩ => by
      subst hk
      exact ⟨he, ((Near.of_below hb1).trans (Near.refl R W1)).drewN k, hr1.drewN k, hz1, hzero⟩
  have HLK : Hid (lookB s i = 63) := hl
  have hc : ((lookB s i).toNat : Nat) = 63 := by rw [hl]; rfl
  rw [hc] at HL
  have HLE : Hid (eatP [63] (s.data.toList.drop i) = some (s.data.toList.drop (i + 1)) ∧ i < s.size) := by
    have hilt : i < s.size := Classical.byContradiction fun hge => by rw [lookB_out s i (by omega)] at hl; exact absurd hl (by decide)
    refine ⟨?_, hilt⟩
    have h63 : s[i] = 63 := by rw [← lookB_in s i hilt]; exact hl
    rw [drop_at s i hilt, h63]; exact eatP_one_cons _ _
  have hw6 : IntKind.i64.wrap (7 - ((n + 1 : Nat) : Int) + 1) = 7 - (n : Int) := by rw [IntKind.wrap_i64]; omega
  have HN : Hid (ReadSaid n) := hn
  clear hn
  clear hr1 hzero hb1 h hl hc
  generalize hdp : 7 - ((n + 1 : Nat) : Int) = dp at *
  clear hdp
  go_enter Tryz.func36, Tryz.ntmps36
  go_wp2_with fail
  rw [← hW1]
  clear hW1 c2
  refine HL.out.mono ?_
  rintro e w2 ⟨rfl, hn2, hr2, hz2, hzero2⟩
  have HE : Hid (Calls Tryz.prog 77 #[.pointer (some ⟨R, 0, none⟩), .string ⟨#[63]⟩] w2 _) := eat_any w2 R s ⟨#[63]⟩ i false hr2 hs (by decide) hi
  clear HL hr2
  go_wp2_with fail
  refine HE.out.mono ?_
  rintro e w3 ⟨rfl, hn3, ⟨q1, q2, q3⟩ | ⟨q1, q3⟩⟩
  case inr =>
    have q1 : eatP [63] (s.data.toList.drop i) = none := q1
    rw [HLE.out.1] at q1
    cases q1
  have q3 : RdS w3 R s ((i + 1 : Nat) : Int) false := q3
  have hz3 := hn3.size
  have hzero3 := (hn3.block w.heap.size (by omega) (by omega)).trans hzero2
  have hn13 := hn2.trans hn3
  have hilt := HLE.out.2
  have HK : Hid (Calls Tryz.prog 36 #[.pointer (some ⟨R, 0, none⟩), .int .i64 (7 - (n : Int))] w3 (ReadPost m n w3 R s (i + 1) false)) := HN.out m R s (i + 1) false w3 hm q3 hs (fun _ => by omega) (by omega)
  clear HE hn2 hn3 hzero2 q1 q2 q3 HN HLE
  go_wp2_with fail
  refine HK.out.mono ?_
  rintro e w4 ⟨hn4, t, d0, d1, d2, d3, d4, i1, bad1, rfl, ht, hr4, hG⟩
  obtain ⟨u0, u1, u2, ua, ul, uc, ya, yl, yc, rfl, rfl, rfl, rfl, rfl⟩ := ht.shape
  have hz4 := hn4.size
  have hzero4 := (hn4.block w.heap.size (by omega) (by omega)).trans hzero3
  have hn14 := hn13.trans hn4
  clear HK hzero3 hn13
  obtain ⟨o, ho⟩ : ∃ o : Obj, o = .cells #[.int .i64 u0, .int .i64 u1, .string u2, .slice ua ul uc, .slice ya yl yc] 26 := ⟨_, rfl⟩
  have hx5 := Box5.new w4 (.int .i64 u0) (.int .i64 u1) (.string u2) (.slice ua ul uc) (.slice ya yl yc) 26
  rw [← ho] at hx5
  have hn5 : Near R w (w4.alloc o) := hn14.trans (Near.alloc _ _ _)
  obtain ⟨⟨r0, r1, r2, r3, r4⟩, f0, f1, f2, f3, f4⟩ := zeroT_cells ((Below.heap_alloc w4 o w.heap.size (by omega)).trans hzero4)
  have HP : Hid (ReadPost (m + 1) (n + 1) w R s i false (.returned (.agg #[.int .i64 6, .int .i64 0, .string ⟨#[]⟩, .slice none 0 0, .slice (some ⟨w4.heap.size, 0, none⟩) 1 1])) (put5 (w4.alloc o) w.heap.size 0 (.int .i64 6) (.int .i64 0) (.string ⟨#[]⟩) (.slice none 0 0) (.slice (some ⟨w4.heap.size, 0, none⟩) 1 1))) := by
    refine rt_exit hn5 hR ((Below.heap_alloc _ _ _ (by have := hr4.lt; omega)).trans hr4) (oneT_in (t := t) rfl ⟨by omega, by simp⟩ hx5 ?_) (some_got HLK.out hG)
    exact ht.keep (fun b hb => Below.heap_alloc _ _ _ hb.2) (fun b hb => ⟨by omega, by simp; omega⟩)
  subst ho
  clear hr4 hG ht hx5 hn5 hzero4 hn14 hn4
  go_wp2_with fail
  refine bodyPost_ret (v := .agg #[.int .i64 6, .int .i64 0, .string ⟨#[]⟩, .slice none 0 0, .slice (some ⟨w4.heap.size, 0, none⟩) 1 1]) (by simp [results, Tryz.results36, go_sem, r0, r1, r2, r3, r4]) rfl ?_
  exact HP.out

set_option maxRecDepth 20000 in
set_option maxHeartbeats 2000000 in
theorem l1_list (n : Nat) (hn : ReadSaid n) (m R : Nat) (s : ByteArray) (i : Nat) (w : World) (hm : n + 1 ≤ m) (hn6 : n ≤ 5) (h : RdS w R s i false) (hs : s.size ≤ 10000) (hi : i ≤ s.size) (hl : lookB s i = 91) :
    Calls Tryz.prog 36 #[.pointer (some ⟨R, 0, none⟩), .int .i64 (7 - ((n + 1 : Nat) : Int))] w (ReadPost (m + 1) (n + 1) w R s i false) := by
  have hR := h.lt
  obtain ⟨W1, hW1⟩ : ∃ W1, W1 = w.alloc (.cells #[.int .i64 0, .int .i64 0, .string ⟨#[]⟩, .slice none 0 0, .slice none 0 0] 26) := ⟨_, rfl⟩
  have hz1 : W1.heap.size = w.heap.size + 1 := by rw [hW1]; simp
  have hb1 : Below w.heap.size w W1 := by rw [hW1]; exact (Below.refl _ _).alloc (Nat.le_refl _) _
  have hzero : W1.heap[w.heap.size]? = some (.cells #[.int .i64 0, .int .i64 0, .string ⟨#[]⟩, .slice none 0 0, .slice none 0 0] 26 (0, 0)) := by rw [hW1]; exact heap_alloc_new _ _
  have hr1 : RdS W1 R s i false := (hb1.block R hR).trans h
  have c2 := hr1.cell2
  rw [hW1] at c2
  have hdeep : ¬ (6 : Int) < 7 - ((n + 1 : Nat) : Int) := by omega
  have HL : Hid (Calls Tryz.prog 75 #[.pointer (some ⟨R, 0, none⟩)] W1 fun e w' => e = .returned (.int .u8 (((lookB s i).toNat : Nat) : Int)) ∧ Near R w w' ∧ RdS w' R s i false ∧ w'.heap.size = w.heap.size + 1 ∧ w'.heap[w.heap.size]? = some (.cells #[.int .i64 0, .int .i64 0, .string ⟨#[]⟩, .slice none 0 0, .slice none 0 0] 26 (0, 0))) :=
    (look_any W1 R s i false hr1).mono fun e w' ⟨he, k, hk⟩ => by
      subst hk
      exact ⟨he, ((Near.of_below hb1).trans (Near.refl R W1)).drewN k, hr1.drewN k, hz1, hzero⟩
  have HLK : Hid (lookB s i = 91) := hl
  have hc : ((lookB s i).toNat : Nat) = 91 := by rw [hl]; rfl
  rw [hc] at HL
  have hilt : i < s.size := Classical.byContradiction fun hge => by rw [lookB_out s i (by omega)] at hl; exact absurd hl (by decide)
  have hdq : 7 - ((n + 1 : Nat) : Int) = 6 - (n : Int) := by omega
  rw [hdq] at hdeep ⊢
  have HN : Hid (ReadSaid n) := hn
  clear hn
  clear hr1 hzero hb1 h hl hc
  go_enter Tryz.func36, Tryz.ntmps36
  go_wp2_with fail
  rw [← hW1]
  clear hW1 c2
  refine HL.out.mono ?_
  rintro e w2 ⟨rfl, hn2, hr2, hz2, hzero2⟩
  have HK : Hid (Calls Tryz.prog 78 #[.pointer (some ⟨R, 0, none⟩), .int .i64 4, .int .u8 93, .int .i64 (6 - (n : Int))] w2 (ListPost m n w2 R s i)) := many_list n HN.out hn6 m R hm s i w2 hr2 hs hilt
  clear HL hr2 HN
  go_wp2_with fail
  refine HK.out.mono ?_
  rintro e w3 ⟨hn3, ks, nv, kv, i', bad', rfl, ht, hr3, g1, g2, g3, g4⟩
  obtain ⟨na, nc, rfl, -⟩ := ht.2.2.2.2.2.2.1
  obtain ⟨ka, kc, rfl, -⟩ := ht.2.2.2.2.2.2.2
  have hz3 := hn3.size
  obtain ⟨⟨r0, r1, r2, r3, r4⟩, f0, f1, f2, f3, f4⟩ := zeroT_cells ((hn3.block w.heap.size (by omega) (by omega)).trans hzero2)
  have HP : Hid (ReadPost (m + 1) (n + 1) w R s i false (.returned (.agg #[.int .i64 4, .int .i64 0, .string ByteArray.empty, .slice na 0 nc, .slice ka ks.length kc])) (put5 w3 w.heap.size 0 (.int .i64 4) (.int .i64 0) (.string ByteArray.empty) (.slice na 0 nc) (.slice ka ks.length kc))) :=
    rt_exit (hn2.trans hn3) hR hr3 (ht.keep (fun _ _ => rfl) (fun b hb => ⟨by omega, hb.2⟩)) (listT_got HLK.out g1 g2 g3 g4)
  clear HK hn3 hn2 hzero2 hr3 ht g1 g2 g3 g4
  go_wp2_with fail
  refine bodyPost_ret (v := .agg #[.int .i64 4, .int .i64 0, .string ByteArray.empty, .slice na 0 nc, .slice ka ks.length kc]) (by simp [results, Tryz.results36, go_sem, r0, r1, r2, r3, r4]) rfl ?_
  exact HP.out

set_option maxRecDepth 20000 in
set_option maxHeartbeats 2000000 in
theorem l1_form (n : Nat) (hn : ReadSaid n) (m R : Nat) (s : ByteArray) (i : Nat) (w : World) (hm : n + 1 ≤ m) (hn6 : n ≤ 5) (h : RdS w R s i false) (hs : s.size ≤ 10000) (hi : i ≤ s.size) (hl : lookB s i = 123) :
    Calls Tryz.prog 36 #[.pointer (some ⟨R, 0, none⟩), .int .i64 (7 - ((n + 1 : Nat) : Int))] w (ReadPost (m + 1) (n + 1) w R s i false) := by
  have hR := h.lt
  obtain ⟨W1, hW1⟩ : ∃ W1, W1 = w.alloc (.cells #[.int .i64 0, .int .i64 0, .string ⟨#[]⟩, .slice none 0 0, .slice none 0 0] 26) := ⟨_, rfl⟩
  have hz1 : W1.heap.size = w.heap.size + 1 := by rw [hW1]; simp
  have hb1 : Below w.heap.size w W1 := by rw [hW1]; exact (Below.refl _ _).alloc (Nat.le_refl _) _
  have hzero : W1.heap[w.heap.size]? = some (.cells #[.int .i64 0, .int .i64 0, .string ⟨#[]⟩, .slice none 0 0, .slice none 0 0] 26 (0, 0)) := by rw [hW1]; exact heap_alloc_new _ _
  have hr1 : RdS W1 R s i false := (hb1.block R hR).trans h
  have c2 := hr1.cell2
  rw [hW1] at c2
  have hdeep : ¬ (6 : Int) < 7 - ((n + 1 : Nat) : Int) := by omega
  have HL : Hid (Calls Tryz.prog 75 #[.pointer (some ⟨R, 0, none⟩)] W1 fun e w' => e = .returned (.int .u8 (((lookB s i).toNat : Nat) : Int)) ∧ Near R w w' ∧ RdS w' R s i false ∧ w'.heap.size = w.heap.size + 1 ∧ w'.heap[w.heap.size]? = some (.cells #[.int .i64 0, .int .i64 0, .string ⟨#[]⟩, .slice none 0 0, .slice none 0 0] 26 (0, 0))) :=
    (look_any W1 R s i false hr1).mono fun e w' ⟨he, k, hk⟩ => by
      subst hk
      exact ⟨he, ((Near.of_below hb1).trans (Near.refl R W1)).drewN k, hr1.drewN k, hz1, hzero⟩
  have HLK : Hid (lookB s i = 123) := hl
  have hc : ((lookB s i).toNat : Nat) = 123 := by rw [hl]; rfl
  rw [hc] at HL
  have hilt : i < s.size := Classical.byContradiction fun hge => by rw [lookB_out s i (by omega)] at hl; exact absurd hl (by decide)
  have hdq : 7 - ((n + 1 : Nat) : Int) = 6 - (n : Int) := by omega
  rw [hdq] at hdeep ⊢
  have HN : Hid (ReadSaid n) := hn
  clear hn
  clear hr1 hzero hb1 h hl hc
  go_enter Tryz.func36, Tryz.ntmps36
  go_wp2_with fail
  rw [← hW1]
  clear hW1 c2
  refine HL.out.mono ?_
  rintro e w2 ⟨rfl, hn2, hr2, hz2, hzero2⟩
  have HK : Hid (Calls Tryz.prog 78 #[.pointer (some ⟨R, 0, none⟩), .int .i64 5, .int .u8 125, .int .i64 (6 - (n : Int))] w2 (FormPost m n w2 R s i)) := many_form n HN.out hn6 m R hm s i w2 hr2 hs hilt
  clear HL hr2 HN
  go_wp2_with fail
  refine HK.out.mono ?_
  rintro e w3 ⟨hn3, ns, ks, nv, kv, i', bad', rfl, ht, hr3, g1, g2, g3, g4⟩
  obtain ⟨na, nc, rfl, -⟩ := ht.2.2.2.2.2.2.1
  obtain ⟨ka, kc, rfl, -⟩ := ht.2.2.2.2.2.2.2
  have hz3 := hn3.size
  obtain ⟨⟨r0, r1, r2, r3, r4⟩, f0, f1, f2, f3, f4⟩ := zeroT_cells ((hn3.block w.heap.size (by omega) (by omega)).trans hzero2)
  have HP : Hid (ReadPost (m + 1) (n + 1) w R s i false (.returned (.agg #[.int .i64 5, .int .i64 0, .string ByteArray.empty, .slice na ns.length nc, .slice ka ks.length kc])) (put5 w3 w.heap.size 0 (.int .i64 5) (.int .i64 0) (.string ByteArray.empty) (.slice na ns.length nc) (.slice ka ks.length kc))) :=
    rt_exit (hn2.trans hn3) hR hr3 (ht.keep (fun _ _ => rfl) (fun b hb => ⟨by omega, hb.2⟩)) (formT_got HLK.out g1 g2 g3 g4)
  clear HK hn3 hn2 hzero2 hr3 ht g1 g2 g3 g4
  go_wp2_with fail
  refine bodyPost_ret (v := .agg #[.int .i64 5, .int .i64 0, .string ByteArray.empty, .slice na ns.length nc, .slice ka ks.length kc]) (by simp [results, Tryz.results36, go_sem, r0, r1, r2, r3, r4]) rfl ?_
  exact HP.out

theorem l1Tree_any : ∀ n, n ≤ 6 → ReadSaid n := by
  intro n
  induction n with
  | zero =>
    intro _ m R s i bad w hm h hs hi _
    obtain ⟨m', rfl⟩ : ∃ m', m = m' + 1 := ⟨m - 1, by omega⟩
    exact l1_stop 0 m' R s i bad w h (.inr rfl) hi
  | succ n ih =>
    intro hn6 m R s i bad w hm h hs hi hi2
    obtain ⟨m', rfl⟩ : ∃ m', m = m' + 1 := ⟨m - 1, by omega⟩
    have hn := ih (by omega)
    cases bad with
    | true => exact l1_stop (n + 1) m' R s i true w h (.inl rfl) hi
    | false =>
      have hi := hi rfl
      by_cases h1 : lookB s i = 34
      · exact l1_text n m' R s i w h hs hi h1
      by_cases h2 : lookB s i = 121
      · exact l1_yes n m' R s i w h hs hi h2
      by_cases h3 : lookB s i = 110
      · exact l1_no n m' R s i w h hs hi h3
      by_cases h4 : lookB s i = 126
      · exact l1_none n m' R s i w h hs hi h4
      by_cases h5 : lookB s i = 63
      · exact l1_some n hn m' R s i w (by omega) (by omega) h hs hi h5
      by_cases h6 : lookB s i = 91
      · exact l1_list n hn m' R s i w (by omega) (by omega) h hs hi h6
      by_cases h7 : lookB s i = 123
      · exact l1_form n hn m' R s i w (by omega) (by omega) h hs hi h7
      · exact l1_num n m' R s i w h hs hi h1 h2 h3 h4 h5 h6 h7

end Go.Proofs.YtjnhklacadbpoaaGreatDoor

/-
  TreeRead of the specification: what it answers.
-/
namespace Go.Proofs.YtjnhklacadbpoaaGreatDoor
open Go.RowKit

/-- What TreeRead of the specification gives. -/
def SpecReadT (m : Nat) (k : T m) (ok : Bool) (w : World) (e : Ending) (w' : World) : Prop :=
  Below w.heap.size w w' ∧ ∃ c0 c1 c2 c3 c4, e = .returned (.tuple #[.agg #[c0, c1, c2, c3, c4], .bool ok]) ∧ TreeIn (fun b => w.heap.size ≤ b ∧ b < w'.heap.size) w' m k c0 c1 c2 c3 c4

theorem specT_none {m : Nat} {s : ByteArray} {w w' : World} (h : readT (m + 1) s = none) (hb : Below w.heap.size w w') : SpecReadT (m + 1) (ansU m s) (okU m s) w (.returned (.tuple #[.agg #[.int .i64 0, .int .i64 0, .string ⟨#[]⟩, .slice none 0 0, .slice none 0 0], .bool false])) w' := by
  obtain ⟨h1, h2⟩ := ansU_none h
  rw [h1, h2]
  exact ⟨hb, _, _, _, _, _, rfl, leafT_in _ _ m 0 0 _ rfl rfl (by decide)⟩

/-- What the reader has got is what the text is read as, if it is read. -/
theorem gotT_read {m : Nat} {s : ByteArray} {t : T (m + 1)} {i' : Nat} {bad' : Bool} (hg : GotT (m + 1) 6 s 0 false t i' bad') (k : T (m + 1)) (h : readT (m + 1) s = some k) : t = k ∧ bad' = false ∧ i' = s.size ∧ okT (m + 1) t = true ∧ txtL (m + 1) t = s.data.toList := by
  obtain ⟨h8, hok, ht⟩ := readT_some h
  obtain ⟨-, -, -, -, h5⟩ := hg
  obtain ⟨q1, q2, q3⟩ := h5 k [] rfl (by rw [List.drop_zero, List.append_nil, ht]) (okT_get hok).1 rfl
  subst q1
  refine ⟨rfl, q2, ?_, hok, ht⟩
  rw [q3, ht]; simp

theorem notT_read {m : Nat} {s : ByteArray} {t : T (m + 1)} {i' : Nat} {bad' : Bool} (hg : GotT (m + 1) 6 s 0 false t i' bad') (h : bad' = true ∨ i' ≠ s.size ∨ okT (m + 1) t = false ∨ txtL (m + 1) t ≠ s.data.toList) : readT (m + 1) s = none := by
  cases hr : readT (m + 1) s with
  | none => rfl
  | some k =>
    obtain ⟨-, q1, q2, q3, q4⟩ := gotT_read hg k hr
    rcases h with h | h | h | h
    · rw [q1] at h; cases h
    · exact absurd q2 h
    · rw [q3] at h; cases h
    · exact absurd q4 h

set_option maxRecDepth 100000 in
set_option maxHeartbeats 2000000 in
theorem specTRead_any (s : ByteArray) (m : Nat) (hm : 7 ≤ m + 1) (hs : s.size ≤ 1048576) (w : World) :
    Calls Tryz.prog 15 #[.string s] w (SpecReadT (m + 1) (ansU m s) (okU m s) w) := by
  obtain ⟨W1, hW1⟩ : ∃ W1, W1 = w.alloc (.cells #[.int .i64 0, .int .i64 0, .string ⟨#[]⟩, .slice none 0 0, .slice none 0 0] 26) := ⟨_, rfl⟩
  have hz1 : W1.heap.size = w.heap.size + 1 := by rw [hW1]; simp
  have hb1 : Below w.heap.size w W1 := by rw [hW1]; exact (Below.refl _ _).alloc (Nat.le_refl _) _
  have hzero : W1.heap[w.heap.size]? = some (.cells #[.int .i64 0, .int .i64 0, .string ⟨#[]⟩, .slice none 0 0, .slice none 0 0] 26 (0, 0)) := by rw [hW1]; exact heap_alloc_new _ _
  have HPut : Hid (∀ W : World, Below w.heap.size w W → Below w.heap.size w (put5 W w.heap.size 0 (.int .i64 0) (.int .i64 0) (.string ⟨#[]⟩) (.slice none 0 0) (.slice none 0 0))) := fun W h => put5_below h (Nat.le_refl _)
  by_cases h8 : s.size ≤ 10000
  case neg =>
    have hgt : (10000 : Int) < (s.size : Int) := by omega
    have HP : Hid (∀ o, SpecReadT (m + 1) (ansU m s) (okU m s) w (.returned (.tuple #[.agg #[.int .i64 0, .int .i64 0, .string ⟨#[]⟩, .slice none 0 0, .slice none 0 0], .bool false])) (w.alloc o)) := fun o => specT_none (readT_long h8) ((Below.refl _ _).alloc (Nat.le_refl _) _)
    clear hb1 hzero hz1 h8
    go_enter Tryz.func15, Tryz.ntmps15
    go_wp2_with fail
    refine bodyPost_ret (v := .tuple #[.agg #[.int .i64 0, .int .i64 0, .string ⟨#[]⟩, .slice none 0 0, .slice none 0 0], .bool false]) (by simp [results, Tryz.results15, go_sem]) rfl ?_
    exact HP.out _
  have hle : ¬ (10000 : Int) < (s.size : Int) := by omega
  obtain ⟨W2, hW2⟩ : ∃ W2, W2 = W1.alloc (.cells #[.string s, .int .i64 0, .bool false] 59) := ⟨_, rfl⟩
  have hz2 : W2.heap.size = w.heap.size + 2 := by rw [hW2]; simp; omega
  have hb2 : Below w.heap.size w W2 := by rw [hW2]; exact hb1.alloc hb1.size _
  have hr2 : RdS W2 (w.heap.size + 1) s ((0 : Nat) : Int) false := by
    show W2.heap[w.heap.size + 1]? = _
    rw [hW2, ← hz1]; exact heap_alloc_new _ _
  have hzero2 : W2.heap[w.heap.size]? = some (.cells #[.int .i64 0, .int .i64 0, .string ⟨#[]⟩, .slice none 0 0, .slice none 0 0] 26 (0, 0)) := by rw [hW2, Below.heap_alloc _ _ _ (by omega)]; exact hzero
  have HK : Hid (Calls Tryz.prog 36 #[.pointer (some ⟨w.heap.size + 1, 0, none⟩), .int .i64 1] W2 (ReadPost (m + 1) 6 W2 (w.heap.size + 1) s 0 false)) := l1Tree_any 6 (Nat.le_refl _) (m + 1) (w.heap.size + 1) s 0 false W2 hm hr2 (by omega) (fun _ => Nat.zero_le _) (by omega)
  clear hr2 hzero hb1
  go_enter Tryz.func15, Tryz.ntmps15
  go_wp2_with fail
  rw [← hW1, ← hW2]
  clear hW1 hW2
  refine HK.out.mono ?_
  rintro e w3 ⟨hn3, t, d0, d1, d2, d3, d4, i', bad', rfl, ht, hr3, hG⟩
  obtain ⟨u0, u1, u2, ua, ul, uc, ya, yl, yc, rfl, rfl, rfl, rfl, rfl⟩ := ht.shape
  have hz3 := hn3.size
  have hb3 : Below w.heap.size w w3 := ⟨hn3.os.trans hb2.os, hn3.tape.trans hb2.tape, hn3.output.trans hb2.output, by omega, fun b hb => (hn3.block b (by omega) (by omega)).trans (hb2.block b hb)⟩
  have hzero3 : w3.heap[w.heap.size]? = some (.cells #[.int .i64 0, .int .i64 0, .string ⟨#[]⟩, .slice none 0 0, .slice none 0 0] 26 (0, 0)) := (hn3.block _ (by omega) (by omega)).trans hzero2
  obtain ⟨W4, hW4⟩ : ∃ W4, W4 = w3.alloc (.cells #[.int .i64 u0, .int .i64 u1, .string u2, .slice ua ul uc, .slice ya yl yc] 26) := ⟨_, rfl⟩
  have hz4 : W4.heap.size = w3.heap.size + 1 := by rw [hW4]; simp
  have hb34 : Below w3.heap.size w3 W4 := by rw [hW4]; exact (Below.refl _ _).alloc (Nat.le_refl _) _
  have hb4 := below_step hb3 hb3.size hb34
  have hzero4 := (hb34.block w.heap.size (by omega)).trans hzero3
  obtain ⟨ht4, hB4⟩ := ht.step (fun b hb => hb.2) hb34
  have hr4 : RdS W4 (w.heap.size + 1) s i' bad' := (hb34.block _ hr3.lt).trans hr3
  have hx4 : Box5 W4 w3.heap.size (.int .i64 u0) (.int .i64 u1) (.string u2) (.slice ua ul uc) (.slice ya yl yc) := by rw [hW4]; exact Box5.new _ _ _ _ _ _ _
  have c1 := hr4.cell1
  have c2 := hr4.cell2
  have HG : Hid (GotT (m + 1) 6 s 0 false t i' bad') := hG
  obtain ⟨k0, k1, k2, k3, k4⟩ := id hx4
  have hnone : Hid (∀ W : World, Below W4.heap.size W4 W → readT (m + 1) s = none → SpecReadT (m + 1) (ansU m s) (okU m s) w (.returned (.tuple #[.agg #[.int .i64 0, .int .i64 0, .string ⟨#[]⟩, .slice none 0 0, .slice none 0 0], .bool false])) (put5 W w.heap.size 0 (.int .i64 0) (.int .i64 0) (.string ⟨#[]⟩) (.slice none 0 0) (.slice none 0 0))) := fun W hW h => specT_none h (HPut.out W (below_step hb4 hb4.size hW))
  have HZ : Hid (∀ W : World, Below W4.heap.size W4 W → W.heap[w.heap.size]? = some (.cells #[.int .i64 0, .int .i64 0, .string ⟨#[]⟩, .slice none 0 0, .slice none 0 0] 26 (0, 0))) := fun W hW => (hW.block w.heap.size (by omega)).trans hzero4
  have HB : Hid (Below w.heap.size w W4) := hb4
  clear HK hG ht hr3 hr4 hn3 hb3 hb34 hb4 hzero2 hzero3 hzero4 hb2 HPut
  cases bad' with
  | true =>
    obtain ⟨⟨r0, r1, r2, r3, r4⟩, f0, f1, f2, f3, f4⟩ := zeroT_cells (HZ.out W4 (Below.refl _ _))
    have HP : Hid _ := hnone.out W4 (Below.refl _ _) (notT_read HG.out (.inl rfl))
    rw [hW4] at c1 c2 k0 k1 k2 k3 k4 r0 r1 r2 r3 r4 f0 f1 f2 f3 f4 HP
    clear hx4 ht4 hnone HZ HG
    go_wp2_with fail
    refine bodyPost_ret (v := .tuple #[.agg #[.int .i64 0, .int .i64 0, .string ⟨#[]⟩, .slice none 0 0, .slice none 0 0], .bool false]) (by simp [results, Tryz.results15, go_sem, r0, r1, r2, r3, r4]) rfl ?_
    exact HP.out
  | false =>
    by_cases hat : i' = s.size
    case neg =>
      have hne : ((i' : Int) != (s.size : Int)) = true := by simp; omega
      obtain ⟨⟨r0, r1, r2, r3, r4⟩, f0, f1, f2, f3, f4⟩ := zeroT_cells (HZ.out W4 (Below.refl _ _))
      have HP : Hid _ := hnone.out W4 (Below.refl _ _) (notT_read HG.out (.inr (.inl hat)))
      rw [hW4] at c1 c2 k0 k1 k2 k3 k4 r0 r1 r2 r3 r4 f0 f1 f2 f3 f4 HP
      clear hx4 ht4 hnone HZ HG hat
      go_wp2_with fail
      refine bodyPost_ret (v := .tuple #[.agg #[.int .i64 0, .int .i64 0, .string ⟨#[]⟩, .slice none 0 0, .slice none 0 0], .bool false]) (by simp [results, Tryz.results15, go_sem, r0, r1, r2, r3, r4]) rfl ?_
      exact HP.out
    have hne : ((i' : Int) != (s.size : Int)) = false := by simp; omega
    have HOk : Hid (Calls Tryz.prog 8 #[.agg #[.int .i64 u0, .int .i64 u1, .string u2, .slice ua ul uc, .slice ya yl yc]] W4 _) := specOk_any (m + 1) _ t _ _ _ _ _ W4 ht4 hB4
    rw [hW4] at c1 c2 k0 k1 k2 k3 k4
    clear hat
    go_wp2_with fail
    rw [← hW4]
    clear c1 c2 k0 k1 k2 k3 k4
    refine HOk.out.mono ?_
    rintro e w5 ⟨rfl, hb5⟩
    have hz5 := hb5.size
    obtain ⟨k0, k1, k2, k3, k4⟩ := hx4.keep hb5
    cases hok : okT (m + 1) t with
    | false =>
      obtain ⟨⟨r0, r1, r2, r3, r4⟩, f0, f1, f2, f3, f4⟩ := zeroT_cells (HZ.out w5 hb5)
      have HP : Hid _ := hnone.out w5 hb5 (notT_read HG.out (.inr (.inr (.inl hok))))
      clear hx4 ht4 hnone HZ HG hb5 HOk hok
      go_wp2_with fail
      refine bodyPost_ret (v := .tuple #[.agg #[.int .i64 0, .int .i64 0, .string ⟨#[]⟩, .slice none 0 0, .slice none 0 0], .bool false]) (by simp [results, Tryz.results15, go_sem, r0, r1, r2, r3, r4]) rfl ?_
      exact HP.out
    | true =>
      have hp := okT_get hok
      obtain ⟨ht5, hB5⟩ := ht4.step hB4 hb5
      have HTx : Hid (Calls Tryz.prog 21 _ w5 _) := l1Text_any (m + 1) _ t _ _ _ _ _ 1 w5 ht5 hB5 hp.1 hp.2
      have HOK : Hid (okT (m + 1) t = true) := hok
      clear hok hp HOk
      go_wp2_with fail
      refine HTx.out.mono ?_
      rintro e w6 ⟨rfl, hb6⟩
      have hz6 := hb6.size
      have hb46 := below_step hb5 hz5 hb6
      clear k0 k1 k2 k3 k4
      obtain ⟨k0, k1, k2, k3, k4⟩ := hx4.keep hb46
      obtain ⟨⟨r0, r1, r2, r3, r4⟩, f0, f1, f2, f3, f4⟩ := zeroT_cells (HZ.out w6 hb46)
      by_cases htx : txtL (m + 1) t = s.data.toList
      · have hq : ((bs (txtL (m + 1) t)).toList == s.toList) = true := by rw [htx, bs_of]; simp
        have HP : Hid (SpecReadT (m + 1) (ansU m s) (okU m s) w (.returned (.tuple #[.agg #[.int .i64 u0, .int .i64 u1, .string u2, .slice ua ul uc, .slice ya yl yc], .bool true])) (put5 w6 w.heap.size 0 (.int .i64 u0) (.int .i64 u1) (.string u2) (.slice ua ul uc) (.slice ya yl yc))) := by
          obtain ⟨q1, q2⟩ := ansU_some (readT_of h8 HOK.out htx)
          rw [q1, q2]
          have ht6 := (ht4.step hB4 hb46).1
          refine ⟨put5_below (below_step HB.out HB.out.size hb46) (Nat.le_refl _), _, _, _, _, _, rfl, ht6.keep (fun b hb => put5_other (by omega)) (fun b hb => by rw [put5_size]; omega)⟩
        clear hx4 ht4 ht5 hnone HZ HG hb5 hb6 hb46 HTx htx HOK
        go_wp2_with fail
        refine bodyPost_ret (v := .tuple #[.agg #[.int .i64 u0, .int .i64 u1, .string u2, .slice ua ul uc, .slice ya yl yc], .bool true]) (by simp [results, Tryz.results15, go_sem, r0, r1, r2, r3, r4]) rfl ?_
        exact HP.out
      · have hq : ((bs (txtL (m + 1) t)).toList == s.toList) = false := by
          rw [beq_eq_false_iff_ne]
          intro e
          apply htx
          rw [ByteArray.toList_eq, ByteArray.toList_eq, bs_toList] at e
          exact e
        have HP : Hid _ := hnone.out w6 hb46 (notT_read HG.out (.inr (.inr (.inr htx))))
        clear hx4 ht4 ht5 hnone HZ HG hb5 hb6 hb46 HTx htx HOK
        go_wp2_with fail
        refine bodyPost_ret (v := .tuple #[.agg #[.int .i64 0, .int .i64 0, .string ⟨#[]⟩, .slice none 0 0, .slice none 0 0], .bool false]) (by simp [results, Tryz.results15, go_sem, r0, r1, r2, r3, r4]) rfl ?_
        exact HP.out

end Go.Proofs.YtjnhklacadbpoaaGreatDoor
