/-
  EventRead of the program: what it answers, and what the answer owns.
-/
import Derived.Test.YtpnnbdejneoccaaGreatDoorEQ2
import Derived.Test.YtpnnbdejneoccaaGreatDoorTNew
import Derived.Test.YtpnnbdejneoccaaGreatDoorB17
namespace Go.Proofs.YtpnnbdejneoccaaGreatDoor
open Go.RowKit

/-- What caught makes. -/
def CaughtR (L : Nat) (w : World) (R : Nat) (l : List UInt8) (e : Ending) (w' : World) : Prop :=
  Near R w w' ∧ ((∃ (x : ByteArray) (v : Int) (t : T L) (c0 c1 c2 c3 c4 : Value), e = .returned (.tuple #[.agg #[.string x, .int .i64 v, c0, c1, c2, c3, c4], .bool true]) ∧ x.size ≤ 10000 ∧ TreeIn (fun b => w.heap.size ≤ b ∧ b < w'.heap.size) w' L t c0 c1 c2 c3 c4 ∧ OwnT (fun b => w.heap.size ≤ b ∧ b < w'.heap.size) w' L t c3 c4 ∧ TookR L l x v t) ∨
    (NoR L l ∧ e = .returned (.tuple #[.agg #[.string ⟨#[]⟩, .int .i64 0, .int .i64 0, .int .i64 0, .string ⟨#[]⟩, .slice none 0 0, .slice none 0 0], .bool false])))

set_option maxRecDepth 100000 in
set_option maxHeartbeats 2000000 in
theorem caughtR_any (m B R : Nat) (s : ByteArray) (w : World) (hL : LaidU B w) (hBR : B ≤ R) (h : Sc w R s 0) (hM : Meth w R) (hs : s.size ≤ 10000) (hm : s.size < m + 1) :
    Calls Tryz.prog 26 #[.func (.func 16) #[.agg #[.pointer (some ⟨R, 0, none⟩)]] #[]] w (CaughtR (m + 1) w R s.data.toList) := by
  have hR := h.lt
  obtain ⟨W, hW⟩ : ∃ W, W = w.alloc (.cells #[.string ⟨#[]⟩, .int .i64 0, .int .i64 0, .int .i64 0, .string ⟨#[]⟩, .slice none 0 0, .slice none 0 0] 27) := ⟨_, rfl⟩
  have hzW : W.heap.size = w.heap.size + 1 := by rw [hW]; simp
  have hb0 : Below w.heap.size w W := by rw [hW]; exact (Below.refl _ _).alloc (Nat.le_refl _) _
  have HZ : Hid (W.heap[w.heap.size]? = some (.cells #[.string ⟨#[]⟩, .int .i64 0, .int .i64 0, .int .i64 0, .string ⟨#[]⟩, .slice none 0 0, .slice none 0 0] 27 (0, 0))) := by rw [hW]; exact heap_alloc_new _ _
  have HN0 : Hid (Near R w W) := Near.of_below hb0
  have hsc0 : Scan R w W 0 := (Scan.refl h).below hb0 hR
  have HC := Lib.hid (wholeR_any m B R s W (hL.step (hb0.mono (by omega))) hBR (hsc0.sc h) (hM.scan hsc0) hs hm)
  clear h hL hM hb0 hsc0
  go_enter_defers Tryz.func26, Tryz.ntmps26
  go_wp2_with fail
  rw [← hW]
  clear hW
  refine HC.out.mono ?_
  rintro e w1 ⟨hn, ⟨x, v, t, q0, q1, q2, q3, q4, rfl, hx, ht, ho, hk⟩ | ⟨hno, rfl⟩⟩
  · obtain ⟨t0, t1, t2, ta, tl, tc, ua, ul, uc, rfl, rfl, rfl, rfl, rfl⟩ := ht.shape
    have hz1 := hn.size
    obtain ⟨⟨z0, z1, z2, z3, z4, z5, z6⟩, f0, f1, f2, f3, f4, f5, f6⟩ := ev7_cells ((hn.block w.heap.size (by omega) (by omega)).trans HZ.out)
    have HP : Hid (CaughtR (m + 1) w R s.data.toList (.returned (.tuple #[.agg #[.string x, .int .i64 v, .int .i64 t0, .int .i64 t1, .string t2, .slice ta tl tc, .slice ua ul uc], .bool true])) (put7 w1 w.heap.size (.string x) (.int .i64 v) (.int .i64 t0) (.int .i64 t1) (.string t2) (.slice ta tl tc) (.slice ua ul uc))) := by
      refine ⟨put7_near (HN0.out.trans hn) (Nat.le_refl _), .inl ⟨x, v, t, _, _, _, _, _, rfl, hx, ht.keep (fun b hb => put7_other (by omega)) (fun b hb => ⟨by omega, by rw [put7_size]; exact hb.2⟩), ho.keep (fun b hb => put7_other (by omega)) (fun b hb => ⟨by omega, by rw [put7_size]; exact hb.2⟩), hk⟩⟩
    clear HC ht ho hk hn
    go_wp2_with fail
    refine leaves_cons (f := 51) (args := #[]) (by simp) (by simp [go_sem]) ?_
    refine (catchE_nothing _).mono ?_
    rintro e u' w'' ⟨rfl, rfl, rfl⟩
    exact ⟨.tuple #[.agg #[.string x, .int .i64 v, .int .i64 t0, .int .i64 t1, .string t2, .slice ta tl tc, .slice ua ul uc], .bool true], by simp [results, Tryz.results26, go_sem, z0, z1, z2, z3, z4, z5, z6], HP.out⟩
  · obtain ⟨⟨z0, z1, z2, z3, z4, z5, z6⟩, f0, f1, f2, f3, f4, f5, f6⟩ := ev7_cells ((hn.block w.heap.size (by omega) (by omega)).trans HZ.out)
    have HP : Hid (CaughtR (m + 1) w R s.data.toList (.returned (.tuple #[.agg #[.string ⟨#[]⟩, .int .i64 0, .int .i64 0, .int .i64 0, .string ⟨#[]⟩, .slice none 0 0, .slice none 0 0], .bool false])) w1) := ⟨HN0.out.trans hn, .inr ⟨hno, rfl⟩⟩
    clear HC hn hno
    refine leaves_cons (f := 51) (args := #[]) (by simp) (by simp [go_sem]) ?_
    refine (catchE_refusal _).mono ?_
    rintro e u' w'' ⟨rfl, rfl, rfl⟩
    exact ⟨.tuple #[.agg #[.string ⟨#[]⟩, .int .i64 0, .int .i64 0, .int .i64 0, .string ⟨#[]⟩, .slice none 0 0, .slice none 0 0], .bool false], by simp [results, Tryz.results26, go_sem, z0, z1, z2, z3, z4, z5, z6], HP.out⟩

/-- What takenEvent makes. -/
def TakenR (m : Nat) (w : World) (R : Nat) (l : List UInt8) (e : Ending) (w' : World) : Prop :=
  Near R w w' ∧ ∃ (ok : Bool) (x : ByteArray) (v : Int) (t : T (m + 1)) (c0 c1 c2 c3 c4 : Value), e = .returned (.tuple #[.agg #[.string x, .int .i64 v, c0, c1, c2, c3, c4], .bool ok]) ∧ x.size ≤ 10000 ∧ TreeIn (fun b => w.heap.size ≤ b ∧ b < w'.heap.size) w' (m + 1) t c0 c1 c2 c3 c4 ∧ OwnA (fun b => w.heap.size ≤ b ∧ b < w'.heap.size) w' (m + 1) c3 c4 ∧ ERdA m l ok x v t

theorem takenR_none {m : Nat} {w W : World} {R : Nat} {l : List UInt8} (hn : Near R w W) (hno : ∀ (x' : ByteArray) (v' : Int) (t' : T (m + 1)), okE (m + 1) x' v' t' = true → txtE (m + 1) x' v' t' ≠ l) : TakenR m w R l (.returned (.tuple #[.agg #[.string ⟨#[]⟩, .int .i64 0, .int .i64 0, .int .i64 0, .string ⟨#[]⟩, .slice none 0 0, .slice none 0 0], .bool false])) W :=
  ⟨hn, false, ByteArray.empty, 0, (⟨0, 0, ByteArray.empty, [], []⟩ : Nd (T m)), _, _, _, _, _, rfl, by simp, leafT_in _ _ m 0 0 ByteArray.empty (by rfl) (by rfl) (by simp), OwnA.none _ _ _, .inr ⟨rfl, rfl, rfl, rfl, hno⟩⟩

set_option maxRecDepth 100000 in
set_option maxHeartbeats 2000000 in
theorem takenR_any (m B R : Nat) (s : ByteArray) (w : World) (hL : LaidU B w) (hBR : B ≤ R) (h : Sc w R s 0) (hM : Meth w R) (hs : s.size ≤ 10000) (hm : s.size < m + 1) :
    Calls Tryz.prog 14 #[.func (.func 16) #[.agg #[.pointer (some ⟨R, 0, none⟩)]] #[]] w (TakenR m w R s.data.toList) := by
  have hR := h.lt
  obtain ⟨W, hW⟩ : ∃ W, W = w.alloc (.cells #[.string ⟨#[]⟩, .int .i64 0, .int .i64 0, .int .i64 0, .string ⟨#[]⟩, .slice none 0 0, .slice none 0 0] 27) := ⟨_, rfl⟩
  have hzW : W.heap.size = w.heap.size + 1 := by rw [hW]; simp
  have hb0 : Below w.heap.size w W := by rw [hW]; exact (Below.refl _ _).alloc (Nat.le_refl _) _
  have HZ : Hid (W.heap[w.heap.size]? = some (.cells #[.string ⟨#[]⟩, .int .i64 0, .int .i64 0, .int .i64 0, .string ⟨#[]⟩, .slice none 0 0, .slice none 0 0] 27 (0, 0))) := by rw [hW]; exact heap_alloc_new _ _
  have HN0 : Hid (Near R w W) := Near.of_below hb0
  have hsc0 : Scan R w W 0 := (Scan.refl h).below hb0 hR
  have HC := Lib.hid (caughtR_any m B R s W (hL.step (hb0.mono (by omega))) hBR (hsc0.sc h) (hM.scan hsc0) hs hm)
  clear h hL hM hb0 hsc0
  go_enter Tryz.func14, Tryz.ntmps14
  go_wp2_with fail
  rw [← hW]
  clear hW
  refine HC.out.mono ?_
  rintro e w1 ⟨hn, ⟨x, v, t, q0, q1, q2, q3, q4, rfl, hx, ht, ho, hk⟩ | ⟨hno, rfl⟩⟩
  case inr =>
    have hz1 := hn.size
    obtain ⟨W2, hW2⟩ : ∃ W2, W2 = w1.alloc (.cells #[.string ⟨#[]⟩, .int .i64 0, .int .i64 0, .int .i64 0, .string ⟨#[]⟩, .slice none 0 0, .slice none 0 0] 27) := ⟨_, rfl⟩
    have hb2 : Below w1.heap.size w1 W2 := by rw [hW2]; exact (Below.refl _ _).alloc (Nat.le_refl _) _
    have hzero2 := (hb2.block w.heap.size (by omega)).trans ((hn.block w.heap.size (by omega) (by omega)).trans HZ.out)
    obtain ⟨⟨z0, z1, z2, z3, z4, z5, z6⟩, f0, f1, f2, f3, f4, f5, f6⟩ := ev7_cells hzero2
    have HP : Hid (TakenR m w R s.data.toList (.returned (.tuple #[.agg #[.string ⟨#[]⟩, .int .i64 0, .int .i64 0, .int .i64 0, .string ⟨#[]⟩, .slice none 0 0, .slice none 0 0], .bool false])) (put7 W2 w.heap.size (.string ⟨#[]⟩) (.int .i64 0) (.int .i64 0) (.int .i64 0) (.string ⟨#[]⟩) (.slice none 0 0) (.slice none 0 0))) := takenR_none (put7_near ((HN0.out.trans hn).trans (Near.of_below hb2)) (Nat.le_refl _)) hno
    have HW2 : Hid (w1.alloc (.cells #[.string ⟨#[]⟩, .int .i64 0, .int .i64 0, .int .i64 0, .string ⟨#[]⟩, .slice none 0 0, .slice none 0 0] 27) = W2) := hW2.symm
    clear HC hn hno hb2 hzero2 hW2
    go_upto_region 2 with fail
    rw [HW2.out]
    clear HW2
    go_wp2_with fail
    refine bodyPost_ret (v := .tuple #[.agg #[.string ⟨#[]⟩, .int .i64 0, .int .i64 0, .int .i64 0, .string ⟨#[]⟩, .slice none 0 0, .slice none 0 0], .bool false]) (by simp [results, Tryz.results14, go_sem, z0, z1, z2, z3, z4, z5, z6]) rfl ?_
    exact HP.out
  obtain ⟨t0, t1, t2, ta, tl, tc, ua, ul, uc, rfl, rfl, rfl, rfl, rfl⟩ := ht.shape
  have hz1 := hn.size
  obtain ⟨W2, hW2⟩ : ∃ W2, W2 = w1.alloc (.cells #[.string x, .int .i64 v, .int .i64 t0, .int .i64 t1, .string t2, .slice ta tl tc, .slice ua ul uc] 27) := ⟨_, rfl⟩
  have hb2 : Below w1.heap.size w1 W2 := by rw [hW2]; exact (Below.refl _ _).alloc (Nat.le_refl _) _
  have hz2 : W2.heap.size = w1.heap.size + 1 := by rw [hW2]; simp
  have hbox2 : W2.heap[w1.heap.size]? = some (.cells #[.string x, .int .i64 v, .int .i64 t0, .int .i64 t1, .string t2, .slice ta tl tc, .slice ua ul uc] 27 (0, 0)) := by rw [hW2]; exact heap_alloc_new _ _
  have hzero2 := (hb2.block w.heap.size (by omega)).trans ((hn.block w.heap.size (by omega) (by omega)).trans HZ.out)
  have hnW2 : Near R w W2 := (HN0.out.trans hn).trans (Near.of_below hb2)
  have ht2 : TreeIn (fun b => W.heap.size ≤ b ∧ b < w1.heap.size) W2 (m + 1) t (.int .i64 t0) (.int .i64 t1) (.string t2) (.slice ta tl tc) (.slice ua ul uc) := ht.keep (fun b hb => hb2.block b hb.2) (fun _ h => h)
  have ho2 : OwnT (fun b => W.heap.size ≤ b ∧ b < w1.heap.size) W2 (m + 1) t (.slice ta tl tc) (.slice ua ul uc) := ho.keep (fun b hb => hb2.block b hb.2) (fun _ h => h)
  have HC2 := Lib.hid (implEOk_any (m + 1) _ x v t _ _ _ _ _ W2 (by unfold maxLen; omega) ht2 (fun b hb => by omega))
  have HTo : Hid (_ ∧ _) := ⟨ht2, ho2⟩
  have HK := Lib.hid hk
  have HB2 : Hid (_ ∧ _ ∧ _) := ⟨hbox2, hzero2, hnW2⟩
  obtain ⟨⟨s0, s1, s2, s3, s4, s5, s6⟩, -⟩ := ev7_cells hbox2
  have HW2 : Hid (w1.alloc (.cells #[.string x, .int .i64 v, .int .i64 t0, .int .i64 t1, .string t2, .slice ta tl tc, .slice ua ul uc] 27) = W2) := hW2.symm
  clear HC hn ht ho hk hb2 hbox2 hzero2 hnW2 ht2 ho2 hW2 HZ HN0
  go_upto_region 2 with fail
  rw [HW2.out]
  clear HW2
  go_wp2_with fail
  refine HC2.out.mono ?_
  rintro e w3 ⟨rfl, hb3⟩
  have hz3 := hb3.size
  clear s0 s1 s2 s3 s4 s5 s6
  obtain ⟨⟨s0, s1, s2, s3, s4, s5, s6⟩, -⟩ := ev7_cells ((hb3.block w1.heap.size (by omega)).trans HB2.out.1)
  obtain ⟨⟨z0, z1, z2, z3, z4, z5, z6⟩, f0, f1, f2, f3, f4, f5, f6⟩ := ev7_cells ((hb3.block w.heap.size (by omega)).trans HB2.out.2.1)
  have hn3 : Near R w w3 := HB2.out.2.2.trans (Near.of_below hb3)
  cases hok : okE (m + 1) x v t with
  | false =>
    have HP : Hid (TakenR m w R s.data.toList (.returned (.tuple #[.agg #[.string ⟨#[]⟩, .int .i64 0, .int .i64 0, .int .i64 0, .string ⟨#[]⟩, .slice none 0 0, .slice none 0 0], .bool false])) (put7 w3 w.heap.size (.string ⟨#[]⟩) (.int .i64 0) (.int .i64 0) (.int .i64 0) (.string ⟨#[]⟩) (.slice none 0 0) (.slice none 0 0))) := takenR_none (put7_near hn3 (Nat.le_refl _)) (fun x' v' t' ho' hp' => by
      obtain ⟨rfl, rfl, rfl⟩ := HK.out.2 x' v' t' ho' hp'
      rw [ho'] at hok; cases hok)
    clear HC2 HTo HK HB2 hb3 hn3 hok
    go_wp2_with fail
    refine bodyPost_ret (v := .tuple #[.agg #[.string ⟨#[]⟩, .int .i64 0, .int .i64 0, .int .i64 0, .string ⟨#[]⟩, .slice none 0 0, .slice none 0 0], .bool false]) (by simp [results, Tryz.results14, go_sem, z0, z1, z2, z3, z4, z5, z6]) rfl ?_
    exact HP.out
  | true =>
    have HP : Hid (TakenR m w R s.data.toList (.returned (.tuple #[.agg #[.string x, .int .i64 v, .int .i64 t0, .int .i64 t1, .string t2, .slice ta tl tc, .slice ua ul uc], .bool true])) (put7 w3 w.heap.size (.string x) (.int .i64 v) (.int .i64 t0) (.int .i64 t1) (.string t2) (.slice ta tl tc) (.slice ua ul uc))) := by
      refine ⟨put7_near hn3 (Nat.le_refl _), true, x, v, t, _, _, _, _, _, rfl, hx, HTo.out.1.keep (fun b hb => (put7_other (by omega)).trans (hb3.block b (by omega))) (fun b hb => ⟨by omega, by rw [put7_size]; omega⟩), ((HTo.out.2).ans hok).keep (fun b hb => (put7_other (by omega)).trans (hb3.block b (by omega))) (fun b hb => ⟨by omega, by rw [put7_size]; omega⟩), .inl ⟨rfl, hok, HK.out.1 hok⟩⟩
    clear HC2 HTo HK HB2 hb3 hn3 hok
    go_wp2_with fail
    refine bodyPost_ret (v := .tuple #[.agg #[.string x, .int .i64 v, .int .i64 t0, .int .i64 t1, .string t2, .slice ta tl tc, .slice ua ul uc], .bool true]) (by simp [results, Tryz.results14, go_sem, z0, z1, z2, z3, z4, z5, z6]) rfl ?_
    exact HP.out

/-- What EventUnpack of the program makes. -/
def ERPostI (m : Nat) (l : List UInt8) (w : World) (e : Ending) (w' : World) : Prop :=
  Below w.heap.size w w' ∧ ∃ (ok : Bool) (x : ByteArray) (v : Int) (t : T (m + 1)) (c0 c1 c2 c3 c4 : Value), e = .returned (.tuple #[.agg #[.string x, .int .i64 v, c0, c1, c2, c3, c4], .bool ok]) ∧ TreeIn (fun b => w.heap.size ≤ b ∧ b < w'.heap.size) w' (m + 1) t c0 c1 c2 c3 c4 ∧ OwnA (fun b => w.heap.size ≤ b ∧ b < w'.heap.size) w' (m + 1) c3 c4 ∧ ERdA m l ok x v t

set_option maxRecDepth 100000 in
set_option maxHeartbeats 2000000 in
theorem implERead_any (m B : Nat) (s : ByteArray) (hm : s.size ≤ m) (hs : s.size ≤ 1048576) (w : World) (hL : LaidU B w) (hB : B ≤ w.heap.size) :
    Calls Tryz.prog 5 #[.string s] w (ERPostI m s.data.toList w) := by
  obtain ⟨W0, hW0⟩ : ∃ W0, W0 = w.alloc (.cells #[.string ⟨#[]⟩, .int .i64 0, .int .i64 0, .int .i64 0, .string ⟨#[]⟩, .slice none 0 0, .slice none 0 0] 27) := ⟨_, rfl⟩
  have hb0 : Below w.heap.size w W0 := by rw [hW0]; exact (Below.refl _ _).alloc (Nat.le_refl _) _
  have hz0 : W0.heap.size = w.heap.size + 1 := by rw [hW0]; simp
  have hN0 : W0.heap[w.heap.size]? = some (.cells #[.string ⟨#[]⟩, .int .i64 0, .int .i64 0, .int .i64 0, .string ⟨#[]⟩, .slice none 0 0, .slice none 0 0] 27 (0, 0)) := by rw [hW0]; exact heap_alloc_new _ _
  have HB0 := Lib.hid hb0
  have HN0 := Lib.hid hN0
  by_cases h8 : s.size ≤ 10000
  case neg =>
    have hll : s.data.toList.length = s.size := by simp
    have HP : Hid (ERPostI m s.data.toList w (.returned (.tuple #[.agg #[.string ⟨#[]⟩, .int .i64 0, .int .i64 0, .int .i64 0, .string ⟨#[]⟩, .slice none 0 0, .slice none 0 0], .bool false])) W0) :=
      ⟨HB0.out, false, ByteArray.empty, 0, (⟨0, 0, ByteArray.empty, [], []⟩ : Nd (T m)), _, _, _, _, _, rfl, leafT_in _ _ m 0 0 ByteArray.empty (by rfl) (by rfl) (by simp), OwnA.none _ _ _, .inr ⟨rfl, rfl, rfl, rfl, fun x' v' t' ho hp => by have h1 := txtE_len ho; rw [hp] at h1; omega⟩⟩
    obtain ⟨⟨z0, z1, z2, z3, z4, z5, z6⟩, f0, f1, f2, f3, f4, f5, f6⟩ := ev7_cells hN0
    subst hW0
    have hLi : (10000 : Int) < (s.size : Int) := by omega
    clear hN0 HN0 HB0 hL hll hb0
    go_enter Tryz.func5, Tryz.ntmps5
    go_wp2_with fail
    refine bodyPost_ret (v := .tuple #[.agg #[.string ⟨#[]⟩, .int .i64 0, .int .i64 0, .int .i64 0, .string ⟨#[]⟩, .slice none 0 0, .slice none 0 0], .bool false]) (by simp [results, Tryz.results5, go_sem, z0, z1, z2, z3, z4, z5, z6]) rfl ?_
    exact HP.out
  have hLi : ¬ (10000 : Int) < (s.size : Int) := by omega
  have hmf : ∀ (fn : Fn) (first cap : Array Value) (w : World), (Instr.makeFunc fn first cap).run Tryz.prog w = .ok (.func fn first cap) w := fun _ _ _ _ => rfl
  have HNw := Lib.hid (newTreeReader_any s W0)
  have HL := Lib.hid hL
  clear hL hb0 hN0
  go_enter Tryz.func5, Tryz.ntmps5
  go_wp2_with fail
  rw [← hW0]
  clear hW0
  refine HNw.out.mono ?_
  rintro e W1 ⟨rfl, hb1, hSc, hMe⟩
  have hz1 : W0.heap.size < W1.heap.size := hSc.lt
  obtain ⟨R, hR⟩ : ∃ R, W0.heap.size = R := ⟨_, rfl⟩
  rw [hR] at hSc hMe hz1
  rw [hR]
  have hRw : R = w.heap.size + 1 := by omega
  have hR1 : w.heap.size < R := by omega
  have hbw1 : Below w.heap.size w W1 := below_step HB0.out HB0.out.size hb1
  have HC := Lib.hid (takenR_any m B R s W1 (HL.out.step (hbw1.mono hB)) (by omega) hSc hMe h8 (by omega))
  have HN1 := Lib.hid ((hb1.block w.heap.size (by omega)).trans HN0.out)
  have HB1 := Lib.hid hbw1
  clear hb1 hSc hMe hbw1 HNw HL HN0 HB0 hR hz0 hRw
  go_wp2_with fail
  refine HC.out.mono ?_
  rintro e w2 ⟨hn2, ok, x, v, t, q0, q1, q2, q3, q4, rfl, hx, ht, ho, hu⟩
  obtain ⟨t0, t1, t2, ta, tl, tc, ua, ul, uc, rfl, rfl, rfl, rfl, rfl⟩ := ht.shape
  have hz2 := hn2.size
  obtain ⟨⟨z0, z1, z2, z3, z4, z5, z6⟩, f0, f1, f2, f3, f4, f5, f6⟩ := ev7_cells ((hn2.block w.heap.size (by omega) (by omega)).trans HN1.out)
  have HP : Hid (ERPostI m s.data.toList w (.returned (.tuple #[.agg #[.string x, .int .i64 v, .int .i64 t0, .int .i64 t1, .string t2, .slice ta tl tc, .slice ua ul uc], .bool ok])) (put7 w2 w.heap.size (.string x) (.int .i64 v) (.int .i64 t0) (.int .i64 t1) (.string t2) (.slice ta tl tc) (.slice ua ul uc))) := by
    have hb2 : Below w.heap.size w w2 := ⟨hn2.os.trans HB1.out.os, hn2.tape.trans HB1.out.tape, hn2.output.trans HB1.out.output, by have := HB1.out.size; omega, fun b hb => (hn2.block b (by have := HB1.out.size; omega) (by omega)).trans (HB1.out.block b hb)⟩
    exact ⟨put7_below hb2 (Nat.le_refl _), ok, x, v, t, _, _, _, _, _, rfl, ht.keep (fun b hb => put7_other (by omega)) (fun b hb => ⟨by omega, by rw [put7_size]; exact hb.2⟩), ho.keep (fun b hb => put7_other (by omega)) (fun b hb => ⟨by omega, by rw [put7_size]; exact hb.2⟩), hu⟩
  clear HC hn2 ht ho hu HB1 HN1
  go_wp2_with fail
  refine bodyPost_ret (v := .tuple #[.agg #[.string x, .int .i64 v, .int .i64 t0, .int .i64 t1, .string t2, .slice ta tl tc, .slice ua ul uc], .bool ok]) (by simp [results, Tryz.results5, go_sem, z0, z1, z2, z3, z4, z5, z6]) rfl ?_
  exact HP.out

end Go.Proofs.YtpnnbdejneoccaaGreatDoor
