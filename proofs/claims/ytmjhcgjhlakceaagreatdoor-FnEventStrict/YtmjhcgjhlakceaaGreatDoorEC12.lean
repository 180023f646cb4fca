import Derived.Test.YtmjhcgjhlakceaaGreatDoorEC11
import Derived.Test.YtmjhcgjhlakceaaGreatDoorB31
namespace Go.Proofs.YtmjhcgjhlakceaaGreatDoor
open Go.RowKit
def CaughtE (L : Nat) (w : World) (R : Nat) (l : List UInt8) (e : Ending) (w' : World) : Prop :=
 Near R w w' /\ ((∃ (x : ByteArray) (v : Int) (t : T L) (c0 c1 c2 c3 c4 : Value), e = .returned (.tuple #[.agg #[.string x, .int .i64 v, c0, c1, c2, c3, c4], .bool true]) /\ x.size <= 255 /\ TreeIn (fun b => w.heap.size <= b /\ b < w'.heap.size) w' L t c0 c1 c2 c3 c4 /\ OwnT (fun b => w.heap.size <= b /\ b < w'.heap.size) w' L t c3 c4 /\ TookE L l x v t) ∨
  ((∀ (x' : ByteArray) (v' : Int) (t' : T L), okE L x' v' t' = true -> packE L x' v' t' ≠ l) /\ e = .returned (.tuple #[.agg #[.string ⟨#[]⟩, .int .i64 0, .int .i64 0, .int .i64 0, .string ⟨#[]⟩, .slice none 0 0, .slice none 0 0], .bool false])))
set_option maxRecDepth 100000 in
set_option maxHeartbeats 2000000 in
theorem caughtE_any (L : Nat) (hT : TrCSaid L) (w : World) (R : Nat) (ao : Option Addr) (l : List UInt8) (cap : Nat) (h : Cu w R ao l cap 0) (hL : l.length <= L) :
  Calls Tryz.prog 51 #[.func (.func 24) #[.pointer (some ⟨R, 0, none⟩)] #[]] w (CaughtE L w R l) := by
 have hR := h.lt
 obtain ⟨W, hW⟩ : ∃ W, W = w.alloc (.cells #[.string ⟨#[]⟩, .int .i64 0, .int .i64 0, .int .i64 0, .string ⟨#[]⟩, .slice none 0 0, .slice none 0 0] 29) := ⟨_, rfl⟩
 have hzW : W.heap.size = w.heap.size + 1 := by rw [hW]; simp
 have hb0 : Below w.heap.size w W := by rw [hW]; exact (Below.refl _ _).alloc (Nat.le_refl _) _
 have HZ : Hid (W.heap[w.heap.size]? = some (.cells #[.string ⟨#[]⟩, .int .i64 0, .int .i64 0, .int .i64 0, .string ⟨#[]⟩, .slice none 0 0, .slice none 0 0] 29 (0, 0))) := by rw [hW]; exact heap_alloc_new _ _
 have HN0 : Hid (Near R w W) := Near.of_below hb0
 have HC := Lib.hid (wholeC_any L hT W R ao l cap (h.same hb0) hL)
 clear h hT hb0
 go_enter_defers Tryz.func51, Tryz.ntmps51
 go_wp2_with fail
 rw [<- hW]
 clear hW
 refine HC.out.mono ?_
 rintro e w1 ⟨hn, ⟨x, v, t, q0, q1, q2, q3, q4, rfl, hx, ht, ho, hk⟩ | ⟨hno, rfl⟩⟩
 ·obtain ⟨t0, t1, t2, ta, tl, tc, ua, ul, uc, rfl, rfl, rfl, rfl, rfl⟩ := ht.shape
  have hz1 := hn.size
  obtain ⟨⟨z0, z1, z2, z3, z4, z5, z6⟩, f0, f1, f2, f3, f4, f5, f6⟩ := ev7_cells ((hn.block w.heap.size (by omega) (by omega)).trans HZ.out)
  have HP : Hid (CaughtE L w R l (.returned (.tuple #[.agg #[.string x, .int .i64 v, .int .i64 t0, .int .i64 t1, .string t2, .slice ta tl tc, .slice ua ul uc], .bool true])) (put7 w1 w.heap.size (.string x) (.int .i64 v) (.int .i64 t0) (.int .i64 t1) (.string t2) (.slice ta tl tc) (.slice ua ul uc))) := by
   refine ⟨put7_near (HN0.out.trans hn) (Nat.le_refl _), .inl ⟨x, v, t, _, _, _, _, _, rfl, hx, ht.keep (fun b hb => put7_other (by omega)) (fun b hb => ⟨by omega, by rw [put7_size]; exact hb.2⟩), ho.keep (fun b hb => put7_other (by omega)) (fun b hb => ⟨by omega, by rw [put7_size]; exact hb.2⟩), hk⟩⟩
  clear HC ht ho hk hn
  go_wp2_with fail
  refine leaves_cons (f := 92) (args := #[]) (by simp) (by simp [go_sem]) ?_
  refine (catchE_nothing _).mono ?_
  rintro e u' w'' ⟨rfl, rfl, rfl⟩
  exact ⟨.tuple #[.agg #[.string x, .int .i64 v, .int .i64 t0, .int .i64 t1, .string t2, .slice ta tl tc, .slice ua ul uc], .bool true], by simp [results, Tryz.results51, go_sem, z0, z1, z2, z3, z4, z5, z6], HP.out⟩
 ·obtain ⟨⟨z0, z1, z2, z3, z4, z5, z6⟩, f0, f1, f2, f3, f4, f5, f6⟩ := ev7_cells ((hn.block w.heap.size (by omega) (by omega)).trans HZ.out)
  have HP : Hid (CaughtE L w R l (.returned (.tuple #[.agg #[.string ⟨#[]⟩, .int .i64 0, .int .i64 0, .int .i64 0, .string ⟨#[]⟩, .slice none 0 0, .slice none 0 0], .bool false])) w1) := ⟨HN0.out.trans hn, .inr ⟨hno, rfl⟩⟩
  clear HC hn hno
  refine leaves_cons (f := 92) (args := #[]) (by simp) (by simp [go_sem]) ?_
  refine (catchE_refusal _).mono ?_
  rintro e u' w'' ⟨rfl, rfl, rfl⟩
  exact ⟨.tuple #[.agg #[.string ⟨#[]⟩, .int .i64 0, .int .i64 0, .int .i64 0, .string ⟨#[]⟩, .slice none 0 0, .slice none 0 0], .bool false], by simp [results, Tryz.results51, go_sem, z0, z1, z2, z3, z4, z5, z6], HP.out⟩
def TakenE (m : Nat) (w : World) (R : Nat) (l : List UInt8) (e : Ending) (w' : World) : Prop :=
 Near R w w' /\ ∃ (ok : Bool) (x : ByteArray) (v : Int) (t : T (m + 1)) (c0 c1 c2 c3 c4 : Value), e = .returned (.tuple #[.agg #[.string x, .int .i64 v, c0, c1, c2, c3, c4], .bool ok]) /\ x.size <= 255 /\ TreeIn (fun b => w.heap.size <= b /\ b < w'.heap.size) w' (m + 1) t c0 c1 c2 c3 c4 /\ OwnA (fun b => w.heap.size <= b /\ b < w'.heap.size) w' (m + 1) c3 c4 /\ EUnp m l ok x v t
theorem taken_none {m : Nat} {w W : World} {R : Nat} {l : List UInt8} (hn : Near R w W) (hno : ∀ (x' : ByteArray) (v' : Int) (t' : T (m + 1)), okE (m + 1) x' v' t' = true -> packE (m + 1) x' v' t' ≠ l) : TakenE m w R l (.returned (.tuple #[.agg #[.string ⟨#[]⟩, .int .i64 0, .int .i64 0, .int .i64 0, .string ⟨#[]⟩, .slice none 0 0, .slice none 0 0], .bool false])) W :=
 ⟨hn, false, ByteArray.empty, 0, (⟨0, 0, ByteArray.empty, [], []⟩ : Nd (T m)), _, _, _, _, _, rfl, by simp, leafR_in _ _ m 0 0 ByteArray.empty (by rfl) (by rfl) (by simp), OwnA.none _ _ _, .inr ⟨rfl, rfl, rfl, rfl, hno⟩⟩
set_option maxRecDepth 100000 in
set_option maxHeartbeats 2000000 in
theorem takenE_any (m : Nat) (hT : TrCSaid (m + 1)) (w : World) (R : Nat) (ao : Option Addr) (l : List UInt8) (cap : Nat) (h : Cu w R ao l cap 0) (hL : l.length <= m + 1) :
  Calls Tryz.prog 23 #[.func (.func 24) #[.pointer (some ⟨R, 0, none⟩)] #[]] w (TakenE m w R l) := by
 have hR := h.lt
 obtain ⟨W, hW⟩ : ∃ W, W = w.alloc (.cells #[.string ⟨#[]⟩, .int .i64 0, .int .i64 0, .int .i64 0, .string ⟨#[]⟩, .slice none 0 0, .slice none 0 0] 29) := ⟨_, rfl⟩
 have hzW : W.heap.size = w.heap.size + 1 := by rw [hW]; simp
 have hb0 : Below w.heap.size w W := by rw [hW]; exact (Below.refl _ _).alloc (Nat.le_refl _) _
 have HZ : Hid (W.heap[w.heap.size]? = some (.cells #[.string ⟨#[]⟩, .int .i64 0, .int .i64 0, .int .i64 0, .string ⟨#[]⟩, .slice none 0 0, .slice none 0 0] 29 (0, 0))) := by rw [hW]; exact heap_alloc_new _ _
 have HN0 : Hid (Near R w W) := Near.of_below hb0
 have HC := Lib.hid (caughtE_any (m + 1) hT W R ao l cap (h.same hb0) hL)
 clear h hT hb0
 go_enter Tryz.func23, Tryz.ntmps23
 go_wp2_with fail
 rw [<- hW]
 clear hW
 refine HC.out.mono ?_
 rintro e w1 ⟨hn, ⟨x, v, t, q0, q1, q2, q3, q4, rfl, hx, ht, ho, hk⟩ | ⟨hno, rfl⟩⟩
 case inr =>
  have hz1 := hn.size
  obtain ⟨W2, hW2⟩ : ∃ W2, W2 = w1.alloc (.cells #[.string ⟨#[]⟩, .int .i64 0, .int .i64 0, .int .i64 0, .string ⟨#[]⟩, .slice none 0 0, .slice none 0 0] 29) := ⟨_, rfl⟩
  have hb2 : Below w1.heap.size w1 W2 := by rw [hW2]; exact (Below.refl _ _).alloc (Nat.le_refl _) _
  have hzero2 := (hb2.block w.heap.size (by omega)).trans ((hn.block w.heap.size (by omega) (by omega)).trans HZ.out)
  obtain ⟨⟨z0, z1, z2, z3, z4, z5, z6⟩, f0, f1, f2, f3, f4, f5, f6⟩ := ev7_cells hzero2
  have HP : Hid (TakenE m w R l (.returned (.tuple #[.agg #[.string ⟨#[]⟩, .int .i64 0, .int .i64 0, .int .i64 0, .string ⟨#[]⟩, .slice none 0 0, .slice none 0 0], .bool false])) (put7 W2 w.heap.size (.string ⟨#[]⟩) (.int .i64 0) (.int .i64 0) (.int .i64 0) (.string ⟨#[]⟩) (.slice none 0 0) (.slice none 0 0))) := taken_none (put7_near ((HN0.out.trans hn).trans (Near.of_below hb2)) (Nat.le_refl _)) hno
  have HW2 : Hid (w1.alloc (.cells #[.string ⟨#[]⟩, .int .i64 0, .int .i64 0, .int .i64 0, .string ⟨#[]⟩, .slice none 0 0, .slice none 0 0] 29) = W2) := hW2.symm
  clear HC hn hno hb2 hzero2 hW2
  go_upto_region 2 with fail
  rw [HW2.out]
  clear HW2
  go_wp2_with fail
  refine bodyPost_ret (v := .tuple #[.agg #[.string ⟨#[]⟩, .int .i64 0, .int .i64 0, .int .i64 0, .string ⟨#[]⟩, .slice none 0 0, .slice none 0 0], .bool false]) (by simp [results, Tryz.results23, go_sem, z0, z1, z2, z3, z4, z5, z6]) rfl ?_
  exact HP.out
 obtain ⟨t0, t1, t2, ta, tl, tc, ua, ul, uc, rfl, rfl, rfl, rfl, rfl⟩ := ht.shape
 have hz1 := hn.size
 obtain ⟨W2, hW2⟩ : ∃ W2, W2 = w1.alloc (.cells #[.string x, .int .i64 v, .int .i64 t0, .int .i64 t1, .string t2, .slice ta tl tc, .slice ua ul uc] 29) := ⟨_, rfl⟩
 have hb2 : Below w1.heap.size w1 W2 := by rw [hW2]; exact (Below.refl _ _).alloc (Nat.le_refl _) _
 have hz2 : W2.heap.size = w1.heap.size + 1 := by rw [hW2]; simp
 have hbox2 : W2.heap[w1.heap.size]? = some (.cells #[.string x, .int .i64 v, .int .i64 t0, .int .i64 t1, .string t2, .slice ta tl tc, .slice ua ul uc] 29 (0, 0)) := by rw [hW2]; exact heap_alloc_new _ _
 have hzero2 := (hb2.block w.heap.size (by omega)).trans ((hn.block w.heap.size (by omega) (by omega)).trans HZ.out)
 have hnW2 : Near R w W2 := (HN0.out.trans hn).trans (Near.of_below hb2)
 have ht2 : TreeIn (fun b => W.heap.size <= b /\ b < w1.heap.size) W2 (m + 1) t (.int .i64 t0) (.int .i64 t1) (.string t2) (.slice ta tl tc) (.slice ua ul uc) := ht.keep (fun b hb => hb2.block b hb.2) (fun _ h => h)
 have ho2 : OwnT (fun b => W.heap.size <= b /\ b < w1.heap.size) W2 (m + 1) t (.slice ta tl tc) (.slice ua ul uc) := ho.keep (fun b hb => hb2.block b hb.2) (fun _ h => h)
 have HC2 := Lib.hid (implEOk_any (m + 1) _ x v t _ _ _ _ _ W2 (by unfold maxLen; omega) ht2 (fun b hb => by omega))
 have HTo : Hid (_ /\ _) := ⟨ht2, ho2⟩
 have HK := Lib.hid hk
 have HB2 : Hid (_ /\ _ /\ _) := ⟨hbox2, hzero2, hnW2⟩
 obtain ⟨⟨s0, s1, s2, s3, s4, s5, s6⟩, -⟩ := ev7_cells hbox2
 have HW2 : Hid (w1.alloc (.cells #[.string x, .int .i64 v, .int .i64 t0, .int .i64 t1, .string t2, .slice ta tl tc, .slice ua ul uc] 29) = W2) := hW2.symm
 clear HC hn ht ho hk hb2 hbox2 hzero2 hnW2 ht2 ho2 hW2 HZ HN0
 go_upto_region 2 with fail
 rw [HW2.out]
 clear HW2
 go_wp2_with fail
 refine HC2.out.mono ?_
 rintro e w3 ⟨rfl, hb3⟩
 have hz3 := hb3.size
 clear s0 s1 s2 s3 s4 s5 s6
 obtain ⟨⟨s0, s1, s2, s3, s4, s5, s6⟩, -⟩ := ev7_cells ((hb3.block w1.heap.size (by omega)).trans HB2.out.1)
 obtain ⟨⟨z0, z1, z2, z3, z4, z5, z6⟩, f0, f1, f2, f3, f4, f5, f6⟩ := ev7_cells ((hb3.block w.heap.size (by omega)).trans HB2.out.2.1)
 have hn3 : Near R w w3 := HB2.out.2.2.trans (Near.of_below hb3)
 cases hok : okE (m + 1) x v t with
 | false =>
  have HP : Hid (TakenE m w R l (.returned (.tuple #[.agg #[.string ⟨#[]⟩, .int .i64 0, .int .i64 0, .int .i64 0, .string ⟨#[]⟩, .slice none 0 0, .slice none 0 0], .bool false])) (put7 w3 w.heap.size (.string ⟨#[]⟩) (.int .i64 0) (.int .i64 0) (.int .i64 0) (.string ⟨#[]⟩) (.slice none 0 0) (.slice none 0 0))) := taken_none (put7_near hn3 (Nat.le_refl _)) (fun x' v' t' ho' hp' => by
   obtain ⟨rfl, rfl, rfl⟩ := HK.out.2 x' v' t' ho' hp'
   rw [ho'] at hok; cases hok)
  clear HC2 HTo HK HB2 hb3 hn3 hok
  go_wp2_with fail
  refine bodyPost_ret (v := .tuple #[.agg #[.string ⟨#[]⟩, .int .i64 0, .int .i64 0, .int .i64 0, .string ⟨#[]⟩, .slice none 0 0, .slice none 0 0], .bool false]) (by simp [results, Tryz.results23, go_sem, z0, z1, z2, z3, z4, z5, z6]) rfl ?_
  exact HP.out
 | true =>
  have HP : Hid (TakenE m w R l (.returned (.tuple #[.agg #[.string x, .int .i64 v, .int .i64 t0, .int .i64 t1, .string t2, .slice ta tl tc, .slice ua ul uc], .bool true])) (put7 w3 w.heap.size (.string x) (.int .i64 v) (.int .i64 t0) (.int .i64 t1) (.string t2) (.slice ta tl tc) (.slice ua ul uc))) := by
   refine ⟨put7_near hn3 (Nat.le_refl _), true, x, v, t, _, _, _, _, _, rfl, hx, HTo.out.1.keep (fun b hb => (put7_other (by omega)).trans (hb3.block b (by omega))) (fun b hb => ⟨by omega, by rw [put7_size]; omega⟩), ((HTo.out.2).ans hok).keep (fun b hb => (put7_other (by omega)).trans (hb3.block b (by omega))) (fun b hb => ⟨by omega, by rw [put7_size]; omega⟩), .inl ⟨rfl, hok, HK.out.1 hok⟩⟩
  clear HC2 HTo HK HB2 hb3 hn3 hok
  go_wp2_with fail
  refine bodyPost_ret (v := .tuple #[.agg #[.string x, .int .i64 v, .int .i64 t0, .int .i64 t1, .string t2, .slice ta tl tc, .slice ua ul uc], .bool true]) (by simp [results, Tryz.results23, go_sem, z0, z1, z2, z3, z4, z5, z6]) rfl ?_
  exact HP.out
def EUPostI (m : Nat) (l : List UInt8) (w : World) (e : Ending) (w' : World) : Prop :=
 Below w.heap.size w w' /\ ∃ (ok : Bool) (x : ByteArray) (v : Int) (t : T (m + 1)) (c0 c1 c2 c3 c4 : Value), e = .returned (.tuple #[.agg #[.string x, .int .i64 v, c0, c1, c2, c3, c4], .bool ok]) /\ TreeIn (fun b => w.heap.size <= b /\ b < w'.heap.size) w' (m + 1) t c0 c1 c2 c3 c4 /\ OwnA (fun b => w.heap.size <= b /\ b < w'.heap.size) w' (m + 1) c3 c4 /\ EUnp m l ok x v t
set_option maxRecDepth 100000 in
set_option maxHeartbeats 2000000 in
theorem implEUnpack_of (m : Nat) (hT : TrCSaid (m + 1)) (l : List UInt8) (hL : l.length <= m + 1) (ao : Option Addr) (cap : Nat) (w : World) (h : BytesA (fun b => b < w.heap.size) w ao l cap) :
  Calls Tryz.prog 6 #[.slice ao l.length cap] w (EUPostI m l w) := by
 have HSrc := Lib.hid h
 have HT := Lib.hid hT
 obtain ⟨ln, hln⟩ : ∃ ln, l.length = ln := ⟨_, rfl⟩
 obtain ⟨W0, hW0⟩ : ∃ W0, W0 = w.alloc (.cells #[.string ⟨#[]⟩, .int .i64 0, .int .i64 0, .int .i64 0, .string ⟨#[]⟩, .slice none 0 0, .slice none 0 0] 29) := ⟨_, rfl⟩
 have hb0 : Below w.heap.size w W0 := by rw [hW0]; exact (Below.refl _ _).alloc (Nat.le_refl _) _
 have hz0 : W0.heap.size = w.heap.size + 1 := by rw [hW0]; simp
 have hN0 : W0.heap[w.heap.size]? = some (.cells #[.string ⟨#[]⟩, .int .i64 0, .int .i64 0, .int .i64 0, .string ⟨#[]⟩, .slice none 0 0, .slice none 0 0] 29 (0, 0)) := by rw [hW0]; exact heap_alloc_new _ _
 have HLn := Lib.hid hln
 have HB0 := Lib.hid hb0
 have HN0 := Lib.hid hN0
 rw [hln]
 clear h hln hb0 hT
 by_cases hL9 : 9000 < ln
 case pos =>
  have HP : Hid (EUPostI m l w (.returned (.tuple #[.agg #[.string ⟨#[]⟩, .int .i64 0, .int .i64 0, .int .i64 0, .string ⟨#[]⟩, .slice none 0 0, .slice none 0 0], .bool false])) W0) :=
   ⟨HB0.out, false, ByteArray.empty, 0, (⟨0, 0, ByteArray.empty, [], []⟩ : Nd (T m)), _, _, _, _, _, rfl, leafR_in _ _ m 0 0 ByteArray.empty (by rfl) (by rfl) (by simp), OwnA.none _ _ _, .inr ⟨rfl, rfl, rfl, rfl, fun x' v' t' ho hp => by have h1 := packE_len ho; rw [hp] at h1; have := HLn.out; omega⟩⟩
  obtain ⟨⟨z0, z1, z2, z3, z4, z5, z6⟩, f0, f1, f2, f3, f4, f5, f6⟩ := ev7_cells hN0
  subst hW0
  have hLi : (9000 : Int) < (ln : Int) := by omega
  clear hN0 HN0 HB0 HLn HSrc HT
  go_enter Tryz.func6, Tryz.ntmps6
  go_wp2_with fail
  refine bodyPost_ret (v := .tuple #[.agg #[.string ⟨#[]⟩, .int .i64 0, .int .i64 0, .int .i64 0, .string ⟨#[]⟩, .slice none 0 0, .slice none 0 0], .bool false]) (by simp [results, Tryz.results6, go_sem, z0, z1, z2, z3, z4, z5, z6]) rfl ?_
  exact HP.out
 case neg =>
  have hLi : ¬ (9000 : Int) < (ln : Int) := by omega
  obtain ⟨W1, hW1⟩ : ∃ W1, W1 = W0.alloc (.cells #[.int .i64 0, .slice ao ln cap] 56) := ⟨_, rfl⟩
  have hb1 : Below W0.heap.size W0 W1 := by rw [hW1]; exact (Below.refl _ _).alloc (Nat.le_refl _) _
  have hbw1 : Below w.heap.size w W1 := below_step HB0.out HB0.out.size hb1
  have hz1 : W1.heap.size = w.heap.size + 2 := by rw [hW1]; simp [hz0]
  have hCu : Cu W1 (w.heap.size + 1) ao l cap 0 := by
   refine ⟨?_, by have := HLn.out; omega, Nat.zero_le _, HSrc.out.lc, fun j hj => ?_⟩
   ·rw [HLn.out, hW1, <- hz0]; exact heap_alloc_new _ _
   ·obtain ⟨b, off, ha, hlt, hc⟩ := HSrc.out.bytes j hj
    exact ⟨b, off, ha, by omega, (World.cell?_of_block (hbw1.block b hlt)).trans hc⟩
  have hN1 := (hb1.block w.heap.size (by omega)).trans HN0.out
  have HC := Lib.hid (takenE_any m HT.out W1 (w.heap.size + 1) ao l cap hCu hL)
  have HB1 := Lib.hid hbw1
  have HN1 := Lib.hid hN1
  have hmf : ∀ (fn : Fn) (first cap : Array Value) (w : World), (Instr.makeFunc fn first cap).run Tryz.prog w = .ok (.func fn first cap) w := fun _ _ _ _ => rfl
  clear hb1 hbw1 hCu hN1 hN0 HN0 HB0 HT
  go_enter Tryz.func6, Tryz.ntmps6
  go_wp2_with fail
  rw [<- hW0]
  try rw [hz0]
  rw [<- hW1]
  clear hW0 hW1
  refine HC.out.mono ?_
  rintro e w2 ⟨hn2, ok, x, v, t, q0, q1, q2, q3, q4, rfl, hx, ht, ho, hu⟩
  obtain ⟨t0, t1, t2, ta, tl, tc, ua, ul, uc, rfl, rfl, rfl, rfl, rfl⟩ := ht.shape
  have hz2 := hn2.size
  obtain ⟨⟨z0, z1, z2, z3, z4, z5, z6⟩, f0, f1, f2, f3, f4, f5, f6⟩ := ev7_cells ((hn2.block w.heap.size (by omega) (by omega)).trans HN1.out)
  have HP : Hid (EUPostI m l w (.returned (.tuple #[.agg #[.string x, .int .i64 v, .int .i64 t0, .int .i64 t1, .string t2, .slice ta tl tc, .slice ua ul uc], .bool ok])) (put7 w2 w.heap.size (.string x) (.int .i64 v) (.int .i64 t0) (.int .i64 t1) (.string t2) (.slice ta tl tc) (.slice ua ul uc))) := by
   have hb2 : Below w.heap.size w w2 := ⟨hn2.os.trans HB1.out.os, hn2.tape.trans HB1.out.tape, hn2.output.trans HB1.out.output, by omega, fun b hb => (hn2.block b (by omega) (by omega)).trans (HB1.out.block b hb)⟩
   exact ⟨put7_below hb2 (Nat.le_refl _), ok, x, v, t, _, _, _, _, _, rfl, ht.keep (fun b hb => put7_other (by omega)) (fun b hb => ⟨by omega, by rw [put7_size]; exact hb.2⟩), ho.keep (fun b hb => put7_other (by omega)) (fun b hb => ⟨by omega, by rw [put7_size]; exact hb.2⟩), hu⟩
  clear HC hn2 ht ho hu HB1 HN1 HSrc HLn
  go_wp2_with fail
  refine bodyPost_ret (v := .tuple #[.agg #[.string x, .int .i64 v, .int .i64 t0, .int .i64 t1, .string t2, .slice ta tl tc, .slice ua ul uc], .bool ok]) (by simp [results, Tryz.results6, go_sem, z0, z1, z2, z3, z4, z5, z6]) rfl ?_
  exact HP.out
end Go.Proofs.YtmjhcgjhlakceaaGreatDoor
