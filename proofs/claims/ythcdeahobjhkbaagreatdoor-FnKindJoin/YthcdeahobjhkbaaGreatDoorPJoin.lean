/-
  The law of the least schema, walked.
-/
import Derived.Test.YthcdeahobjhkbaaGreatDoorDJoin
import Derived.Test.YthcdeahobjhkbaaGreatDoorB17
import Derived.Test.YthcdeahobjhkbaaGreatDoorB6
import Derived.Test.YthcdeahobjhkbaaGreatDoorB22
import Derived.Test.YthcdeahobjhkbaaGreatDoorB10
import Derived.Test.YthcdeahobjhkbaaGreatDoorKWb
import Derived.Test.YthcdeahobjhkbaaGreatDoorTtk
import Derived.Test.YthcdeahobjhkbaaGreatDoorB1
namespace Go.Proofs.YthcdeahobjhkbaaGreatDoor
open Go.RowKit

theorem joinF_comm (m : Nat) (a b : K m) : joinF m b m a = joinF m a m b := by
  unfold joinF
  rw [Bool.and_comm (okK m b)]
  by_cases h : (okK m a && okK m b) = true
  · rw [if_pos h, if_pos h]
    have h2 : okK m a = true ∧ okK m b = true := by simpa using h
    rw [jn_comm (m + m) m m b a 1 1 (okK_get h2.2).1 (okK_get h2.1).1]
  · rw [if_neg h, if_neg h]

theorem jnA_comm (m : Nat) (a b : K m) : jnA m b m a = jnA m a m b ∧ jnB m b m a = jnB m a m b := by
  unfold jnA jnB; rw [joinF_comm]; exact ⟨rfl, rfl⟩

theorem joinF_get {n m : Nat} {a : K n} {b : K m} {r : K (n + m + 1)} (h : joinF n a m b = some r) : okK n a = true ∧ okK m b = true ∧ jnL (n + m) n a m b = some r ∧ okK (n + m + 1) r = true := by
  have hr := joinF_ok h
  unfold joinF at h
  split at h
  · rename_i h1
    have h2 : okK n a = true ∧ okK m b = true := by simpa using h1
    cases hj : jnL (n + m) n a m b with
    | none => rw [hj] at h; cases h
    | some q =>
      rw [hj] at h
      have h3 : (if okK (n + m + 1) q = true then some q else none) = some r := h
      split at h3
      · cases h3; exact ⟨h2.1, h2.2, rfl, hr⟩
      · cases h3
  · cases h

theorem jn_some {m : Nat} {a b : K m} (h : jnB m a m b = true) : joinF m a m b = some (jnA m a m b) := by
  unfold jnB at h
  unfold jnA
  cases hj : joinF m a m b with
  | none => rw [hj] at h; cases h
  | some r => rfl

theorem join_fits {m : Nat} {a b : K m} (h : jnB m a m b = true) : fitsF m a (m + m + 1) (jnA m a m b) = true ∧ fitsF m b (m + m + 1) (jnA m a m b) = true := by
  obtain ⟨ha, hb, hj, hr⟩ := joinF_get (jn_some h)
  have f1 := jn_fits (m + m) m m a b _ 1 1 (Nat.le_refl _) (okK_get ha).1 (okK_get hb).1 hj
  have f2 := jn_fits (m + m) m m b a _ 1 1 (Nat.le_refl _) (okK_get hb).1 (okK_get ha).1 (by rw [jn_comm (m + m) m m b a 1 1 (okK_get hb).1 (okK_get ha).1]; exact hj)
  unfold fitsF
  rw [ha, hb, hr, f1, f2]
  exact ⟨rfl, rfl⟩

theorem join_least {m l : Nat} {a b : K m} {c : K l} (h : jnB m a m b = true) (h1 : fitsF m a l c = true) (h2 : fitsF m b l c = true) : fitsF (m + m + 1) (jnA m a m b) l c = true := by
  obtain ⟨ha, hb, hj, hr⟩ := joinF_get (jn_some h)
  unfold fitsF at h1 h2 ⊢
  simp only [Bool.and_eq_true] at h1 h2 ⊢
  exact ⟨⟨hr, h1.1.2⟩, jn_least l c (m + m) m m a b _ 1 1 1 (Nat.le_refl _) (okK_get ha).1 (okK_get hb).1 (okK_get h1.1.2).1 hj h1.2 h2.2⟩

theorem jn_zero {m : Nat} {a b : K m} {S : Nat → Prop} {w : World} {x0 : Int} {c1 c2 : Value} (h : jnB m a m b = false) (hk : KindIn S w (m + m + 1) (jnA m a m b) (.int .i64 x0) c1 c2) : x0 = 0 := by
  have hz : jnA m a m b = (⟨0, [], []⟩ : Kd (K (m + m))) := by
    unfold jnB at h; unfold jnA
    cases hj : joinF m a m b with
    | none => rfl
    | some r => rw [hj] at h; cases h
  rw [hz] at hk
  have h0 : Value.int .i64 x0 = .int .i64 0 := hk.1
  cases h0; rfl

/-- Two schemas in their boxes. -/
structure BoxKK (B : Nat) (w : World) (m : Nat) (a b : K m) (X : Nat) (a0 a1 a2 b0 b1 b2 : Value) : Prop where
  a : BoxK B w m a X a0 a1 a2
  b : BoxK B w m b (X + 1) b0 b1 b2

theorem BoxKK.keep {B : Nat} {w w' : World} {m : Nat} {a b : K m} {X : Nat} {a0 a1 a2 b0 b1 b2 : Value} (h : BoxKK B w m a b X a0 a1 a2 b0 b1 b2) (hb : Below w.heap.size w w') : BoxKK B w' m a b X a0 a1 a2 b0 b1 b2 := ⟨h.a.keep hb, h.b.keep hb⟩

theorem kk_new {w : World} {m : Nat} {a b : K m} {a0 a1 a2 b0 b1 b2 : Value} (B : Nat) (ha : KindIn (fun b => B ≤ b ∧ b < w.heap.size) w m a a0 a1 a2) (hb : KindIn (fun b => B ≤ b ∧ b < w.heap.size) w m b b0 b1 b2) :
    BoxKK w.heap.size ((w.alloc (.cells #[a0, a1, a2] 26)).alloc (.cells #[b0, b1, b2] 26)) m a b w.heap.size a0 a1 a2 b0 b1 b2 := by
  have h1 : Below w.heap.size w (w.alloc (.cells #[a0, a1, a2] 26)) := (Below.refl _ _).alloc (Nat.le_refl _) _
  have h2 : Below (w.alloc (.cells #[a0, a1, a2] 26)).heap.size (w.alloc (.cells #[a0, a1, a2] 26)) ((w.alloc (.cells #[a0, a1, a2] 26)).alloc (.cells #[b0, b1, b2] 26)) := (Below.refl _ _).alloc (Nat.le_refl _) _
  have h4 := below_step h1 h1.size h2
  have hx := Box3.new (w.alloc (.cells #[a0, a1, a2] 26)) b0 b1 b2 26
  rw [show (w.alloc (.cells #[a0, a1, a2] 26)).heap.size = w.heap.size + 1 by simp] at hx
  exact ⟨⟨(Box3.new w a0 a1 a2 26).keep h2, ha.keep (fun b hb => h4.block b hb.2) (fun b hb => hb.2), h4.size⟩, ⟨hx, hb.keep (fun b hb => h4.block b hb.2) (fun b hb => hb.2), h4.size⟩⟩

theorem boxK_new {w : World} {m : Nat} {k : K m} {d0 d1 d2 : Value} (hk : KindIn (fun b => b < w.heap.size) w m k d0 d1 d2) : BoxK w.heap.size (w.alloc (.cells #[d0, d1, d2] 26)) m k w.heap.size d0 d1 d2 :=
  ⟨Box3.new _ _ _ _ _, hk.keep (fun b hb => ((Below.refl w.heap.size w).alloc (Nat.le_refl _) _).block b hb) (fun _ hb => hb), ((Below.refl w.heap.size w).alloc (Nat.le_refl _) _).size⟩

set_option maxRecDepth 100000 in
set_option maxHeartbeats 8000000 in
theorem lawPJoin_any (m : Nat) (hm : 18 ≤ m) (S : Nat → Prop) (w : World) (ao ao2 : Option Addr) (L cap L2 cap2 : Nat) (h : CodeIn S w ao L cap) (h2 : CodeIn S w ao2 L2 cap2) (hS : ∀ b, S b → b < w.heap.size) (hg : HandleIn w) :
    Calls Tryz.prog 3 #[.slice ao L cap, .slice ao2 L2 cap2] w fun e w' => e = .returned (.bool true) ∧ Below w.heap.size w w' := by
  by_cases hL : 1048576 < L
  · have hLi : (1048576 : Int) < (L : Int) := by omega
    clear h h2 hg
    go_enter Tryz.func3, Tryz.ntmps3
    go_wp2_with fail
    go_ret
    exact ⟨rfl, Below.refl _ _⟩
  have hLi : ¬ (1048576 : Int) < (L : Int) := by omega
  by_cases hL2 : 1048576 < L2
  · have hL2i : (1048576 : Int) < (L2 : Int) := by omega
    clear h h2 hg
    go_enter Tryz.func3, Tryz.ntmps3
    go_wp2_with fail
    go_ret
    exact ⟨rfl, Below.refl _ _⟩
  have hL2i : ¬ (1048576 : Int) < (L2 : Int) := by omega
  have HD := Lib.hid (drawKJoin_any m hm S w ao L cap h hS)
  have HG : Hid (HandleIn w) := hg
  have HC2 : Hid (CodeIn S w ao2 L2 cap2) := h2
  clear h h2 hg
  go_enter Tryz.func3, Tryz.ntmps3
  go_wp2_with fail
  refine HD.out.mono ?_
  rintro e w1 ⟨hb1, a, b, a0, a1, a2, b0, b1, b2, rfl, hka, hkb⟩
  obtain ⟨a0, axa, axl, axc, aya, ayl, ayc, rfl, rfl, rfl⟩ := hka.shape
  obtain ⟨b0, bxa, bxl, bxc, bya, byl, byc, rfl, rfl, rfl⟩ := hkb.shape
  obtain ⟨W1, hW1⟩ : ∃ W1, W1 = (w1.alloc (.cells #[.int .i64 a0, .slice axa axl axc, .slice aya ayl ayc] 26)).alloc (.cells #[.int .i64 b0, .slice bxa bxl bxc, .slice bya byl byc] 26) := ⟨_, rfl⟩
  have ha1 : Below w1.heap.size w1 W1 := by rw [hW1]; exact ((Below.refl _ _).alloc (Nat.le_refl _) _).alloc (by simp) _
  have bx : BoxKK w1.heap.size W1 m a b w1.heap.size (.int .i64 a0) (.slice axa axl axc) (.slice aya ayl ayc) (.int .i64 b0) (.slice bxa bxl bxc) (.slice bya byl byc) := by rw [hW1]; exact kk_new w.heap.size hka hkb
  have hb01 := below_step hb1 hb1.size ha1
  have HB1 := Lib.hid hb01
  have HX1 := Lib.hid bx
  have hs0 := hb1.size
  have hs1 := ha1.size
  obtain ⟨r, hr⟩ : ∃ r, r = jnA m a m b := ⟨_, rfl⟩
  obtain ⟨ok, hok⟩ : ∃ ok, ok = jnB m a m b := ⟨_, rfl⟩
  have HR := Lib.hid hr
  have HOK := Lib.hid hok
  have HSp := Lib.hid (((specKJoin_any m m _ a b _ _ _ _ _ _ W1 bx.a.kind bx.b.kind (fun _ h => Nat.lt_of_lt_of_le h bx.a.lt))).mono fun e w' h => (by have h := sjpost_of h; rw [← hr, ← hok] at h; exact h : SJPost r ok W1 e w'))
  have HIm : Hid (∀ W, Below W1.heap.size W1 W → Calls Tryz.prog 6 #[.agg #[.int .i64 a0, .slice axa axl axc, .slice aya ayl ayc], .agg #[.int .i64 b0, .slice bxa bxl bxc, .slice bya byl byc]] W (JPost r ok W) ∧ Calls Tryz.prog 6 #[.agg #[.int .i64 b0, .slice bxa bxl bxc, .slice bya byl byc], .agg #[.int .i64 a0, .slice axa axl axc, .slice aya ayl ayc]] W (JPost r ok W)) := fun W hW => by
    have hx := HX1.out.keep hW
    have hg := HG.out.step (below_step hb01 hb01.size hW)
    refine ⟨((implKJoin_any m m _ a b _ _ _ _ _ _ W hx.a.kind hx.b.kind (fun _ h => Nat.lt_of_lt_of_le h hx.a.lt) hg)).mono fun e w' h => ?_, ((implKJoin_any m m _ b a _ _ _ _ _ _ W hx.b.kind hx.a.kind (fun _ h => Nat.lt_of_lt_of_le h hx.a.lt) hg)).mono fun e w' h => ?_⟩
    · have h := jpost_of h
      rw [← hr, ← hok] at h; exact h
    · have h := jpost_of h
      rw [(jnA_comm m a b).1, (jnA_comm m a b).2, ← hr, ← hok] at h; exact h
  obtain ⟨i0, i1, i2⟩ := bx.a.box
  obtain ⟨j0, j1, j2⟩ := bx.b.box
  rw [hW1] at i0 i1 i2 j0 j1 j2
  clear HD hb1 hka hkb ha1 bx hb01 hr hok
  go_wp2_with fail
  rw [← hW1]
  clear hW1 i0 i1 i2 j0 j1 j2
  refine HSp.out.mono ?_
  rintro e w3 ⟨hb3, s0', s1', s2', rfl, hks⟩
  obtain ⟨s0, sxa, sxl, sxc, sya, syl, syc, rfl, rfl, rfl⟩ := hks.shape
  have hs3 := hb3.size
  obtain ⟨W3, hW3⟩ : ∃ W3, W3 = w3.alloc (.cells #[.int .i64 s0, .slice sxa sxl sxc, .slice sya syl syc] 26) := ⟨_, rfl⟩
  have ha3 : Below w3.heap.size w3 W3 := by rw [hW3]; exact (Below.refl _ _).alloc (Nat.le_refl _) _
  have hz3 : W3.heap.size = w3.heap.size + 1 := by rw [hW3]; simp
  have bs : BoxK w3.heap.size W3 (m + m + 1) r w3.heap.size (.int .i64 s0) (.slice sxa sxl sxc) (.slice sya syl syc) := by rw [hW3]; exact boxK_new (hks.keep (fun _ _ => rfl) (fun b hb => hb.2))
  have hb13 := below_step hb3 hb3.size ha3
  have HB3 := Lib.hid hb13
  have HS3 := Lib.hid bs
  have HC3 := Lib.hid (HIm.out W3 hb13).1
  obtain ⟨i0, i1, i2⟩ := (HX1.out.keep hb13).a.box
  obtain ⟨j0, j1, j2⟩ := (HX1.out.keep hb13).b.box
  rw [hW3] at i0 i1 i2 j0 j1 j2
  clear HSp hb3 hks ha3 bs hb13
  go_wp2_with fail
  rw [← hW3]
  clear hW3 i0 i1 i2 j0 j1 j2
  refine HC3.out.mono ?_
  rintro e w5 ⟨hb5, k0', k1', k2', Q3, Q4, rfl, hkk, -, -, -, -⟩
  obtain ⟨k0, kxa, kxl, kxc, kya, kyl, kyc, rfl, rfl, rfl⟩ := hkk.shape
  have hs5 := hb5.size
  obtain ⟨W5, hW5⟩ : ∃ W5, W5 = w5.alloc (.cells #[.int .i64 k0, .slice kxa kxl kxc, .slice kya kyl kyc] 26) := ⟨_, rfl⟩
  have ha5 : Below w5.heap.size w5 W5 := by rw [hW5]; exact (Below.refl _ _).alloc (Nat.le_refl _) _
  have hz5 : W5.heap.size = w5.heap.size + 1 := by rw [hW5]; simp
  have bk : BoxK w5.heap.size W5 (m + m + 1) r w5.heap.size (.int .i64 k0) (.slice kxa kxl kxc) (.slice kya kyl kyc) := by rw [hW5]; exact boxK_new (hkk.keep (fun _ _ => rfl) (fun b hb => hb.2))
  have hb35 := below_step hb5 hb5.size ha5
  have hb15 := below_step HB3.out HB3.out.size hb35
  have bs5 := HS3.out.keep hb35
  have HB5 := Lib.hid hb15
  have HS5 := Lib.hid bs5
  have HK5 := Lib.hid bk
  have HT := Lib.hid (ttKind_same (m + m + 1) _ _ r _ _ _ _ _ _ W5 bk.kind bs5.kind (fun b hb => Nat.lt_of_lt_of_le hb bk.lt) (fun b hb => Nat.lt_of_lt_of_le hb bs5.lt))
  have hne : (ok != ok) = false := by simp
  obtain ⟨i0, i1, i2⟩ := bk.box
  obtain ⟨j0, j1, j2⟩ := bs5.box
  rw [hW5] at i0 i1 i2 j0 j1 j2
  clear HC3 hb5 hkk ha5 bk hb35 hb15 bs5 HB3 HS3
  go_wp2_with fail
  rw [← hW5]
  clear hW5 i0 i1 i2 j0 j1 j2
  refine HT.out.mono ?_
  rintro e w6 ⟨rfl, hb6⟩
  have hs6 := hb6.size
  have hb16 := below_step HB5.out HB5.out.size hb6
  have HB6 := Lib.hid hb16
  have HS6 := Lib.hid (HS5.out.keep hb6)
  have HK6 := Lib.hid (HK5.out.keep hb6)
  have HC6 := Lib.hid (HIm.out w6 hb16).2
  obtain ⟨i0, i1, i2⟩ := (HX1.out.keep hb16).a.box
  obtain ⟨j0, j1, j2⟩ := (HX1.out.keep hb16).b.box
  clear HT hb6 hb16 HB5 HS5 HK5
  go_wp2_with fail
  clear i0 i1 i2 j0 j1 j2
  refine HC6.out.mono ?_
  rintro e w7 ⟨hb7, o0', o1', o2', Q5, Q6, rfl, hko, -, -, -, -⟩
  obtain ⟨o0, oxa, oxl, oxc, oya, oyl, oyc, rfl, rfl, rfl⟩ := hko.shape
  have hs7 := hb7.size
  obtain ⟨W7, hW7⟩ : ∃ W7, W7 = w7.alloc (.cells #[.int .i64 o0, .slice oxa oxl oxc, .slice oya oyl oyc] 26) := ⟨_, rfl⟩
  have ha7 : Below w7.heap.size w7 W7 := by rw [hW7]; exact (Below.refl _ _).alloc (Nat.le_refl _) _
  have bo : BoxK w7.heap.size W7 (m + m + 1) r w7.heap.size (.int .i64 o0) (.slice oxa oxl oxc) (.slice oya oyl oyc) := by rw [hW7]; exact boxK_new (hko.keep (fun _ _ => rfl) (fun b hb => hb.2))
  have hb67 := below_step hb7 hb7.size ha7
  have hb17 := below_step HB6.out HB6.out.size hb67
  have bk7 := HK6.out.keep hb67
  have HB7 := Lib.hid hb17
  have HS7 := Lib.hid (HS6.out.keep hb67)
  have HK7 := Lib.hid bk7
  have HT := Lib.hid (ttKind_same (m + m + 1) _ _ r _ _ _ _ _ _ W7 bo.kind bk7.kind (fun b hb => Nat.lt_of_lt_of_le hb bo.lt) (fun b hb => Nat.lt_of_lt_of_le hb bk7.lt))
  obtain ⟨i0, i1, i2⟩ := bo.box
  obtain ⟨j0, j1, j2⟩ := bk7.box
  rw [hW7] at i0 i1 i2 j0 j1 j2
  clear HC6 hb7 hko ha7 bo hb67 hb17 bk7 HB6 HS6 HK6 HIm
  go_wp2_with fail
  rw [← hW7]
  clear hW7 i0 i1 i2 j0 j1 j2
  refine HT.out.mono ?_
  rintro e w8 ⟨rfl, hb8⟩
  have hs8 := hb8.size
  have hb18 := below_step HB7.out HB7.out.size hb8
  have HB8 := Lib.hid hb18
  have HS8 := Lib.hid (HS7.out.keep hb8)
  have bk8 := HK7.out.keep hb8
  have HK8 := Lib.hid bk8
  clear HT hb8 hb18 HB7 HS7 HK7
  cases ok
  case false =>
    have h0 : k0 = 0 := by have h := bk8.kind; rw [HR.out] at h; exact jn_zero HOK.out.symm h
    obtain ⟨i0, i1, i2⟩ := bk8.box
    subst h0
    have HFin := Lib.hid (below_step HB1.out HB1.out.size HB8.out)
    clear bk8 HB8 HS8 HK8 HB1 HX1
    go_wp2_with fail
    go_ret
    exact ⟨rfl, HFin.out⟩
  case true =>
    obtain ⟨f1, f2⟩ := join_fits HOK.out.symm
    rw [← HR.out] at f1 f2
    have hg8 := HG.out.step (below_step HB1.out HB1.out.size HB8.out)
    have hx8 := HX1.out.keep HB8.out
    have hC := implKFits_any m (m + m + 1) (fun b => b < w8.heap.size) a r _ _ _ _ _ _ w8 (hx8.a.kind.keep (fun _ _ => rfl) (fun b hb => Nat.lt_of_lt_of_le hb hx8.a.lt)) (bk8.kind.keep (fun _ _ => rfl) (fun b hb => Nat.lt_of_lt_of_le hb bk8.lt)) (fun _ h => h) hg8
    rw [f1] at hC
    have HC := Lib.hid hC
    have HF2 := Lib.hid f2
    obtain ⟨i0, i1, i2⟩ := hx8.a.box
    obtain ⟨j0, j1, j2⟩ := bk8.box
    clear hC f1 f2 hg8 hx8 bk8
    go_wp2_with fail
    clear i0 i1 i2 j0 j1 j2
    refine HC.out.mono ?_
    rintro e w9 ⟨rfl, hb9⟩
    have hs9 := hb9.size
    have hb19 := below_step HB8.out HB8.out.size hb9
    have HB9 := Lib.hid hb19
    have HS9 := Lib.hid (HS8.out.keep hb9)
    have bk9 := HK8.out.keep hb9
    have HK9 := Lib.hid bk9
    have hg9 := HG.out.step (below_step HB1.out HB1.out.size hb19)
    have hx9 := HX1.out.keep hb19
    have hC := implKFits_any m (m + m + 1) (fun b => b < w9.heap.size) b r _ _ _ _ _ _ w9 (hx9.b.kind.keep (fun _ _ => rfl) (fun b hb => Nat.lt_of_lt_of_le hb hx9.b.lt)) (bk9.kind.keep (fun _ _ => rfl) (fun b hb => Nat.lt_of_lt_of_le hb bk9.lt)) (fun _ h => h) hg9
    rw [HF2.out] at hC
    have HC := Lib.hid hC
    obtain ⟨i0, i1, i2⟩ := hx9.b.box
    obtain ⟨j0, j1, j2⟩ := bk9.box
    clear hC hg9 hx9 bk9 hb9 hb19 HF2 HB8 HS8 HK8
    go_wp2_with fail
    clear i0 i1 i2 j0 j1 j2
    refine HC.out.mono ?_
    rintro e w10 ⟨rfl, hb10⟩
    have hs10 := hb10.size
    have hb110 := below_step HB9.out HB9.out.size hb10
    have HB10 := Lib.hid hb110
    have bs10 := HS9.out.keep hb10
    have HK10 := Lib.hid (HK9.out.keep hb10)
    have hw10 := below_step HB1.out HB1.out.size hb110
    have HW := Lib.hid (drawKWay_any (m + m + 1) S _ r _ _ _ w10 ao2 L2 cap2 bs10.kind (fun b hb => Nat.lt_of_lt_of_le hb bs10.lt) ⟨HC2.out.1, HC2.out.2.1, fun h0 => by
      obtain ⟨b, off, ha, hb, hc⟩ := HC2.out.2.2 h0
      exact ⟨b, off, ha, hb, fun j hj => by
        obtain ⟨u, hu, hcell⟩ := hc j hj
        exact ⟨u, hu, (World.cell?_of_block (hw10.block b (hS b hb))).trans hcell⟩⟩⟩ (fun b hb => by have := hS b hb; have := hw10.size; omega))
    obtain ⟨j0, j1, j2⟩ := bs10.box
    have hsb := bs10.lt
    clear HC hb10 hb110 HB9 HS9 HK9 bs10 hw10
    go_wp2_with fail
    clear j0 j1 j2
    refine HW.out.mono ?_
    rintro e w11 ⟨hb11, l, c, c0', c1', c2', rfl, hkc⟩
    obtain ⟨c0, cxa, cxl, cxc, cya, cyl, cyc, rfl, rfl, rfl⟩ := hkc.shape
    have hs11 := hb11.size
    obtain ⟨W11, hW11⟩ : ∃ W11, W11 = w11.alloc (.cells #[.int .i64 c0, .slice cxa cxl cxc, .slice cya cyl cyc] 26) := ⟨_, rfl⟩
    have ha11 : Below w11.heap.size w11 W11 := by rw [hW11]; exact (Below.refl _ _).alloc (Nat.le_refl _) _
    have bc : BoxK w11.heap.size W11 l c w11.heap.size (.int .i64 c0) (.slice cxa cxl cxc) (.slice cya cyl cyc) := by rw [hW11]; exact boxK_new (hkc.keep (fun _ _ => rfl) (fun b hb => hb.elim (fun h => by omega) (fun h => h.2)))
    have hb1011 := below_step hb11 hb11.size ha11
    have hb111 := below_step HB10.out HB10.out.size hb1011
    have HB11 := Lib.hid hb111
    have HK11 := Lib.hid (HK10.out.keep hb1011)
    have HCc := Lib.hid bc
    have hx11 := HX1.out.keep hb111
    have HC := Lib.hid (specKFits_any m l (fun b => b < W11.heap.size) (fun b => b < W11.heap.size) a c _ _ _ _ _ _ W11 (hx11.a.kind.keep (fun _ _ => rfl) (fun b hb => Nat.lt_of_lt_of_le hb hx11.a.lt)) (bc.kind.keep (fun _ _ => rfl) (fun b hb => Nat.lt_of_lt_of_le hb bc.lt)) (fun _ h => h) (fun _ h => h))
    obtain ⟨i0, i1, i2⟩ := hx11.a.box
    obtain ⟨j0, j1, j2⟩ := bc.box
    rw [hW11] at i0 i1 i2 j0 j1 j2
    clear HW hb11 hkc ha11 bc hb1011 hb111 hx11 HB10 HK10
    go_wp2_with fail
    rw [← hW11]
    clear hW11 i0 i1 i2 j0 j1 j2
    refine HC.out.mono ?_
    rintro e w12 ⟨rfl, hb12⟩
    have hs12 := hb12.size
    have hb112 := below_step HB11.out HB11.out.size hb12
    have HB12 := Lib.hid hb112
    have HK12 := Lib.hid (HK11.out.keep hb12)
    have bc12 := HCc.out.keep hb12
    have HC12 := Lib.hid bc12
    have HFin := Lib.hid (below_step HB1.out HB1.out.size hb112)
    cases e1 : fitsF m a l c
    case false =>
      clear HC hb12 hb112 bc12 HB11 HK11 HCc HB12 HK12 HC12 e1
      go_wp2_with fail
      go_ret
      exact ⟨rfl, HFin.out⟩
    case true =>
      have HE1 := Lib.hid e1
      have hx12 := HX1.out.keep hb112
      have HCd := Lib.hid (specKFits_any m l (fun b => b < w12.heap.size) (fun b => b < w12.heap.size) b c _ _ _ _ _ _ w12 (hx12.b.kind.keep (fun _ _ => rfl) (fun b hb => Nat.lt_of_lt_of_le hb hx12.b.lt)) (bc12.kind.keep (fun _ _ => rfl) (fun b hb => Nat.lt_of_lt_of_le hb bc12.lt)) (fun _ h => h) (fun _ h => h))
      obtain ⟨i0, i1, i2⟩ := hx12.b.box
      obtain ⟨j0, j1, j2⟩ := bc12.box
      clear HC hb12 hb112 bc12 HB11 HK11 HCc e1 hx12 HFin
      go_wp2_with fail
      clear i0 i1 i2 j0 j1 j2
      refine HCd.out.mono ?_
      rintro e w13 ⟨rfl, hb13⟩
      have hb113 := below_step HB12.out HB12.out.size hb13
      have hw13 := below_step HB1.out HB1.out.size hb113
      have HFin := Lib.hid hw13
      have bk13 := HK12.out.keep hb13
      have bc13 := HC12.out.keep hb13
      cases e2 : fitsF m b l c
      case false =>
        clear HCd hb13 hb113 bc13 bk13 HB12 HK12 HC12 e2 hw13
        go_wp2_with fail
        go_ret
        exact ⟨rfl, HFin.out⟩
      case true =>
        have f3 := join_least HOK.out.symm HE1.out e2
        rw [← HR.out] at f3
        have hC := implKFits_any (m + m + 1) l (fun b => b < w13.heap.size) r c _ _ _ _ _ _ w13 (bk13.kind.keep (fun _ _ => rfl) (fun b hb => Nat.lt_of_lt_of_le hb bk13.lt)) (bc13.kind.keep (fun _ _ => rfl) (fun b hb => Nat.lt_of_lt_of_le hb bc13.lt)) (fun _ h => h) (HG.out.step hw13)
        rw [f3] at hC
        have HCe := Lib.hid hC
        obtain ⟨i0, i1, i2⟩ := bk13.box
        obtain ⟨j0, j1, j2⟩ := bc13.box
        clear HCd hb13 hb113 bc13 bk13 HB12 HK12 HC12 e2 hw13 f3 hC HE1
        go_wp2_with fail
        clear i0 i1 i2 j0 j1 j2
        refine HCe.out.mono ?_
        rintro e w14 ⟨rfl, hb14⟩
        have HF2 := Lib.hid (below_step HFin.out HFin.out.size hb14)
        clear HCe hb14 HFin
        go_wp2_with fail
        go_ret
        exact ⟨rfl, HF2.out⟩

end Go.Proofs.YthcdeahobjhkbaaGreatDoor
