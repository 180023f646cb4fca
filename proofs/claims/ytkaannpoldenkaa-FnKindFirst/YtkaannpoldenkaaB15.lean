/-
  Several texts in one, in their order.
-/
import Derived.Test.YtkaannpoldenkaaDK4
import Derived.Test.YtkaannpoldenkaaDK2

/-
  What the specification draws: l5AnyKind.
-/
namespace Go.Proofs.Ytkaannpoldenkaa
open Go.RowKit

theorem spoil_any : ∀ d, SpoilSaid d := by
  intro d
  induction d with
  | zero =>
    intro m R ao L cap p S k c0 c1 c2 w hm hdk
    obtain ⟨m, rfl⟩ : ∃ m', m = m' + 1 := ⟨m - 1, by omega⟩
    exact absurd hdk.1 (by omega)
  | succ d ih => exact spoil_step d ih

/-- What drawing any schema makes. -/
def AnyPost (m : Nat) (w : World) (R : Nat) (ao : Option Addr) (L cap p q : Nat) (e : Ending) (w' : World) : Prop :=
  Near R w w' ∧ ∃ (p' : Nat) (k : K m) (c0 c1 c2 : Value), p' ≤ p + q ∧ Dr w' R ao L cap p' ∧ e = .returned (.agg #[c0, c1, c2]) ∧ KindIn (fun b => w.heap.size ≤ b ∧ b < w'.heap.size) w' m k c0 c1 c2

theorem any_exit {m R L cap p p' q : Nat} {ao : Option Addr} {w W : World} {k : K m} {g0 g1 g2 : Value} (h : Dr w R ao L cap p) (hn : Near R w W) (hb : W.heap[R]? = some (.cells #[.slice ao L cap, .int .i64 (p' : Int)] 75 (0, 0))) (hp : p' ≤ p + q) (hk : KindIn (fun b => w.heap.size + 1 ≤ b ∧ b < W.heap.size) W m k g0 g1 g2) :
    AnyPost m w R ao L cap p q (.returned (.agg #[g0, g1, g2])) (put3 W w.heap.size 0 g0 g1 g2) := by
  have hR := h.lt
  have qq : ∀ b, b ≠ w.heap.size → (put3 W w.heap.size 0 g0 g1 g2).heap[b]? = W.heap[b]? := fun b h => put3_other h
  have hz : (put3 W w.heap.size 0 g0 g1 g2).heap.size = W.heap.size := put3_size
  have hn' : Near R w (put3 W w.heap.size 0 g0 g1 g2) := ⟨hn.os, hn.tape, hn.output, by rw [hz]; exact hn.size, fun b hb hne => (qq b (by omega)).trans (hn.block b hb hne)⟩
  exact ⟨hn', p', k, _, _, _, hp, h.keep hn' ((qq R (by omega)).trans hb), rfl, hk.keep (fun b hb => qq b (by omega)) (fun b hb => ⟨by omega, by rw [hz]; exact hb.2⟩)⟩

set_option maxRecDepth 20000 in
set_option maxHeartbeats 4000000 in
theorem l5AnyKind_any (m R : Nat) (ao : Option Addr) (L cap p : Nat) (w : World) (hm : 11 ≤ m) (h : Dr w R ao L cap p) (hp : p ≤ 100000) :
    Calls Try.prog 20 #[.pointer (some ⟨R, 0, none⟩)] w (AnyPost m w R ao L cap p 30000) := by
  have hR := h.lt
  have HD0 : Hid (Dr w R ao L cap p) := h
  obtain ⟨W1, hW1⟩ : ∃ W1, W1 = w.alloc (.cells #[.int .i64 0, .slice none 0 0, .slice none 0 0] 26) := ⟨_, rfl⟩
  have hz1 : W1.heap.size = w.heap.size + 1 := by rw [hW1]; simp
  have hb1 : Below w.heap.size w W1 := by rw [hW1]; exact (Below.refl _ _).alloc (Nat.le_refl _) _
  have hzero : W1.heap[w.heap.size]? = some (.cells #[.int .i64 0, .slice none 0 0, .slice none 0 0] 26 (0, 0)) := by rw [hW1]; exact heap_alloc_new _ _
  have HZ : Hid (∀ W, Near R W1 W → Near R w W ∧ W.heap[w.heap.size]? = some (.cells #[.int .i64 0, .slice none 0 0, .slice none 0 0] 26 (0, 0))) := fun W hW =>
    ⟨(Near.of_below hb1).trans hW, (hW.block _ (by omega) (by omega)).trans hzero⟩
  have HPk : Hid (Calls Try.prog 31 #[.pointer (some ⟨R, 0, none⟩), .int .i64 2] W1 (PickPost W1 R ao L cap p 2)) := pick_any W1 R ao L cap p 2 (h.same hb1) (by omega) (by omega) (by omega)
  clear h hb1 hzero
  go_enter Try.func20, Try.ntmps20
  go_wp2_with fail
  rw [← hW1]
  clear hW1
  refine HPk.out.mono ?_
  rintro e w2 ⟨y, rfl, hy, hn2, hD2, -⟩
  have HK : Hid (∀ top, Calls Try.prog 43 #[.pointer (some ⟨R, 0, none⟩), .bool top] w2 (DKPost m 4 w2 R ao L cap (p + 1) 21064)) := fun top => l5Some_any m R ao L cap (p + 1) top w2 (by omega) hD2 (by omega)
  have hz2 := hn2.size
  have HN2 : Hid (Near R W1 w2) := hn2
  clear HPk hn2 hD2
  go_wp2_with fail
  refine (HK.out _).mono ?_
  rintro e w3 ⟨hn3, p3, k, c0, c1, c2, hp3, hD3, rfl, hk, hdk⟩
  obtain ⟨u0, ua, ul, uc, ya, yl, yc, rfl, rfl, rfl⟩ := hk.shape
  have hz3 := hn3.size
  obtain ⟨W6, hW6⟩ : ∃ W6, W6 = w3.alloc (.cells #[.int .i64 u0, .slice ua ul uc, .slice ya yl yc] 26) := ⟨_, rfl⟩
  have hb6 : Below w3.heap.size w3 W6 := by rw [hW6]; exact (Below.refl _ _).alloc (Nat.le_refl _) _
  have hx6 : Box3 W6 w3.heap.size (.int .i64 u0) (.slice ua ul uc) (.slice ya yl yc) := by rw [hW6]; exact Box3.new _ _ _ _ _
  have hz6 : W6.heap.size = w3.heap.size + 1 := by rw [hW6]; simp
  have HPk : Hid (Calls Try.prog 31 #[.pointer (some ⟨R, 0, none⟩), .int .i64 12] W6 (PickPost W6 R ao L cap p3 12)) := pick_any W6 R ao L cap p3 12 (hD3.same hb6) (by omega) (by omega) (by omega)
  have H3 : Hid (Near R W1 W6 ∧ KindIn (fun b => w2.heap.size ≤ b ∧ b < w3.heap.size) W6 m k (.int .i64 u0) (.slice ua ul uc) (.slice ya yl yc) ∧ depK m k 4 ∧ Box3 W6 w3.heap.size (.int .i64 u0) (.slice ua ul uc) (.slice ya yl yc)) := ⟨(HN2.out.trans hn3).trans (Near.of_below hb6), hk.keep (fun b hb => hb6.block b hb.2) (fun _ h => h), hdk, hx6⟩
  clear HK hn3 hD3 hk hdk HN2 hb6 hx6
  go_wp2_with fail
  rw [← hW6]
  clear hW6
  refine HPk.out.mono ?_
  rintro e w4 ⟨z, rfl, hz, hn4, hD4, hs4⟩
  have hk4 : KindIn (fun b => w2.heap.size ≤ b ∧ b < w3.heap.size) w4 m k (.int .i64 u0) (.slice ua ul uc) (.slice ya yl yc) := H3.out.2.1.keep (fun b hb => hn4.block b (by omega) (by omega)) (fun _ h => h)
  have hn14 := H3.out.1.trans hn4
  have i0 := hn4.cell H3.out.2.2.2.c0 (by show w3.heap.size ≠ R; omega)
  have i1 := hn4.cell H3.out.2.2.2.c1 (by show w3.heap.size ≠ R; omega)
  have i2 := hn4.cell H3.out.2.2.2.c2 (by show w3.heap.size ≠ R; omega)
  by_cases hz0 : z = 0
  · subst hz0
    have HS : Hid (Calls Try.prog 44 #[.pointer (some ⟨R, 0, none⟩), .agg #[.int .i64 u0, .slice ua ul uc, .slice ya yl yc]] w4 (SpoilPost m (fun b => w2.heap.size ≤ b ∧ b < w3.heap.size) w4 R ao L cap (p3 + 1) (50 * 4))) :=
      spoil_any 4 m R ao L cap (p3 + 1) _ k _ _ _ w4 (by omega) H3.out.2.2.1 hk4 (fun b hb => ⟨by omega, by omega⟩) hD4 (by omega)
    have HN4 : Hid (Near R W1 w4) := hn14
    clear HPk H3 hn4 hD4 hk4 hn14
    go_wp2_with fail
    refine HS.out.mono ?_
    rintro e w5 ⟨hn5, p5, k5, d0, d1, d2, hp5, hD5, rfl, hk5⟩
    obtain ⟨v0, va, vl, vc, xa, xl, xc, rfl, rfl, rfl⟩ := hk5.shape
    obtain ⟨q1, q2⟩ := HZ.out w5 (HN4.out.trans hn5)
    obtain ⟨⟨r0, r1, r2⟩, f0, f1, f2⟩ := zeroD_cells q2
    have hz5 := hn5.size
    have HP : Hid (AnyPost m w R ao L cap p 30000 (.returned (.agg #[.int .i64 v0, .slice va vl vc, .slice xa xl xc])) (put3 w5 w.heap.size 0 (.int .i64 v0) (.slice va vl vc) (.slice xa xl xc))) :=
      any_exit HD0.out q1 hD5.box (by omega) (hk5.keep (fun _ _ => rfl) (fun b hb => hb.elim (fun h => ⟨by omega, by omega⟩) (fun h => ⟨by omega, h.2⟩)))
    clear HS HZ HN4 hn5 hD5 hk5 q1 q2
    go_wp2_with fail
    refine bodyPost_ret (v := .agg #[.int .i64 v0, .slice va vl vc, .slice xa xl xc]) (by simp [results, Try.results20, go_sem, r0, r1, r2]) rfl ?_
    exact HP.out
  · have hzi : ¬ (z : Int) = 0 := by omega
    obtain ⟨q1, q2⟩ := HZ.out w4 hn14
    obtain ⟨⟨r0, r1, r2⟩, f0, f1, f2⟩ := zeroD_cells q2
    have HP : Hid (AnyPost m w R ao L cap p 30000 (.returned (.agg #[.int .i64 u0, .slice ua ul uc, .slice ya yl yc])) (put3 w4 w.heap.size 0 (.int .i64 u0) (.slice ua ul uc) (.slice ya yl yc))) :=
      any_exit HD0.out q1 hD4.box (by omega) (hk4.keep (fun _ _ => rfl) (fun b hb => ⟨by omega, by omega⟩))
    clear HPk H3 HZ hn4 hD4 hk4 hn14 q1 q2
    go_wp2_with fail
    refine bodyPost_ret (v := .agg #[.int .i64 u0, .slice ua ul uc, .slice ya yl yc]) (by simp [results, Try.results20, go_sem, r0, r1, r2]) rfl ?_
    exact HP.out

end Go.Proofs.Ytkaannpoldenkaa

/-
  What the specification draws: l6Open, DrawKindFirst.
-/
namespace Go.Proofs.Ytkaannpoldenkaa
open Go.RowKit

/-- The bytes of a code. -/
def CodeIn (S : Nat → Prop) (w : World) (ao : Option Addr) (L cap : Nat) : Prop :=
  L ≤ cap ∧ cap ≤ maxLen ∧ (0 < L → ∃ b off, ao = some ⟨b, off, none⟩ ∧ S b ∧ ∀ j, j < L → ∃ u : Nat, u ≤ 255 ∧ w.cell? ⟨b, off + j, none⟩ = some (.int .u8 (u : Int)))

theorem dr_new {S : Nat → Prop} {w : World} {ao : Option Addr} {L L' cap : Nat} (h : CodeIn S w ao L cap) (hS : ∀ b, S b → b < w.heap.size) (hl : L' ≤ L) (hl2 : L' ≤ 2000) :
    Dr (w.alloc (.cells #[.slice ao L' cap, .int .i64 0] 75)) w.heap.size ao L' cap 0 := by
  refine ⟨heap_alloc_new _ _, hl2, fun h0 => ?_⟩
  obtain ⟨b, off, ha, hb, hc⟩ := h.2.2 (by omega)
  have := hS b hb
  refine ⟨b, off, ha, by omega, fun j hj => ?_⟩
  obtain ⟨u, hu, hcell⟩ := hc j (by omega)
  exact ⟨u, hu, (World.cell?_of_block (Below.heap_alloc _ _ _ (by show b < _; omega))).trans hcell⟩

set_option maxRecDepth 20000 in
set_option maxHeartbeats 4000000 in
theorem l6Open_any (S : Nat → Prop) (w : World) (ao : Option Addr) (L cap : Nat) (h : CodeIn S w ao L cap) (hS : ∀ b, S b → b < w.heap.size) :
    Calls Try.prog 21 #[.slice ao L cap] w fun e w' => Below w.heap.size w w' ∧ ∃ R, e = .returned (.pointer (some ⟨R, 0, none⟩)) ∧ w.heap.size ≤ R ∧ ∃ L', Dr w' R ao L' cap 0 := by
  by_cases hL : 2000 < L
  · have hLi : (2000 : Int) < (L : Int) := by omega
    have hci : ¬ (cap : Int) < 2000 := by have := h.1; omega
    have hcap := h.1
    have HC : Hid (CodeIn S w ao L cap) := h
    clear h
    go_enter Try.func21, Try.ntmps21
    go_wp2_with fail
    go_ret
    exact ⟨(Below.refl _ _).alloc (Nat.le_refl _) _, w.heap.size, ⟨rfl, Nat.le_refl _, 2000, dr_new HC.out hS (by omega) (by omega)⟩⟩
  · have hLi : ¬ (2000 : Int) < (L : Int) := by omega
    have HC : Hid (CodeIn S w ao L cap) := h
    clear h
    go_enter Try.func21, Try.ntmps21
    go_wp2_with fail
    go_ret
    exact ⟨(Below.refl _ _).alloc (Nat.le_refl _) _, w.heap.size, ⟨rfl, Nat.le_refl _, L, dr_new HC.out hS (Nat.le_refl _) (by omega)⟩⟩

/-- What drawing a schema out of a code makes. -/
def DrawnK (m : Nat) (w : World) (e : Ending) (w' : World) : Prop :=
  Below w.heap.size w w' ∧ ∃ (k : K m) (c0 c1 c2 : Value), e = .returned (.agg #[c0, c1, c2]) ∧ KindIn (fun b => w.heap.size ≤ b ∧ b < w'.heap.size) w' m k c0 c1 c2

theorem near_new {R : Nat} {w w1 w' : World} (hb : Below w.heap.size w w1) (hR : w.heap.size ≤ R) (hn : Near R w1 w') : Below w.heap.size w w' :=
  ⟨hn.os.trans hb.os, hn.tape.trans hb.tape, hn.output.trans hb.output, by have := hb.size; have := hn.size; omega, fun b hbl => (hn.block b (by have := hb.size; omega) (by omega)).trans (hb.block b hbl)⟩

set_option maxRecDepth 20000 in
set_option maxHeartbeats 4000000 in
theorem drawKFirst_any (m : Nat) (hm : 11 ≤ m) (S : Nat → Prop) (w : World) (ao : Option Addr) (L cap : Nat) (h : CodeIn S w ao L cap) (hS : ∀ b, S b → b < w.heap.size) :
    Calls Try.prog 13 #[.slice ao L cap] w (DrawnK m w) := by
  obtain ⟨W1, hW1⟩ : ∃ W1, W1 = w.alloc (.cells #[.int .i64 0, .slice none 0 0, .slice none 0 0] 26) := ⟨_, rfl⟩
  have hz1 : W1.heap.size = w.heap.size + 1 := by rw [hW1]; simp
  have hb1 : Below w.heap.size w W1 := by rw [hW1]; exact (Below.refl _ _).alloc (Nat.le_refl _) _
  have hzero : W1.heap[w.heap.size]? = some (.cells #[.int .i64 0, .slice none 0 0, .slice none 0 0] 26 (0, 0)) := by rw [hW1]; exact heap_alloc_new _ _
  have HO : Hid (Calls Try.prog 21 #[.slice ao L cap] W1 _) := l6Open_any S W1 ao L cap ⟨h.1, h.2.1, fun h0 => by
      obtain ⟨b, off, ha, hb, hc⟩ := h.2.2 h0
      exact ⟨b, off, ha, hb, fun j hj => by
        obtain ⟨u, hu, hcell⟩ := hc j hj
        exact ⟨u, hu, (World.cell?_of_block (hb1.block b (hS b hb))).trans hcell⟩⟩⟩ (fun b hb => by have := hS b hb; omega)
  have HZ : Hid (Below w.heap.size w W1 ∧ W1.heap[w.heap.size]? = some (.cells #[.int .i64 0, .slice none 0 0, .slice none 0 0] 26 (0, 0))) := ⟨hb1, hzero⟩
  clear h hb1 hzero
  go_enter Try.func13, Try.ntmps13
  go_wp2_with fail
  rw [← hW1]
  clear hW1
  refine HO.out.mono ?_
  rintro e w1 ⟨hb1, R, rfl, hR, L', hD⟩
  have HA : Hid (Calls Try.prog 20 #[.pointer (some ⟨R, 0, none⟩)] w1 (AnyPost m w1 R ao L' cap 0 30000)) := l5AnyKind_any m R ao L' cap 0 w1 hm hD (by omega)
  have HB : Hid (Below W1.heap.size W1 w1) := hb1
  have hs1 := hb1.size
  clear HO hb1 hD
  go_wp2_with fail
  refine HA.out.mono ?_
  rintro e w2 ⟨hn2, p', k, c0, c1, c2, -, -, rfl, hk⟩
  obtain ⟨u0, ua, ul, uc, ya, yl, yc, rfl, rfl, rfl⟩ := hk.shape
  have hs2 := hn2.size
  have hb2 : Below W1.heap.size W1 w2 := near_new HB.out hR hn2
  obtain ⟨⟨r0, r1, r2⟩, f0, f1, f2⟩ := zeroD_cells ((hb2.block w.heap.size (by omega)).trans HZ.out.2)
  have HP : Hid (DrawnK m w (.returned (.agg #[.int .i64 u0, .slice ua ul uc, .slice ya yl yc])) (put3 w2 w.heap.size 0 (.int .i64 u0) (.slice ua ul uc) (.slice ya yl yc))) := by
    refine ⟨put3_below (HZ.out.1.trans (hb2.mono (by omega))) (Nat.le_refl _), k, _, _, _, rfl, hk.keep (fun b hb => put3_other (by omega)) (fun b hb => ⟨by omega, by rw [put3_size]; exact hb.2⟩)⟩
  clear HA hn2 hk hb2 HB HZ
  go_wp2_with fail
  refine bodyPost_ret (v := .agg #[.int .i64 u0, .slice ua ul uc, .slice ya yl yc]) (by simp [results, Try.results13, go_sem, r0, r1, r2]) rfl ?_
  exact HP.out

end Go.Proofs.Ytkaannpoldenkaa
