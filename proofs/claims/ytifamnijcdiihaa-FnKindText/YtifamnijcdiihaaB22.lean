/-
  Several texts in one, in their order.
-/
import Derived.Test.YtifamnijcdiihaaB17
import Derived.Test.YtifamnijcdiihaaB16
import Derived.Test.YtifamnijcdiihaaB3
import Derived.Test.YtifamnijcdiihaaKSpecFirst
import Derived.Test.YtifamnijcdiihaaB21
import Derived.Deep.RegionWith

/-
  The law of KindRead, walked: what the two readers answer is given as hypotheses here.
-/
namespace Go.Proofs.Ytifamnijcdiihaa
open Go.RowKit

theorem Box3.eqb {w w' : World} {N : Nat} {a b c : Value} (h : Box3 w N a b c) (hb : w'.heap[N]? = w.heap[N]?) : Box3 w' N a b c :=
  ⟨(World.cell?_of_block (w := w) (w' := w') (a := ⟨N, 0, none⟩) hb).trans h.c0, (World.cell?_of_block (w := w) (w' := w') (a := ⟨N, 1, none⟩) hb).trans h.c1, (World.cell?_of_block (w := w) (w' := w') (a := ⟨N, 2, none⟩) hb).trans h.c2⟩

/-- What the law holds from the first answer on: what is asked for, what was answered. -/
structure SitK (m : Nat) (k : K m) (P : Nat → Prop) (A G : Nat) (p0 p1 p2 g0 g1 g2 : Value) (w u : World) : Prop where
  below : Below w.heap.size w u
  ansBox : Box3 u A p0 p1 p2
  ans : KindIn P u m k p0 p1 p2
  ansB : ∀ b, P b → b < A
  gotBox : Box3 u G g0 g1 g2
  ag : A < G
  gu : G < u.heap.size

theorem SitK.step {m : Nat} {k : K m} {P : Nat → Prop} {A G : Nat} {p0 p1 p2 g0 g1 g2 : Value} {w u u' : World} (h : SitK m k P A G p0 p1 p2 g0 g1 g2 w u) {Z : Nat → Prop} (hb : Below w.heap.size w u') (hz : u.heap.size ≤ u'.heap.size)
    (hs : ∀ b : Nat, b < u.heap.size → ¬ Z b → u'.heap[b]? = u.heap[b]?) (hZ : ∀ b, Z b → A < b ∧ b ≠ G) : SitK m k P A G p0 p1 p2 g0 g1 g2 w u' := by
  have ag := h.ag
  have gu := h.gu
  have q : ∀ b, b ≤ A → u'.heap[b]? = u.heap[b]? := fun b hb => hs b (by omega) (fun hz => by have := hZ b hz; omega)
  exact ⟨hb, h.ansBox.eqb (q A (Nat.le_refl _)), h.ans.keep (fun b hb => q b (by have := h.ansB b hb; omega)) (fun _ h => h), h.ansB,
    h.gotBox.eqb (hs G gu (fun hz => (hZ G hz).2 rfl)), ag, by omega⟩

theorem SitK.keep {m : Nat} {k : K m} {P : Nat → Prop} {A G : Nat} {p0 p1 p2 g0 g1 g2 : Value} {w u u' : World} (h : SitK m k P A G p0 p1 p2 g0 g1 g2 w u) (hw : w.heap.size ≤ u.heap.size) (hb : Below u.heap.size u u') :
    SitK m k P A G p0 p1 p2 g0 g1 g2 w u' := h.step (Z := fun _ => False) (below_step h.below hw hb) hb.size (fun b hb' _ => hb.block b hb') (fun _ h => h.elim)

/-- What the specification's reader answers. -/
def SpecRSaid (s : ByteArray) (m : Nat) (k : K m) (ok : Bool) : Prop := ∀ w, Calls Try.prog 12 #[.string s] w fun e w' => Below w.heap.size w w' ∧ ∃ c0 c1 c2, e = .returned (.tuple #[.agg #[c0, c1, c2], .bool ok]) ∧ KindIn (fun b => w.heap.size ≤ b ∧ b < w'.heap.size) w' m k c0 c1 c2

/-- What the program's reader answers. -/
def ImplRSaid (s : ByteArray) (m : Nat) (k : K m) (ok : Bool) : Prop := ∀ w, Calls Try.prog 9 #[.string s] w fun e w' => Below w.heap.size w w' ∧ ∃ c0 c1 c2 L3 L4, e = .returned (.tuple #[.agg #[c0, c1, c2], .bool ok]) ∧ KindIn (fun b => w.heap.size ≤ b ∧ b < w'.heap.size) w' m k c0 c1 c2 ∧
  SpN w' c1 L3 ∧ SpK w' (m - 1) c2 L4 ∧ Own (fun b => w.heap.size ≤ b ∧ b < w'.heap.size) (L3 ++ L4) ∧ (L3 ++ L4).length ≤ 1000

end Go.Proofs.Ytifamnijcdiihaa

/-
  KindFirst of the specification: what it answers.
-/
namespace Go.Proofs.Ytifamnijcdiihaa
open Go.RowKit

set_option maxRecDepth 100000 in
set_option maxHeartbeats 2000000 in
theorem specKFirst_any : SpecFirstSaid := by
  intro n S t c0 c1 c2 w ht hB
  obtain ⟨x0, xa, xl, xc, ya, yl, yc, rfl, rfl, rfl⟩ := ht.shape
  obtain ⟨W1, hW1⟩ : ∃ W1, W1 = (w.alloc (.cells #[.int .i64 x0, .slice xa xl xc, .slice ya yl yc] 26)).alloc (.cells #[.int .i64 0, .int .i64 0, .string ⟨#[]⟩, .slice none 0 0, .slice none 0 0] 37) := ⟨_, rfl⟩
  have hz1 : W1.heap.size = w.heap.size + 2 := by rw [hW1]; simp
  have hb0 : Below w.heap.size w W1 := by rw [hW1]; exact ((Below.refl _ _).alloc (Nat.le_refl _) _).alloc (by simp) _
  have hx1 : Box3 W1 w.heap.size (.int .i64 x0) (.slice xa xl xc) (.slice ya yl yc) := by
    rw [hW1]
    exact (Box3.new w (.int .i64 x0) (.slice xa xl xc) (.slice ya yl yc) 26).keep ((Below.refl _ _).alloc (Nat.le_refl _) _)
  have hzero : W1.heap[w.heap.size + 1]? = some (.cells #[.int .i64 0, .int .i64 0, .string ⟨#[]⟩, .slice none 0 0, .slice none 0 0] 37 (0, 0)) := by
    have := heap_alloc_new (w.alloc (.cells #[.int .i64 x0, .slice xa xl xc, .slice ya yl yc] 26)) (.cells #[.int .i64 0, .int .i64 0, .string ⟨#[]⟩, .slice none 0 0, .slice none 0 0] 37)
    rw [hW1]; simpa using this
  obtain ⟨ht0, hB0⟩ := ht.step hB hb0
  have hn0 : ∃ m, n = m + 1 := by
    cases n with
    | zero => exact ht.elim
    | succ m => exact ⟨m, rfl⟩
  have HC : Hid (Calls Try.prog 15 _ _ _) := specKOk_any n S t _ _ _ W1 ht0 hB0
  clear ht
  go_enter Try.func14, Try.ntmps14
  go_wp2_with fail
  rw [← hW1]
  clear hW1
  refine HC.out.mono ?_
  rintro e w1 ⟨rfl, hb1⟩
  have hs1 := hb1.size
  have hbw1 := below_step hb0 hb0.size hb1
  have hx := hx1.keep hb1
  obtain ⟨ht1, hB1⟩ := ht0.step hB0 hb1
  have hz1' := (hb1.block (w.heap.size + 1) (by omega)).trans hzero
  clear HC hb1 hb0 hzero hB0 ht0 hx1
  cases hok : okK n t with
  | true =>
    have hp := okK_get hok
    have HC2 : Hid (Calls Try.prog 36 _ _ _) := l2First_any n S t _ _ _ 1 w1 ht1 hB1 hp.1 hp.2
    have HA : Hid (ansT n t = firstT n t) := if_pos hok
    obtain ⟨k0, k1, k2⟩ := hx
    clear hok hp ht1 hB1
    go_wp2_with fail
    refine HC2.out.mono ?_
    rintro e w3 ⟨g0, g1, g2, g3, g4, rfl, hin3, hb3⟩
    obtain ⟨u0, u1, u2, ua, ul, uc, va, vl, vc, rfl, rfl, rfl, rfl, rfl⟩ := hin3.shape
    obtain ⟨⟨r0, r1, r2, r3, r4⟩, f0, f1, f2, f3, f4⟩ := zero_tree ((hb3.block (w.heap.size + 1) (by omega)).trans hz1')
    have hs3' := hb3.size
    have hbw3 := below_step hbw1 hbw1.size hb3
    have HF : Hid (TreeIn (fun b => w.heap.size ≤ b ∧ b < (put5 w3 (w.heap.size + 1) 0 (.int .i64 u0) (.int .i64 u1) (.string u2) (.slice ua ul uc) (.slice va vl vc)).heap.size) (put5 w3 (w.heap.size + 1) 0 (.int .i64 u0) (.int .i64 u1) (.string u2) (.slice ua ul uc) (.slice va vl vc)) n (ansT n t) (.int .i64 u0) (.int .i64 u1) (.string u2) (.slice ua ul uc) (.slice va vl vc) ∧
        Below w.heap.size w (put5 w3 (w.heap.size + 1) 0 (.int .i64 u0) (.int .i64 u1) (.string u2) (.slice ua ul uc) (.slice va vl vc))) := by
      refine ⟨?_, put5_below hbw3 (by omega)⟩
      rw [HA.out]
      exact hin3.keep (fun b h => put5_other (by omega)) (fun b h => by rw [put5_size]; omega)
    clear HC2 HA hin3 hb3 hbw1 hbw3 hz1' k0 k1 k2
    go_wp2_with fail
    refine bodyPost_ret (v := .agg #[.int .i64 u0, .int .i64 u1, .string u2, .slice ua ul uc, .slice va vl vc]) (by simp [results, Try.results14, go_sem, r0, r1, r2, r3, r4]) rfl ?_
    exact ⟨_, _, _, _, _, rfl, HF.out⟩
  | false =>
    obtain ⟨⟨r0, r1, r2, r3, r4⟩, f0, f1, f2, f3, f4⟩ := zero_tree hz1'
    have HF : Hid (TreeIn (fun b => w.heap.size ≤ b ∧ b < (put5 w1 (w.heap.size + 1) 0 (.int .i64 0) (.int .i64 0) (.string ⟨#[]⟩) (.slice none 0 0) (.slice none 0 0)).heap.size) (put5 w1 (w.heap.size + 1) 0 (.int .i64 0) (.int .i64 0) (.string ⟨#[]⟩) (.slice none 0 0) (.slice none 0 0)) n (ansT n t) (.int .i64 0) (.int .i64 0) (.string ⟨#[]⟩) (.slice none 0 0) (.slice none 0 0) ∧
        Below w.heap.size w (put5 w1 (w.heap.size + 1) 0 (.int .i64 0) (.int .i64 0) (.string ⟨#[]⟩) (.slice none 0 0) (.slice none 0 0))) := by
      obtain ⟨m, rfl⟩ := hn0
      refine ⟨?_, put5_below hbw1 (by omega)⟩
      rw [show ansT (m + 1) t = zeroT (m + 1) t from if_neg (by rw [hok]; simp)]
      exact zero_in t _ _
    clear hok hbw1 hz1' ht1 hB1 hx
    go_wp2_with fail
    refine bodyPost_ret (v := .agg #[.int .i64 0, .int .i64 0, .string ⟨#[]⟩, .slice none 0 0, .slice none 0 0]) (by simp [results, Try.results14, go_sem, r0, r1, r2, r3, r4]) rfl ?_
    exact ⟨_, _, _, _, _, rfl, HF.out⟩

end Go.Proofs.Ytifamnijcdiihaa
