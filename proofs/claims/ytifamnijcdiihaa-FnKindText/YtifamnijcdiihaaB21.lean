/-
  Several texts in one, in their order.
-/
import Derived.Test.YtifamnijcdiihaaB20
import Derived.Test.YtifamnijcdiihaaKFTree

/-
  KindFirst of the program: what it answers, and what the answer owns.
-/
namespace Go.Proofs.Ytifamnijcdiihaa
open Go.RowKit

/-- The answer for what is not ok. -/
def zeroT : (n : Nat) → K n → T n
  | 0, k => k
  | n + 1, _ => (⟨0, 0, ByteArray.empty, [], []⟩ : Nd (T n))

/-- What KindFirst answers. -/
def ansT (n : Nat) (t : K n) : T n := if okK n t = true then firstT n t else zeroT n t

theorem clean_first : ∀ (n : Nat) (k : K n) (d : Int), goodK n k d = true → cntK n k ≤ 40 → cleanT n (firstT n k) := by
  intro n
  induction n with
  | zero => intro k d h; simp [goodK] at h
  | succ n ih =>
    intro k d hg hc
    have hN0 := names_of_other hg
    have hF5 := form_of hg
    have hg2 := hg
    simp only [goodK, Bool.and_eq_true] at hg2
    have hkc : (Kd.kids k).length ≤ 40 := by have := sumK_ge (Kd.kids k) hg2.2; simp only [cntK] at hc; omega
    have eK : ¬ Kd.sort k = 5 → Nd.kids (firstT (n + 1) k) = [] := fun h => if_neg h
    refine ⟨fun h => ?_, fun h => ?_, fun h => ?_, fun h => ?_, fun h => ?_, fun h => ?_, (by show (-999999999 : Int) ≤ 0; omega), (by show (0 : Int) ≤ 999999999; omega), (by show (ByteArray.empty).size ≤ 10000; simp), ?_, ?_, ?_, ?_⟩
    · have h : Kd.sort k = 1 := h
      exact ⟨rfl, hN0 (by omega), eK (by omega)⟩
    · have h : Kd.sort k = 2 := h
      exact ⟨rfl, hN0 (by omega), eK (by omega)⟩
    · have h : Kd.sort k = 3 := h
      exact ⟨rfl, hN0 (by omega), eK (by omega), .inl rfl⟩
    · have h : Kd.sort k = 4 := h
      exact ⟨rfl, rfl, hN0 (by omega)⟩
    · exact ⟨rfl, rfl⟩
    · have h : Kd.sort k = 6 := h
      exact ⟨rfl, rfl, hN0 (by omega)⟩
    · show (Kd.names k).length ≤ 10000
      by_cases h5 : Kd.sort k = 5
      · have := (hF5 h5).1; omega
      · rw [hN0 h5]; simp
    · show ∀ s, s ∈ Kd.names k → s.size ≤ 10000
      intro s hs
      by_cases h5 : Kd.sort k = 5
      · have := rise_short (hF5 h5).2 s hs; omega
      · rw [hN0 h5] at hs; cases hs
    · by_cases h5 : Kd.sort k = 5
      · have e : Nd.kids (firstT (n + 1) k) = (Kd.kids k).map (fun x => firstT n x) := if_pos h5
        rw [e]; simp; omega
      · rw [eK h5]; simp
    · intro x hx
      by_cases h5 : Kd.sort k = 5
      · have e : Nd.kids (firstT (n + 1) k) = (Kd.kids k).map (fun x => firstT n x) := if_pos h5
        rw [e] at hx
        obtain ⟨y, hy, rfl⟩ := List.mem_map.1 hx
        refine ih y (d + 1) (List.all_eq_true.1 hg2.2 _ hy) ?_
        have := sumL_mono (fun x => cntK n x) (Kd.kids k) _ hy
        simp only [cntK] at hc; omega
      · rw [eK h5] at hx; cases hx

theorem spL_first : ∀ (n : Nat) (k : K n) (d : Int), goodK n k d = true → spL n (firstT n k) + 4 ≤ 4 * cntK n k := by
  intro n
  induction n with
  | zero => intro k d h; simp [goodK] at h
  | succ n ih =>
    intro k d hg
    have hg2 := hg
    simp only [goodK, Bool.and_eq_true] at hg2
    have hcnt : cntK (n + 1) k = 1 + sumL (fun x => cntK n x) (Kd.kids k) := by simp only [cntK]
    rw [hcnt]
    show (Kd.names k).length + sumL (fun x => 3 + spL n x) (if Kd.sort k = 5 then (Kd.kids k).map (fun x => firstT n x) else []) + 4 ≤ _
    by_cases h5 : Kd.sort k = 5
    · rw [if_pos h5, (form_of hg h5).1]
      have key : ∀ l : List (K n), (∀ x, x ∈ l → goodK n x (d + 1) = true) → l.length + sumL (fun x => 3 + spL n x) (l.map (fun x => firstT n x)) ≤ 4 * sumL (fun x => cntK n x) l := by
        intro l
        induction l with
        | nil => intro _; simp [sumL]
        | cons a r ihr =>
          intro h
          have h1 := ih a (d + 1) (h a (List.mem_cons_self ..))
          have h2 := ihr (fun x hx => h x (List.mem_cons_of_mem _ hx))
          simp only [List.map_cons, sumL, List.length_cons]
          omega
      have := key (Kd.kids k) (fun x hx => List.all_eq_true.1 hg2.2 _ hx)
      omega
    · rw [if_neg h5, names_of_other hg h5]
      simp [sumL]; omega

/-- What KindFirst gives. -/
def FirstPost (n : Nat) (t : K n) (w : World) (e : Ending) (w' : World) : Prop :=
  Below w.heap.size w w' ∧ ∃ g0 g1 g2 g3 g4 L3 L4, e = .returned (.agg #[g0, g1, g2, g3, g4]) ∧ TreeIn (fun b => w.heap.size ≤ b ∧ b < w'.heap.size) w' n (ansT n t) g0 g1 g2 g3 g4 ∧ SpN w' g3 L3 ∧ SpR w' (n - 1) g4 L4 ∧
    Own (fun b => w.heap.size ≤ b ∧ b < w'.heap.size) (L3 ++ L4) ∧ (L3 ++ L4).length ≤ 160

theorem zero_in {n : Nat} (t : K (n + 1)) (S : Nat → Prop) (w : World) : TreeIn S w (n + 1) (zeroT (n + 1) t) (.int .i64 0) (.int .i64 0) (.string ⟨#[]⟩) (.slice none 0 0) (.slice none 0 0) :=
  ⟨rfl, rfl, rfl, (by show (ByteArray.empty).size ≤ maxLen; simp [maxLen]), (by rfl : (Lit.int .i64 0).wf = true), (by rfl : (Lit.int .i64 0).wf = true), ⟨none, 0, rfl, (by show ([] : List ByteArray).length ≤ maxLen; simp), fun s h => (by cases h), fun h => absurd rfl h⟩, ⟨none, 0, rfl, (by show ([] : List (T n)).length ≤ maxLen; simp), fun h => absurd rfl h⟩⟩

set_option maxRecDepth 100000 in
set_option maxHeartbeats 2000000 in
theorem implKFirst_any (n : Nat) (S : Nat → Prop) (t : K n) (c0 c1 c2 : Value) (w : World) (ht : KindIn S w n t c0 c1 c2) (hB : ∀ b, S b → b < w.heap.size) :
    Calls Try.prog 16 #[.agg #[c0, c1, c2]] w (FirstPost n t w) := by
  obtain ⟨x0, xa, xl, xc, ya, yl, yc, rfl, rfl, rfl⟩ := ht.shape
  obtain ⟨W1, hW1⟩ : ∃ W1, W1 = (w.alloc (.cells #[.int .i64 x0, .slice xa xl xc, .slice ya yl yc] 26)).alloc (.cells #[.int .i64 0, .int .i64 0, .string ⟨#[]⟩, .slice none 0 0, .slice none 0 0] 37) := ⟨_, rfl⟩
  have hz1 : W1.heap.size = w.heap.size + 2 := by rw [hW1]; simp
  have hb0 : Below w.heap.size w W1 := by rw [hW1]; exact ((Below.refl _ _).alloc (Nat.le_refl _) _).alloc (by simp) _
  have hzero : W1.heap[w.heap.size + 1]? = some (.cells #[.int .i64 0, .int .i64 0, .string ⟨#[]⟩, .slice none 0 0, .slice none 0 0] 37 (0, 0)) := by
    have := heap_alloc_new (w.alloc (.cells #[.int .i64 x0, .slice xa xl xc, .slice ya yl yc] 26)) (.cells #[.int .i64 0, .int .i64 0, .string ⟨#[]⟩, .slice none 0 0, .slice none 0 0] 37)
    rw [hW1]; simpa using this
  obtain ⟨ht0, hB0⟩ := ht.step hB hb0
  have hn0 : ∃ m, n = m + 1 := by
    cases n with
    | zero => exact ht.elim
    | succ m => exact ⟨m, rfl⟩
  have HC : Hid (Calls Try.prog 23 _ _ _) := innerKind_any n S t _ _ _ W1 ht0 hB0
  clear ht ht0
  go_enter Try.func16, Try.ntmps16
  go_wp2_with fail
  rw [← hW1]
  clear hW1
  refine HC.out.mono ?_
  rintro e w1 ⟨hb1, ⟨hok, v, rfl, hin⟩ | ⟨hok, rfl⟩⟩
  · obtain ⟨kb, rfl, -⟩ := id hin.ptr
    have hp := okK_get hok
    have hs1 := hb1.size
    have hbw1 := below_step hb0 hb0.size hb1
    have hB1 : ∀ b, (S b ∨ (W1.heap.size ≤ b ∧ b < w1.heap.size)) → b < w1.heap.size := fun b hb => hb.elim (fun h => by have := hB b h; omega) (fun h => h.2)
    have HC2 : Hid (Calls Try.prog 39 _ _ _) := firstTree_any n _ t _ 1 w1 hin hB1 hp.1 hp.2
    have HQ : Hid (cleanT n (firstT n t) ∧ spL n (firstT n t) ≤ 160 ∧ ansT n t = firstT n t) := ⟨clean_first n t 1 hp.1 hp.2, by have := spL_first n t 1 hp.1; omega, if_pos hok⟩
    have hz1' := (hb1.block (w.heap.size + 1) (by omega)).trans hzero
    clear HC hok hp hin hb1 hb0 hzero hB0
    go_wp2_with fail
    refine HC2.out.mono ?_
    rintro e w2 ⟨hb2, v2, rfl, hin2⟩
    obtain ⟨ku, kx, rfl⟩ := id hin2.iface
    have hs2 := hb2.size
    have hbw2 := below_step hbw1 hbw1.size hb2
    have HC3 : Hid (Calls Try.prog 38 _ _ _) := outerTree_any n _ (firstT n t) _ w2 hin2 (fun b hb => hb.elim (fun h => by have := hB1 b h; omega) (fun h => h.2)) HQ.out.1
    have hz2' := (hb2.block (w.heap.size + 1) (by omega)).trans hz1'
    clear HC2 hin2 hb2 hbw1 hz1' hB1
    go_wp2_with fail
    refine HC3.out.mono ?_
    rintro e w3 ⟨hb3, g0, g1, g2, g3, g4, L3, L4, rfl, hin3, hs3, hs4, ho, hl⟩
    obtain ⟨u0, u1, u2, ua, ul, uc, va, vl, vc, rfl, rfl, rfl, rfl, rfl⟩ := hin3.shape
    obtain ⟨⟨r0, r1, r2, r3, r4⟩, f0, f1, f2, f3, f4⟩ := zero_tree ((hb3.block (w.heap.size + 1) (by omega)).trans hz2')
    have hs3' := hb3.size
    have hbw3 := below_step hbw2 hbw2.size hb3
    have HF : Hid (FirstPost n t w (.returned (.agg #[.int .i64 u0, .int .i64 u1, .string u2, .slice ua ul uc, .slice va vl vc])) (put5 w3 (w.heap.size + 1) 0 (.int .i64 u0) (.int .i64 u1) (.string u2) (.slice ua ul uc) (.slice va vl vc))) := by
      have q : ∀ b, w2.heap.size ≤ b → (put5 w3 (w.heap.size + 1) 0 (.int .i64 u0) (.int .i64 u1) (.string u2) (.slice ua ul uc) (.slice va vl vc)).heap[b]? = w3.heap[b]? := fun b h => put5_other (by omega)
      have hS : ∀ b, (w2.heap.size ≤ b ∧ b < w3.heap.size) → w.heap.size ≤ b ∧ b < (put5 w3 (w.heap.size + 1) 0 (.int .i64 u0) (.int .i64 u1) (.string u2) (.slice ua ul uc) (.slice va vl vc)).heap.size := fun b h => by rw [put5_size]; omega
      refine ⟨put5_below hbw3 (by omega), _, _, _, _, _, L3, L4, rfl, ?_, hs3.same (fun s h => q _ (ho.1 s (List.mem_append_left _ h)).1), hs4.same (fun s h => q _ (ho.1 s (List.mem_append_right _ h)).1), ho.mono hS, by rw [hl]; exact HQ.out.2.1⟩
      rw [HQ.out.2.2]
      exact hin3.keep (fun b h => q b h.1) hS
    clear HC3 HQ hin3 hs3 hs4 ho hl hb3 hbw2 hbw3 hz2'
    go_wp2_with fail
    refine bodyPost_ret (v := .agg #[.int .i64 u0, .int .i64 u1, .string u2, .slice ua ul uc, .slice va vl vc]) (by simp [results, Try.results16, go_sem, r0, r1, r2, r3, r4]) rfl ?_
    exact HF.out
  · obtain ⟨⟨r0, r1, r2, r3, r4⟩, f0, f1, f2, f3, f4⟩ := zero_tree ((hb1.block (w.heap.size + 1) (by omega)).trans hzero)
    have hbw1 := below_step hb0 hb0.size hb1
    have HF : Hid (FirstPost n t w (.returned (.agg #[.int .i64 0, .int .i64 0, .string ⟨#[]⟩, .slice none 0 0, .slice none 0 0])) (put5 w1 (w.heap.size + 1) 0 (.int .i64 0) (.int .i64 0) (.string ⟨#[]⟩) (.slice none 0 0) (.slice none 0 0))) := by
      obtain ⟨m, rfl⟩ := hn0
      refine ⟨put5_below hbw1 (by omega), _, _, _, _, _, [], [], rfl, ?_, SpN.no _, SpR.no _ _, Own.nil _, by simp⟩
      rw [show ansT (m + 1) t = zeroT (m + 1) t from if_neg (by rw [hok]; simp)]
      exact zero_in t _ _
    clear HC hok hb1 hb0 hzero hB0 hbw1
    go_wp2_with fail
    refine bodyPost_ret (v := .agg #[.int .i64 0, .int .i64 0, .string ⟨#[]⟩, .slice none 0 0, .slice none 0 0]) (by simp [results, Try.results16, go_sem, r0, r1, r2, r3, r4]) rfl ?_
    exact HF.out

end Go.Proofs.Ytifamnijcdiihaa

/-
  What the specification's KindFirst answers: the contract.
-/
namespace Go.Proofs.Ytifamnijcdiihaa
open Go.RowKit

/-- KindFirst of the specification. -/
def SpecFirstSaid : Prop := ∀ (n : Nat) (S : Nat → Prop) (t : K n) (c0 c1 c2 : Value) (w : World), KindIn S w n t c0 c1 c2 → (∀ b, S b → b < w.heap.size) →
  Calls Try.prog 14 #[.agg #[c0, c1, c2]] w fun e w' => ∃ g0 g1 g2 g3 g4, e = .returned (.agg #[g0, g1, g2, g3, g4]) ∧ TreeIn (fun b => w.heap.size ≤ b ∧ b < w'.heap.size) w' n (ansT n t) g0 g1 g2 g3 g4 ∧ Below w.heap.size w w'

end Go.Proofs.Ytifamnijcdiihaa
