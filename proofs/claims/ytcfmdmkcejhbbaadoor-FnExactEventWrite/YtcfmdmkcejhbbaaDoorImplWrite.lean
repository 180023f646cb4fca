/-
  TreeWrite of the program: what it answers.
-/
import Derived.Test.YtcfmdmkcejhbbaaDoorImplText4
namespace Go.Proofs.YtcfmdmkcejhbbaaDoor
open Go.RowKit

theorem app_step (n : Nat) (hn : AppSaid n) : AppSaid (n + 1) := by
  intro B w0 w v l t iv d hb h hg hc hl hT
  have hg' := hg
  simp only [goodT, Bool.and_eq_true] at hg'
  have ha : aloneF (Nd.sort t) (Nd.num t) (Nd.text t) (Nd.names t) (Nd.kids t).length = true := hg'.1.2
  have hc' : 1 + sumL (fun x => cntT n x) (Nd.kids t) ≤ 120 := by simpa only [cntT] using hc
  unfold aloneF at ha
  simp only [txtL] at hl ⊢
  rcases h with ⟨hs, rfl⟩ | ⟨hs, rfl⟩ | ⟨hs, rfl⟩ | ⟨hs, kv, rfl, hk⟩ | ⟨hs, nv, kv, rfl, hnm, hk⟩ | ⟨hs, kv, rfl, hk⟩
  · rw [if_pos hs] at ha hl ⊢
    simp only [Bool.and_eq_true, decide_eq_true_eq] at ha
    exact appendTree_num B w0 w v l _ hb ha.1.1.1.1 ha.1.1.1.2 (by omega) hT
  · rw [if_neg (by omega), if_pos hs] at ha hl ⊢
    simp only [Bool.and_eq_true, textB, decide_eq_true_eq] at ha
    exact appendTree_text B w0 w v l _ hb ha.1.1.2.1 (by omega)
  · rw [if_neg (by omega), if_neg (by omega), if_pos hs] at hl ⊢
    have := appendTree_flag B w0 w v l (Nd.num t == 1) hb (by omega)
    simpa using this
  · rw [if_neg (by omega), if_neg (by omega), if_neg (by omega), if_neg (by omega), if_neg (by omega)] at hl ⊢
    obtain ⟨ka, kc, rfl, -⟩ := id hk
    simp only [List.length_append, List.length_cons, List.length_nil] at hl
    exact appendTree_list B w0 w v l _ _ _ _ hb (appendList_any n hn B w0 w v l (Nd.kids t) _ (d + 1) hb hk hg'.2 hc' (by omega) hT)
  · rw [if_neg (by omega), if_neg (by omega), if_neg (by omega), if_neg (by omega), if_pos hs] at hl ⊢
    rw [if_neg (by omega), if_neg (by omega), if_neg (by omega), if_neg (by omega), if_pos hs] at ha
    simp only [Bool.and_eq_true, beq_iff_eq] at ha
    obtain ⟨ka, kc, rfl, -⟩ := id hk
    obtain ⟨na, nc, rfl, -⟩ := id hnm
    simp only [List.length_append, List.length_cons, List.length_nil] at hl
    have hal := (Below.refl B w).alloc hb.le (.cells #[.slice na (Nd.names t).length nc, .slice ka (Nd.kids t).length kc] 73)
    exact appendTree_form B w0 w v l _ _ _ _ _ _ _ hb (appendForm_any n hn B w0 _ v l (Nd.names t) _ (Nd.kids t) _ (d + 1) (hnm.keep (same_below hal (fun _ h => h)) (fun _ h => h)) (by omega) (riseB_names _ ha.2) (hb.alloc _)
      (hk.keep (same_below hal (fun _ h => h)) (fun _ h => h) (fun _ _ _ hx => hx.keep (same_below hal (fun _ h => h)) (fun _ h => h))) hg'.2 hc' (by omega) (hT.on hal))
  · rw [if_neg (by omega), if_neg (by omega), if_neg (by omega), if_pos hs] at hl ⊢
    obtain ⟨ka, kc, rfl, -⟩ := id hk
    exact appendTree_maybe B w0 w v l _ _ _ _ hb (appendMaybe_any n hn B w0 w v l (Nd.kids t) _ (d + 1) hb hk hg'.2 hc' (by omega) hT)

theorem appendTree_any : ∀ n, AppSaid n := by
  intro n
  induction n with
  | zero => intro B w0 w v l t iv d hb h; exact h.elim
  | succ n ih => exact app_step n ih

theorem txtL_ne : ∀ (n : Nat) (t : T n) (d : Int), goodT n t d = true → txtL n t ≠ [] := by
  intro n t d h
  cases n with
  | zero => simp [goodT] at h
  | succ n =>
    simp only [txtL]
    by_cases h1 : Nd.sort t = 1
    · rw [if_pos h1]
      intro e
      have : (Lib.itoa (Nd.num t)).length = 0 := by rw [e]; rfl
      unfold Lib.itoa at this
      split at this
      · simp at this
      · rw [Lib.decDigits_length] at this
        unfold Lib.nDigits at this
        split at this <;> omega
    rw [if_neg h1]
    by_cases h2 : Nd.sort t = 2
    · rw [if_pos h2]; simp
    rw [if_neg h2]
    by_cases h3 : Nd.sort t = 3
    · rw [if_pos h3]; split <;> simp
    rw [if_neg h3]
    by_cases h6 : Nd.sort t = 6
    · rw [if_pos h6]; cases Nd.kids t <;> simp [maybeL]
    rw [if_neg h6]
    by_cases h5 : Nd.sort t = 5
    · rw [if_pos h5]; simp
    rw [if_neg h5]; simp

/-- The table of tens lies below all that the call makes. -/
def TensIn (w : World) : Prop := Lib.TabBelow Tryd.prog w.heap.size w "internal/strconv.uint64pow10" .u64 Lib.pow10Tab

theorem TensIn.step {w w' : World} (h : TensIn w) (hb : Below w.heap.size w w') : TensIn w' := fun w2 h2 => h w2 (hb.trans (h2.mono hb.size))

set_option maxRecDepth 20000 in
set_option maxHeartbeats 400000 in
theorem implWrite_any (n : Nat) (S : Nat → Prop) (t : T n) (c0 c1 c2 c3 c4 : Value) (w : World) (ht : TreeIn S w n t c0 c1 c2 c3 c4) (hB : ∀ b, S b → b < w.heap.size) (hT : TensIn w) :
    Calls Tryd.prog 16 #[.agg #[c0, c1, c2, c3, c4]] w fun e w' => e = .returned (.string (textF n t)) ∧ Below w.heap.size w w' := by
  obtain ⟨x0, x1, x2, xa, xl, xc, ya, yl, yc, rfl, rfl, rfl, rfl, rfl⟩ := ht.shape
  have hb0 := (Below.refl w.heap.size w).alloc (Nat.le_refl _) (.cells #[.int .i64 x0, .int .i64 x1, .string x2, .slice xa xl xc, .slice ya yl yc] 32)
  have ht' := ht.keep (same_below hb0 hB) (fun _ h => h)
  clear ht
  go_enter Tryd.func16, Tryd.ntmps16
  go_wp2_with fail
  refine (innerTree_any n S t _ _ _ _ _ _ ht' (fun b hb => by have := hB b hb; simp; omega)).mono ?_
  rintro e w1 ⟨hb, ⟨hok, v, rfl, hin⟩ | ⟨hok, rfl⟩⟩
  · have hp := okT_get hok
    have hbw := below_step hb0 (by simp) hb
    have hz1 := hb.size
    simp at hz1
    have hin' : InnerT (fun b => b < w1.heap.size) w1 n t v := hin.keep (fun _ _ => rfl) (fun b hb => hb.elim (fun h => by have := hB b h; omega) (fun h => h.2))
    obtain ⟨ku, kx, rfl⟩ := id hin'.iface
    have hlen := txtL_len n t 1 hp.1
    have hne := txtL_ne n t 1 hp.1
    have HC : Hid (textF n t = bs (txtL n t)) := by show _ = _; rw [textF, if_pos hok]
    have HP : Hid (Calls Tryd.prog 29 #[.slice none 0 0, _] w1 _) := appendTree_any n w1.heap.size w1 w1 (.slice none 0 0) [] t _ 1 (Buf.nil (Nat.le_refl _)) hin' hp.1 hp.2 (by simp; omega) (hT.step hbw)
    have HNE : Hid (txtL n t ≠ []) := hne
    clear hb hok hin hin' hb0 ht' hp hne hlen
    go_wp2_with fail
    refine HP.out.mono ?_
    rintro e w2 ⟨v2, rfl, hb2⟩
    rw [List.nil_append] at hb2
    have hcv := buf_string _ _ _ _ _ hb2 HNE.out
    have hbw2 := hbw.trans (hb2.below.mono hbw.size)
    obtain ⟨va, vn, vc, rfl⟩ := hb2.shape
    clear hb2 hbw HP
    go_wp2_with fail
    go_ret
    exact ⟨str_ret HC.out.symm, hbw2⟩
  · have HP : Hid (textF n t = bs [] ∧ Below w.heap.size w w1) := ⟨by rw [textF, if_neg (by rw [hok]; simp)], below_step hb0 (by simp) hb⟩
    clear hb hok hb0 ht'
    go_wp2_with fail
    go_ret
    exact ⟨str_ret HP.out.1.symm, HP.out.2⟩

end Go.Proofs.YtcfmdmkcejhbbaaDoor
