/-
  The parts of an inner tree: partsOf, TreeParts of the program.
-/
import Derived.Test.YtbhemjedjnaajafInner
import Derived.Handy
namespace Go.Proofs.Ytbhemjedjnaajaf
open Go.RowKit

/-- partsOf at trees of at most n levels. -/
def PartsOfSaid (n : Nat) : Prop := ∀ (S : Nat → Prop) (t : T n) (v : Value) (d : Int) (w : World), InnerIn S w n t v → (∀ b, S b → b < w.heap.size) → goodT n t d = true → cntT n t ≤ 120 →
  Calls Try.prog 20 #[v] w fun e w' => e = .returned (.int .i64 (cntT n t)) ∧ Below w.heap.size w w'

theorem leaf_kids {n : Nat} {t : T (n + 1)} {d : Int} (h : goodT (n + 1) t d = true) (hs : Nd.sort t = 1 ∨ Nd.sort t = 2 ∨ Nd.sort t = 3) : cntT (n + 1) t = 1 := by
  simp only [goodT, Bool.and_eq_true] at h
  have ha : aloneF (Nd.sort t) (Nd.num t) (Nd.text t) (Nd.names t) (Nd.kids t).length = true := h.1.2
  have hk : (Nd.kids t).length = 0 := by
    unfold aloneF at ha
    rcases hs with hs | hs | hs
    · rw [hs] at ha; simp at ha; simp [ha]
    · rw [hs] at ha; simp at ha; simp [ha]
    · rw [hs] at ha; simp at ha; simp [ha]
  rw [List.length_eq_zero_iff] at hk
  simp [cntT, hk, sumL]

theorem ret_int' {k : IntKind} {a b : Int} (h : a = b) : Ending.returned (.int k a) = .returned (.int k b) := by rw [h]

set_option maxHeartbeats 1000000 in
theorem partsOf_leaf (v : Value) (w : World) (hv : (∃ x, v = .iface 61 (.int .i64 x)) ∨ (∃ x, v = .iface 62 (.string x)) ∨ (∃ x, v = .iface 63 (.bool x))) :
    Calls Try.prog 20 #[v] w fun e w' => e = .returned (.int .i64 1) ∧ w' = w := by
  rcases hv with ⟨x, rfl⟩ | ⟨x, rfl⟩ | ⟨x, rfl⟩
  all_goals
    go_enter Try.func20, Try.ntmps20
    go_wp2_with (first | (go_at_call 54; go_in) | (go_at_call 55; go_in) | (go_at_call 56; go_in))
    go_rounds 1
    go_ret
    exact ⟨rfl, rfl⟩

set_option maxHeartbeats 400000 in
theorem kids_list (a : Option Addr) (l c : Nat) (w : World) : Calls Try.prog 57 #[.slice a l c] w fun e w' => e = .returned (.slice a l c) ∧ w = w' := by
  go_enter Try.func57, Try.ntmps57
  go_wp2
  go_ret
  exact ⟨rfl, rfl⟩

set_option maxHeartbeats 400000 in
theorem kids_maybe (a : Option Addr) (l c : Nat) (w : World) : Calls Try.prog 59 #[.slice a l c] w fun e w' => e = .returned (.slice a l c) ∧ w = w' := by
  go_enter Try.func59, Try.ntmps59
  go_wp2
  go_ret
  exact ⟨rfl, rfl⟩

set_option maxHeartbeats 400000 in
theorem kids_form (a b : Option Addr) (l c m d : Nat) (w : World) : Calls Try.prog 58 #[.agg #[.slice a l c, .slice b m d]] w fun e w' => e = .returned (.slice b m d) ∧ w' = w.alloc (.cells #[.slice a l c, .slice b m d] 66) := by
  go_enter Try.func58, Try.ntmps58
  go_wp2
  go_ret
  exact ⟨rfl, rfl⟩

set_option maxHeartbeats 2000000 in
theorem partsOf_row (n : Nat) (hn : PartsOfSaid n) (S : Nat → Prop) (ks : List (T n)) (kv v : Value) (d : Int) (w : World) (hr : RowIn1 S w (InnerIn S w n) ks kv) (hB : ∀ b, S b → b < w.heap.size)
    (hg : ks.all (fun x => goodT n x d) = true) (hc : 1 + sumL (fun x => cntT n x) ks ≤ 120)
    (hv : v = .iface 64 kv ∨ v = .iface 67 kv ∨ (∃ a l c, v = .iface 66 (.agg #[.slice a l c, kv]))) :
    Calls Try.prog 20 #[v] w fun e w' => e = .returned (.int .i64 (1 + (sumL (fun x => cntT n x) ks : Int))) ∧ Below w.heap.size w w' := by
  obtain ⟨ao, cap, rfl, hlen, hcell⟩ := hr
  unfold maxLen at hlen
  have HG : Hid (ks.all (fun x => goodT n x d) = true) := hg
  have hmono : ∀ k, sumL (fun x => cntT n x) (ks.take k) ≤ sumL (fun x => cntT n x) ks := fun k => by
    have := sumL_append (fun x => cntT n x) (ks.take k) (ks.drop k)
    rw [List.take_append_drop] at this; omega
  have HM : Hid (∀ k, sumL (fun x => cntT n x) (ks.take k) ≤ sumL (fun x => cntT n x) ks) := hmono
  clear hg hmono
  rcases hv with rfl | rfl | ⟨na, nl, nc, rfl⟩
  all_goals
    go_enter Try.func20, Try.ntmps20
    go_wp2_with (first | (go_at_call 57; refine (kids_list _ _ _ _).mono ?_; rintro e w' ⟨rfl, rfl⟩) | (go_at_call 59; refine (kids_maybe _ _ _ _).mono ?_; rintro e w' ⟨rfl, rfl⟩) | (go_at_call 58; refine (kids_form _ _ _ _ _ _ _).mono ?_; rintro e w' ⟨rfl, rfl⟩))
    go_loopw [3, 9] (fun a i wr => ∃ k : Nat, k ≤ ks.length ∧ i = .int .i64 k ∧ a = .int .i64 (1 + (sumL (fun x => cntT n x) (ks.take k) : Int)) ∧ Below w.heap.size w wr) (fun _ i _ => ks.length - (intOf i).toNat)
    case atStart => first | exact ⟨0, Nat.zero_le _, rfl, by simp [sumL], Below.refl _ _⟩ | exact ⟨0, Nat.zero_le _, rfl, by simp [sumL], (Below.refl _ _).alloc (Nat.le_refl _) _⟩
    case round =>
      obtain ⟨k, hk, rfl, rfl, hbel⟩ := hrel
      have hsk := HM.out k
      by_cases hlt : k < ks.length
      · obtain ⟨b, off, rfl, hbB, hcl⟩ := hcell (by intro h; rw [h] at hlt; simp at hlt)
        obtain ⟨c, hc0, hin⟩ := hcl k hlt
        obtain ⟨ku, kx, rfl⟩ := hin.iface
        have f0 := (hbel.cell (p := ⟨b, off + k, none⟩) (hB b hbB)).trans hc0
        have hin' := hin.keep (same_below hbel hB) (fun _ h => h)
        have hgk : goodT n ks[k] d = true := List.all_eq_true.1 HG.out _ (List.getElem_mem hlt)
        have hsn := sumL_take_succ (fun x => cntT n x) ks k hlt
        have hs1 := HM.out (k + 1)
        have HN : Hid (sumL (fun x => cntT n x) (ks.take (k + 1)) = sumL (fun x => cntT n x) (ks.take k) + cntT n ks[k]) := hsn
        have hcn : cntT n ks[k] ≤ 120 := by omega
        have hsum : sumL (fun x => cntT n x) (ks.take k) + cntT n ks[k] ≤ 120 := by omega
        have hzr := hbel.size
        clear hcell hcl hc0 hin hsn hs1
        go_wp2_with fail
        refine (hn S ks[k] _ d wr hin' (fun b hb => Nat.lt_of_lt_of_le (hB b hb) hzr) hgk hcn).mono ?_
        rintro e w1 ⟨rfl, hb1⟩
        have hbel1 := below_step hbel hzr hb1
        clear hb1 hin' hgk f0 hbel
        generalize cntT n ks[k] = q at *
        go_wp2_with fail
        go_roundw
        case rel => exact ⟨k + 1, by omega, by go_num, by rw [HN.out]; go_num, hbel1⟩
        case measure => simp [intOf]; omega
      · have HE : Hid (sumL (fun x => cntT n x) (ks.take k) = sumL (fun x => cntT n x) ks) := by show _ = _; rw [List.take_of_length_le (by omega)]
        clear hcell
        go_wp2_with fail
        go_ret
        exact ⟨ret_int' (by rw [HE.out]), hbel⟩

theorem partsOf_step (n : Nat) (hn : PartsOfSaid n) : PartsOfSaid (n + 1) := by
  intro S t v d w h hB hg hc
  have hg' := hg
  simp only [goodT, Bool.and_eq_true] at hg'
  have hcn : (cntT (n + 1) t : Int) = 1 + (sumL (fun x => cntT n x) (Nd.kids t) : Int) := by simp only [cntT]; omega
  have hc' : 1 + sumL (fun x => cntT n x) (Nd.kids t) ≤ 120 := by simpa only [cntT] using hc
  rcases h with ⟨hs, rfl⟩ | ⟨hs, rfl⟩ | ⟨hs, rfl⟩ | ⟨hs, kv, hv, hk⟩ | ⟨hs, nv, kv, hv, ⟨na, nc, rfl, -⟩, hk⟩ | ⟨hs, kv, hv, hk⟩
  · rw [leaf_kids hg (.inl hs)]
    exact (partsOf_leaf _ w (.inl ⟨_, rfl⟩)).mono fun e w' ⟨he, hw⟩ => ⟨he, hw ▸ Below.refl _ _⟩
  · rw [leaf_kids hg (.inr (.inl hs))]
    exact (partsOf_leaf _ w (.inr (.inl ⟨_, rfl⟩))).mono fun e w' ⟨he, hw⟩ => ⟨he, hw ▸ Below.refl _ _⟩
  · rw [leaf_kids hg (.inr (.inr hs))]
    exact (partsOf_leaf _ w (.inr (.inr ⟨_, rfl⟩))).mono fun e w' ⟨he, hw⟩ => ⟨he, hw ▸ Below.refl _ _⟩
  · rw [hcn]; exact partsOf_row n hn S (Nd.kids t) kv v (d + 1) w hk hB hg'.2 hc' (.inl hv)
  · rw [hcn]; exact partsOf_row n hn S (Nd.kids t) kv v (d + 1) w hk hB hg'.2 hc' (.inr (.inr ⟨_, _, _, hv⟩))
  · rw [hcn]; exact partsOf_row n hn S (Nd.kids t) kv v (d + 1) w hk hB hg'.2 hc' (.inr (.inl hv))

theorem partsOf_any : ∀ n, PartsOfSaid n := by
  intro n
  induction n with
  | zero => intro S t v d w h; exact h.elim
  | succ n ih => exact partsOf_step n ih

theorem okT_parts {n : Nat} {t : T n} (h : okT n t = true) : goodT n t 1 = true ∧ cntT n t ≤ 120 := by
  simpa only [okT, Bool.and_eq_true, decide_eq_true_eq] using h

set_option maxHeartbeats 400000 in
theorem implParts_any (n : Nat) (S : Nat → Prop) (t : T n) (c0 c1 c2 c3 c4 : Value) (w : World) (ht : TreeIn S w n t c0 c1 c2 c3 c4) (hB : ∀ b, S b → b < w.heap.size) :
    Calls Try.prog 11 #[.agg #[c0, c1, c2, c3, c4]] w fun e w' => e = .returned (.int .i64 (cntF n t)) ∧ Below w.heap.size w w' := by
  obtain ⟨x0, x1, x2, xa, xl, xc, ya, yl, yc, rfl, rfl, rfl, rfl, rfl⟩ := ht.shape
  have hb0 := (Below.refl w.heap.size w).alloc (Nat.le_refl _) (.cells #[.int .i64 x0, .int .i64 x1, .string x2, .slice xa xl xc, .slice ya yl yc] 30)
  have ht' := ht.keep (same_below hb0 hB) (fun _ h => h)
  clear ht
  go_enter Try.func11, Try.ntmps11
  go_wp2_with fail
  refine (innerTree_any n S t _ _ _ _ _ _ ht' (fun b hb => by have := hB b hb; simp; omega)).mono ?_
  rintro e w1 ⟨hb, ⟨hok, v, rfl, hin⟩ | ⟨hok, rfl⟩⟩
  · have hp := okT_parts hok
    have hbw := below_step hb0 (by simp) hb
    have HC : Hid (cntF n t = cntT n t) := by show _ = _; rw [cntF, if_pos hok]
    have HP : Hid (Calls Try.prog 20 #[v] w1 _) := partsOf_any n _ t v 1 w1 hin (fun b hb => hb) hp.1 hp.2
    clear hb hok hin hb0 ht' hp
    go_wp2_with fail
    refine HP.out.mono ?_
    rintro e w2 ⟨rfl, hb2⟩
    have hbw2 := below_step hbw hbw.size hb2
    clear hb2 hbw HP
    go_wp2_with fail
    go_ret
    exact ⟨ret_int' HC.out.symm, hbw2⟩
  · have HP : Hid (cntF n t = 0 ∧ Below w.heap.size w w1) := ⟨by rw [cntF, if_neg (by rw [hok]; simp)], below_step hb0 (by simp) hb⟩
    clear hb hok hb0 ht'
    go_wp2_with fail
    go_ret
    exact ⟨ret_int' HP.out.1.symm, HP.out.2⟩

end Go.Proofs.Ytbhemjedjnaajaf
