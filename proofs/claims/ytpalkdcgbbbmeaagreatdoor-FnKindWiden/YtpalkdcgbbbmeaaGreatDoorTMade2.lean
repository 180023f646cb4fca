/-
  The program's inner trees: madeTree, innerTree.
-/
import Derived.Test.YtpalkdcgbbbmeaaGreatDoorTMade
import Derived.Test.YtpalkdcgbbbmeaaGreatDoorBox
namespace Go.Proofs.YtpalkdcgbbbmeaaGreatDoor
open Go.RowKit

set_option maxRecDepth 100000 in
set_option maxHeartbeats 2000000 in
theorem madeTree_step (n : Nat) (hn : MadeTSaid n) : MadeTSaid (n + 1) := by
  intro S t c0 c1 c2 c3 c4 d w ht hB hg hc
  have hmi : ∀ (v : Value) (w : World), True := fun _ _ => trivial
  clear hmi
  obtain ⟨rfl, rfl, rfl, hsx, -, -, h3, h4⟩ := ht
  obtain ⟨na, nc, rfl, -, -, -⟩ := id h3
  obtain ⟨ka, kc, rfl, -, -⟩ := id h4
  simp only [goodT, Bool.and_eq_true] at hg
  have ha : aloneF (Nd.sort t) (Nd.num t) (Nd.text t) (Nd.names t) (Nd.kids t).length = true := hg.1.2
  have hc' : 1 + sumL (fun x => cntT n x) (Nd.kids t) ≤ 120 := by simpa only [cntT] using hc
  have hsort : Nd.sort t = 1 ∨ Nd.sort t = 2 ∨ Nd.sort t = 3 ∨ Nd.sort t = 4 ∨ Nd.sort t = 5 ∨ Nd.sort t = 6 := by
    unfold aloneF at ha
    by_cases h1 : Nd.sort t = 1
    · exact .inl h1
    by_cases h2 : Nd.sort t = 2
    · exact .inr (.inl h2)
    by_cases h3 : Nd.sort t = 3
    · exact .inr (.inr (.inl h3))
    by_cases h4 : Nd.sort t = 4
    · exact .inr (.inr (.inr (.inl h4)))
    by_cases h5 : Nd.sort t = 5
    · exact .inr (.inr (.inr (.inr (.inl h5))))
    by_cases h6 : Nd.sort t = 6
    · exact .inr (.inr (.inr (.inr (.inr h6))))
    rw [if_neg h1, if_neg h2, if_neg h3, if_neg h4, if_neg h5, if_neg h6] at ha
    cases ha
  generalize hs : Nd.sort t = s at *
  have HS : Hid (Nd.sort t = s) := hs
  clear hs ha
  have hb0 := (Below.refl w.heap.size w).alloc (Nat.le_refl _) (.cells #[.int .i64 s, .int .i64 (Nd.num t), .string (Nd.text t), .slice na (Nd.names t).length nc, .slice ka (Nd.kids t).length kc] 29)
  have hx0 := Box5.new w (.int .i64 s) (.int .i64 (Nd.num t)) (.string (Nd.text t)) (.slice na (Nd.names t).length nc) (.slice ka (Nd.kids t).length kc) 29
  have h3' := h3.keep (same_below hb0 hB) (fun _ h => h)
  have h4' := h4.keepT (same_below hb0 hB) (fun _ h => h)
  have HC : Hid (∀ W, Below (w.alloc (.cells #[.int .i64 s, .int .i64 (Nd.num t), .string (Nd.text t), .slice na (Nd.names t).length nc, .slice ka (Nd.kids t).length kc] 29)).heap.size (w.alloc (.cells #[.int .i64 s, .int .i64 (Nd.num t), .string (Nd.text t), .slice na (Nd.names t).length nc, .slice ka (Nd.kids t).length kc] 29)) W →
      W.heap.size = w.heap.size + 1 → Calls Tryz.prog 95 #[.slice ka (Nd.kids t).length kc] W fun e w' => ∃ va vl vc, e = .returned (.slice va vl vc) ∧ Below w.heap.size w w' ∧ w'.cell? ⟨w.heap.size, 3, none⟩ = some (.slice na (Nd.names t).length nc) ∧
        StrsIn (fun b => S b ∨ (w.heap.size ≤ b ∧ b < w'.heap.size)) w' (Nd.names t) (.slice na (Nd.names t).length nc) ∧ Row1 (fun b => S b ∨ (w.heap.size ≤ b ∧ b < w'.heap.size)) w' (InnerT (fun b => S b ∨ (w.heap.size ≤ b ∧ b < w'.heap.size)) w' n) (Nd.kids t) (.slice va vl vc)) := by
    intro W hW hWs
    have hS1 : ∀ b, S b → b < (w.alloc (.cells #[.int .i64 s, .int .i64 (Nd.num t), .string (Nd.text t), .slice na (Nd.names t).length nc, .slice ka (Nd.kids t).length kc] 29)).heap.size := fun b hb => by have := hB b hb; simp; omega
    have h4W := h4'.keepT (same_below hW hS1) (fun _ h => h)
    refine (madeTrees_any n hn S (Nd.kids t) _ (d + 1) W h4W (fun b hb => by have := hB b hb; omega) hg.2 hc').mono ?_
    rintro e w' ⟨hb, v', rfl, hrow⟩
    obtain ⟨va, vc, rfl, -⟩ := id hrow
    have hbw : Below w.heap.size w w' := (below_step hb0 (by simp) hW).trans (hb.mono (by omega))
    refine ⟨_, _, _, rfl, hbw, (hx0.keep (hW.trans (hb.mono (by simp; omega)))).c3, ?_, ?_⟩
    · exact h3.keep (same_below hbw hB) (fun b hb => .inl hb)
    · exact hrow.keep (fun _ _ => rfl) (fun b hb => hb.elim .inl (fun h => .inr ⟨by omega, h.2⟩)) (fun _ _ _ hx => hx.keep (fun _ _ => rfl) (fun b hb => hb.elim .inl (fun h => .inr ⟨by omega, h.2⟩)))
  have HFin : Hid (∀ v W, Below w.heap.size w W → InnerT (fun b => S b ∨ (w.heap.size ≤ b ∧ b < W.heap.size)) W (n + 1) t v → MadeTPost S (n + 1) t w (.returned v) W) := fun v W hb hv => ⟨hb, v, rfl, hv⟩
  clear h3 h4 h3' h4' hx0 hn hg hc hc'
  rcases hsort with rfl | rfl | rfl | rfl | rfl | rfl
  · clear HC
    go_enter Tryz.func68, Tryz.ntmps68
    go_wp2_with fail
    go_ret
    exact HFin.out _ _ hb0 (.inl ⟨HS.out, rfl⟩)
  · clear HC
    go_enter Tryz.func68, Tryz.ntmps68
    go_wp2_with fail
    go_ret
    exact HFin.out _ _ hb0 (.inr (.inl ⟨HS.out, rfl⟩))
  · clear HC
    go_enter Tryz.func68, Tryz.ntmps68
    go_wp2_with fail
    go_ret
    exact HFin.out _ _ hb0 (.inr (.inr (.inl ⟨HS.out, rfl⟩)))
  · go_enter Tryz.func68, Tryz.ntmps68
    go_wp2_with fail
    refine (HC.out _ (Below.refl _ _) (by simp)).mono ?_
    rintro e w2 ⟨va, vl, vc, rfl, hb2, -, -, hrow⟩
    have HP := HFin.out (.iface 122 (.slice va vl vc)) w2 hb2 (.inr (.inr (.inr (.inl ⟨HS.out, _, rfl, hrow⟩))))
    have HP' : Hid _ := HP
    clear HP hrow HC hb2
    go_wp2_with fail
    go_ret
    exact HP'.out
  · go_enter Tryz.func68, Tryz.ntmps68
    go_wp2_with fail
    go_region_with (go_at_call 95; refine (HC.out _ ((Below.refl _ _).drew) (by simp)).mono ?_; rintro e w2 ⟨va, vl, vc, rfl, hb2, hc3, hnm, hrow⟩)
    all_goals
      have HP := HFin.out (.iface 126 (.agg #[.slice na (Nd.names t).length nc, .slice va vl vc])) w2 hb2 (.inr (.inr (.inr (.inr (.inl ⟨HS.out, _, _, rfl, hnm, hrow⟩)))))
      have HP' : Hid _ := HP
      clear HP hrow hb2 hnm
      go_wp2_with fail
      go_ret
      exact HP'.out
  · go_enter Tryz.func68, Tryz.ntmps68
    go_wp2_with fail
    refine (HC.out _ (Below.refl _ _) (by simp)).mono ?_
    rintro e w2 ⟨va, vl, vc, rfl, hb2, -, -, hrow⟩
    have HP := HFin.out (.iface 128 (.slice va vl vc)) w2 hb2 (.inr (.inr (.inr (.inr (.inr ⟨HS.out, _, rfl, hrow⟩)))))
    have HP' : Hid _ := HP
    clear HP hrow HC hb2
    go_wp2_with fail
    go_ret
    exact HP'.out

theorem madeTree_any : ∀ n, MadeTSaid n := by
  intro n
  induction n with
  | zero => intro S t c0 c1 c2 c3 c4 d w ht; exact ht.elim
  | succ n ih => exact madeTree_step n ih

/-- What innerTree answers. -/
def FaceT (S : Nat → Prop) (n : Nat) (t : T n) (w : World) (e : Ending) (w' : World) : Prop :=
  Below w.heap.size w w' ∧ ((okT n t = true ∧ ∃ v, e = .returned (.tuple #[v, .bool true]) ∧ InnerT (fun b => S b ∨ (w.heap.size ≤ b ∧ b < w'.heap.size)) w' n t v) ∨ (okT n t = false ∧ e = .returned (.tuple #[.nilIface, .bool false])))

set_option maxRecDepth 100000 in
set_option maxHeartbeats 400000 in
theorem innerTree_any (n : Nat) (S : Nat → Prop) (t : T n) (c0 c1 c2 c3 c4 : Value) (w : World) (ht : TreeIn S w n t c0 c1 c2 c3 c4) (hB : ∀ b, S b → b < w.heap.size) :
    Calls Tryz.prog 35 #[.agg #[c0, c1, c2, c3, c4]] w (FaceT S n t w) := by
  obtain ⟨x0, x1, x2, xa, xl, xc, ya, yl, yc, rfl, rfl, rfl, rfl, rfl⟩ := ht.shape
  have hb0 := (Below.refl w.heap.size w).alloc (Nat.le_refl _) (.cells #[.int .i64 x0, .int .i64 x1, .string x2, .slice xa xl xc, .slice ya yl yc] 29)
  have hx0 := Box5.new w (.int .i64 x0) (.int .i64 x1) (.string x2) (.slice xa xl xc) (.slice ya yl yc) 29
  obtain ⟨ht0, hB0⟩ := ht.step hB hb0
  clear ht
  go_enter Tryz.func35, Tryz.ntmps35
  go_wp2_with fail
  refine (implOk_any n S t _ _ _ _ _ _ ht0 hB0).mono ?_
  rintro e w1 ⟨rfl, hb1⟩
  have hbw1 := below_step hb0 (by simp) hb1
  obtain ⟨ht1, hB1⟩ := ht0.step hB0 hb1
  obtain ⟨k0, k1, k2, k3, k4⟩ := hx0.keep hb1
  have hz1 := hbw1.size
  clear hb0 hb1 hx0 ht0 hB0
  cases hok : okT n t with
  | false =>
    have HP : Hid (FaceT S n t w (.returned (.tuple #[.nilIface, .bool false])) w1) := ⟨hbw1, .inr ⟨hok, rfl⟩⟩
    clear hok
    go_wp2_with fail
    go_ret2
    exact HP.out
  | true =>
    have HOK : Hid (okT n t = true) := hok
    simp only [okT, Bool.and_eq_true, decide_eq_true_eq] at hok
    have HC : Hid (Calls Tryz.prog 68 _ _ _) := madeTree_any n S t _ _ _ _ _ 1 w1 ht1 hB1 hok.1 hok.2
    clear hok ht1 hB1
    go_wp2_with fail
    refine HC.out.mono ?_
    rintro e w2 ⟨hb2, v, rfl, hin⟩
    obtain ⟨ku, kx, rfl⟩ := id hin.iface
    have HP : Hid (FaceT S n t w (.returned (.tuple #[.iface ku kx, .bool true])) w2) :=
      ⟨below_step hbw1 hbw1.size hb2, .inl ⟨HOK.out, _, rfl, hin.keep (fun _ _ => rfl) (fun b hb => hb.elim .inl (fun h => .inr ⟨by omega, h.2⟩))⟩⟩
    clear hb2 hin HC
    go_wp2_with fail
    go_ret2
    exact HP.out

end Go.Proofs.YtpalkdcgbbbmeaaGreatDoor
