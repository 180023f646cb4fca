/-
  Several texts in one, in their order.
-/
import Derived.Test.YtlinplghgamgbaaGreatDoorB1
import Derived.Test.YtlinplghgamgbaaGreatDoorRow1
import Derived.Deep.RegionWith
import Derived.Lib.Hide

/-
  The program's inner trees: what they are in memory; madeTrees, madeTree, innerTree.
-/
namespace Go.Proofs.YtlinplghgamgbaaGreatDoor
open Go.RowKit

/-- A value is the program's inner tree of a tree. -/
def InnerT (S : Nat → Prop) (w : World) : (n : Nat) → T n → Value → Prop
  | 0, _, _ => False
  | n + 1, t, v =>
    (Nd.sort t = 1 ∧ v = .iface 126 (.int .i64 (Nd.num t))) ∨ (Nd.sort t = 2 ∧ v = .iface 128 (.string (Nd.text t))) ∨
    (Nd.sort t = 3 ∧ v = .iface 129 (.bool (Nd.num t == 1))) ∨
    (Nd.sort t = 4 ∧ ∃ kv, v = .iface 132 kv ∧ Row1 S w (InnerT S w n) (Nd.kids t) kv) ∨
    (Nd.sort t = 5 ∧ ∃ nv kv, v = .iface 135 (.agg #[nv, kv]) ∧ StrsIn S w (Nd.names t) nv ∧ Row1 S w (InnerT S w n) (Nd.kids t) kv) ∨
    (Nd.sort t = 6 ∧ ∃ kv, v = .iface 137 kv ∧ Row1 S w (InnerT S w n) (Nd.kids t) kv)

theorem InnerT.keep {S S' : Nat → Prop} {w w' : World} (hb : Same S w w') (hS : ∀ b, S b → S' b) : ∀ {n : Nat} {t : T n} {v : Value}, InnerT S w n t v → InnerT S' w' n t v := by
  intro n
  induction n with
  | zero => intro t v h; exact h.elim
  | succ n ih =>
    intro t v h
    rcases h with h | h | h | ⟨hs, kv, hv, hk⟩ | ⟨hs, nv, kv, hv, hn, hk⟩ | ⟨hs, kv, hv, hk⟩
    · exact .inl h
    · exact .inr (.inl h)
    · exact .inr (.inr (.inl h))
    · exact .inr (.inr (.inr (.inl ⟨hs, kv, hv, hk.keep hb hS fun _ _ _ hx => ih hx⟩)))
    · exact .inr (.inr (.inr (.inr (.inl ⟨hs, nv, kv, hv, hn.keep hb hS, hk.keep hb hS fun _ _ _ hx => ih hx⟩))))
    · exact .inr (.inr (.inr (.inr (.inr ⟨hs, kv, hv, hk.keep hb hS fun _ _ _ hx => ih hx⟩))))

theorem InnerT.iface {S : Nat → Prop} {w : World} : ∀ {n : Nat} {t : T n} {v : Value}, InnerT S w n t v → ∃ u x, v = .iface u x := by
  intro n
  cases n with
  | zero => intro t v h; exact h.elim
  | succ n =>
    intro t v h
    rcases h with h | h | h | ⟨hs, kv, hv, hk⟩ | ⟨hs, nv, kv, hv, hn, hk⟩ | ⟨hs, kv, hv, hk⟩
    · exact ⟨_, _, h.2⟩
    · exact ⟨_, _, h.2⟩
    · exact ⟨_, _, h.2⟩
    · exact ⟨_, _, hv⟩
    · exact ⟨_, _, hv⟩
    · exact ⟨_, _, hv⟩

theorem Tryz.info_at : (Tryz.prog.info? 108).map (fun i => (i.zero, i.size, i.bytes)) = some (some .nilIface, 1, 16) := by kernel_rfl

/-- What the loop of madeTrees holds behind k kids. -/
structure MadeTLoop (S : Nat → Prop) (M n : Nat) (ks : List (T n)) (w1 : World) (k : Nat) (v : Value) (wr : World) : Prop where
  below : Below M w1 wr
  row : ∃ xs : List Value, wr.ownsRow M 108 1 v k xs ∧ ∀ j (h : j < ks.length) (hx : j < xs.length), InnerT (fun b => S b ∨ (M ≤ b ∧ b < wr.heap.size ∧ v.ownBlock ≠ some b)) wr n ks[j] xs[j]

theorem madeT_next {S : Nat → Prop} {M n : Nat} {ks : List (T n)} {w1 wr w2 w3 : World} {k g cap : Nat} {v kv : Value} {xs : List Value} {box one : Obj} (h : MadeTLoop S M n ks w1 k v wr) (hk : k < ks.length) (hS : ∀ b, S b → b < M) (hMr : M ≤ wr.heap.size)
    (hown : wr.ownsRow M 108 1 v k xs) (hxs : ∀ j (h : j < ks.length) (hx : j < xs.length), InnerT (fun b => S b ∨ (M ≤ b ∧ b < wr.heap.size ∧ v.ownBlock ≠ some b)) wr n ks[j] xs[j])
    (hb2 : Below (wr.alloc box).heap.size (wr.alloc box) w2) (hin : InnerT (fun b => S b ∨ ((wr.alloc box).heap.size ≤ b ∧ b < w2.heap.size)) w2 n ks[k] kv)
    (hown' : w3.ownsRow M 108 1 (.slice (some ⟨g, 0, none⟩) (k + 1) cap) (k + 1) (xs ++ [kv])) (hgrow : (w2.alloc one).grownBy w3 v.ownBlock) (hat : v.ownBlock = some g ∨ g = w2.heap.size + 1) :
    MadeTLoop S M n ks w1 (k + 1) (.slice (some ⟨g, 0, none⟩) (k + 1) cap) w3 := by
  have hz2 := hb2.size
  have hz3 := hgrow.size
  simp at hz3
  simp at hz2
  have hrl : ∀ b, v.ownBlock = some b → M ≤ b ∧ b < wr.heap.size := r1_lt hown
  have hxl : xs.length = k := by simpa using hown.1
  have q3 : ∀ b, b < w2.heap.size → v.ownBlock ≠ some b → w3.heap[b]? = w2.heap[b]? := fun b hb hne => by
    rw [hgrow.block b (by simp; omega) (fun e => hne e.symm), Below.heap_alloc _ _ _ hb]
  have q2 : ∀ b, b < wr.heap.size → v.ownBlock ≠ some b → w3.heap[b]? = wr.heap[b]? := fun b hb hno => by
    rw [q3 b (by omega) hno, hb2.block b (by simp; omega), Below.heap_alloc _ _ _ hb]
  have hfar : ∀ b, v.ownBlock ≠ some b → b < w2.heap.size → (Value.slice (some ⟨g, 0, none⟩) (k + 1) cap).ownBlock ≠ some b := by
    intro b h1 h2 e
    have e : g = b := by simpa [Value.ownBlock] using e
    rcases hat with h3 | h3
    · exact h1 (by rw [h3, e])
    · omega
  refine ⟨⟨?_, ?_, ?_, by have := h.below.size; omega, fun b hb => ?_⟩, xs ++ [kv], hown', fun j hj hx => ?_⟩
  · rw [hgrow.os]; exact hb2.os.trans h.below.os
  · rw [hgrow.tape]; exact hb2.tape.trans h.below.tape
  · rw [hgrow.output]; exact hb2.output.trans h.below.output
  · rw [q2 b (by omega) (fun e => by have := hrl b e; omega)]; exact h.below.block b hb
  · by_cases hjk : j < k
    · have hxj : j < xs.length := by omega
      rw [List.getElem_append_left hxj]
      refine (hxs j hj hxj).keep (fun b hb => ?_) (fun b hb => ?_)
      · rcases hb with hb | ⟨hb1, hb2, hb3⟩
        · have := hS b hb
          exact q2 b (by omega) (fun e => by have := hrl b e; omega)
        · exact q2 b hb2 hb3
      · rcases hb with hb | ⟨hb1, hb2, hb3⟩
        · exact .inl hb
        · exact .inr ⟨hb1, by omega, hfar b hb3 (by omega)⟩
    · have hjk' : j = k := by simp at hx; omega
      subst hjk'
      have : (xs ++ [kv])[j] = kv := by simp [← hxl]
      rw [this]
      refine hin.keep (fun b hb => ?_) (fun b hb => ?_)
      · rcases hb with hb | hb
        · have := hS b hb
          exact q3 b (by omega) (fun e => by have := hrl b e; omega)
        · simp at hb
          exact q3 b hb.2 (fun e => by have := hrl b e; omega)
      · rcases hb with hb | hb
        · exact .inl hb
        · simp at hb
          exact .inr ⟨by omega, by omega, hfar b (fun e => by have := hrl b e; omega) hb.2⟩

/-- What madeTree makes. -/
def MadeTPost (S : Nat → Prop) (n : Nat) (t : T n) (w : World) (e : Ending) (w' : World) : Prop :=
  Below w.heap.size w w' ∧ ∃ v, e = .returned v ∧ InnerT (fun b => S b ∨ (w.heap.size ≤ b ∧ b < w'.heap.size)) w' n t v

/-- madeTree at trees of at most n levels. -/
def MadeTSaid (n : Nat) : Prop := ∀ (S : Nat → Prop) (t : T n) (c0 c1 c2 c3 c4 : Value) (d : Int) (w : World), TreeIn S w n t c0 c1 c2 c3 c4 → (∀ b, S b → b < w.heap.size) → goodT n t d = true → cntT n t ≤ 120 →
  Calls Tryz.prog 102 #[.agg #[c0, c1, c2, c3, c4]] w (MadeTPost S n t w)

theorem sumT_ge {n : Nat} {d : Int} (l : List (T n)) (h : l.all (fun x => goodT n x d) = true) : l.length ≤ sumL (fun x => cntT n x) l := by
  induction l with
  | nil => simp
  | cons x r ih =>
    simp only [List.all_cons, Bool.and_eq_true] at h
    have h1 := cntT_pos n x d h.1
    have h2 := ih h.2
    simp only [sumL, List.length_cons]; omega

set_option maxRecDepth 100000 in
set_option maxHeartbeats 2000000 in
theorem madeTrees_any (n : Nat) (hn : MadeTSaid n) (S : Nat → Prop) (ks : List (T n)) (v : Value) (d : Int) (w : World) (hr : RowIn S w (TreeIn S w n) ks v) (hB : ∀ b, S b → b < w.heap.size) (hg : ks.all (fun x => goodT n x d) = true) (hc : 1 + sumL (fun x => cntT n x) ks ≤ 120) :
    Calls Tryz.prog 120 #[v] w fun e w' => Below w.heap.size w w' ∧ ∃ v', e = .returned v' ∧ Row1 (fun b => S b ∨ (w.heap.size ≤ b ∧ b < w'.heap.size)) w' (InnerT (fun b => S b ∨ (w.heap.size ≤ b ∧ b < w'.heap.size)) w' n) ks v' := by
  obtain ⟨ao, cap, rfl, hlen, hkids⟩ := hr
  have hkc : ks.length ≤ 120 := by have := sumT_ge ks hg; omega
  have HGK : Hid (∀ k (h : k < ks.length), goodT n ks[k] d = true ∧ cntT n ks[k] ≤ 120) := by
    intro k h
    refine ⟨List.all_eq_true.1 hg _ (List.getElem_mem h), ?_⟩
    have := sumL_mono (fun x => cntT n x) ks _ (List.getElem_mem h)
    omega
  clear hg hc hlen
  obtain ⟨i0, hi, hzz0, hzz1, hzz2⟩ := info_parts Tryz.info_at
  have HI : Hid (_ ∧ _ ∧ _ ∧ _) := ⟨hi, hzz0, hzz1, hzz2⟩
  clear hi hzz0 hzz1 hzz2
  go_enter Tryz.func120, Tryz.ntmps120
  go_wp2_with fail
  go_loopw [3, 8] (fun v i wr => ∃ k : Nat, k ≤ ks.length ∧ i = .int .i64 k ∧ MadeTLoop S w.heap.size n ks w k v wr) (fun _ i _ => ks.length - (intOf i).toNat)
  case atStart => exact ⟨0, Nat.zero_le _, rfl, Below.refl _ _, [], World.ownsRow_nil _ _ _ _, fun j _ hx => absurd hx (Nat.not_lt_zero _)⟩
  case round =>
    obtain ⟨k, hk, rfl, hL⟩ := hrel
    obtain ⟨xs, hown, hxs⟩ := hL.row
    obtain ⟨va, vc, rfl⟩ := r1_shape hown
    have hbel := hL.below
    have hzr := hbel.size
    have HL := hidF hL
    have HX := hidF hown
    have HK := hidF hxs
    clear hL hown hxs
    by_cases hlt : k < ks.length
    · obtain ⟨b, off, rfl, hbB, hcell⟩ := hkids (by intro h; rw [h] at hlt; simp at hlt)
      obtain ⟨y0, y1, y2, y3, y4, e0, e1, e2, e3, e4, hr⟩ := hcell k hlt
      have hbb := hB b hbB
      have f0 := (hbel.cell (p := ⟨b, off + k * 5, none⟩) hbb).trans e0
      have f1 := (hbel.cell (p := ⟨b, off + k * 5 + 1, none⟩) hbb).trans e1
      have f2 := (hbel.cell (p := ⟨b, off + k * 5 + 2, none⟩) hbb).trans e2
      have f3 := (hbel.cell (p := ⟨b, off + k * 5 + 3, none⟩) hbb).trans e3
      have f4 := (hbel.cell (p := ⟨b, off + k * 5 + 4, none⟩) hbb).trans e4
      have q := hr.keep (same_below hbel hB) (fun _ h => h)
      obtain ⟨z0, z1, z2, za, zl, zc, ua, ul, uc, rfl, rfl, rfl, rfl, rfl⟩ := q.shape
      clear hkids hcell e0 e1 e2 e3 e4 hr
      have hq5 := (Below.refl wr.heap.size wr).alloc (Nat.le_refl _) (.cells #[.int .i64 z0, .int .i64 z1, .string z2, .slice za zl zc, .slice ua ul uc] 52)
      have q5 := q.keep (same_below hq5 (fun b hb => by have := hB b hb; omega)) (fun _ h => h)
      have HC : Hid (Calls Tryz.prog 102 _ _ _) := hn S ks[k] _ _ _ _ _ d _ q5 (fun b hb => by have := hB b hb; simp; omega) (HGK.out k hlt).1 (HGK.out k hlt).2
      clear q q5 hq5
      go_wp2_with fail
      refine HC.out.mono ?_
      rintro e w2 ⟨hb2, kv, rfl, hin⟩
      obtain ⟨ku, kx, rfl⟩ := hin.iface
      have hsz2 : wr.heap.size + 1 ≤ w2.heap.size := by have := hb2.size; simpa using this
      have HO2 : Hid (w2.ownsRow w.heap.size 108 1 (.slice va k vc) k xs) := r1_keep HX.out (fun g' hg' => by have := r1_lt HX.out g' hg'; exact (hb2.block g' (by simp; omega)).trans (Below.heap_alloc _ _ _ this.2))
      have HK2 : Hid (_ ∧ _) := ⟨hb2, hin⟩
      clear hb2 hin f0 f1 f2 f3 f4 HC
      go_wp2_with (at_builtin; refine wpList_append_lies _ rfl (.tmp 12) (.tmp 15) 131 rfl w.heap.size 108 i0 .nilIface 1 16 Tryz.underlying131 HI.out.1 HI.out.2.1 HI.out.2.2.1 HI.out.2.2.2 rfl (by decide) (.slice va k vc) k xs rfl (HO2.out.alloc _) ⟨w2.heap.size, 0, none⟩ 1 1 [.iface ku kx] rfl rfl (World.news_of_block (heap_alloc_new w2 _)) (by simp [Value.oneCell']) (by decide) (by unfold maxLen; omega) (by omega) (by simp; omega) (w2.heap.size + 1) (by simp) ?_; intro g cap w3 hown3 hgrow3 hat3 hlt3; refine Hid.out ?_)
      refine Lib.hid ?_
      have HF : Hid (MadeTLoop S w.heap.size n ks w (k + 1) (.slice (some ⟨g, 0, none⟩) (k + 1) cap) w3) := madeT_next HL.out hlt hB hzr HX.out HK.out HK2.out.1 HK2.out.2 hown3 hgrow3 hat3
      clear hown3 hgrow3 hat3 HK2 HO2 HX HK HL
      go_wp2_with fail
      go_roundw
      case rel => exact ⟨k + 1, by omega, by go_num, HF.out⟩
      case measure => simp [intOf]; omega
    · have hkl : k = ks.length := by omega
      have HP : Hid (Below w.heap.size w wr ∧ Row1 (fun b => S b ∨ (w.heap.size ≤ b ∧ b < wr.heap.size)) wr (InnerT (fun b => S b ∨ (w.heap.size ≤ b ∧ b < wr.heap.size)) wr n) ks (.slice va k vc)) := by
        refine ⟨hbel, ?_⟩
        have h1 := HX.out
        rw [hkl] at h1 ⊢
        refine row1_of_owns h1 (by unfold maxLen; omega) (fun g hg => .inr (r1_lt h1 g hg)) (fun i hi hx => ?_)
        have := HK.out i hi hx
        rw [hkl] at this
        exact this.keep (fun _ _ => rfl) (fun b hb => hb.elim .inl (fun h => .inr ⟨h.1, h.2.1⟩))
      clear hkl hkids HX HK HL
      go_wp2_with fail
      go_ret
      exact ⟨HP.out.1, _, rfl, HP.out.2⟩

end Go.Proofs.YtlinplghgamgbaaGreatDoor

/-
  The program's inner trees: madeTree, innerTree.
-/
namespace Go.Proofs.YtlinplghgamgbaaGreatDoor
open Go.RowKit

set_option maxRecDepth 100000 in
set_option maxHeartbeats 2000000 in
theorem madeTree_step (n : Nat) (hn : MadeTSaid n) : MadeTSaid (n + 1) := by
  intro S t c0 c1 c2 c3 c4 d w ht hB hg hc
  have hmi : ∀ (v : Value) (w : World), True := fun _ _ => trivial
  clear hmi
  obtain ⟨rfl, rfl, rfl, hsx, -, -, h3, h4⟩ := ht
  obtain ⟨na, nc, rfl, -, -, -⟩ := id h3
  obtain ⟨ka, kc, rfl, -, -⟩ := id h4
  simp only [goodT, Bool.and_eq_true] at hg
  have ha : aloneF (Nd.sort t) (Nd.num t) (Nd.text t) (Nd.names t) (Nd.kids t).length = true := hg.1.2
  have hc' : 1 + sumL (fun x => cntT n x) (Nd.kids t) ≤ 120 := by simpa only [cntT] using hc
  have hsort : Nd.sort t = 1 ∨ Nd.sort t = 2 ∨ Nd.sort t = 3 ∨ Nd.sort t = 4 ∨ Nd.sort t = 5 ∨ Nd.sort t = 6 := by
    unfold aloneF at ha
    by_cases h1 : Nd.sort t = 1
    · exact .inl h1
    by_cases h2 : Nd.sort t = 2
    · exact .inr (.inl h2)
    by_cases h3 : Nd.sort t = 3
    · exact .inr (.inr (.inl h3))
    by_cases h4 : Nd.sort t = 4
    · exact .inr (.inr (.inr (.inl h4)))
    by_cases h5 : Nd.sort t = 5
    · exact .inr (.inr (.inr (.inr (.inl h5))))
    by_cases h6 : Nd.sort t = 6
    · exact .inr (.inr (.inr (.inr (.inr h6))))
    rw [if_neg h1, if_neg h2, if_neg h3, if_neg h4, if_neg h5, if_neg h6] at ha
    cases ha
  generalize hs : Nd.sort t = s at *
  have HS : Hid (Nd.sort t = s) := hs
  clear hs ha
  have hb0 := (Below.refl w.heap.size w).alloc (Nat.le_refl _) (.cells #[.int .i64 s, .int .i64 (Nd.num t), .string (Nd.text t), .slice na (Nd.names t).length nc, .slice ka (Nd.kids t).length kc] 52)
  have hx0 := Box5.new w (.int .i64 s) (.int .i64 (Nd.num t)) (.string (Nd.text t)) (.slice na (Nd.names t).length nc) (.slice ka (Nd.kids t).length kc) 52
  have h3' := h3.keep (same_below hb0 hB) (fun _ h => h)
  have h4' := h4.keepT (same_below hb0 hB) (fun _ h => h)
  have HC : Hid (∀ W, Below (w.alloc (.cells #[.int .i64 s, .int .i64 (Nd.num t), .string (Nd.text t), .slice na (Nd.names t).length nc, .slice ka (Nd.kids t).length kc] 52)).heap.size (w.alloc (.cells #[.int .i64 s, .int .i64 (Nd.num t), .string (Nd.text t), .slice na (Nd.names t).length nc, .slice ka (Nd.kids t).length kc] 52)) W →
      W.heap.size = w.heap.size + 1 → Calls Tryz.prog 120 #[.slice ka (Nd.kids t).length kc] W fun e w' => ∃ va vl vc, e = .returned (.slice va vl vc) ∧ Below w.heap.size w w' ∧ w'.cell? ⟨w.heap.size, 3, none⟩ = some (.slice na (Nd.names t).length nc) ∧
        StrsIn (fun b => S b ∨ (w.heap.size ≤ b ∧ b < w'.heap.size)) w' (Nd.names t) (.slice na (Nd.names t).length nc) ∧ Row1 (fun b => S b ∨ (w.heap.size ≤ b ∧ b < w'.heap.size)) w' (InnerT (fun b => S b ∨ (w.heap.size ≤ b ∧ b < w'.heap.size)) w' n) (Nd.kids t) (.slice va vl vc)) := by
    intro W hW hWs
    have hS1 : ∀ b, S b → b < (w.alloc (.cells #[.int .i64 s, .int .i64 (Nd.num t), .string (Nd.text t), .slice na (Nd.names t).length nc, .slice ka (Nd.kids t).length kc] 52)).heap.size := fun b hb => by have := hB b hb; simp; omega
    have h4W := h4'.keepT (same_below hW hS1) (fun _ h => h)
    refine (madeTrees_any n hn S (Nd.kids t) _ (d + 1) W h4W (fun b hb => by have := hB b hb; omega) hg.2 hc').mono ?_
    rintro e w' ⟨hb, v', rfl, hrow⟩
    obtain ⟨va, vc, rfl, -⟩ := id hrow
    have hbw : Below w.heap.size w w' := (below_step hb0 (by simp) hW).trans (hb.mono (by omega))
    refine ⟨_, _, _, rfl, hbw, (hx0.keep (hW.trans (hb.mono (by simp; omega)))).c3, ?_, ?_⟩
    · exact h3.keep (same_below hbw hB) (fun b hb => .inl hb)
    · exact hrow.keep (fun _ _ => rfl) (fun b hb => hb.elim .inl (fun h => .inr ⟨by omega, h.2⟩)) (fun _ _ _ hx => hx.keep (fun _ _ => rfl) (fun b hb => hb.elim .inl (fun h => .inr ⟨by omega, h.2⟩)))
  have HFin : Hid (∀ v W, Below w.heap.size w W → InnerT (fun b => S b ∨ (w.heap.size ≤ b ∧ b < W.heap.size)) W (n + 1) t v → MadeTPost S (n + 1) t w (.returned v) W) := fun v W hb hv => ⟨hb, v, rfl, hv⟩
  clear h3 h4 h3' h4' hx0 hn hg hc hc'
  rcases hsort with rfl | rfl | rfl | rfl | rfl | rfl
  · clear HC
    go_enter Tryz.func102, Tryz.ntmps102
    go_wp2_with fail
    go_ret
    exact HFin.out _ _ hb0 (.inl ⟨HS.out, rfl⟩)
  · clear HC
    go_enter Tryz.func102, Tryz.ntmps102
    go_wp2_with fail
    go_ret
    exact HFin.out _ _ hb0 (.inr (.inl ⟨HS.out, rfl⟩))
  · clear HC
    go_enter Tryz.func102, Tryz.ntmps102
    go_wp2_with fail
    go_ret
    exact HFin.out _ _ hb0 (.inr (.inr (.inl ⟨HS.out, rfl⟩)))
  · go_enter Tryz.func102, Tryz.ntmps102
    go_wp2_with fail
    refine (HC.out _ (Below.refl _ _) (by simp)).mono ?_
    rintro e w2 ⟨va, vl, vc, rfl, hb2, -, -, hrow⟩
    have HP := HFin.out (.iface 132 (.slice va vl vc)) w2 hb2 (.inr (.inr (.inr (.inl ⟨HS.out, _, rfl, hrow⟩))))
    have HP' : Hid _ := HP
    clear HP hrow HC hb2
    go_wp2_with fail
    go_ret
    exact HP'.out
  · go_enter Tryz.func102, Tryz.ntmps102
    go_wp2_with fail
    go_region_with (go_at_call 120; refine (HC.out _ ((Below.refl _ _).drew) (by simp)).mono ?_; rintro e w2 ⟨va, vl, vc, rfl, hb2, hc3, hnm, hrow⟩)
    all_goals
      have HP := HFin.out (.iface 135 (.agg #[.slice na (Nd.names t).length nc, .slice va vl vc])) w2 hb2 (.inr (.inr (.inr (.inr (.inl ⟨HS.out, _, _, rfl, hnm, hrow⟩)))))
      have HP' : Hid _ := HP
      clear HP hrow hb2 hnm
      go_wp2_with fail
      go_ret
      exact HP'.out
  · go_enter Tryz.func102, Tryz.ntmps102
    go_wp2_with fail
    refine (HC.out _ (Below.refl _ _) (by simp)).mono ?_
    rintro e w2 ⟨va, vl, vc, rfl, hb2, -, -, hrow⟩
    have HP := HFin.out (.iface 137 (.slice va vl vc)) w2 hb2 (.inr (.inr (.inr (.inr (.inr ⟨HS.out, _, rfl, hrow⟩)))))
    have HP' : Hid _ := HP
    clear HP hrow HC hb2
    go_wp2_with fail
    go_ret
    exact HP'.out

theorem madeTree_any : ∀ n, MadeTSaid n := by
  intro n
  induction n with
  | zero => intro S t c0 c1 c2 c3 c4 d w ht; exact ht.elim
  | succ n ih => exact madeTree_step n ih

/-- What innerTree answers. -/
def FaceT (S : Nat → Prop) (n : Nat) (t : T n) (w : World) (e : Ending) (w' : World) : Prop :=
  Below w.heap.size w w' ∧ ((okT n t = true ∧ ∃ v, e = .returned (.tuple #[v, .bool true]) ∧ InnerT (fun b => S b ∨ (w.heap.size ≤ b ∧ b < w'.heap.size)) w' n t v) ∨ (okT n t = false ∧ e = .returned (.tuple #[.nilIface, .bool false])))

set_option maxRecDepth 100000 in
set_option maxHeartbeats 400000 in
theorem innerTree_any (n : Nat) (S : Nat → Prop) (t : T n) (c0 c1 c2 c3 c4 : Value) (w : World) (ht : TreeIn S w n t c0 c1 c2 c3 c4) (hB : ∀ b, S b → b < w.heap.size) :
    Calls Tryz.prog 85 #[.agg #[c0, c1, c2, c3, c4]] w (FaceT S n t w) := by
  obtain ⟨x0, x1, x2, xa, xl, xc, ya, yl, yc, rfl, rfl, rfl, rfl, rfl⟩ := ht.shape
  have hb0 := (Below.refl w.heap.size w).alloc (Nat.le_refl _) (.cells #[.int .i64 x0, .int .i64 x1, .string x2, .slice xa xl xc, .slice ya yl yc] 52)
  have hx0 := Box5.new w (.int .i64 x0) (.int .i64 x1) (.string x2) (.slice xa xl xc) (.slice ya yl yc) 52
  obtain ⟨ht0, hB0⟩ := ht.step hB hb0
  clear ht
  go_enter Tryz.func85, Tryz.ntmps85
  go_wp2_with fail
  refine (implOk_any n S t _ _ _ _ _ _ ht0 hB0).mono ?_
  rintro e w1 ⟨rfl, hb1⟩
  have hbw1 := below_step hb0 (by simp) hb1
  obtain ⟨ht1, hB1⟩ := ht0.step hB0 hb1
  obtain ⟨k0, k1, k2, k3, k4⟩ := hx0.keep hb1
  have hz1 := hbw1.size
  clear hb0 hb1 hx0 ht0 hB0
  cases hok : okT n t with
  | false =>
    have HP : Hid (FaceT S n t w (.returned (.tuple #[.nilIface, .bool false])) w1) := ⟨hbw1, .inr ⟨hok, rfl⟩⟩
    clear hok
    go_wp2_with fail
    go_ret2
    exact HP.out
  | true =>
    have HOK : Hid (okT n t = true) := hok
    simp only [okT, Bool.and_eq_true, decide_eq_true_eq] at hok
    have HC : Hid (Calls Tryz.prog 102 _ _ _) := madeTree_any n S t _ _ _ _ _ 1 w1 ht1 hB1 hok.1 hok.2
    clear hok ht1 hB1
    go_wp2_with fail
    refine HC.out.mono ?_
    rintro e w2 ⟨hb2, v, rfl, hin⟩
    obtain ⟨ku, kx, rfl⟩ := id hin.iface
    have HP : Hid (FaceT S n t w (.returned (.tuple #[.iface ku kx, .bool true])) w2) :=
      ⟨below_step hbw1 hbw1.size hb2, .inl ⟨HOK.out, _, rfl, hin.keep (fun _ _ => rfl) (fun b hb => hb.elim .inl (fun h => .inr ⟨by omega, h.2⟩))⟩⟩
    clear hb2 hin HC
    go_wp2_with fail
    go_ret2
    exact HP.out

end Go.Proofs.YtlinplghgamgbaaGreatDoor
