/-
  The program's walk over a tree: take.
-/
import Derived.Test.YtbhemjedjnaajafDoorTake1
import Derived.Test.YtbhemjedjnaajafDoorSpec3
namespace Go.Proofs.YtbhemjedjnaajafDoor
open Go.RowKit

/-- What take does with a tree. -/
def TakePost (B0 bb n : Nat) (t : T n) (p l : Int) (w : World) (e : Ending) (w' : World) : Prop :=
  Near bb w w' ∧ ((goodT n t (l + 1) = true ∧ p + (cntT n t : Int) ≤ 120 ∧ ∃ v, e = .returned v ∧ Bnd w' bb (p + cntT n t) l ∧ InnerIn (fun b => b < B0 ∨ (w.heap.size ≤ b ∧ b < w'.heap.size)) w' n t v) ∨
    (¬ (goodT n t (l + 1) = true ∧ p + (cntT n t : Int) ≤ 120) ∧ e = .panicked refusal))

/-- take at trees of at most n levels. -/
def TakeSaid (n : Nat) : Prop := ∀ (B0 bb : Nat) (t : T n) (c0 c1 c2 c3 c4 : Value) (p l : Int) (w : World), TreeIn (fun b => b < B0) w n t c0 c1 c2 c3 c4 → B0 ≤ bb → Bnd w bb p l → 0 ≤ p → p ≤ 120 → 0 ≤ l → l ≤ 6 →
  Calls Tryd.prog 36 #[.pointer (some ⟨bb, 0, none⟩), .agg #[c0, c1, c2, c3, c4]] w (TakePost B0 bb n t p l w)

theorem Tryd.info_any : (Tryd.prog.info? 44).map (fun i => (i.zero, i.size, i.bytes)) = some (some .nilIface, 1, 16) := by kernel_rfl

/-- What the loop of take holds behind k kids. -/
structure TakeLoop (B0 bb M n : Nat) (ks : List (T n)) (p l : Int) (w1 : World) (k : Nat) (v : Value) (wr : World) : Prop where
  near : Near bb w1 wr
  bnd : Bnd wr bb (p + 1 + (sumL (fun x => cntT n x) (ks.take k) : Int)) (l + 1)
  good : (ks.take k).all (fun x => goodT n x (l + 1 + 1)) = true
  few : p + 1 + (sumL (fun x => cntT n x) (ks.take k) : Int) ≤ 120
  row : ∃ xs : List Value, wr.ownsRow M 44 1 v k xs ∧ ∀ j (h : j < ks.length) (hx : j < xs.length), InnerIn (fun b => b < B0 ∨ (M ≤ b ∧ b < wr.heap.size ∧ v.ownBlock ≠ some b)) wr n ks[j] xs[j]

theorem own_lt {w : World} {M : Nat} {e : TypeId} {v : Value} {k : Nat} {xs : List Value} (h : w.ownsRow M e 1 v k xs) (b : Nat) (hb : v.ownBlock = some b) : M ≤ b ∧ b < w.heap.size := by
  rcases h.2 with ⟨rfl, h0⟩ | ⟨g, cap, cur, rfl, hbg, hg, hnc, hcm, hcs, htake⟩
  · cases hb
  · have : g = b := by simpa [Value.ownBlock] using hb
    subst this
    exact ⟨hbg, (Array.getElem?_eq_some_iff.1 hg).1⟩

theorem own_shape {w : World} {M : Nat} {e : TypeId} {v : Value} {k : Nat} {xs : List Value} (h : w.ownsRow M e 1 v k xs) : ∃ a c, v = .slice a k c := by
  rcases h.2 with ⟨rfl, h0⟩ | ⟨g, cap, cur, rfl, hbg, hg, hnc, hcm, hcs, htake⟩
  · exact ⟨_, _, by rw [h0]⟩
  · exact ⟨_, _, rfl⟩

theorem own_keep {w w' : World} {M : Nat} {e : TypeId} {v : Value} {k : Nat} {xs : List Value} (h : w.ownsRow M e 1 v k xs) (hs : ∀ g, v.ownBlock = some g → w'.heap[g]? = w.heap[g]?) : w'.ownsRow M e 1 v k xs := by
  obtain ⟨h1, h2⟩ := h
  refine ⟨h1, ?_⟩
  rcases h2 with h2 | ⟨g, cap, cur, rfl, hg, hh, r⟩
  · exact .inl h2
  · exact .inr ⟨g, cap, cur, rfl, hg, by rw [hs g rfl]; exact hh, r⟩

/-- One kid more. -/
theorem take_next {B0 bb M n : Nat} {ks : List (T n)} {p l : Int} {w1 wr w2 w3 : World} {k : Nat} {v v' kv : Value} {xs : List Value} {box one : Obj} (hM : M = w1.heap.size) (h : TakeLoop B0 bb M n ks p l w1 k v wr) (hk : k < ks.length) (hB : B0 ≤ bb) (hbb : bb < M)
    (hown : wr.ownsRow M 44 1 v k xs) (hxs : ∀ j (h : j < ks.length) (hx : j < xs.length), InnerIn (fun b => b < B0 ∨ (M ≤ b ∧ b < wr.heap.size ∧ v.ownBlock ≠ some b)) wr n ks[j] xs[j])
    (hnear : Near bb (wr.alloc box) w2) (hg : goodT n ks[k] (l + 1 + 1) = true) (hc : p + 1 + (sumL (fun x => cntT n x) (ks.take k) : Int) + (cntT n ks[k] : Int) ≤ 120)
    (hbnd : Bnd w2 bb (p + 1 + (sumL (fun x => cntT n x) (ks.take k) : Int) + (cntT n ks[k] : Int)) (l + 1)) (hin : InnerIn (fun b => b < B0 ∨ ((wr.alloc box).heap.size ≤ b ∧ b < w2.heap.size)) w2 n ks[k] kv)
    (hown' : w3.ownsRow M 44 1 v' (k + 1) (xs ++ [kv])) (hgrow : (w2.alloc one).grownBy w3 v.ownBlock) (hblk : v'.ownBlock = v.ownBlock ∨ v'.ownBlock = some (w2.alloc one).heap.size) :
    TakeLoop B0 bb M n ks p l w1 (k + 1) v' w3 := by
  have hz0 := h.near.size
  have hz1 := hnear.size
  have hz2 := hgrow.size
  simp at hz1 hz2
  have hlt : ∀ b, v.ownBlock = some b → M ≤ b ∧ b < wr.heap.size := own_lt hown
  have hxl : xs.length = k := by simpa using hown.1
  have q3 : ∀ b, b < w2.heap.size → v.ownBlock ≠ some b → w3.heap[b]? = w2.heap[b]? := fun b hb hne => by
    rw [hgrow.block b (by simp; omega) (fun e => hne e.symm), Below.heap_alloc _ _ _ hb]
  have q2 : ∀ b, b < wr.heap.size → b ≠ bb → v.ownBlock ≠ some b → w3.heap[b]? = wr.heap[b]? := fun b hb hne hno => by
    rw [q3 b (by omega) hno, hnear.block b (by simp; omega) hne, Below.heap_alloc _ _ _ hb]
  have hs := sumL_take_succ (fun x => cntT n x) ks k hk
  refine ⟨⟨?_, ?_, ?_, by omega, fun b hb hne => ?_⟩, ?_, all_take_kid k hk h.good hg, by rw [hs]; omega, xs ++ [kv], hown', fun j hj hx => ?_⟩
  · rw [hgrow.os]; exact hnear.os.trans h.near.os
  · rw [hgrow.tape]; exact hnear.tape.trans h.near.tape
  · rw [hgrow.output]; exact hnear.output.trans h.near.output
  · rw [q2 b (by omega) hne (fun e => by have := hlt b e; omega)]; exact h.near.block b hb hne
  · have : Bnd w3 bb (p + 1 + (sumL (fun x => cntT n x) (ks.take k) : Int) + (cntT n ks[k] : Int)) (l + 1) := (q3 bb (by omega) (fun e => by have := hlt bb e; omega)).trans hbnd
    rw [hs]
    rw [show p + 1 + ((sumL (fun x => cntT n x) (ks.take k) + cntT n ks[k] : Nat) : Int) = p + 1 + (sumL (fun x => cntT n x) (ks.take k) : Int) + (cntT n ks[k] : Int) by omega]
    exact this
  · by_cases hjk : j < k
    · have hxj : j < xs.length := by omega
      rw [List.getElem_append_left hxj]
      refine (hxs j hj hxj).keep (fun b hb => ?_) (fun b hb => ?_)
      · rcases hb with hb | ⟨hb1, hb2, hb3⟩
        · exact q2 b (by omega) (by omega) (fun e => by have := hlt b e; omega)
        · exact q2 b hb2 (by omega) hb3
      · rcases hb with hb | ⟨hb1, hb2, hb3⟩
        · exact .inl hb
        · refine .inr ⟨hb1, by omega, ?_⟩
          rcases hblk with e | e
          · rw [e]; exact hb3
          · rw [e]; intro h; simp at h; omega
    · have hjk' : j = k := by simp at hx; omega
      subst hjk'
      have : (xs ++ [kv])[j] = kv := by simp [← hxl]
      rw [this]
      refine hin.keep (fun b hb => ?_) (fun b hb => ?_)
      · refine q3 b (by simp at hb; omega) (fun e => ?_)
        have := hlt b e
        simp at hb
        omega
      · simp at hb
        rcases hb with hb | hb
        · exact .inl hb
        · refine .inr ⟨by omega, by omega, ?_⟩
          rcases hblk with e | e
          · rw [e]; intro h; have := hlt b h; omega
          · rw [e]; intro h; simp at h; omega

/-- The row of all kids, behind leave. -/
theorem take_rows {B0 bb M N n : Nat} {ks : List (T n)} {p l : Int} {w1 wr : World} {v x : Value} (h : TakeLoop B0 bb M n ks p l w1 ks.length v wr) (hB : B0 ≤ bb) (hbb : bb < N) (hN : N ≤ M) (hl : ks.length ≤ maxLen) :
    RowIn1 (fun b => b < B0 ∨ (N ≤ b ∧ b < (wr.setCell ⟨bb, 1, none⟩ x).heap.size)) (wr.setCell ⟨bb, 1, none⟩ x) (InnerIn (fun b => b < B0 ∨ (N ≤ b ∧ b < (wr.setCell ⟨bb, 1, none⟩ x).heap.size)) (wr.setCell ⟨bb, 1, none⟩ x) n) ks v := by
  obtain ⟨xs, hown, hin⟩ := h.row
  have hsame : ∀ b, b ≠ bb → (wr.setCell ⟨bb, 1, none⟩ x).heap[b]? = wr.heap[b]? := fun b hb => Below.heap_setCell _ _ _ _ hb
  have hown' := own_keep (w' := wr.setCell ⟨bb, 1, none⟩ x) hown (fun g hg => hsame g (by have := own_lt hown g hg; omega))
  refine rowIn1_of_owns hown' hl (fun g hg => .inr ?_) (fun i hi hx => ?_)
  · have := own_lt hown g hg
    simp; omega
  · refine (hin i hi hx).keep (fun b hb => hsame b (by omega)) (fun b hb => ?_)
    rcases hb with hb | ⟨hb1, hb2, hb3⟩
    · exact .inl hb
    · exact .inr ⟨by omega, by simpa using hb2⟩

theorem sum_ge {n : Nat} {d : Int} (l : List (T n)) (h : l.all (fun x => goodT n x d) = true) : l.length ≤ sumL (fun x => cntT n x) l := by
  induction l with
  | nil => simp
  | cons x r ih =>
    simp only [List.all_cons, Bool.and_eq_true] at h
    have h1 := cntT_pos n x d h.1
    have h2 := ih h.2
    simp only [sumL, List.length_cons]; omega

set_option maxHeartbeats 1000000 in
theorem take_step (n : Nat) (hn : TakeSaid n) : TakeSaid (n + 1) := by
  intro B0 bb t c0 c1 c2 c3 c4 p l w ht hbb hbnd hp0 hp1 hl0 hl1
  obtain ⟨rfl, rfl, rfl, hs, -, -, h3, h4⟩ := ht
  obtain ⟨na, nc, rfl, -, -, -⟩ := id h3
  obtain ⟨ka, kc, rfl, hlen, hkids⟩ := id h4
  have hbl := hbnd.lt
  have hb0 := (Below.refl w.heap.size w).alloc (Nat.le_refl _) (.cells #[.int .i64 (Nd.sort t), .int .i64 (Nd.num t), .string (Nd.text t), .slice na (Nd.names t).length nc, .slice ka (Nd.kids t).length kc] 30)
  have hbnd0 : Bnd (w.alloc (.cells #[.int .i64 (Nd.sort t), .int .i64 (Nd.num t), .string (Nd.text t), .slice na (Nd.names t).length nc, .slice ka (Nd.kids t).length kc] 30)) bb p l := (hb0.block bb hbl).trans hbnd
  have hnear0 : Near bb w (w.alloc (.cells #[.int .i64 (Nd.sort t), .int .i64 (Nd.num t), .string (Nd.text t), .slice na (Nd.names t).length nc, .slice ka (Nd.kids t).length kc] 30)) := Near.alloc _ _ _
  have hcnt : 1 ≤ cntT (n + 1) t := by simp only [cntT]; omega
  by_cases hen : p + 1 ≤ 120 ∧ l + 1 ≤ 6
  case neg =>
    have HP : Hid (∀ W, Near bb w W → TakePost B0 bb (n + 1) t p l w (.panicked refusal) W) := by
      intro W hW
      refine ⟨hW, .inr ⟨?_, rfl⟩⟩
      rintro ⟨hg, hc⟩
      apply hen
      simp only [goodT, Bool.and_eq_true, decide_eq_true_eq] at hg
      exact ⟨by omega, hg.1.1⟩
    clear h3 h4 hkids hn
    go_enter Tryd.func36, Tryd.ntmps36
    go_wp2_with fail
    refine (enter_no _ bb p l hbnd0 hen hp0 hl0 hp1 hl1).mono ?_
    rintro e w' ⟨rfl, rfl⟩
    exact ⟨rfl, HP.out _ ((hnear0.trans (Near.set _ _ _ _)).trans (Near.set _ _ _ _))⟩
  obtain ⟨hp2, hl2⟩ := hen
  -- the world behind enter
  have hbnd1 := (hbnd0.set0 (p + 1)).set1 (l + 1)
  have hnear1 := (hnear0.trans (Near.set bb 0 _ (.int .i64 (p + 1)))).trans (Near.set bb 1 _ (.int .i64 (l + 1)))
  have cN4 : ∀ o, (((w.alloc (.cells #[.int .i64 (Nd.sort t), .int .i64 (Nd.num t), .string (Nd.text t), .slice na (Nd.names t).length nc, .slice ka (Nd.kids t).length kc] 30)).setCell ⟨bb, 0, none⟩ (.int .i64 (p + 1))).setCell ⟨bb, 1, none⟩ (.int .i64 (l + 1))).cell? ⟨w.heap.size, o, none⟩ =
      (w.alloc (.cells #[.int .i64 (Nd.sort t), .int .i64 (Nd.num t), .string (Nd.text t), .slice na (Nd.names t).length nc, .slice ka (Nd.kids t).length kc] 30)).cell? ⟨w.heap.size, o, none⟩ := by
    intro o
    refine World.cell?_of_block ?_
    rw [Below.heap_setCell _ _ _ _ (by show w.heap.size ≠ bb; omega), Below.heap_setCell _ _ _ _ (by show w.heap.size ≠ bb; omega)]
  have d0 := (cN4 0).trans (by simp [go_sem] : _ = some (.int .i64 (Nd.sort t)))
  have d1 := (cN4 1).trans (by simp [go_sem] : _ = some (.int .i64 (Nd.num t)))
  have d2 := (cN4 2).trans (by simp [go_sem] : _ = some (.string (Nd.text t)))
  have d3 := (cN4 3).trans (by simp [go_sem] : _ = some (.slice na (Nd.names t).length nc))
  have d4 := (cN4 4).trans (by simp [go_sem] : _ = some (.slice ka (Nd.kids t).length kc))
  clear cN4
  have hz1 := hnear1.size
  have hbel1 : Below B0 w _ := hnear1.below hbb (by omega)
  have h3' := h3.keep (same_below hbel1 (fun _ h => h)) (fun _ h => h)
  have h4' := h4.keepT (same_below hbel1 (fun _ h => h)) (fun _ h => h)
  go_enter Tryd.func36, Tryd.ntmps36
  go_wp2_with fail
  refine (enter_yes _ bb p l hbnd0 hp2 hl2 hp0 hl0).mono ?_
  rintro e w' ⟨rfl, rfl⟩
  generalize hW1 : ((w.alloc (.cells #[.int .i64 (Nd.sort t), .int .i64 (Nd.num t), .string (Nd.text t), .slice na (Nd.names t).length nc, .slice ka (Nd.kids t).length kc] 30)).setCell ⟨bb, 0, none⟩ (.int .i64 (p + 1))).setCell ⟨bb, 1, none⟩ (.int .i64 (l + 1)) = W1 at *
  clear hW1 hbnd0 hnear0 hb0 h3 h4 hkids
  have hW1s : w.heap.size < W1.heap.size := by
    have h := d0
    exact Classical.byContradiction fun hge => by
      have : W1.heap[w.heap.size]? = none := Array.getElem?_eq_none (by omega)
      simp [World.cell?, this] at h
  go_wp2_with fail
  refine (just_any (Nd.sort t) (Nd.num t) (Nd.text t) (Nd.names t) ka (Nd.kids t).length kc W1 na nc hs (fun b => b < B0) h3' (fun b hb => by omega)).mono ?_
  rintro e w2 ⟨rfl, hb2⟩
  have hnear2 := hnear1.trans (Near.of_below (bb := bb) hb2)
  have hbnd2 : Bnd w2 bb (p + 1) (l + 1) := (hb2.block bb (by omega)).trans hbnd1
  have hz2 := hb2.size
  have g0 := (hb2.cell (p := ⟨w.heap.size, 0, none⟩) hW1s).trans d0
  have g1 := (hb2.cell (p := ⟨w.heap.size, 1, none⟩) hW1s).trans d1
  have g2 := (hb2.cell (p := ⟨w.heap.size, 2, none⟩) hW1s).trans d2
  have g3 := (hb2.cell (p := ⟨w.heap.size, 3, none⟩) hW1s).trans d3
  have g4 := (hb2.cell (p := ⟨w.heap.size, 4, none⟩) hW1s).trans d4
  have k3 := h3'.keep (same_below hb2 (fun b hb => by omega)) (fun _ h => h)
  have k4 := h4'.keepT (same_below hb2 (fun b hb => by omega)) (fun _ h => h)
  clear d0 d1 d2 d3 d4 hb2 h3' h4' hbnd1 hnear1 hbel1
  go_wp2_with fail
  cases hal : aloneF (Nd.sort t) (Nd.num t) (Nd.text t) (Nd.names t) (Nd.kids t).length with
  | false =>
    have HP : Hid (∀ W, Near bb w W → TakePost B0 bb (n + 1) t p l w (.panicked refusal) W) := by
      intro W hW
      refine ⟨hW, .inr ⟨?_, rfl⟩⟩
      rintro ⟨hg, hc⟩
      simp only [goodT, Bool.and_eq_true] at hg
      have := hg.1.2
      change aloneF _ _ _ _ _ = true at this
      rw [hal] at this
      cases this
    refine (demand_no _).mono ?_
    rintro e w' ⟨rfl, rfl⟩
    exact ⟨rfl, HP.out _ hnear2⟩
  | true =>
    have HAL : Hid (aloneF (Nd.sort t) (Nd.num t) (Nd.text t) (Nd.names t) (Nd.kids t).length = true) := hal
    clear hal
    refine (demand_yes _).mono ?_
    rintro e w' ⟨rfl, rfl⟩
    obtain ⟨_, _, hkv, -, hkids⟩ := k4
    cases hkv
    obtain ⟨i0, hi, hzz0, hzz1, hzz2⟩ := info_parts Tryd.info_any
    have HI : Hid (_ ∧ _ ∧ _ ∧ _) := ⟨hi, hzz0, hzz1, hzz2⟩
    clear hi hzz0 hzz1 hzz2
    unfold maxLen at hlen
    go_wp2_with fail
    go_loopw [5, 16] (fun v i wr => ∃ k : Nat, k ≤ (Nd.kids t).length ∧ i = .int .i64 k ∧ TakeLoop B0 bb w'.heap.size n (Nd.kids t) p l w' k v wr) (fun _ i _ => (Nd.kids t).length - (intOf i).toNat)
    case atStart =>
      exact ⟨0, Nat.zero_le _, rfl, Near.refl _ _, by simpa [sumL] using hbnd2, by simp, by simp [sumL]; omega, [], World.ownsRow_nil _ _ _ _, fun j _ hx => absurd hx (Nat.not_lt_zero _)⟩
    case round =>
      obtain ⟨k, hk, rfl, hL⟩ := hrel
      have hbr := hL.bnd
      have hfew := hL.few
      have hzr := hL.near.size
      have hbr' := hL.near.below (B := B0) hbb (by omega)
      obtain ⟨xs, hown, hxs⟩ := hL.row
      obtain ⟨va, vc, rfl⟩ := own_shape hown
      have j0 : wr.cell? ⟨w.heap.size, 0, none⟩ = some (.int .i64 (Nd.sort t)) := (World.cell?_of_block (hL.near.block w.heap.size (by omega) (by omega))).trans g0
      have j1 : wr.cell? ⟨w.heap.size, 1, none⟩ = some (.int .i64 (Nd.num t)) := (World.cell?_of_block (hL.near.block w.heap.size (by omega) (by omega))).trans g1
      have j2 : wr.cell? ⟨w.heap.size, 2, none⟩ = some (.string (Nd.text t)) := (World.cell?_of_block (hL.near.block w.heap.size (by omega) (by omega))).trans g2
      have j3 : wr.cell? ⟨w.heap.size, 3, none⟩ = some (.slice na (Nd.names t).length nc) := (World.cell?_of_block (hL.near.block w.heap.size (by omega) (by omega))).trans g3
      have HL : Hid (TakeLoop B0 bb w'.heap.size n (Nd.kids t) p l w' k _ wr) := hL
      have HX : Hid (∀ j (h : j < (Nd.kids t).length) (hx : j < xs.length), InnerIn (fun b => b < B0 ∨ (w'.heap.size ≤ b ∧ b < wr.heap.size ∧ (Value.slice va k vc).ownBlock ≠ some b)) wr n (Nd.kids t)[j] xs[j]) := hxs
      have HO : Hid (wr.ownsRow w'.heap.size 44 1 (.slice va k vc) k xs) := hown
      clear hL hxs hown
      by_cases hlt : k < (Nd.kids t).length
      · obtain ⟨b, off, rfl, hbB, hcell⟩ := hkids (by intro h; rw [h] at hlt; simp at hlt)
        obtain ⟨x0, x1, x2, x3, x4, e0, e1, e2, e3, e4, hr⟩ := hcell k hlt
        obtain ⟨y0, y1, y2, ya, yl, yc, za, zl, zc, rfl, rfl, rfl, rfl, rfl⟩ := hr.shape
        have f0 := (hbr'.cell (p := ⟨b, off + k * 5, none⟩) hbB).trans e0
        have f1 := (hbr'.cell (p := ⟨b, off + k * 5 + 1, none⟩) hbB).trans e1
        have f2 := (hbr'.cell (p := ⟨b, off + k * 5 + 2, none⟩) hbB).trans e2
        have f3 := (hbr'.cell (p := ⟨b, off + k * 5 + 3, none⟩) hbB).trans e3
        have f4 := (hbr'.cell (p := ⟨b, off + k * 5 + 4, none⟩) hbB).trans e4
        have hbox := (Below.refl wr.heap.size wr).alloc (Nat.le_refl _) (.cells #[.int .i64 y0, .int .i64 y1, .string y2, .slice ya yl yc, .slice za zl zc] 30)
        have q := hr.keep (same_below (hbr'.trans (hbox.mono (by omega))) (fun _ h => h)) (fun _ h => h)
        have hbrb : Bnd _ bb _ _ := (hbox.block bb (by omega)).trans hbr
        clear hkids hcell e0 e1 e2 e3 e4 hr
        go_wp2_with fail
        refine (hn B0 bb (Nd.kids t)[k] _ _ _ _ _ _ (l + 1) _ q hbb hbrb (by omega) (by omega) (by omega) (by omega)).mono ?_
        rintro e w3 ⟨hnear, ⟨hg, hc, kv, rfl, hbnd3, hin⟩ | ⟨hbad, rfl⟩⟩
        · have hbx : Below wr.heap.size wr (wr.alloc _) := hbox
          have HOw : Hid (w3.ownsRow w'.heap.size 44 1 (.slice va k vc) k xs) := own_keep HO.out (fun g hg => by
            have := own_lt HO.out g hg
            rw [hnear.block g (by simp; omega) (by omega), hbox.block g this.2])
          have hz3 := hnear.size
          simp at hz3
          obtain ⟨ku, kx, rfl⟩ := hin.iface
          have hk120 : (k : Int) ≤ 119 := by
            have h1 := sum_ge _ HL.out.good
            rw [List.length_take, Nat.min_eq_left hk] at h1
            omega
          have HK : Hid (_ ∧ _ ∧ _ ∧ _ ∧ _) := ⟨hnear, hg, hc, hbnd3, hin⟩
          clear hnear hg hc hbnd3 hin f0 f1 f2 f3 f4 q hbrb hbx
          go_wp2_with (at_builtin; refine wpList_append_own2 _ rfl _ _ 71 rfl w'.heap.size 44 i0 .nilIface 1 16 Tryd.underlying71 HI.out.1 HI.out.2.1 HI.out.2.2.1 HI.out.2.2.2 rfl (by decide) _ _ _ rfl (HOw.out.alloc _) ⟨w3.heap.size, 0, none⟩ 1 1 [.iface ku kx] rfl rfl ?c1 ?c2 ?c3 ?c4 ?c5 ?_)
          case c1 =>
            intro j u hj
            match j, hj with
            | 0, hj => simp at hj; subst hj; simp [Addr.add]
          case c2 => intro u hu; simp at hu; subst hu; rfl
          case c3 => unfold maxLen; omega
          case c4 => omega
          case c5 => simp; omega
          intro v' w4 hown4 hgrow4 hblk4
          have R := take_next rfl HL.out hlt hbb (by omega) HO.out HX.out HK.out.1 HK.out.2.1 HK.out.2.2.1 HK.out.2.2.2.1 HK.out.2.2.2.2 hown4 hgrow4 (by simpa using hblk4)
          have HR : Hid (TakeLoop B0 bb w'.heap.size n (Nd.kids t) p l w' (k + 1) v' w4) := R
          clear R HK HOw HL HX HO hgrow4 hblk4 j0 j1 j2 j3 hbr
          obtain ⟨a4, c4, rfl⟩ := own_shape hown4
          clear hown4
          go_wp2_with fail
          go_roundw
          case rel => exact ⟨k + 1, by omega, by go_num, HR.out⟩
          case measure => simp [intOf]; omega
        · have HP : Hid (∀ W, Near bb w W → TakePost B0 bb (n + 1) t p l w (.panicked refusal) W) := by
            intro W hW
            refine ⟨hW, .inr ⟨?_, rfl⟩⟩
            rintro ⟨hg, hc⟩
            apply hbad
            simp only [goodT, Bool.and_eq_true, List.all_eq_true] at hg
            refine ⟨hg.2 _ (List.getElem_mem hlt), ?_⟩
            have h1 := sumL_take_succ (fun x => cntT n x) (Nd.kids t) k hlt
            have h2 := sumL_append (fun x => cntT n x) ((Nd.kids t).take (k + 1)) ((Nd.kids t).drop (k + 1))
            rw [List.take_append_drop] at h2
            simp only [cntT] at hc
            omega
          exact ⟨rfl, HP.out _ (((hnear2.trans HL.out.near).trans (Near.of_below hbox)).trans hnear)⟩
      · have hkl : k = (Nd.kids t).length := by omega
        subst hkl
        have hgd := HL.out.good
        have hbd := HL.out.bnd
        have hfw := HL.out.few
        rw [List.take_length] at hgd hbd hfw
        have hcn : (cntT (n + 1) t : Int) = 1 + (sumL (fun x => cntT n x) (Nd.kids t) : Int) := by simp only [cntT]; omega
        have hgood : goodT (n + 1) t (l + 1) = true := by
          simp only [goodT, hgd, Bool.and_true, Bool.and_eq_true, decide_eq_true_eq]
          exact ⟨hl2, HAL.out⟩
        have HRow := take_rows (N := w.heap.size) (x := .int .i64 (l + 1 - 1)) HL.out hbb (by omega) (by omega) (by unfold maxLen; omega)
        have HB : Bnd (wr.setCell ⟨bb, 1, none⟩ (.int .i64 (l + 1 - 1))) bb (p + cntT (n + 1) t) l := by
          have h := hbd.set1 (l + 1 - 1)
          rw [show p + 1 + (sumL (fun x => cntT n x) (Nd.kids t) : Int) = p + (cntT (n + 1) t : Int) by omega] at h
          rw [show l + 1 - 1 = l by omega] at h ⊢
          exact h
        have HN := (hnear2.trans HL.out.near).trans (Near.set bb 1 wr (.int .i64 (l + 1 - 1)))
        have HNm := k3.keep (S' := fun b => b < B0 ∨ (w.heap.size ≤ b ∧ b < (wr.setCell ⟨bb, 1, none⟩ (.int .i64 (l + 1 - 1))).heap.size)) (same_below (hbr'.trans ((Near.set bb 1 wr (.int .i64 (l + 1 - 1))).below hbb (by omega))) (fun _ h => h)) (fun _ h => .inl h)
        have HFin : Hid (∀ v, InnerIn (fun b => b < B0 ∨ (w.heap.size ≤ b ∧ b < (wr.setCell ⟨bb, 1, none⟩ (.int .i64 (l + 1 - 1))).heap.size)) (wr.setCell ⟨bb, 1, none⟩ (.int .i64 (l + 1 - 1))) (n + 1) t v →
            TakePost B0 bb (n + 1) t p l w (.returned v) (wr.setCell ⟨bb, 1, none⟩ (.int .i64 (l + 1 - 1)))) := fun v hv => ⟨HN, .inl ⟨hgood, by omega, v, rfl, HB, hv⟩⟩
        have HRow' : Hid _ := HRow
        have HNm' : Hid _ := HNm
        have hsort : Nd.sort t = 1 ∨ Nd.sort t = 2 ∨ Nd.sort t = 3 ∨ Nd.sort t = 4 ∨ Nd.sort t = 5 ∨ Nd.sort t = 6 := by
          have := HAL.out
          unfold aloneF at this
          by_cases h1 : Nd.sort t = 1
          · exact .inl h1
          by_cases h2 : Nd.sort t = 2
          · exact .inr (.inl h2)
          by_cases h3 : Nd.sort t = 3
          · exact .inr (.inr (.inl h3))
          by_cases h4 : Nd.sort t = 4
          · exact .inr (.inr (.inr (.inl h4)))
          by_cases h5 : Nd.sort t = 5
          · exact .inr (.inr (.inr (.inr (.inl h5))))
          by_cases h6 : Nd.sort t = 6
          · exact .inr (.inr (.inr (.inr (.inr h6))))
          rw [if_neg h1, if_neg h2, if_neg h3, if_neg h4, if_neg h5, if_neg h6] at this
          cases this
        have i0 := (World.cell?_of_block (Below.heap_setCell wr ⟨bb, 1, none⟩ (.int .i64 (l + 1 - 1)) w.heap.size (by show w.heap.size ≠ bb; omega)) : (wr.setCell ⟨bb, 1, none⟩ (.int .i64 (l + 1 - 1))).cell? ⟨w.heap.size, 0, none⟩ = _).trans j0
        have i1 := (World.cell?_of_block (Below.heap_setCell wr ⟨bb, 1, none⟩ (.int .i64 (l + 1 - 1)) w.heap.size (by show w.heap.size ≠ bb; omega)) : (wr.setCell ⟨bb, 1, none⟩ (.int .i64 (l + 1 - 1))).cell? ⟨w.heap.size, 1, none⟩ = _).trans j1
        have i2 := (World.cell?_of_block (Below.heap_setCell wr ⟨bb, 1, none⟩ (.int .i64 (l + 1 - 1)) w.heap.size (by show w.heap.size ≠ bb; omega)) : (wr.setCell ⟨bb, 1, none⟩ (.int .i64 (l + 1 - 1))).cell? ⟨w.heap.size, 2, none⟩ = _).trans j2
        have i3 := (World.cell?_of_block (Below.heap_setCell wr ⟨bb, 1, none⟩ (.int .i64 (l + 1 - 1)) w.heap.size (by show w.heap.size ≠ bb; omega)) : (wr.setCell ⟨bb, 1, none⟩ (.int .i64 (l + 1 - 1))).cell? ⟨w.heap.size, 3, none⟩ = _).trans j3
        clear HRow HNm HN HB hgood hcn hgd hfw HL HX HO hkids g0 g1 g2 g3 g4 j0 j1 j2 j3 hbnd2 hnear2 k3 hn hbr hbr'
        go_wp2_with fail
        refine (leave_any wr bb _ (l + 1) hbd (by omega) (by omega)).mono ?_
        rintro e w5 ⟨rfl, rfl⟩
        clear hbd
        generalize wr.setCell ⟨bb, 1, none⟩ (.int .i64 (l + 1 - 1)) = W at *
        rcases hsort with h | h | h | h | h | h
        · have HS : Hid (Nd.sort t = 1) := h
          rw [h] at i0
          clear h
          go_wp2_with fail
          go_ret
          exact HFin.out _ (.inl ⟨HS.out, rfl⟩)
        · have HS : Hid (Nd.sort t = 2) := h
          rw [h] at i0
          clear h
          go_wp2_with fail
          go_ret
          exact HFin.out _ (.inr (.inl ⟨HS.out, rfl⟩))
        · have HS : Hid (Nd.sort t = 3) := h
          rw [h] at i0
          clear h
          go_wp2_with fail
          go_ret
          exact HFin.out _ (.inr (.inr (.inl ⟨HS.out, rfl⟩)))
        · have HS : Hid (Nd.sort t = 4) := h
          rw [h] at i0
          clear h
          go_wp2_with fail
          go_ret
          exact HFin.out _ (.inr (.inr (.inr (.inl ⟨HS.out, _, rfl, HRow'.out⟩))))
        · have HS : Hid (Nd.sort t = 5) := h
          rw [h] at i0
          clear h
          go_wp2_with fail
          go_ret
          exact HFin.out _ (.inr (.inr (.inr (.inr (.inl ⟨HS.out, _, _, rfl, HNm'.out, HRow'.out⟩)))))
        · have HS : Hid (Nd.sort t = 6) := h
          rw [h] at i0
          clear h
          go_wp2_with fail
          go_ret
          exact HFin.out _ (.inr (.inr (.inr (.inr (.inr ⟨HS.out, _, rfl, HRow'.out⟩)))))

theorem take_any : ∀ n, TakeSaid n := by
  intro n
  induction n with
  | zero => intro B0 bb t c0 c1 c2 c3 c4 p l w ht; exact ht.elim
  | succ n ih => exact take_step n ih

end Go.Proofs.YtbhemjedjnaajafDoor
