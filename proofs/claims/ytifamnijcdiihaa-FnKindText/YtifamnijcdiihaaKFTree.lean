/-
  The program's first trees: firstForm, firstTree.
-/
import Derived.Test.YtifamnijcdiihaaB1
import Derived.Test.YtifamnijcdiihaaB13
import Derived.Test.YtifamnijcdiihaaB12
namespace Go.Proofs.Ytifamnijcdiihaa
open Go.RowKit Go.WideMaps Go.Maps

/-- What the loop of firstForm holds behind k kids. -/
structure FormLoop (S : Nat → Prop) (M n : Nat) (ks : List (K n)) (nv : Value) (w1 : World) (k : Nat) (v : Value) (wr : World) : Prop where
  below : Below M w1 wr
  box : wr.heap[M]? = some (.cells #[nv, v] 105 (0, 0))
  row : ∃ xs : List Value, wr.ownsRow (M + 1) 66 1 v k xs ∧ ∀ j (h : j < ks.length) (hx : j < xs.length), InnerT (fun b => S b ∨ (M + 1 ≤ b ∧ b < wr.heap.size ∧ v.ownBlock ≠ some b)) wr n (firstT n ks[j]) xs[j]

theorem FormLoop.lt {S : Nat → Prop} {M n : Nat} {ks : List (K n)} {nv : Value} {w1 : World} {k : Nat} {v : Value} {wr : World} (h : FormLoop S M n ks nv w1 k v wr) : M < wr.heap.size := (Array.getElem?_eq_some_iff.1 h.box).1

/-- One kid more. -/
theorem form_next {S : Nat → Prop} {M n : Nat} {ks : List (K n)} {nv : Value} {w1 wr W w2 w3 : World} {k g cap : Nat} {v kv : Value} {xs : List Value} {one : Obj} (h : FormLoop S M n ks nv w1 k v wr) (hk : k < ks.length) (hS : ∀ b, S b → b < M)
    (hW : ∀ b : Nat, W.heap[b]? = wr.heap[b]?) (hWs : W.heap.size = wr.heap.size) (hWo : W.os = wr.os ∧ W.tape = wr.tape ∧ W.output = wr.output)
    (hown : wr.ownsRow (M + 1) 66 1 v k xs) (hxs : ∀ j (h : j < ks.length) (hx : j < xs.length), InnerT (fun b => S b ∨ (M + 1 ≤ b ∧ b < wr.heap.size ∧ v.ownBlock ≠ some b)) wr n (firstT n ks[j]) xs[j])
    (hb2 : Below W.heap.size W w2) (hin : InnerT (fun b => S b ∨ (W.heap.size ≤ b ∧ b < w2.heap.size)) w2 n (firstT n ks[k]) kv)
    (hown' : w3.ownsRow (M + 1) 66 1 (.slice (some ⟨g, 0, none⟩) (k + 1) cap) (k + 1) (xs ++ [kv])) (hgrow : (w2.alloc one).grownBy w3 v.ownBlock) (hat : v.ownBlock = some g ∨ g = w2.heap.size + 1) :
    FormLoop S M n ks nv w1 (k + 1) (.slice (some ⟨g, 0, none⟩) (k + 1) cap) (w3.setCell ⟨M, 1, none⟩ (.slice (some ⟨g, 0, none⟩) (k + 1) cap)) := by
  have hlt := h.lt
  have hz2 := hb2.size
  have hz3 := hgrow.size
  simp at hz3
  have hrl : ∀ b, v.ownBlock = some b → M + 1 ≤ b ∧ b < wr.heap.size := r1_lt hown
  have hxl : xs.length = k := by simpa using hown.1
  have q3 : ∀ b, b < w2.heap.size → v.ownBlock ≠ some b → w3.heap[b]? = w2.heap[b]? := fun b hb hne => by
    rw [hgrow.block b (by simp; omega) (fun e => hne e.symm), Below.heap_alloc _ _ _ hb]
  have q2 : ∀ b, b < wr.heap.size → v.ownBlock ≠ some b → w3.heap[b]? = wr.heap[b]? := fun b hb hno => by
    rw [q3 b (by omega) hno, hb2.block b (by omega), hW]
  have qs : ∀ b, b ≠ M → (w3.setCell ⟨M, 1, none⟩ (.slice (some ⟨g, 0, none⟩) (k + 1) cap)).heap[b]? = w3.heap[b]? := fun b hb => Below.heap_setCell _ _ _ _ hb
  have hsz : (w3.setCell ⟨M, 1, none⟩ (.slice (some ⟨g, 0, none⟩) (k + 1) cap)).heap.size = w3.heap.size := by simp
  have hMv : v.ownBlock ≠ some M := fun e => by have := hrl M e; omega
  have hbox3 := (q2 M hlt hMv).trans h.box
  have hfar : ∀ b, v.ownBlock ≠ some b → b < w2.heap.size → (Value.slice (some ⟨g, 0, none⟩) (k + 1) cap).ownBlock ≠ some b := by
    intro b h1 h2 e
    have e : g = b := by simpa [Value.ownBlock] using e
    rcases hat with h3 | h3
    · exact h1 (by rw [h3, e])
    · omega
  refine ⟨⟨?_, ?_, ?_, by rw [hsz]; have := h.below.size; omega, fun b hb => ?_⟩, ?_, xs ++ [kv], ?_, fun j hj hx => ?_⟩
  · show w3.os = w1.os
    rw [hgrow.os]; exact hb2.os.trans (hWo.1.trans h.below.os)
  · show w3.tape = w1.tape
    rw [hgrow.tape]; exact hb2.tape.trans (hWo.2.1.trans h.below.tape)
  · show w3.output = w1.output
    rw [hgrow.output]; exact hb2.output.trans (hWo.2.2.trans h.below.output)
  · rw [qs b (by omega), q2 b (by omega) (fun e => by have := hrl b e; omega)]; exact h.below.block b hb
  · simp [World.setCell, Array.getElem?_modify, hbox3]
  · exact r1_keep hown' fun g' hg' => qs g' (by have := r1_lt hown' g' hg'; omega)
  · by_cases hjk : j < k
    · have hxj : j < xs.length := by omega
      rw [List.getElem_append_left hxj]
      refine (hxs j hj hxj).keep (fun b hb => ?_) (fun b hb => ?_)
      · rcases hb with hb | ⟨hb1, hb2, hb3⟩
        · have := hS b hb
          rw [qs b (by omega), q2 b (by omega) (fun e => by have := hrl b e; omega)]
        · rw [qs b (by omega), q2 b hb2 hb3]
      · rcases hb with hb | ⟨hb1, hb2, hb3⟩
        · exact .inl hb
        · exact .inr ⟨hb1, by rw [hsz]; omega, hfar b hb3 (by omega)⟩
    · have hjk' : j = k := by simp at hx; omega
      subst hjk'
      have : (xs ++ [kv])[j] = kv := by simp [← hxl]
      rw [this]
      refine hin.keep (fun b hb => ?_) (fun b hb => ?_)
      · rcases hb with hb | hb
        · have := hS b hb
          rw [qs b (by omega), q3 b (by omega) (fun e => by have := hrl b e; omega)]
        · rw [qs b (by omega), q3 b hb.2 (fun e => by have := hrl b e; omega)]
      · rcases hb with hb | hb
        · exact .inl hb
        · exact .inr ⟨by omega, by rw [hsz]; omega, hfar b (fun e => by have := hrl b e; omega) hb.2⟩

/-- firstTree at schemas of at most n levels. -/
def FirstISaid (n : Nat) : Prop := ∀ (S : Nat → Prop) (k : K n) (iv : Value) (d : Int) (w : World), InnerK S w n k iv → (∀ b, S b → b < w.heap.size) → goodK n k d = true → cntK n k ≤ 40 →
  Calls Try.prog 39 #[iv] w (MadeTPost S n (firstT n k) w)

set_option maxRecDepth 100000 in
set_option maxHeartbeats 4000000 in
theorem firstForm_any (n : Nat) (hn : FirstISaid n) (S : Nat → Prop) (k : K (n + 1)) (b : Nat) (nv kv : Value) (d : Int) (w : World) (hbS : S b) (h1 : w.cell? ⟨b, 1, none⟩ = some nv) (h3 : w.cell? ⟨b, 3, none⟩ = some kv) (hN : StrsIn S w (Kd.names k) nv)
    (hr : Row1 S w (InnerK S w n) (Kd.kids k) kv) (hB : ∀ b, S b → b < w.heap.size) (hs5 : Kd.sort k = 5) (hg : (Kd.kids k).all (fun x => goodK n x d) = true) (hc : 1 + sumL (fun x => cntK n x) (Kd.kids k) ≤ 40) :
    Calls Try.prog 62 #[.pointer (some ⟨b, 0, none⟩)] w (MadeTPost S (n + 1) (firstT (n + 1) k) w) := by
  have hkc : (Kd.kids k).length ≤ 40 := by have := sumK_ge (Kd.kids k) hg; omega
  have HGK : Hid (∀ j (h : j < (Kd.kids k).length), goodK n (Kd.kids k)[j] d = true ∧ cntK n (Kd.kids k)[j] ≤ 40) := by
    intro j h
    refine ⟨List.all_eq_true.1 hg _ (List.getElem_mem h), ?_⟩
    have := sumL_mono (fun x => cntK n x) (Kd.kids k) _ (List.getElem_mem h)
    omega
  obtain ⟨na, nc, rfl, -, -, -⟩ := id hN
  obtain ⟨ka, kc, rfl, -, hcell⟩ := hr
  have HS5 : Hid (Kd.sort k = 5) := hs5
  have HNm : Hid (StrsIn S w (Kd.names k) (.slice na (Kd.names k).length nc)) := hN
  have hbw := hB b hbS
  clear hg hc hs5 hN
  obtain ⟨w1, hw1⟩ : ∃ w1, w1 = w.alloc (.cells #[.slice na (Kd.names k).length nc, .slice none 0 0] 105) := ⟨_, rfl⟩
  have hb1 : Below w.heap.size w w1 := by rw [hw1]; exact (Below.refl _ _).alloc (Nat.le_refl _) _
  have hbox : w1.heap[w.heap.size]? = some (.cells #[.slice na (Kd.names k).length nc, .slice none 0 0] 105 (0, 0)) := by rw [hw1]; exact heap_alloc_new _ _
  have h3' := (hb1.cell (p := ⟨b, 3, none⟩) hbw).trans h3
  rw [hw1] at h3'
  go_enter Try.func62, Try.ntmps62
  go_wp2_with fail
  rw [← hw1]
  clear hw1 h3' h1 h3
  go_loopw [16] (fun i wr => ∃ (j : Nat) (v : Value), j ≤ (Kd.kids k).length ∧ i = .int .i64 j ∧ FormLoop S w.heap.size n (Kd.kids k) (.slice na (Kd.names k).length nc) w1 j v wr) (fun i _ => (Kd.kids k).length - (intOf i).toNat)
  case atStart => exact ⟨0, .slice none 0 0, Nat.zero_le _, rfl, Below.refl _ _, hbox, [], World.ownsRow_nil _ _ _ _, fun j _ hx => absurd hx (Nat.not_lt_zero _)⟩
  case round =>
    obtain ⟨j, v, hj, rfl, hL⟩ := hrel
    obtain ⟨xs, hown, hxs⟩ := hL.row
    obtain ⟨va, vc, rfl⟩ := r1_shape hown
    have hX := hL.lt
    have hbel := hb1.trans hL.below
    have hzr := hbel.size
    have HL : Hid (FormLoop S w.heap.size n (Kd.kids k) (.slice na (Kd.names k).length nc) w1 j (.slice va j vc) wr) := hL
    have HX : Hid (wr.ownsRow (w.heap.size + 1) 66 1 (.slice va j vc) j xs) := hown
    have HK : Hid (∀ q (h : q < (Kd.kids k).length) (hx : q < xs.length), _) := hxs
    have hbx := hL.box
    have x0 : wr.cell? ⟨w.heap.size, 0, none⟩ = some (.slice na (Kd.names k).length nc) := by simp [World.cell?, hbx]
    have x1 : wr.cell? ⟨w.heap.size, 1, none⟩ = some (.slice va j vc) := by simp [World.cell?, hbx]
    clear hL hown hxs hbx
    by_cases hlt : j < (Kd.kids k).length
    · obtain ⟨g0, o0, rfl, hgS, hcl⟩ := hcell (by intro h; rw [h] at hlt; simp at hlt)
      obtain ⟨c, e0, hin0⟩ := hcl j hlt
      obtain ⟨kb, rfl, -⟩ := id hin0.ptr
      have f0 := (hbel.cell (p := ⟨g0, o0 + j, none⟩) (hB g0 hgS)).trans e0
      have HC : Hid (Calls Try.prog 39 _ wr.drew _) := hn S (Kd.kids k)[j] _ d wr.drew (hin0.keep (same_below hbel.drew hB) (fun _ h => h)) (fun b hb => by have := hB b hb; simp; omega) (HGK.out j hlt).1 (HGK.out j hlt).2
      obtain ⟨i0, hi0, hz0, hz1, hz2⟩ := info_parts Try.info_at
      have HI0 : Hid (_ ∧ _ ∧ _ ∧ _) := ⟨hi0, hz0, hz1, hz2⟩
      clear hi0 hz0 hz1 hz2 hcell hcl e0 hin0
      go_wp2_with fail
      go_region_law (first
        | (refine step_append_lies _ (by rfl) (.tmp 21) (.tmp 24) 101 (by rfl) (w.heap.size + 1) 66 i0 _ 1 16 Try.underlying101 HI0.out.1 HI0.out.2.1 HI0.out.2.2.1 HI0.out.2.2.2 rfl (by decide) (.slice va j vc) j xs (by rfl) hox ⟨w2.heap.size, 0, none⟩ 1 1 [.iface ku kx] (by rfl) rfl (World.news_of_block (heap_alloc_new w2 _)) (by simp [Value.oneCell']) (by decide) (by unfold maxLen; omega) (by omega) (by simp; omega) (w2.heap.size + 1) (by simp) ?_; intro g cap w3 hown hgrow hat hlt3; have hb3 := ((hgrow.block w.heap.size (by simp; omega) (fun e => by have := r1_lt HX.out _ e.symm; omega)).trans (Below.heap_alloc _ _ _ (by omega))).trans hbx2; have x1'' : w3.cell? ⟨w.heap.size, 1, none⟩ = some (.slice va j vc) := (by simp [World.cell?, hb3]); have xf'' : w3.frozen? ⟨w.heap.size, 1, none⟩ = false := (by simp [World.frozen?, hb3]))
        | (go_simp; go_at_call 39; refine HC.out.mono ?_; rintro e w2 ⟨hb2, kv, rfl, hin⟩; obtain ⟨ku, kx, rfl⟩ := id hin.iface; have hsz2 : wr.heap.size ≤ w2.heap.size := (by have := hb2.size; simpa using this); have hbx2 := (hb2.block w.heap.size (by simp; omega)).trans HL.out.box; have hox := r1_keep (w' := w2.alloc (.cells #[.iface ku kx] 66)) HX.out (fun g' hg' => by have := r1_lt HX.out g' hg'; rw [Below.heap_alloc _ _ _ (by omega)]; exact hb2.block g' (by simp; omega)); have x1' : w2.cell? ⟨w.heap.size, 1, none⟩ = some (.slice va j vc) := (by simp [World.cell?, hbx2]); have x1a : (w2.alloc (.cells #[.iface ku kx] 66)).cell? ⟨w.heap.size, 1, none⟩ = some (.slice va j vc) := (World.cell?_of_block (Below.heap_alloc _ _ _ (by show w.heap.size < _; omega))).trans x1'))
      all_goals
        have HF : Hid (FormLoop S w.heap.size n (Kd.kids k) (.slice na (Kd.names k).length nc) w1 (j + 1) (.slice (some ⟨g, 0, none⟩) (j + 1) cap) (w3.setCell ⟨w.heap.size, 1, none⟩ (.slice (some ⟨g, 0, none⟩) (j + 1) cap))) :=
          form_next (W := wr.drew) HL.out hlt hB (fun _ => rfl) (by simp) ⟨rfl, rfl, rfl⟩ HX.out HK.out hb2 hin hown hgrow hat
        clear hown hgrow hat hin hb2 hox x1' x1a x1'' xf'' hb3 hbx2
        go_wp2_with fail
        go_roundw
        case rel => exact ⟨j + 1, _, by omega, by go_num, HF.out⟩
        case measure => simp [intOf]; omega
    · have hjl : j = (Kd.kids k).length := by omega
      have HP : Hid (MadeTPost S (n + 1) (firstT (n + 1) k) w (.returned (.iface 105 (.agg #[.slice na (Kd.names k).length nc, .slice va j vc]))) wr) := by
        refine ⟨hbel, _, rfl, .inr (.inr (.inr (.inr (.inl ⟨HS5.out, _, _, rfl, ?_, ?_⟩))))⟩
        · exact HNm.out.keep (same_below hbel hB) (fun b hb => .inl hb)
        · have e : Nd.kids (firstT (n + 1) k) = (Kd.kids k).map (fun x => firstT n x) := if_pos HS5.out
          rw [e]
          have h1 := HX.out
          have el : j = ((Kd.kids k).map (fun x => firstT n x)).length := by simpa using hjl
          have hxl : xs.length = j := by simpa using h1.1
          rw [el] at h1
          have h2 := row1_of_owns (l := (Kd.kids k).map (fun x => firstT n x)) (S := fun b => S b ∨ (w.heap.size ≤ b ∧ b < wr.heap.size)) (R := InnerT (fun b => S b ∨ (w.heap.size ≤ b ∧ b < wr.heap.size)) wr n) h1 (by unfold maxLen; simp; omega) (fun g hg => .inr (by have := r1_lt h1 g hg; omega)) (fun i hi hx => by
            have hi' : i < (Kd.kids k).length := by simpa using hi
            rw [List.getElem_map]
            exact (HK.out i hi' hx).keep (fun _ _ => rfl) (fun b hb => hb.elim .inl (fun h => .inr ⟨by omega, h.2.1⟩)))
          rw [← el] at h2
          exact h2
      clear hjl HX HK HL hcell
      go_wp2_with fail
      go_ret
      exact HP.out

set_option maxRecDepth 20000 in
set_option maxHeartbeats 2000000 in
theorem firstTree_step (n : Nat) (hn : FirstISaid n) : FirstISaid (n + 1) := by
  intro S k iv d w h hB hg hc
  have hso := sort_of hg
  have hg2 := hg
  simp only [goodK, Bool.and_eq_true] at hg2
  have hc' : 1 + sumL (fun x => cntK n x) (Kd.kids k) ≤ 40 := by simpa only [cntK] using hc
  obtain ⟨b, nv, pv, kv, rfl, hbS, hbk, hN, -, hr⟩ := h
  obtain ⟨q0, q1, -, q3⟩ := four_cells hbk
  have HQ : Hid (Kd.sort k = 5 → Calls Try.prog 62 #[.pointer (some ⟨b, 0, none⟩)] w (MadeTPost S (n + 1) (firstT (n + 1) k) w)) := fun h5 =>
    firstForm_any n hn S k b nv kv (d + 1) w hbS q1 q3 hN hr hB h5 hg2.2 hc'
  have HR : Hid (∀ v, InnerT (fun b => S b ∨ (w.heap.size ≤ b ∧ b < w.heap.size)) w (n + 1) (firstT (n + 1) k) v → MadeTPost S (n + 1) (firstT (n + 1) k) w (.returned v) w) := fun v hv => ⟨Below.refl _ _, v, rfl, hv⟩
  have HE : Hid (¬ Kd.sort k = 5 → Row1 (fun b => S b ∨ (w.heap.size ≤ b ∧ b < w.heap.size)) w (InnerT (fun b => S b ∨ (w.heap.size ≤ b ∧ b < w.heap.size)) w n) (Nd.kids (firstT (n + 1) k)) (.slice none 0 0)) := fun h5 => by
    have e : Nd.kids (firstT (n + 1) k) = [] := if_neg h5
    rw [e]
    exact ⟨none, 0, rfl, by simp [maxLen], fun h => absurd rfl h⟩
  clear hg hg2 hc hc' hN hr hbk q1 q3
  have hs : Kd.sort k = 1 ∨ Kd.sort k = 2 ∨ Kd.sort k = 3 ∨ Kd.sort k = 4 ∨ Kd.sort k = 5 ∨ Kd.sort k = 6 := by omega
  generalize hso' : Kd.sort k = so at *
  have HS : Hid (Kd.sort k = so) := hso'
  clear hso' hso
  rcases hs with rfl | rfl | rfl | rfl | rfl | rfl
  · go_enter Try.func39, Try.ntmps39
    go_wp2_with fail
    go_ret
    exact HR.out _ (.inl ⟨HS.out, rfl⟩)
  · go_enter Try.func39, Try.ntmps39
    go_wp2_with fail
    go_ret
    exact HR.out _ (.inr (.inl ⟨HS.out, rfl⟩))
  · go_enter Try.func39, Try.ntmps39
    go_wp2_with fail
    go_ret
    exact HR.out _ (.inr (.inr (.inl ⟨HS.out, rfl⟩)))
  · go_enter Try.func39, Try.ntmps39
    go_wp2_with fail
    go_ret
    exact HR.out _ (.inr (.inr (.inr (.inl ⟨HS.out, _, rfl, HE.out (by decide)⟩))))
  · have HC : Hid (Calls Try.prog 62 _ _ _) := HQ.out rfl
    clear HQ HR HE
    go_enter Try.func39, Try.ntmps39
    go_wp2_with fail
    refine HC.out.mono ?_
    rintro e w2 ⟨hb2, v, rfl, hin⟩
    obtain ⟨ku, kx, rfl⟩ := id hin.iface
    have HP : Hid (MadeTPost S (n + 1) (firstT (n + 1) k) w (.returned (.iface ku kx)) w2) := ⟨hb2, _, rfl, hin⟩
    clear hb2 hin HC
    go_wp2_with fail
    go_ret
    exact HP.out
  · go_enter Try.func39, Try.ntmps39
    go_wp2_with fail
    go_ret
    exact HR.out _ (.inr (.inr (.inr (.inr (.inr ⟨HS.out, _, rfl, HE.out (by decide)⟩)))))

theorem firstTree_any : ∀ n, FirstISaid n := by
  intro n
  induction n with
  | zero => intro S k iv d w h; exact h.elim
  | succ n ih => exact firstTree_step n ih

end Go.Proofs.Ytifamnijcdiihaa
