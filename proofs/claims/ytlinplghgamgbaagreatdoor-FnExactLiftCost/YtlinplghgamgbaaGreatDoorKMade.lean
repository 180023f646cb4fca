/-
  The program's inner schemas: madeKind, innerKind.
-/
import Derived.Test.YtlinplghgamgbaaGreatDoorKInner
import Derived.Deep.RegionLaw
namespace Go.Proofs.YtlinplghgamgbaaGreatDoor
open Go.RowKit Go.WideMaps Go.Maps

theorem Tryz.info_pk : (Tryz.prog.info? 101).map (fun i => (i.zero, i.size, i.bytes)) = some (some (.pointer none), 1, 8) := by kernel_rfl

/-- What the loop of madeKind holds behind k kids. -/
structure MadeLoop (S : Nat → Prop) (M n : Nat) (ks : List (K n)) (s : Int) (nv : Value) (w1 : World) (k : Nat) (v : Value) (wr : World) : Prop where
  below : Below M w1 wr
  box : wr.heap[M]? = some (.cells #[.int .i64 s, nv, .map none, v] 124 (0, 0))
  row : ∃ xs : List Value, wr.ownsRow (M + 1) 101 1 v k xs ∧ ∀ j (h : j < ks.length) (hx : j < xs.length), InnerK (fun b => S b ∨ (M + 1 ≤ b ∧ b < wr.heap.size ∧ v.ownBlock ≠ some b)) wr n ks[j] xs[j]

theorem MadeLoop.lt {S : Nat → Prop} {M n : Nat} {ks : List (K n)} {s : Int} {nv : Value} {w1 : World} {k : Nat} {v : Value} {wr : World} (h : MadeLoop S M n ks s nv w1 k v wr) : M < wr.heap.size := (Array.getElem?_eq_some_iff.1 h.box).1

/-- One kid more. -/
theorem made_next {S : Nat → Prop} {M n : Nat} {ks : List (K n)} {s : Int} {nv : Value} {w1 wr W w2 w3 : World} {k g cap : Nat} {v kv : Value} {xs : List Value} {box one : Obj} (h : MadeLoop S M n ks s nv w1 k v wr) (hk : k < ks.length) (hS : ∀ b, S b → b < M) (_hM : M ≤ w1.heap.size)
    (hW : ∀ b : Nat, W.heap[b]? = (wr.alloc box).heap[b]?) (hWs : W.heap.size = wr.heap.size + 1) (hWo : W.os = wr.os ∧ W.tape = wr.tape ∧ W.output = wr.output)
    (hown : wr.ownsRow (M + 1) 101 1 v k xs) (hxs : ∀ j (h : j < ks.length) (hx : j < xs.length), InnerK (fun b => S b ∨ (M + 1 ≤ b ∧ b < wr.heap.size ∧ v.ownBlock ≠ some b)) wr n ks[j] xs[j])
    (hb2 : Below W.heap.size W w2) (hin : InnerK (fun b => S b ∨ (W.heap.size ≤ b ∧ b < w2.heap.size)) w2 n ks[k] kv)
    (hown' : w3.ownsRow (M + 1) 101 1 (.slice (some ⟨g, 0, none⟩) (k + 1) cap) (k + 1) (xs ++ [kv])) (hgrow : (w2.alloc one).grownBy w3 v.ownBlock) (hat : v.ownBlock = some g ∨ g = w2.heap.size + 1) :
    MadeLoop S M n ks s nv w1 (k + 1) (.slice (some ⟨g, 0, none⟩) (k + 1) cap) (w3.setCell ⟨M, 3, none⟩ (.slice (some ⟨g, 0, none⟩) (k + 1) cap)) := by
  have hlt := h.lt
  have hz2 := hb2.size
  have hz3 := hgrow.size
  simp at hz3
  have hrl : ∀ b, v.ownBlock = some b → M + 1 ≤ b ∧ b < wr.heap.size := r1_lt hown
  have hxl : xs.length = k := by simpa using hown.1
  have q3 : ∀ b, b < w2.heap.size → v.ownBlock ≠ some b → w3.heap[b]? = w2.heap[b]? := fun b hb hne => by
    rw [hgrow.block b (by simp; omega) (fun e => hne e.symm), Below.heap_alloc _ _ _ hb]
  have q2 : ∀ b, b < wr.heap.size → v.ownBlock ≠ some b → w3.heap[b]? = wr.heap[b]? := fun b hb hno => by
    rw [q3 b (by omega) hno, hb2.block b (by omega), hW, Below.heap_alloc _ _ _ hb]
  have qs : ∀ b, b ≠ M → (w3.setCell ⟨M, 3, none⟩ (.slice (some ⟨g, 0, none⟩) (k + 1) cap)).heap[b]? = w3.heap[b]? := fun b hb => Below.heap_setCell _ _ _ _ hb
  have hsz : (w3.setCell ⟨M, 3, none⟩ (.slice (some ⟨g, 0, none⟩) (k + 1) cap)).heap.size = w3.heap.size := by simp
  have hMv : v.ownBlock ≠ some M := fun e => by have := hrl M e; omega
  have hbox3 := (q2 M hlt hMv).trans h.box
  have hfar : ∀ b, v.ownBlock ≠ some b → b < w2.heap.size → (Value.slice (some ⟨g, 0, none⟩) (k + 1) cap).ownBlock ≠ some b := by
    intro b h1 h2 e
    have e : g = b := by simpa [Value.ownBlock] using e
    rcases hat with h3 | h3
    · exact h1 (by rw [h3, e])
    · omega
  refine ⟨⟨?_, ?_, ?_, by rw [hsz]; have := h.below.size; omega, fun b hb => ?_⟩, ?_, xs ++ [kv], ?_, fun j hj hx => ?_⟩
  · show w3.os = w1.os
    rw [hgrow.os]; exact hb2.os.trans (hWo.1.trans h.below.os)
  · show w3.tape = w1.tape
    rw [hgrow.tape]; exact hb2.tape.trans (hWo.2.1.trans h.below.tape)
  · show w3.output = w1.output
    rw [hgrow.output]; exact hb2.output.trans (hWo.2.2.trans h.below.output)
  · rw [qs b (by omega), q2 b (by omega) (fun e => by have := hrl b e; omega)]; exact h.below.block b hb
  · simp [World.setCell, Array.getElem?_modify, hbox3]
  · exact r1_keep hown' fun g' hg' => qs g' (by have := r1_lt hown' g' hg'; omega)
  · by_cases hjk : j < k
    · have hxj : j < xs.length := by omega
      rw [List.getElem_append_left hxj]
      refine (hxs j hj hxj).keep (fun b hb => ?_) (fun b hb => ?_)
      · rcases hb with hb | ⟨hb1, hb2, hb3⟩
        · have := hS b hb
          rw [qs b (by omega), q2 b (by omega) (fun e => by have := hrl b e; omega)]
        · rw [qs b (by omega), q2 b hb2 hb3]
      · rcases hb with hb | ⟨hb1, hb2, hb3⟩
        · exact .inl hb
        · exact .inr ⟨hb1, by rw [hsz]; omega, hfar b hb3 (by omega)⟩
    · have hjk' : j = k := by simp at hx; omega
      subst hjk'
      have : (xs ++ [kv])[j] = kv := by simp [← hxl]
      rw [this]
      refine hin.keep (fun b hb => ?_) (fun b hb => ?_)
      · rcases hb with hb | hb
        · have := hS b hb
          rw [qs b (by omega), q3 b (by omega) (fun e => by have := hrl b e; omega)]
        · rw [qs b (by omega), q3 b hb.2 (fun e => by have := hrl b e; omega)]
      · rcases hb with hb | hb
        · exact .inl hb
        · exact .inr ⟨by omega, by rw [hsz]; omega, hfar b (fun e => by have := hrl b e; omega) hb.2⟩

theorem sumK_ge {n : Nat} {d : Int} (l : List (K n)) (h : l.all (fun x => goodK n x d) = true) : l.length ≤ sumL (fun x => cntK n x) l := by
  induction l with
  | nil => simp
  | cons x r ih =>
    simp only [List.all_cons, Bool.and_eq_true] at h
    have h1 := cntK_pos n x d h.1
    have h2 := ih h.2
    simp only [sumL, List.length_cons]; omega

/-- What madeKind makes. -/
def MadePost (S : Nat → Prop) (n : Nat) (t : K n) (w : World) (e : Ending) (w' : World) : Prop :=
  Below w.heap.size w w' ∧ ∃ v, e = .returned v ∧ InnerK (fun b => S b ∨ (w.heap.size ≤ b ∧ b < w'.heap.size)) w' n t v

/-- madeKind at schemas of at most n levels. -/
def MadeSaid (n : Nat) : Prop := ∀ (S : Nat → Prop) (t : K n) (c0 c1 c2 : Value) (d : Int) (w : World), KindIn S w n t c0 c1 c2 → (∀ b, S b → b < w.heap.size) → goodK n t d = true → cntK n t ≤ 40 →
  Calls Tryz.prog 97 #[.agg #[c0, c1, c2]] w (MadePost S n t w)

theorem made_out {S : Nat → Prop} {w w1 wr w' : World} {n : Nat} {t : K (n + 1)} {s : Int} {v nv pv : Value} (hs : Kd.sort t = s) (hL : MadeLoop S (w.heap.size + 1) n (Kd.kids t) s nv w1 (Kd.kids t).length v wr) (hB : ∀ b, S b → b < w.heap.size) (hw1 : Below w.heap.size w w1)
    (hl : (Kd.kids t).length ≤ maxLen) (hbox : w'.heap[w.heap.size + 1]? = some (.cells #[.int .i64 s, nv, pv, v] 124 (0, 0))) (hsz : wr.heap.size ≤ w'.heap.size)
    (hk : ∀ b : Nat, b < wr.heap.size → b ≠ w.heap.size + 1 → w'.heap[b]? = wr.heap[b]?) (ho : w'.os = wr.os ∧ w'.tape = wr.tape ∧ w'.output = wr.output) (hn : StrsIn S wr (Kd.names t) nv)
    (hp : s = 5 → PlacesIn (fun b => w.heap.size ≤ b ∧ b < w'.heap.size) w' (Kd.names t) pv) : MadePost S (n + 1) t w (.returned (.pointer (some ⟨w.heap.size + 1, 0, none⟩))) w' := by
  have hlt := hL.lt
  obtain ⟨xs, hown, hxs⟩ := hL.row
  have hz1 := hw1.size
  refine ⟨⟨ho.1.trans (hL.below.os.trans hw1.os), ho.2.1.trans (hL.below.tape.trans hw1.tape), ho.2.2.trans (hL.below.output.trans hw1.output), by omega, fun b hb => ?_⟩, _, rfl, w.heap.size + 1, nv, pv, v, rfl, .inr ⟨by omega, by omega⟩, by rw [hs]; exact hbox, ?_, fun h5 => (hp (by rw [← hs]; exact h5)).keep (fun _ _ => rfl) (fun b hb => .inr hb), ?_⟩
  · rw [hk b (by omega) (by omega), hL.below.block b (by omega)]; exact hw1.block b hb
  · exact hn.keep (fun b hb => hk b (by have := hB b hb; omega) (by have := hB b hb; omega)) (fun b hb => .inl hb)
  · have hown' := r1_keep (w' := w') hown (fun g hg => hk g (r1_lt hown g hg).2 (by have := r1_lt hown g hg; omega))
    refine row1_of_owns hown' hl (fun g hg => .inr ?_) (fun i hi hx => ?_)
    · have := r1_lt hown' g hg; omega
    · refine (hxs i hi hx).keep (fun b hb => ?_) (fun b hb => ?_)
      · rcases hb with hb | ⟨hb1, hb2, hb3⟩
        · exact hk b (by have := hB b hb; omega) (by have := hB b hb; omega)
        · exact hk b hb2 (by omega)
      · rcases hb with hb | ⟨hb1, hb2, hb3⟩
        · exact .inl hb
        · exact .inr ⟨by omega, by omega⟩

set_option maxRecDepth 100000 in
set_option maxHeartbeats 2000000 in
theorem made_step (n : Nat) (hn : MadeSaid n) : MadeSaid (n + 1) := by
  intro S t c0 c1 c2 d w ht hB hg hc
  obtain ⟨rfl, -, h3, h4⟩ := ht
  obtain ⟨na, nc, rfl, -, -, -⟩ := id h3
  obtain ⟨ka, kc, rfl, hlen, -⟩ := id h4
  simp only [goodK, Bool.and_eq_true] at hg
  have hkc : (Kd.kids t).length ≤ 40 := by have := sumK_ge (Kd.kids t) hg.2; simp only [cntK] at hc; omega
  have HGK : Hid (∀ k (h : k < (Kd.kids t).length), goodK n (Kd.kids t)[k] (d + 1) = true ∧ cntK n (Kd.kids t)[k] ≤ 40) := by
    intro k h
    refine ⟨List.all_eq_true.1 hg.2 _ (List.getElem_mem h), ?_⟩
    have := sumL_mono (fun x => cntK n x) (Kd.kids t) _ (List.getElem_mem h)
    simp only [cntK] at hc; omega
  clear hg hc
  unfold maxLen at hlen
  generalize hs : Kd.sort t = s at *
  have HS : Hid (Kd.sort t = s) := hs
  clear hs
  have hb0 : Below w.heap.size w ((w.alloc (.cells #[.int .i64 s, .slice na (Kd.names t).length nc, .slice ka (Kd.kids t).length kc] 70)).alloc (.cells #[.int .i64 s, .slice na (Kd.names t).length nc, .map none, .slice none 0 0] 124)) :=
    ((Below.refl _ _).alloc (Nat.le_refl _) _).alloc (by simp) _
  have h3' := h3.keep (same_below hb0 hB) (fun _ h => h)
  have h4' := h4.keepK (same_below hb0 hB) (fun _ h => h)
  have hbox : ((w.alloc (.cells #[.int .i64 s, .slice na (Kd.names t).length nc, .slice ka (Kd.kids t).length kc] 70)).alloc (.cells #[.int .i64 s, .slice na (Kd.names t).length nc, .map none, .slice none 0 0] 124)).heap[w.heap.size + 1]? =
      some (.cells #[.int .i64 s, .slice na (Kd.names t).length nc, .map none, .slice none 0 0] 124 (0, 0)) := by
    have := heap_alloc_new (w.alloc (.cells #[.int .i64 s, .slice na (Kd.names t).length nc, .slice ka (Kd.kids t).length kc] 70)) (.cells #[.int .i64 s, .slice na (Kd.names t).length nc, .map none, .slice none 0 0] 124)
    simpa using this
  have k0 : ((w.alloc (.cells #[.int .i64 s, .slice na (Kd.names t).length nc, .slice ka (Kd.kids t).length kc] 70)).alloc (.cells #[.int .i64 s, .slice na (Kd.names t).length nc, .map none, .slice none 0 0] 124)).cell? ⟨w.heap.size, 0, none⟩ = some (.int .i64 s) := by simp [go_sem]
  have k1 : ((w.alloc (.cells #[.int .i64 s, .slice na (Kd.names t).length nc, .slice ka (Kd.kids t).length kc] 70)).alloc (.cells #[.int .i64 s, .slice na (Kd.names t).length nc, .map none, .slice none 0 0] 124)).cell? ⟨w.heap.size, 1, none⟩ = some (.slice na (Kd.names t).length nc) := by simp [go_sem]
  have hsz1 : ((w.alloc (.cells #[.int .i64 s, .slice na (Kd.names t).length nc, .slice ka (Kd.kids t).length kc] 70)).alloc (.cells #[.int .i64 s, .slice na (Kd.names t).length nc, .map none, .slice none 0 0] 124)).heap.size = w.heap.size + 1 + 1 := by simp
  obtain ⟨_, _, hkv, -, hkids⟩ := h4'
  cases hkv
  clear h3 h4
  go_enter Tryz.func97, Tryz.ntmps97
  go_wp2_with fail
  generalize ((w.alloc (.cells #[.int .i64 s, .slice na (Kd.names t).length nc, .slice ka (Kd.kids t).length kc] 70)).alloc (.cells #[.int .i64 s, .slice na (Kd.names t).length nc, .map none, .slice none 0 0] 124)) = w1 at *
  have HSM : Hid (∀ b, S b → b < w.heap.size + 1) := fun b hb => by have := hB b hb; omega
  go_loopw [15] (fun i wr => ∃ (k : Nat) (v : Value), k ≤ (Kd.kids t).length ∧ i = .int .i64 k ∧ MadeLoop S (w.heap.size + 1) n (Kd.kids t) s (.slice na (Kd.names t).length nc) w1 k v wr) (fun i _ => (Kd.kids t).length - (intOf i).toNat)
  case atStart => exact ⟨0, .slice none 0 0, Nat.zero_le _, rfl, Below.refl _ _, hbox, [], World.ownsRow_nil _ _ _ _, fun j _ hx => absurd hx (Nat.not_lt_zero _)⟩
  case round =>
    obtain ⟨k, v, hk, rfl, hL⟩ := hrel
    obtain ⟨xs, hown, hxs⟩ := hL.row
    obtain ⟨va, vc, rfl⟩ := r1_shape hown
    have hX := hL.lt
    have hbel := hL.below
    have hzr := hbel.size
    have HL := hidF hL
    have HX := hidF hown
    have HK := hidF hxs
    have x3 : wr.cell? ⟨w.heap.size + 1, 3, none⟩ = some (.slice va k vc) := by simp [World.cell?, hL.box]
    have xf : ∀ o, wr.frozen? ⟨w.heap.size + 1, o, none⟩ = false := fun o => by simp [World.frozen?, hL.box]
    have j0 := (hbel.cell (p := ⟨w.heap.size, 0, none⟩) (by show w.heap.size < _; omega)).trans k0
    have j1 := (hbel.cell (p := ⟨w.heap.size, 1, none⟩) (by show w.heap.size < _; omega)).trans k1
    clear hL hown hxs
    by_cases hlt : k < (Kd.kids t).length
    · obtain ⟨b, off, rfl, hbB, hcell⟩ := hkids (by intro h; rw [h] at hlt; simp at hlt)
      obtain ⟨y0, y1, y2, e0, e1, e2, hr⟩ := hcell k hlt
      have hbb := hB b hbB
      have f0 := (hbel.cell (p := ⟨b, off + k * 3, none⟩) (by show b < _; omega)).trans e0
      have f1 := (hbel.cell (p := ⟨b, off + k * 3 + 1, none⟩) (by show b < _; omega)).trans e1
      have f2 := (hbel.cell (p := ⟨b, off + k * 3 + 2, none⟩) (by show b < _; omega)).trans e2
      have q := hr.keep (same_below hbel (fun b hb => by have := hB b hb; omega)) (fun _ h => h)
      obtain ⟨z0, za, zl, zc, ua, ul, uc, rfl, rfl, rfl⟩ := q.shape
      clear hkids hcell e0 e1 e2 hr
      have hq5 := (Below.refl wr.heap.size wr).alloc (Nat.le_refl _) (.cells #[.int .i64 z0, .slice za zl zc, .slice ua ul uc] 70)
      have q5 := q.keep (w' := (wr.alloc (.cells #[.int .i64 z0, .slice za zl zc, .slice ua ul uc] 70)).drew) (same_below hq5.drew (fun b hb => by have := hB b hb; omega)) (fun _ h => h)
      have HC : Hid (Calls Tryz.prog 97 _ _ _) := hn S (Kd.kids t)[k] _ _ _ (d + 1) _ q5 (fun b hb => by have := hB b hb; simp; omega) (HGK.out k hlt).1 (HGK.out k hlt).2
      obtain ⟨i0, hi0, hz0, hz1, hz2⟩ := info_parts Tryz.info_pk
      have HI0 : Hid (_ ∧ _ ∧ _ ∧ _) := ⟨hi0, hz0, hz1, hz2⟩
      clear hi0 hz0 hz1 hz2 q q5 hq5
      go_wp2_with fail
      go_region_law (first
        | (refine step_append_lies _ (by rfl) (.tmp 23) (.tmp 26) 122 (by rfl) (w.heap.size + 1 + 1) 101 i0 _ 1 8 Tryz.underlying122 HI0.out.1 HI0.out.2.1 HI0.out.2.2.1 HI0.out.2.2.2 rfl (by decide) (.slice va k vc) k xs (by rfl) hox ⟨w2.heap.size, 0, none⟩ 1 1 [.pointer (some ⟨kb, 0, none⟩)] (by rfl) rfl (World.news_of_block (heap_alloc_new w2 _)) (by simp [Value.oneCell']) (by decide) (by unfold maxLen; omega) (by omega) (by simp; omega) (w2.heap.size + 1) (by simp) ?_; intro g cap w3 hown hgrow hat hlt3; have hb3 := ((hgrow.block (w.heap.size + 1) (by simp; omega) (fun e => by have := r1_lt HX.out _ e.symm; omega)).trans (Below.heap_alloc _ _ _ (by omega))).trans hbx2; have x3'' : w3.cell? ⟨w.heap.size + 1, 3, none⟩ = some (.slice va k vc) := (by simp [World.cell?, hb3]); have xf'' : ∀ o, w3.frozen? ⟨w.heap.size + 1, o, none⟩ = false := (fun o => by simp [World.frozen?, hb3]))
        | (go_simp; go_at_call 97; refine HC.out.mono ?_; rintro e w2 ⟨hb2, kv, rfl, hin⟩; obtain ⟨kb, rfl, -⟩ := hin.ptr; have hsz2 : wr.heap.size + 1 ≤ w2.heap.size := (by have := hb2.size; simpa using this); have hbx2 := ((hb2.block (w.heap.size + 1) (by simp; omega)).trans (Below.heap_alloc _ _ _ (by omega))).trans HL.out.box; have hox := r1_keep (w' := w2.alloc (.cells #[.pointer (some ⟨kb, 0, none⟩)] 101)) HX.out (fun g' hg' => by have := r1_lt HX.out g' hg'; rw [Below.heap_alloc _ _ _ (by omega)]; exact (hb2.block g' (by simp; omega)).trans (Below.heap_alloc _ _ _ this.2)); have x3' : w2.cell? ⟨w.heap.size + 1, 3, none⟩ = some (.slice va k vc) := (by simp [World.cell?, hbx2]); have x3a : (w2.alloc (.cells #[.pointer (some ⟨kb, 0, none⟩)] 101)).cell? ⟨w.heap.size + 1, 3, none⟩ = some (.slice va k vc) := (World.cell?_of_block (Below.heap_alloc _ _ _ (by show w.heap.size + 1 < _; omega))).trans x3'))
      all_goals
        have HF : Hid (MadeLoop S (w.heap.size + 1) n (Kd.kids t) s (.slice na (Kd.names t).length nc) w1 (k + 1) (.slice (some ⟨g, 0, none⟩) (k + 1) cap) (w3.setCell ⟨w.heap.size + 1, 3, none⟩ (.slice (some ⟨g, 0, none⟩) (k + 1) cap))) :=
          made_next (W := (wr.alloc (.cells #[.int .i64 z0, .slice za zl zc, .slice ua ul uc] 70)).drew) HL.out hlt HSM.out (by omega) (fun _ => rfl) (by simp) ⟨rfl, rfl, rfl⟩ HX.out HK.out hb2 hin hown hgrow hat
        clear hown hgrow hat hin hb2 hox x3' x3a x3'' xf'' hb3 hbx2
        go_wp2_with fail
        go_roundw
        case rel => exact ⟨k + 1, _, by omega, by go_num, HF.out⟩
        case measure => simp [intOf]; omega
    · have hkl : k = (Kd.kids t).length := by omega
      have h3r := h3'.keep (same_below hbel (fun b hb => by have := hB b hb; omega)) (fun _ h => h)
      have HL2 : Hid (MadeLoop S (w.heap.size + 1) n (Kd.kids t) s (.slice na (Kd.names t).length nc) w1 (Kd.kids t).length (.slice va k vc) wr) := by
        have := HL.out
        rw [hkl] at this ⊢
        exact this
      clear hkl hkids HX HK HL
      by_cases h5 : s = 5
      · subst h5
        have HC : Hid (Calls Tryz.prog 115 _ _ _) := placesOf_any S (Kd.names t) (.slice na (Kd.names t).length nc) wr h3r (fun b hb => by have := hB b hb; omega)
        go_wp2_with fail
        refine HC.out.mono ?_
        rintro e w2 ⟨pv, rfl, hpl, hb2⟩
        have hz2 := hb2.size
        obtain ⟨mb, rfl, hmb, -⟩ := id hpl
        have hbx2 := (hb2.block (w.heap.size + 1) hX).trans HL2.out.box
        have xf2 : w2.frozen? ⟨w.heap.size + 1, 2, none⟩ = false := by simp [World.frozen?, hbx2]
        have x22 : w2.cell? ⟨w.heap.size + 1, 2, none⟩ = some (.map none) := by simp [World.cell?, hbx2]
        have qs : ∀ b, b ≠ w.heap.size + 1 → (w2.setCell ⟨w.heap.size + 1, 2, none⟩ (.map (some mb))).heap[b]? = w2.heap[b]? := fun b hb => Below.heap_setCell _ _ _ _ hb
        have HP : Hid (MadePost S (n + 1) t w (.returned (.pointer (some ⟨w.heap.size + 1, 0, none⟩))) (w2.setCell ⟨w.heap.size + 1, 2, none⟩ (.map (some mb)))) := by
          refine made_out (pv := .map (some mb)) HS.out HL2.out hB hb0 (by unfold maxLen; omega) ?_ (by simpa using hz2) (fun b hb hne => ?_) ⟨hb2.os, hb2.tape, hb2.output⟩ h3r (fun _ => hpl.keep (fun b hb => qs b (by omega)) (fun b hb => ⟨by omega, by simpa using hb.2⟩))
          · simp [World.setCell, Array.getElem?_modify, hbx2]
          · rw [qs b hne]; exact hb2.block b hb
        clear HC hpl hb2 hbx2 qs HL2 h3r
        go_wp2_with fail
        go_ret
        exact HP.out
      · have h5' : (s == 5) = false := by simpa using h5
        have HP : Hid (MadePost S (n + 1) t w (.returned (.pointer (some ⟨w.heap.size + 1, 0, none⟩))) wr) :=
          made_out HS.out HL2.out hB hb0 (by unfold maxLen; omega) HL2.out.box (Nat.le_refl _) (fun _ _ _ => rfl) ⟨rfl, rfl, rfl⟩ h3r (fun h => absurd h h5)
        clear HL2 h3r h5
        go_wp2_with fail
        go_ret
        exact HP.out

theorem made_any : ∀ n, MadeSaid n := by
  intro n
  induction n with
  | zero => intro S t c0 c1 c2 d w ht; exact ht.elim
  | succ n ih => exact made_step n ih

/-- What innerKind answers. -/
def FaceK (S : Nat → Prop) (n : Nat) (t : K n) (w : World) (e : Ending) (w' : World) : Prop :=
  Below w.heap.size w w' ∧ ((okK n t = true ∧ ∃ v, e = .returned (.tuple #[v, .bool true]) ∧ InnerK (fun b => S b ∨ (w.heap.size ≤ b ∧ b < w'.heap.size)) w' n t v) ∨ (okK n t = false ∧ e = .returned (.tuple #[.pointer none, .bool false])))

set_option maxRecDepth 100000 in
set_option maxHeartbeats 400000 in
theorem innerKind_any (n : Nat) (S : Nat → Prop) (t : K n) (c0 c1 c2 : Value) (w : World) (ht : KindIn S w n t c0 c1 c2) (hB : ∀ b, S b → b < w.heap.size) :
    Calls Tryz.prog 81 #[.agg #[c0, c1, c2]] w (FaceK S n t w) := by
  obtain ⟨x0, xa, xl, xc, ya, yl, yc, rfl, rfl, rfl⟩ := ht.shape
  have hb0 := (Below.refl w.heap.size w).alloc (Nat.le_refl _) (.cells #[.int .i64 x0, .slice xa xl xc, .slice ya yl yc] 70)
  have hx0 := Box3.new w (.int .i64 x0) (.slice xa xl xc) (.slice ya yl yc) 70
  obtain ⟨ht0, hB0⟩ := ht.step hB hb0
  clear ht
  go_enter Tryz.func81, Tryz.ntmps81
  go_wp2_with fail
  refine (implKOk_any n S t _ _ _ _ ht0 hB0).mono ?_
  rintro e w1 ⟨rfl, hb1⟩
  have hbw1 := below_step hb0 (by simp) hb1
  obtain ⟨ht1, hB1⟩ := ht0.step hB0 hb1
  obtain ⟨k0, k1, k2⟩ := hx0.keep hb1
  have hz1 := hbw1.size
  clear hb0 hb1 hx0 ht0 hB0
  cases hok : okK n t with
  | false =>
    have HP : Hid (FaceK S n t w (.returned (.tuple #[.pointer none, .bool false])) w1) := ⟨hbw1, .inr ⟨hok, rfl⟩⟩
    clear hok
    go_wp2_with fail
    go_ret2
    exact HP.out
  | true =>
    have HOK : Hid (okK n t = true) := hok
    simp only [okK, Bool.and_eq_true, decide_eq_true_eq] at hok
    have HC : Hid (Calls Tryz.prog 97 _ _ _) := made_any n S t _ _ _ 1 w1 ht1 hB1 hok.1 hok.2
    clear hok ht1 hB1
    go_wp2_with fail
    refine HC.out.mono ?_
    rintro e w2 ⟨hb2, v, rfl, hin⟩
    obtain ⟨kb, rfl, -⟩ := id hin.ptr
    have HP : Hid (FaceK S n t w (.returned (.tuple #[.pointer (some ⟨kb, 0, none⟩), .bool true])) w2) :=
      ⟨below_step hbw1 hbw1.size hb2, .inl ⟨HOK.out, _, rfl, hin.keep (fun _ _ => rfl) (fun b hb => hb.elim .inl (fun h => .inr ⟨by omega, h.2⟩))⟩⟩
    clear hb2 hin HC
    go_wp2_with fail
    go_ret2
    exact HP.out

end Go.Proofs.YtlinplghgamgbaaGreatDoor
