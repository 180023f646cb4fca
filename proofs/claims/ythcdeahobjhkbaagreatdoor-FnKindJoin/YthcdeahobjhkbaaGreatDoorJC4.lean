/-
  The specification's l3Join: of two forms, or of two leaves.
-/
import Derived.Test.YthcdeahobjhkbaaGreatDoorJC3
import Derived.Test.YthcdeahobjhkbaaGreatDoorB12
import Derived.BigQuiet
namespace Go.Proofs.YthcdeahobjhkbaaGreatDoor
open Go.RowKit

theorem MSt.leftZ {n m : Nat} {γ : Type} {f : K n → K m → Option γ} {ga : K n → γ} {gb : K m → γ} {NA NB : List ByteArray} {KA : List (K n)} {KB : List (K m)} {i j : Nat} {acc : List (ByteArray × γ)} (h : MSt f ga gb (NA.zip KA) (NB.zip KB) i j acc) (hA : NA.length = KA.length) (hB : NB.length = KB.length) (hi : i < NA.length) (hi' : i < KA.length) (hj : NB.length ≤ j ∨ ∃ hj : j < NB.length, ltB NA[i] NB[j] = true) : MSt f ga gb (NA.zip KA) (NB.zip KB) (i + 1) j (acc ++ [(NA[i], ga KA[i])]) := by
  have hz : i < (NA.zip KA).length := by rw [List.length_zip]; omega
  have := h.left hz (by
    rcases hj with h | ⟨hj, h⟩
    · exact .inl (by rw [List.length_zip]; omega)
    · exact .inr ⟨by rw [List.length_zip]; omega, by rw [List.getElem_zip, List.getElem_zip]; exact h⟩)
  rwa [List.getElem_zip] at this

theorem MSt.rightZ {n m : Nat} {γ : Type} {f : K n → K m → Option γ} {ga : K n → γ} {gb : K m → γ} {NA NB : List ByteArray} {KA : List (K n)} {KB : List (K m)} {i j : Nat} {acc : List (ByteArray × γ)} (h : MSt f ga gb (NA.zip KA) (NB.zip KB) i j acc) (hA : NA.length = KA.length) (hB : NB.length = KB.length) (hj : j < NB.length) (hj' : j < KB.length) (hi : NA.length ≤ i ∨ ∃ hi : i < NA.length, ltB NA[i] NB[j] ≠ true ∧ ltB NB[j] NA[i] = true) : MSt f ga gb (NA.zip KA) (NB.zip KB) i (j + 1) (acc ++ [(NB[j], gb KB[j])]) := by
  have hz : j < (NB.zip KB).length := by rw [List.length_zip]; omega
  have := h.right hz (by
    rcases hi with h | ⟨hi, h⟩
    · exact .inl (by rw [List.length_zip]; omega)
    · exact .inr ⟨by rw [List.length_zip]; omega, by rw [List.getElem_zip, List.getElem_zip]; exact h⟩)
  rwa [List.getElem_zip] at this

theorem MSt.bothZ {n m : Nat} {γ : Type} {f : K n → K m → Option γ} {ga : K n → γ} {gb : K m → γ} {NA NB : List ByteArray} {KA : List (K n)} {KB : List (K m)} {i j : Nat} {acc : List (ByteArray × γ)} (h : MSt f ga gb (NA.zip KA) (NB.zip KB) i j acc) (hA : NA.length = KA.length) (hB : NB.length = KB.length) (hi : i < NA.length) (hi' : i < KA.length) (hj : j < NB.length) (hj' : j < KB.length) (hl : ltB NA[i] NB[j] ≠ true) (hg : ltB NB[j] NA[i] ≠ true) :
    (f KA[i] KB[j] = none → mergeF f ga gb ((NA.zip KA).length + (NB.zip KB).length) (NA.zip KA) (NB.zip KB) = none) ∧ ∀ r, f KA[i] KB[j] = some r → MSt f ga gb (NA.zip KA) (NB.zip KB) (i + 1) (j + 1) (acc ++ [(NA[i], r)]) := by
  have hz : i < (NA.zip KA).length := by rw [List.length_zip]; omega
  have hy : j < (NB.zip KB).length := by rw [List.length_zip]; omega
  have := h.both hz hy (by rw [List.getElem_zip, List.getElem_zip]; exact hl) (by rw [List.getElem_zip, List.getElem_zip]; exact hg)
  rwa [List.getElem_zip, List.getElem_zip] at this

theorem gt_bl (x y : List UInt8) : (!Op.bytesLess x y && !x == y) = Op.bytesLess y x := by
  cases h1 : Op.bytesLess x y
  · cases h2 : Op.bytesLess y x
    · have := bl_tri x y h1 h2; subst this; simp
    · have hne : x ≠ y := fun e => by rw [e, bl_irr] at h2; cases h2
      simp [hne]
  · cases h2 : Op.bytesLess y x
    · simp
    · have := bl_trans _ _ _ h1 h2; rw [bl_irr] at this; cases this

/-- All that stood but X is as it was. -/
def SameX (X : Nat) (V W : World) : Prop := ∀ b, b < V.heap.size → b ≠ X → W.heap[b]? = V.heap[b]?

theorem sameX_name {X M : Nat} {e : TypeId} {z k : Nat} {v x : Value} {xs : List Value} {V W v3 : World} {o : Obj} {p : Nat} (h : SameX X V W) (hz : V.heap.size ≤ W.heap.size) (hx : W.ownsRow M e z v k xs) (hM : V.heap.size ≤ M) (hg : (W.drew.alloc o).grownBy v3 v.ownBlock) : SameX X V (v3.setCell ⟨X, p, none⟩ x) := fun b hb hne => by
  rw [Below.heap_setCell _ _ _ _ (by show b ≠ X; exact hne), hg.block b (by show b < (W.alloc o).heap.size; simp; omega) (fun e => by have := r1_lt hx b e.symm; omega)]
  exact (Below.heap_alloc W o b (by omega)).trans (h b hb hne)

theorem sameX_plain {X M : Nat} {e : TypeId} {z k : Nat} {v x : Value} {xs : List Value} {V W v3 : World} {o : Obj} {p : Nat} (h : SameX X V W) (hz : V.heap.size ≤ W.heap.size) (hx : W.ownsRow M e z v k xs) (hM : V.heap.size ≤ M) (hg : (W.alloc o).grownBy v3 v.ownBlock) : SameX X V (v3.setCell ⟨X, p, none⟩ x) := fun b hb hne => by
  rw [Below.heap_setCell _ _ _ _ (by show b ≠ X; exact hne), hg.block b (by simp; omega) (fun e => by have := r1_lt hx b e.symm; omega)]
  exact (Below.heap_alloc W o b (by omega)).trans (h b hb hne)

theorem sameX_kid {X M : Nat} {e : TypeId} {z k : Nat} {v x : Value} {xs : List Value} {V W v2 v3 : World} {o : Obj} {p : Nat} (h : SameX X V W) (hz : V.heap.size ≤ W.heap.size) (hx : W.ownsRow M e z v k xs) (hM : V.heap.size ≤ M) (hb2 : Below W.heap.size W.drew v2) (hg : (v2.alloc o).grownBy v3 v.ownBlock) : SameX X V (v3.setCell ⟨X, p, none⟩ x) := fun b hb hne => by
  have h2 : W.heap.size ≤ v2.heap.size := hb2.size
  rw [Below.heap_setCell _ _ _ _ (by show b ≠ X; exact hne), hg.block b (by simp; omega) (fun e => by have := r1_lt hx b e.symm; omega), Below.heap_alloc v2 o b (by omega), hb2.block b (by omega)]
  exact h b hb hne

/-- A kid that stands while a name is added. -/
theorem kid_name {M V0 n X : Nat} {an ak : Option Addr} {ln anc akc g cap : Nat} {xs : List Value} {W v3 : World} {o : Obj} {t : K n} {c0 c1 c2 : Value} {A : Nat} (hk : KindIn (fun b => V0 ≤ b ∧ b < W.heap.size ∧ b ≠ A) W n t c0 c1 c2) (hM : M ≤ V0) (hX : X < V0) (_hx : W.ownsRow M 9 1 (.slice an ln anc) ln xs) (hn : ∀ b, (Value.slice an ln anc).ownBlock = some b → b < V0) (hkb : ∀ b, (Value.slice ak ln akc).ownBlock = some b → b < V0)
    (hg : (W.drew.alloc o).grownBy v3 (Value.slice an ln anc).ownBlock) (hat : (Value.slice an ln anc).ownBlock = some g ∨ g = W.heap.size + 1) :
    KindIn (Fr M (.slice (some ⟨g, 0, none⟩) (ln + 1) cap) (.slice ak ln akc) (v3.setCell ⟨X, 1, none⟩ (.slice (some ⟨g, 0, none⟩) (ln + 1) cap)).heap.size) (v3.setCell ⟨X, 1, none⟩ (.slice (some ⟨g, 0, none⟩) (ln + 1) cap)) n t c0 c1 c2 ∧ ∀ b, V0 ≤ b → b < W.heap.size → (v3.setCell ⟨X, 1, none⟩ (.slice (some ⟨g, 0, none⟩) (ln + 1) cap)).heap[b]? = W.heap[b]? := by
  have hz : W.heap.size + 1 ≤ v3.heap.size := by have := hg.size; simpa using this
  have far : ∀ b, V0 ≤ b → b < W.heap.size → (v3.setCell ⟨X, 1, none⟩ (.slice (some ⟨g, 0, none⟩) (ln + 1) cap)).heap[b]? = W.heap[b]? := fun b h1 h2 => by
    rw [Below.heap_setCell _ _ _ _ (by show b ≠ X; omega), hg.block b (by simp; omega) (fun e => by have := hn b e.symm; omega)]
    exact Below.heap_alloc W o b h2
  have hsz : (v3.setCell ⟨X, 1, none⟩ (.slice (some ⟨g, 0, none⟩) (ln + 1) cap)).heap.size = v3.heap.size := by simp
  refine ⟨hk.keep (fun b hb => far b hb.1 hb.2.1) (fun b hb => ⟨by omega, by rw [hsz]; omega, fun e => ?_, fun e => by have := hkb b e; omega⟩), far⟩
  have e : g = b := by simpa [Value.ownBlock] using e
  rcases hat with h | h
  · have := hn g h; omega
  · omega

theorem join_none {L : Nat} {w W : World} (hb : Below w.heap.size w W) (N : Nat) (hN : w.heap.size ≤ N) : JoinPost L none w (.returned (.tuple #[.agg #[.int .i64 0, .slice none 0 0, .slice none 0 0], .bool false])) (((W.setCell ⟨N, 0, none⟩ (.int .i64 0)).setCell ⟨N, 1, none⟩ (.slice none 0 0)).setCell ⟨N, 2, none⟩ (.slice none 0 0)) :=
  ⟨j3_below hb hN, 0, none, 0, 0, none, 0, 0, rfl, fun r hr => by cases hr⟩

set_option maxRecDepth 20000 in
set_option maxHeartbeats 16000000 in
theorem l3Join_rows (L n m : Nat) (f : K n → K m → Option (K (L + 1))) (ga : K n → K (L + 1)) (gb : K m → K (L + 1)) (S : Nat → Prop) (NA NB : List ByteArray) (KA : List (K n)) (KB : List (K m)) (so : Int) (na ka nb kb : Option Addr) (nac kac nbc kbc : Nat) (w : World)
    (h1 : StrsIn S w NA (.slice na NA.length nac)) (h2 : RowIn3 S w (KindIn S w n) KA (.slice ka KA.length kac)) (h3 : StrsIn S w NB (.slice nb NB.length nbc)) (h4 : RowIn3 S w (KindIn S w m) KB (.slice kb KB.length kbc)) (hlA : NA.length = KA.length) (hlB : NB.length = KB.length) (hA39 : NA.length ≤ 39) (hB39 : NB.length ≤ 39) (hsA : ∀ x, x ∈ NA → x.size ≤ 10000) (hsB : ∀ x, x ∈ NB → x.size ≤ 10000) (hB : ∀ b, S b → b < w.heap.size) (hwf : (Lit.int .i64 so).wf = true) (hs6 : ¬ so = 6) (hs4 : ¬ so = 4)
    (HMa : ∀ x, x ∈ KA → ∀ c0 c1 c2 W, KindIn S W n x c0 c1 c2 → (∀ b, S b → b < W.heap.size) → Calls Tryz.prog 32 #[.agg #[c0, c1, c2]] W (CopyPost L (ga x) W))
    (HMb : ∀ x, x ∈ KB → ∀ c0 c1 c2 W, KindIn S W m x c0 c1 c2 → (∀ b, S b → b < W.heap.size) → Calls Tryz.prog 32 #[.agg #[c0, c1, c2]] W (CopyPost L (gb x) W))
    (HJ : ∀ x, x ∈ KA → ∀ y, y ∈ KB → ∀ c0 c1 c2 e0 e1 e2 W, KindIn S W n x c0 c1 c2 → KindIn S W m y e0 e1 e2 → (∀ b, S b → b < W.heap.size) → Calls Tryz.prog 17 #[.agg #[c0, c1, c2], .agg #[e0, e1, e2]] W (JoinPost L (f x y) W)) (oo : Option (K (L + 1 + 1))) (hoo : oo = (mergeF f ga gb ((NA.zip KA).length + (NB.zip KB).length) (NA.zip KA) (NB.zip KB)).map fun l => (⟨so, l.map Prod.fst, l.map Prod.snd⟩ : Kd (K (L + 1)))) :
    Calls Tryz.prog 17 #[.agg #[.int .i64 so, .slice na NA.length nac, .slice ka KA.length kac], .agg #[.int .i64 so, .slice nb NB.length nbc, .slice kb KB.length kbc]] w (JoinPost (L + 1) oo w) := by
  have HOO := Lib.hid hoo
  clear hoo
  obtain ⟨W3, hW3⟩ : ∃ W3, W3 = ((w.alloc (.cells #[.int .i64 so, .slice na NA.length nac, .slice ka KA.length kac] 26)).alloc (.cells #[.int .i64 so, .slice nb NB.length nbc, .slice kb KB.length kbc] 26)).alloc (.cells #[.int .i64 0, .slice none 0 0, .slice none 0 0] 26) := ⟨_, rfl⟩
  have h3j : ThreeJ w W3 (.int .i64 so) (.slice na NA.length nac) (.slice ka KA.length kac) (.int .i64 so) (.slice nb NB.length nbc) (.slice kb KB.length kbc) := by rw [hW3]; exact three_at _ _ _ _ _ _ _
  have hz3 := h3j.size
  obtain ⟨W4, hW4⟩ : ∃ W4, W4 = W3.alloc (.cells #[.int .i64 so, .slice none 0 0, .slice none 0 0] 26) := ⟨_, rfl⟩
  have hb34 : Below W3.heap.size W3 W4 := by rw [hW4]; exact (Below.refl _ _).alloc (Nat.le_refl _) _
  have hz4 : W4.heap.size = w.heap.size + 4 := by rw [hW4]; simp [hz3]
  obtain ⟨X, hX⟩ : ∃ X, X = w.heap.size + 1 + 1 + 1 := ⟨_, rfl⟩
  have hX4 : W4.heap[X]? = some (.cells #[.int .i64 so, .slice none 0 0, .slice none 0 0] 26 (0, 0)) := by
    have := heap_alloc_new W3 (.cells #[.int .i64 so, .slice none 0 0, .slice none 0 0] 26)
    rw [hz3] at this; rw [hW4, hX]; exact this
  have hbw4 : Below w.heap.size w W4 := below_step h3j.below h3j.below.size hb34
  have hXa : w.heap.size + 3 ≤ X := Nat.le_of_eq hX.symm
  have hXb : X ≤ w.heap.size + 3 := Nat.le_of_eq hX
  have hza : w.heap.size + 4 ≤ W4.heap.size := Nat.le_of_eq hz4.symm
  have hzb : W4.heap.size ≤ w.heap.size + 4 := Nat.le_of_eq hz4
  have HBX : Hid (∀ W, SameX X W4 W → (W.cell? ⟨w.heap.size, 1, none⟩ = some (.slice na NA.length nac) ∧ W.cell? ⟨w.heap.size, 2, none⟩ = some (.slice ka KA.length kac) ∧ W.cell? ⟨w.heap.size + 1, 1, none⟩ = some (.slice nb NB.length nbc) ∧ W.cell? ⟨w.heap.size + 1, 2, none⟩ = some (.slice kb KB.length kbc)) ∧ W.heap[w.heap.size + 1 + 1]? = some (.cells #[.int .i64 0, .slice none 0 0, .slice none 0 0] 26 (0, 0))) := fun W hW => by
    have e1 := (hW w.heap.size (by omega) (by omega)).trans ((hb34.block _ (by omega)).trans h3j.ba)
    have e2 := (hW (w.heap.size + 1) (by omega) (by omega)).trans ((hb34.block _ (by omega)).trans h3j.bb)
    exact ⟨⟨j3_at e1 1 _ rfl, j3_at e1 2 _ rfl, j3_at e2 1 _ rfl, j3_at e2 2 _ rfl⟩, (hW (w.heap.size + 1 + 1) (by omega) (by omega)).trans ((hb34.block _ (by omega)).trans h3j.bz)⟩
  have hSW : ∀ W, SameX X W4 W → ∀ b, S b → W.heap[b]? = w.heap[b]? := fun W hW b hb => by
    have := hB b hb
    exact (hW b (by omega) (by omega)).trans (hbw4.block b this)
  have HNA : Hid (∀ i (hi : i < NA.length), (∃ p q, na = some ⟨p, q, none⟩ ∧ ∀ W, SameX X W4 W → W.cell? ⟨p, q + i, none⟩ = some (.string NA[i])) ∧ NA[i].size ≤ 10000) := fun i hi => by
    obtain ⟨ao, cap, he, -, -, hc⟩ := id h1
    obtain ⟨b, off, hao, hb, hcell⟩ := hc (fun e => by rw [e] at hi; simp at hi)
    have hao' : na = ao := by simpa using congrArg (fun v => match v with | Value.slice a _ _ => a | _ => none) he
    exact ⟨⟨b, off, hao'.trans hao, fun W hW => (World.cell?_of_block (a := ⟨b, off + i, none⟩) (hSW W hW b hb)).trans (hcell i hi)⟩, hsA _ (List.getElem_mem hi)⟩
  have HKA : Hid (∀ i (hi : i < KA.length), ∃ p q u0 ua ul uc ta tl tc, ka = some ⟨p, q, none⟩ ∧ p < w.heap.size ∧ ∀ W, SameX X W4 W → W4.heap.size ≤ W.heap.size → (W.cell? ⟨p, q + i * 3, none⟩ = some (.int .i64 u0) ∧ W.cell? ⟨p, q + i * 3 + 1, none⟩ = some (.slice ua ul uc) ∧ W.cell? ⟨p, q + i * 3 + 2, none⟩ = some (.slice ta tl tc)) ∧ KindIn S W n KA[i] (.int .i64 u0) (.slice ua ul uc) (.slice ta tl tc) ∧ (∀ b, S b → b < W.heap.size) ∧ Calls Tryz.prog 32 #[.agg #[.int .i64 u0, .slice ua ul uc, .slice ta tl tc]] W.drew (CopyPost L (ga KA[i]) W.drew)) := fun i hi => by
    obtain ⟨ao, cap, he, -, hc⟩ := id h2
    obtain ⟨b, off, hao, hb, hcell⟩ := hc (fun e => by rw [e] at hi; simp at hi)
    have hao' : ka = ao := by simpa using congrArg (fun v => match v with | Value.slice a _ _ => a | _ => none) he
    obtain ⟨c0, c1, c2, q0, q1, q2, hk⟩ := hcell i hi
    obtain ⟨u0, ua, ul, uc, ta, tl, tc, rfl, rfl, rfl⟩ := hk.shape
    refine ⟨b, off, u0, ua, ul, uc, ta, tl, tc, hao'.trans hao, hB b hb, fun W hW hz => ?_⟩
    have e := hSW W hW b hb
    have hkW := hk.keep (hSW W hW) (fun _ h => h)
    have hlt : ∀ b, S b → b < W.heap.size := fun b hb => by have := hB b hb; omega
    exact ⟨⟨(World.cell?_of_block (a := ⟨b, off + i * 3, none⟩) e).trans q0, (World.cell?_of_block (a := ⟨b, off + i * 3 + 1, none⟩) e).trans q1, (World.cell?_of_block (a := ⟨b, off + i * 3 + 2, none⟩) e).trans q2⟩, hkW, hlt, HMa _ (List.getElem_mem hi) _ _ _ W.drew (KindIn.keep (w := W) (w' := W.drew) (fun _ _ => rfl) (fun _ h => h) hkW) hlt⟩
  have HNB : Hid (∀ i (hi : i < NB.length), (∃ p q, nb = some ⟨p, q, none⟩ ∧ ∀ W, SameX X W4 W → W.cell? ⟨p, q + i, none⟩ = some (.string NB[i])) ∧ NB[i].size ≤ 10000) := fun i hi => by
    obtain ⟨ao, cap, he, -, -, hc⟩ := id h3
    obtain ⟨b, off, hao, hb, hcell⟩ := hc (fun e => by rw [e] at hi; simp at hi)
    have hao' : nb = ao := by simpa using congrArg (fun v => match v with | Value.slice a _ _ => a | _ => none) he
    exact ⟨⟨b, off, hao'.trans hao, fun W hW => (World.cell?_of_block (a := ⟨b, off + i, none⟩) (hSW W hW b hb)).trans (hcell i hi)⟩, hsB _ (List.getElem_mem hi)⟩
  have HKB : Hid (∀ i (hi : i < KB.length), ∃ p q u0 ua ul uc ta tl tc, kb = some ⟨p, q, none⟩ ∧ p < w.heap.size ∧ ∀ W, SameX X W4 W → W4.heap.size ≤ W.heap.size → (W.cell? ⟨p, q + i * 3, none⟩ = some (.int .i64 u0) ∧ W.cell? ⟨p, q + i * 3 + 1, none⟩ = some (.slice ua ul uc) ∧ W.cell? ⟨p, q + i * 3 + 2, none⟩ = some (.slice ta tl tc)) ∧ KindIn S W m KB[i] (.int .i64 u0) (.slice ua ul uc) (.slice ta tl tc) ∧ (∀ b, S b → b < W.heap.size) ∧ Calls Tryz.prog 32 #[.agg #[.int .i64 u0, .slice ua ul uc, .slice ta tl tc]] W.drew (CopyPost L (gb KB[i]) W.drew)) := fun i hi => by
    obtain ⟨ao, cap, he, -, hc⟩ := id h4
    obtain ⟨b, off, hao, hb, hcell⟩ := hc (fun e => by rw [e] at hi; simp at hi)
    have hao' : kb = ao := by simpa using congrArg (fun v => match v with | Value.slice a _ _ => a | _ => none) he
    obtain ⟨c0, c1, c2, q0, q1, q2, hk⟩ := hcell i hi
    obtain ⟨u0, ua, ul, uc, ta, tl, tc, rfl, rfl, rfl⟩ := hk.shape
    refine ⟨b, off, u0, ua, ul, uc, ta, tl, tc, hao'.trans hao, hB b hb, fun W hW hz => ?_⟩
    have e := hSW W hW b hb
    have hkW := hk.keep (hSW W hW) (fun _ h => h)
    have hlt : ∀ b, S b → b < W.heap.size := fun b hb => by have := hB b hb; omega
    exact ⟨⟨(World.cell?_of_block (a := ⟨b, off + i * 3, none⟩) e).trans q0, (World.cell?_of_block (a := ⟨b, off + i * 3 + 1, none⟩) e).trans q1, (World.cell?_of_block (a := ⟨b, off + i * 3 + 2, none⟩) e).trans q2⟩, hkW, hlt, HMb _ (List.getElem_mem hi) _ _ _ W.drew (KindIn.keep (w := W) (w' := W.drew) (fun _ _ => rfl) (fun _ h => h) hkW) hlt⟩
  have HJJ : Hid (∀ i (hi : i < KA.length) j (hj : j < KB.length) c0 c1 c2 e0 e1 e2 W, KindIn S W n KA[i] c0 c1 c2 → KindIn S W m KB[j] e0 e1 e2 → (∀ b, S b → b < W.heap.size) → Calls Tryz.prog 17 #[.agg #[c0, c1, c2], .agg #[e0, e1, e2]] W (JoinPost L (f KA[i] KB[j]) W)) := fun i hi j hj => HJ _ (List.getElem_mem hi) _ (List.getElem_mem hj)
  have HSz : Hid (∀ b, S b → b < w.heap.size) := hB
  have HBel : Hid (∀ W os tape out, SameX X W4 W → W4.heap.size ≤ W.heap.size → W.os = os → W4.os = os → W.tape = tape → W4.tape = tape → W.output = out → W4.output = out → Below w.heap.size w W) := fun W os tape out hW hz e1 e2 e3 e4 e5 e6 => ⟨(e1.trans e2.symm).trans hbw4.os, (e3.trans e4.symm).trans hbw4.tape, (e5.trans e6.symm).trans hbw4.output, by omega, fun b hb => (hW b (by omega) (by omega)).trans (hbw4.block b hb)⟩
  have HX4 : Hid (W4.heap[X]? = some (.cells #[.int .i64 so, .slice none 0 0, .slice none 0 0] 26 (0, 0))) := hX4
  have HWf := Lib.hid hwf
  have HLL : Hid (NA.length = KA.length ∧ NB.length = KB.length) := ⟨hlA, hlB⟩
  have w34 : W4 = (((w.alloc (.cells #[.int .i64 so, .slice na NA.length nac, .slice ka KA.length kac] 26)).alloc (.cells #[.int .i64 so, .slice nb NB.length nbc, .slice kb KB.length kbc] 26)).alloc (.cells #[.int .i64 0, .slice none 0 0, .slice none 0 0] 26)).alloc (.cells #[.int .i64 so, .slice none 0 0, .slice none 0 0] 26) := by rw [hW4, hW3]
  obtain ⟨ik0, hi0, hy0, hy1, hyb⟩ := info_parts Tryz.info_kindD
  have HIK : Hid (_ ∧ _ ∧ _ ∧ _) := ⟨hi0, hy0, hy1, hyb⟩
  clear hi0 hy0 hy1 hyb
  obtain ⟨is0, hi0, hy0, hy1, hyb⟩ := info_parts Tryz.info_strD
  have HIS : Hid (_ ∧ _ ∧ _ ∧ _) := ⟨hi0, hy0, hy1, hyb⟩
  clear hi0 hy0 hy1 hyb h1 h2 h3 h4 hB hsA hsB HMa HMb HJ h3j hz3 hW4 hW3 hb34 hz4 hX4 hbw4 hSW hwf hlA hlB
  obtain ⟨la, hla⟩ : ∃ la, NA.length = la := ⟨_, rfl⟩
  obtain ⟨lb, hlb⟩ : ∃ lb, NB.length = lb := ⟨_, rfl⟩
  obtain ⟨ma, hma⟩ : ∃ ma, KA.length = ma := ⟨_, rfl⟩
  obtain ⟨mb, hmb⟩ : ∃ mb, KB.length = mb := ⟨_, rfl⟩
  have HLe : Hid (NA.length = la ∧ NB.length = lb ∧ KA.length = ma ∧ KB.length = mb) := ⟨hla, hlb, hma, hmb⟩
  have hmla : ma ≤ la := by have := HLL.out.1; omega
  have hmlb : mb ≤ lb := by have := HLL.out.2; omega
  have hmla' : la ≤ ma := by have := HLL.out.1; omega
  have hmlb' : lb ≤ mb := by have := HLL.out.2; omega
  rw [hla] at hA39
  rw [hlb] at hB39
  rw [hla, hlb, hma, hmb] at w34 HBX
  rw [hla, hlb, hma, hmb]
  clear hla hlb hma hmb
  have hb6 : (so == 6) = false := by simpa using hs6
  have hb4 : (so == 4) = false := by simpa using hs4
  go_enter Tryz.func17, Tryz.ntmps17
  go_wp2_with fail
  rw [← w34, ← hX]
  clear w34 hX
  go_loopw [11, 12] (fun iv jv wr => ∃ (i j : Nat) (acc : List (ByteArray × K (L + 1))) (an : Option Addr) (anc : Nat) (ak : Option Addr) (akc : Nat), i ≤ la ∧ j ≤ lb ∧ iv = .int .i64 i ∧ jv = .int .i64 j ∧ acc.length ≤ i + j ∧ MSt f ga gb (NA.zip KA) (NB.zip KB) i j acc ∧ GrowK w.heap.size X (L + 1) W4 wr so (acc.map Prod.fst) (acc.map Prod.snd) (.slice an acc.length anc) (.slice ak acc.length akc) ∧ SameX X W4 wr) (fun iv jv _ => (la - (intOf iv).toNat) + (lb - (intOf jv).toNat))
  case atStart => exact ⟨0, 0, [], none, 0, none, 0, Nat.zero_le _, Nat.zero_le _, rfl, rfl, Nat.le_refl _, MSt.start _ _ _ _ _, GrowK.start HX4.out, fun _ _ _ => rfl⟩
  case round =>
    obtain ⟨i, j, acc, an, anc, ak, akc, hi, hj, rfl, rfl, hal, hM, hG, hsm⟩ := hrel
    obtain ⟨w0, rfl⟩ : ∃ w0, w0 = wr := ⟨_, rfl⟩
    have HM := Lib.hid hM
    obtain ⟨ln, hln⟩ : ∃ ln, acc.length = ln := ⟨_, rfl⟩
    have HL : Hid (acc.length = ln ∧ (acc.map Prod.fst).length = ln ∧ (acc.map Prod.snd).length = ln) := ⟨hln, by rw [List.length_map, hln], by rw [List.length_map, hln]⟩
    rw [hln] at hG hal
    clear hln hM
    have hzr := hG.near.size
    obtain ⟨⟨y1, y2, z1, z2⟩, hzz⟩ := HBX.out w0 hsm
    have HZ0 := Lib.hid hzz
    have HG := Lib.hid hG
    have HSm : Hid (SameX X W4 w0) := hsm
    clear hG hsm hzz
    by_cases hil : i < la
    case neg =>
      have hAi : ¬ (i : Int) < (la : Int) := by omega
      by_cases hjl : j < lb
      case neg =>
        have hBi : ¬ (j : Int) < (lb : Int) := by omega
        as_aux_lemma =>
          have hz2 : w.heap.size + 1 + 1 < w0.heap.size := by omega
          obtain ⟨⟨r0, r1, r2⟩, f0, f1, f2⟩ := j3_cells HZ0.out
          obtain ⟨⟨p0, p1, p2⟩, -⟩ := j3_cells HG.out.box
          have HFin : Hid (JoinPost (L + 1) oo w (.returned (.tuple #[.agg #[.int .i64 so, .slice an ln anc, .slice ak ln akc], .bool true])) (((w0.setCell ⟨w.heap.size + 1 + 1, 0, none⟩ (.int .i64 so)).setCell ⟨w.heap.size + 1 + 1, 1, none⟩ (.slice an ln anc)).setCell ⟨w.heap.size + 1 + 1, 2, none⟩ (.slice ak ln akc))) := by
            have hd := HM.out.done (by have := HLe.out; rw [List.length_zip]; omega) (by have := HLe.out; rw [List.length_zip]; omega)
            show JoinPost _ _ _ _ _
            rw [HOO.out, hd]
            have hbw := HBel.out w0 _ _ _ HSm.out hzr HG.out.near.os rfl HG.out.near.tape rfl HG.out.near.output rfl
            refine ⟨j3_below hbw (by omega), so, an, ln, anc, ak, ln, akc, rfl, fun r hr => ?_⟩
            have hr : (⟨so, acc.map Prod.fst, acc.map Prod.snd⟩ : Kd (K (L + 1))) = r := Option.some.inj hr
            subst hr
            exact HG.out.kind (B := w.heap.size) HWf.out (fun b hb => j3_other (by omega)) (by rw [j3_size]; exact Nat.le_refl _) (by have := HL.out.2.1; omega) (by have := HL.out.2.2; omega) (by omega)
          clear HZ0 HG HSm HM HBX HNA HNB HKA HKB HJJ
          go_wp2_with fail
          refine bodyPost_ret (v := .tuple #[.agg #[.int .i64 so, .slice an ln anc, .slice ak ln akc], .bool true]) (by simp [results, Tryz.results17, go_sem, r0, r1, r2]) rfl ?_
          exact HFin.out
      have hBi : (j : Int) < (lb : Int) := by omega
      have hg1 : decide ((lb : Int) ≤ (j : Int)) = false := decide_eq_false (by omega)
      have hg1' : decide ((j : Int) ≥ (lb : Int)) = false := decide_eq_false (by omega)
      have hgn1 : ¬ (lb : Int) ≤ (j : Int) := by omega
      have hg3' : decide ((i : Int) ≥ (la : Int)) = true := decide_eq_true (by omega)
      have hgn3 : (la : Int) ≤ (i : Int) := by omega
      have hg2 : decide ((i : Int) < (la : Int)) = false := decide_eq_false (by omega)
      have hg3 : decide ((la : Int) ≤ (i : Int)) = true := decide_eq_true (by omega)
      go_upto_region 21 with fail
      go_cut [11, 12, 113] from 64 to 203 (fun iv jv cv wx => iv = .int .i64 i ∧ jv = .int .i64 j ∧ cv = .bool false ∧ ∃ q, wx = w0.drewN q)
      case first =>
        as_aux_lemma =>
          go_quiet (fail)
          go_wp2_with fail
          go_meet
          exact ⟨rfl, rfl, rfl, _, rfl⟩
      case rest =>
        obtain ⟨rfl, rfl, rfl, qn, hwq⟩ := hcut
        obtain ⟨V0, hV0⟩ : ∃ V0, V0 = wc := ⟨_, rfl⟩
        rw [← hV0] at hwq ⊢
        clear hV0
        have HG0 : Hid (GrowK w.heap.size X (L + 1) W4 V0 so (acc.map Prod.fst) (acc.map Prod.snd) (.slice an ln anc) (.slice ak ln akc)) := by
          show GrowK _ _ _ _ _ _ _ _ _ _
          rw [hwq]; exact HG.out.keep (by omega) (by omega) (Near.of_below (below_drewN (Below.refl _ _) qn))
        have HS0 : Hid (SameX X W4 V0) := by rw [hwq]; exact HSm.out
        clear hwq HG HSm y1 y2 z1 z2
        obtain ⟨⟨y1, y2, z1, z2⟩, -⟩ := HBX.out V0 HS0.out
        go_upto_region 25 with fail
        go_cut [11, 12, 162] from 64 to 203 (fun iv jv cv wx => iv = .int .i64 i ∧ jv = .int .i64 j ∧ cv = .bool true ∧ ∃ q, wx = V0.drewN q)
        case first =>
          as_aux_lemma =>
            go_quiet (fail)
            go_wp2_with fail
            go_meet
            exact ⟨rfl, rfl, rfl, _, rfl⟩
        case rest =>
          obtain ⟨rfl, rfl, rfl, qm, hwq⟩ := hcut
          obtain ⟨V1, hV1⟩ : ∃ V1, V1 = wc := ⟨_, rfl⟩
          rw [← hV1] at hwq ⊢
          clear hV1
          have HG1 : Hid (GrowK w.heap.size X (L + 1) W4 V1 so (acc.map Prod.fst) (acc.map Prod.snd) (.slice an ln anc) (.slice ak ln akc)) := by
            show GrowK _ _ _ _ _ _ _ _ _ _
            rw [hwq]; exact HG0.out.keep (by omega) (by omega) (Near.of_below (below_drewN (Below.refl _ _) qm))
          have HS1 : Hid (SameX X W4 V1) := by rw [hwq]; exact HS0.out
          clear hwq HG0 HS0 y1 y2 z1 z2 hg1 hg2 hg3 hg1' hgn1 hg3' hgn3 hAi hBi
          have hzv := HG1.out.near.size
          obtain ⟨⟨y1, y2, z1, z2⟩, -⟩ := HBX.out V1 HS1.out
          have HStep : Hid (∀ (h : j < NB.length) (h' : j < KB.length), MSt f ga gb (NA.zip KA) (NB.zip KB) i (j + 1) (acc ++ [(NB[j], gb KB[j])])) := fun h h' => HM.out.rightZ HLL.out.1 HLL.out.2 h h' (.inl (by have := HLe.out.1; omega))
          as_aux_lemma =>
            have hNl : j < NB.length := by have := HLe.out.2.1; omega
            have hKl : j < KB.length := by have := HLe.out.2.2.2; omega
            have HStp := Lib.hid (HStep.out hNl hKl)
            have hK3 := HKB.out j hKl
            clear HStep
            generalize gb KB[j] = tk at *
            generalize KB[j] = kx at *
            obtain ⟨⟨np, nq, rfl, hcN⟩, hnm⟩ := HNB.out j hNl
            have fN := hcN _ HS1.out
            have hii : (j : Int) < (lb : Int) := by omega
            have x1 : V1.cell? ⟨X, 1, none⟩ = some (.slice an ln anc) := j3_at HG1.out.box 1 _ rfl
            have HXN : Hid (V1.ownsRow W4.heap.size 9 1 (.slice an ln anc) ln ((acc.map Prod.fst).map .string)) := by
              have := HG1.out.names
              rw [HL.out.2.1] at this; exact this
            have hoxN : ∀ o, (V1.drew.alloc o).ownsRow W4.heap.size 9 1 (.slice an ln anc) ln ((acc.map Prod.fst).map .string) := fun o => HXN.out.drew.alloc o
            have hXr : X < V1.heap.size := HG1.out.lt
            clear hcN
            generalize hnmE : NB[j] = nm at *
            clear hnmE
            go_upto_region 26 with fail
            go_cut [11, 12] from 64 to 203 (fun iv jv wx => iv = .int .i64 i ∧ jv = .int .i64 j ∧ ∃ g cap, GrowK w.heap.size X (L + 1) W4 wx so (acc.map Prod.fst ++ [nm]) (acc.map Prod.snd) (.slice (some ⟨g, 0, none⟩) (ln + 1) cap) (.slice ak ln akc) ∧ SameX X W4 wx)
            case first =>
              go_region_law (first
                | (refine step_append_lies _ (by rfl) (.tmp 182) (.tmp 188) 23 (by rfl) W4.heap.size 9 is0 _ 1 16 Tryz.underlying23 HIS.out.1 HIS.out.2.1 HIS.out.2.2.1 HIS.out.2.2.2 rfl (by decide) (.slice an ln anc) ln ((acc.map Prod.fst).map .string) (by rfl) (hoxN _) ⟨V1.heap.size, 0, none⟩ 1 1 [.string nm] (by rfl) rfl (World.news_of_block (heap_alloc_new V1.drew _)) (by simp [Value.oneCell']) (by decide) (by unfold maxLen; omega) (by omega) (by simp; omega) (V1.heap.size + 1) (by simp) ?_; intro g cap v3 hown hgrow hat hlt3; have hb3 := ((hgrow.block X (by simp; omega) (fun e => by have := r1_lt HXN.out _ e.symm; omega)).trans (Below.heap_alloc _ _ _ (by simpa using hXr))).trans HG1.out.box; have x1'' : v3.cell? ⟨X, 1, none⟩ = some (.slice an ln anc) := (by simp [World.cell?, hb3]); have xf'' : v3.frozen? ⟨X, 1, none⟩ = false := (by simp [World.frozen?, hb3])))
              all_goals
                have hMN := GrowK.name (Wa := V1.drew.alloc (.cells #[.string nm] 9)) (one := .cells #[.string nm] 9) (x := nm) (g := g) (cap := cap) HG1.out (by omega) rfl ⟨rfl, rfl, rfl⟩ hnm (by rw [HL.out.2.1]; exact hown) hgrow hat
                rw [HL.out.2.1] at hMN
                have HMN := Lib.hid hMN
                have HSN : Hid (SameX X W4 (v3.setCell ⟨X, 1, none⟩ (.slice (some ⟨g, 0, none⟩) (ln + 1) cap))) := sameX_name HS1.out hzv HXN.out (Nat.le_refl _) hgrow

                clear hMN hown hgrow hat hlt3 hb3 x1'' xf'' x1 fN
                go_wp2_with fail
                go_meet
                exact ⟨rfl, rfl, _, _, HMN.out, HSN.out⟩
            case rest =>
              obtain ⟨rfl, rfl, g, cap, hMN, hsN⟩ := hcut
              obtain ⟨V2, hV2⟩ : ∃ V2, V2 = wc := ⟨_, rfl⟩
              rw [← hV2] at hMN hsN ⊢
              clear hV2 y1 y2 z1 z2 x1 fN
              have hz2 := hMN.near.size
              obtain ⟨⟨y1, y2, z1, z2⟩, -⟩ := HBX.out V2 hsN
              obtain ⟨kp, kq, u0, ua, ul, uc, ta, tl, tc, rfl, -, hKW⟩ := hK3
              obtain ⟨⟨q0, q1, q2⟩, -, -, hcal⟩ := hKW V2 hsN hz2
              have HCm := Lib.hid hcal
              have hki : (j : Int) < (mb : Int) := by omega
              obtain ⟨xs, hxs, hkk⟩ := hMN.kids
              have HKK := Lib.hid hkk
              have HX : Hid (V2.ownsRow W4.heap.size 26 3 (.slice ak ln akc) ln xs) := by
                rw [HL.out.2.2] at hxs; exact hxs
              have x2 : V2.cell? ⟨X, 2, none⟩ = some (.slice ak ln akc) := j3_at hMN.box 2 _ rfl
              have hX2 := hMN.lt
              have HMN := Lib.hid hMN
              have HSN : Hid (SameX X W4 V2) := hsN
              clear hMN hsN hKW hcal hxs hkk HXN hoxN HG1 HS1 hXr
              go_wp2_with fail
              go_region_law (first
                | (refine step_append_lies _ (by rfl) (.tmp 192) (.tmp 199) 24 (by rfl) W4.heap.size 26 ik0 _ 3 56 Tryz.underlying24 HIK.out.1 HIK.out.2.1 HIK.out.2.2.1 HIK.out.2.2.2 rfl (by decide) (.slice ak ln akc) ln xs (by rfl) (hox _) ⟨v2.heap.size, 0, none⟩ 1 1 [.int .i64 d0, .slice da dl dc, .slice ea el ec] (by rfl) rfl (World.news_of_block (heap_alloc_new v2 _)) (by simp [Value.oneCell']) (by decide) (by unfold maxLen; omega) (by omega) (by simp; omega) (v2.heap.size + 1) (by simp) ?_; intro g2 cap2 v3 hown2 hgrow2 hat2 hlt2; have hb6 := (((hgrow2.block X (by simp; omega) (fun e => by have := r1_lt HX.out _ e.symm; omega)).trans (Below.heap_alloc _ _ _ (by omega))).trans (hb5.block X (by simpa using hX2))).trans HMN.out.box; have x2'' : v3.cell? ⟨X, 2, none⟩ = some (.slice ak ln akc) := (by simp [World.cell?, hb6]); have xg'' : v3.frozen? ⟨X, 2, none⟩ = false := (by simp [World.frozen?, hb6]))
                | (go_simp; go_at_call 32; refine HCm.out.mono ?_; rintro e v2 ⟨hb5, c0', c1', c2', rfl, hk5⟩; obtain ⟨d0, da, dl, dc, ea, el, ec, rfl, rfl, rfl⟩ := hk5.shape; have hn5 := Near.of_below (bb := w.heap.size) hb5; have hsz2 : V2.heap.size ≤ v2.heap.size := hn5.size; have hox := fun o => owns_onG (R := w.heap.size) (M := W4.heap.size) (W := V2.drew) HX.out.drew (by omega) hn5 o; have x2' : v2.cell? ⟨X, 2, none⟩ = some (.slice ak ln akc) := (World.cell?_of_block (hb5.block X (by simpa using hX2))).trans x2; have x2a : (v2.alloc (.cells #[.int .i64 d0, .slice da dl dc, .slice ea el ec] 26)).cell? ⟨X, 2, none⟩ = some (.slice ak ln akc) := (World.cell?_of_block (Below.heap_alloc _ _ _ (by show X < _; omega))).trans x2'))
              all_goals
                have hF := GrowK.kid (W := V2.drew) (W1 := v2) (Wa := v2.alloc (.cells #[.int .i64 d0, .slice da dl dc, .slice ea el ec] 26)) (one := .cells #[.int .i64 d0, .slice da dl dc, .slice ea el ec] 26) (g := g2) (cap := cap2) (xs := xs)
                  (HMN.out.keep (by omega) (by omega) ((Near.refl w.heap.size V2).drew)) (by omega) (by omega) (by omega) hn5 hk5 rfl ⟨rfl, rfl, rfl⟩ (by rw [HL.out.2.2]; exact HX.out.drew)
                  (fun q hq => by obtain ⟨a0, a1, a2, hd, hdt⟩ := HKK.out q hq; exact ⟨a0, a1, a2, hd, KindIn.keep (w := V2) (w' := V2.drew) (fun _ _ => rfl) (fun _ h => h) hdt⟩) (by rw [HL.out.2.2]; exact hown2) hgrow2 hat2
                rw [HL.out.2.2] at hF
                have HF := Lib.hid hF
                have HSF : Hid (SameX X W4 (v3.setCell ⟨X, 2, none⟩ (.slice (some ⟨g2, 0, none⟩) (ln + 1) cap2))) := sameX_kid HSN.out hz2 HX.out (Nat.le_refl _) hb5 hgrow2
                clear hF hown2 hgrow2 hat2 hlt2 hk5 hn5 hb5 hox x2' x2a x2'' xg'' hb6
                go_wp2_with fail
                go_roundw
                case rel =>
                  have hL1 : (acc ++ [(nm, tk)]).length = ln + 1 := by rw [List.length_append, HL.out.1]; rfl
                  refine ⟨i, j + 1, acc ++ [(nm, tk)], some ⟨g, 0, none⟩, cap, some ⟨g2, 0, none⟩, cap2, by omega, by omega, by go_num, by go_num, by omega, HStp.out, ?_, HSF.out⟩
                  rw [hL1, List.map_append, List.map_append]
                  exact HF.out
                case measure => simp [intOf]; omega
    case pos =>
      have hAi : (i : Int) < (la : Int) := by omega
      obtain ⟨c1, hc1⟩ : ∃ c1 : Bool, c1 = true ↔ (lb ≤ j ∨ (∃ (hi : i < NA.length) (hj : j < NB.length), ltB NA[i] NB[j] = true)) := ⟨@decide _ (Classical.propDecidable _), @decide_eq_true_iff _ (Classical.propDecidable _)⟩
      have HC1 := Lib.hid hc1
      clear hc1
      go_upto_region 21 with fail
      go_cut [11, 12, 113] from 64 to 203 (fun iv jv cv wx => iv = .int .i64 i ∧ jv = .int .i64 j ∧ cv = .bool c1 ∧ ∃ q, wx = w0.drewN q)
      case first =>
        as_aux_lemma =>
          by_cases hjl : j < lb
          · have hg1 : decide ((lb : Int) ≤ (j : Int)) = false := decide_eq_false (by omega)
            have hg1' : decide ((j : Int) ≥ (lb : Int)) = false := decide_eq_false (by omega)
            have hgn1 : ¬ (lb : Int) ≤ (j : Int) := by omega
            have hg2 : decide ((i : Int) < (la : Int)) = true := decide_eq_true (by omega)
            have hii : (i : Int) < (la : Int) := by omega
            have hjj : (j : Int) < (lb : Int) := by omega
            have hNi : i < NA.length := by have := HLe.out.1; omega
            have hNj : j < NB.length := by have := HLe.out.2.1; omega
            have hcc : c1 = ltB NA[i] NB[j] := by
              cases h : ltB NA[i] NB[j]
              · refine Bool.eq_false_iff.2 fun h' => ?_
                rcases HC1.out.1 h' with h1 | ⟨_, _, h1⟩
                · omega
                · rw [h] at h1; cases h1
              · exact HC1.out.2 (.inr ⟨hNi, hNj, h⟩)
            obtain ⟨⟨gp, gq, rfl, hcA⟩, hnA⟩ := HNA.out i (by have := HLe.out.1; omega)
            obtain ⟨⟨hp, hq, rfl, hcB⟩, hnB⟩ := HNB.out j (by have := HLe.out.2.1; omega)
            have fA := hcA _ HSm.out
            have fB := hcB _ HSm.out
            clear hcA hcB
            clear HC1
            subst hcc
            unfold ltB at *
            generalize NA[i] = s1 at *
            generalize NB[j] = s2 at *
            go_quiet (fail)
            go_wp2_with fail
            go_meet
            exact ⟨rfl, rfl, rfl, _, rfl⟩
          · have hg1 : decide ((lb : Int) ≤ (j : Int)) = true := decide_eq_true (by omega)
            have hg1' : decide ((j : Int) ≥ (lb : Int)) = true := decide_eq_true (by omega)
            have hgn1 : (lb : Int) ≤ (j : Int) := by omega
            have hcc : c1 = true := HC1.out.2 (.inl (by omega))
            clear HC1
            subst hcc
            go_quiet (fail)
            go_wp2_with fail
            go_meet
            exact ⟨rfl, rfl, rfl, _, rfl⟩
      case rest =>
        obtain ⟨rfl, rfl, rfl, qn, hwq⟩ := hcut
        obtain ⟨V0, hV0⟩ : ∃ V0, V0 = wc := ⟨_, rfl⟩
        rw [← hV0] at hwq ⊢
        clear hV0
        have HG0 : Hid (GrowK w.heap.size X (L + 1) W4 V0 so (acc.map Prod.fst) (acc.map Prod.snd) (.slice an ln anc) (.slice ak ln akc)) := by
          show GrowK _ _ _ _ _ _ _ _ _ _
          rw [hwq]; exact HG.out.keep (by omega) (by omega) (Near.of_below (below_drewN (Below.refl _ _) qn))
        have HS0 : Hid (SameX X W4 V0) := by rw [hwq]; exact HSm.out
        clear hwq HG HSm y1 y2 z1 z2
        have hzv := HG0.out.near.size
        obtain ⟨⟨y1, y2, z1, z2⟩, -⟩ := HBX.out V0 HS0.out
        cases hc1 : c1
        case true =>
          have HStep : Hid (∀ (h : i < NA.length) (h' : i < KA.length), MSt f ga gb (NA.zip KA) (NB.zip KB) (i + 1) j (acc ++ [(NA[i], ga KA[i])])) := fun h h' => HM.out.leftZ HLL.out.1 HLL.out.2 h h' ((HC1.out.1 hc1).imp (fun h => by have := HLe.out.2.1; omega) (fun h => by obtain ⟨h1, h2, h3⟩ := h; exact ⟨h2, h3⟩))
          clear hc1 HC1
          as_aux_lemma =>
            have hNl : i < NA.length := by have := HLe.out.1; omega
            have hKl : i < KA.length := by have := HLe.out.2.2.1; omega
            have HStp := Lib.hid (HStep.out hNl hKl)
            have hK3 := HKA.out i hKl
            clear HStep
            generalize ga KA[i] = tk at *
            generalize KA[i] = kx at *
            obtain ⟨⟨np, nq, rfl, hcN⟩, hnm⟩ := HNA.out i hNl
            have fN := hcN _ HS0.out
            have hii : (i : Int) < (la : Int) := by omega
            have x1 : V0.cell? ⟨X, 1, none⟩ = some (.slice an ln anc) := j3_at HG0.out.box 1 _ rfl
            have HXN : Hid (V0.ownsRow W4.heap.size 9 1 (.slice an ln anc) ln ((acc.map Prod.fst).map .string)) := by
              have := HG0.out.names
              rw [HL.out.2.1] at this; exact this
            have hoxN : ∀ o, (V0.drew.alloc o).ownsRow W4.heap.size 9 1 (.slice an ln anc) ln ((acc.map Prod.fst).map .string) := fun o => HXN.out.drew.alloc o
            have hXr : X < V0.heap.size := HG0.out.lt
            clear hcN
            generalize hnmE : NA[i] = nm at *
            clear hnmE
            go_upto_region 22 with fail
            go_cut [11, 12] from 64 to 203 (fun iv jv wx => iv = .int .i64 i ∧ jv = .int .i64 j ∧ ∃ g cap, GrowK w.heap.size X (L + 1) W4 wx so (acc.map Prod.fst ++ [nm]) (acc.map Prod.snd) (.slice (some ⟨g, 0, none⟩) (ln + 1) cap) (.slice ak ln akc) ∧ SameX X W4 wx)
            case first =>
              go_region_law (first
                | (refine step_append_lies _ (by rfl) (.tmp 140) (.tmp 146) 23 (by rfl) W4.heap.size 9 is0 _ 1 16 Tryz.underlying23 HIS.out.1 HIS.out.2.1 HIS.out.2.2.1 HIS.out.2.2.2 rfl (by decide) (.slice an ln anc) ln ((acc.map Prod.fst).map .string) (by rfl) (hoxN _) ⟨V0.heap.size, 0, none⟩ 1 1 [.string nm] (by rfl) rfl (World.news_of_block (heap_alloc_new V0.drew _)) (by simp [Value.oneCell']) (by decide) (by unfold maxLen; omega) (by omega) (by simp; omega) (V0.heap.size + 1) (by simp) ?_; intro g cap v3 hown hgrow hat hlt3; have hb3 := ((hgrow.block X (by simp; omega) (fun e => by have := r1_lt HXN.out _ e.symm; omega)).trans (Below.heap_alloc _ _ _ (by simpa using hXr))).trans HG0.out.box; have x1'' : v3.cell? ⟨X, 1, none⟩ = some (.slice an ln anc) := (by simp [World.cell?, hb3]); have xf'' : v3.frozen? ⟨X, 1, none⟩ = false := (by simp [World.frozen?, hb3])))
              all_goals
                have hMN := GrowK.name (Wa := V0.drew.alloc (.cells #[.string nm] 9)) (one := .cells #[.string nm] 9) (x := nm) (g := g) (cap := cap) HG0.out (by omega) rfl ⟨rfl, rfl, rfl⟩ hnm (by rw [HL.out.2.1]; exact hown) hgrow hat
                rw [HL.out.2.1] at hMN
                have HMN := Lib.hid hMN
                have HSN : Hid (SameX X W4 (v3.setCell ⟨X, 1, none⟩ (.slice (some ⟨g, 0, none⟩) (ln + 1) cap))) := sameX_name HS0.out hzv HXN.out (Nat.le_refl _) hgrow

                clear hMN hown hgrow hat hlt3 hb3 x1'' xf'' x1 fN
                go_wp2_with fail
                go_meet
                exact ⟨rfl, rfl, _, _, HMN.out, HSN.out⟩
            case rest =>
              obtain ⟨rfl, rfl, g, cap, hMN, hsN⟩ := hcut
              obtain ⟨V2, hV2⟩ : ∃ V2, V2 = wc := ⟨_, rfl⟩
              rw [← hV2] at hMN hsN ⊢
              clear hV2 y1 y2 z1 z2 x1 fN
              have hz2 := hMN.near.size
              obtain ⟨⟨y1, y2, z1, z2⟩, -⟩ := HBX.out V2 hsN
              obtain ⟨kp, kq, u0, ua, ul, uc, ta, tl, tc, rfl, -, hKW⟩ := hK3
              obtain ⟨⟨q0, q1, q2⟩, -, -, hcal⟩ := hKW V2 hsN hz2
              have HCm := Lib.hid hcal
              have hki : (i : Int) < (ma : Int) := by omega
              obtain ⟨xs, hxs, hkk⟩ := hMN.kids
              have HKK := Lib.hid hkk
              have HX : Hid (V2.ownsRow W4.heap.size 26 3 (.slice ak ln akc) ln xs) := by
                rw [HL.out.2.2] at hxs; exact hxs
              have x2 : V2.cell? ⟨X, 2, none⟩ = some (.slice ak ln akc) := j3_at hMN.box 2 _ rfl
              have hX2 := hMN.lt
              have HMN := Lib.hid hMN
              have HSN : Hid (SameX X W4 V2) := hsN
              clear hMN hsN hKW hcal hxs hkk HXN hoxN HG0 HS0 hXr
              go_wp2_with fail
              go_region_law (first
                | (refine step_append_lies _ (by rfl) (.tmp 150) (.tmp 157) 24 (by rfl) W4.heap.size 26 ik0 _ 3 56 Tryz.underlying24 HIK.out.1 HIK.out.2.1 HIK.out.2.2.1 HIK.out.2.2.2 rfl (by decide) (.slice ak ln akc) ln xs (by rfl) (hox _) ⟨v2.heap.size, 0, none⟩ 1 1 [.int .i64 d0, .slice da dl dc, .slice ea el ec] (by rfl) rfl (World.news_of_block (heap_alloc_new v2 _)) (by simp [Value.oneCell']) (by decide) (by unfold maxLen; omega) (by omega) (by simp; omega) (v2.heap.size + 1) (by simp) ?_; intro g2 cap2 v3 hown2 hgrow2 hat2 hlt2; have hb6 := (((hgrow2.block X (by simp; omega) (fun e => by have := r1_lt HX.out _ e.symm; omega)).trans (Below.heap_alloc _ _ _ (by omega))).trans (hb5.block X (by simpa using hX2))).trans HMN.out.box; have x2'' : v3.cell? ⟨X, 2, none⟩ = some (.slice ak ln akc) := (by simp [World.cell?, hb6]); have xg'' : v3.frozen? ⟨X, 2, none⟩ = false := (by simp [World.frozen?, hb6]))
                | (go_simp; go_at_call 32; refine HCm.out.mono ?_; rintro e v2 ⟨hb5, c0', c1', c2', rfl, hk5⟩; obtain ⟨d0, da, dl, dc, ea, el, ec, rfl, rfl, rfl⟩ := hk5.shape; have hn5 := Near.of_below (bb := w.heap.size) hb5; have hsz2 : V2.heap.size ≤ v2.heap.size := hn5.size; have hox := fun o => owns_onG (R := w.heap.size) (M := W4.heap.size) (W := V2.drew) HX.out.drew (by omega) hn5 o; have x2' : v2.cell? ⟨X, 2, none⟩ = some (.slice ak ln akc) := (World.cell?_of_block (hb5.block X (by simpa using hX2))).trans x2; have x2a : (v2.alloc (.cells #[.int .i64 d0, .slice da dl dc, .slice ea el ec] 26)).cell? ⟨X, 2, none⟩ = some (.slice ak ln akc) := (World.cell?_of_block (Below.heap_alloc _ _ _ (by show X < _; omega))).trans x2'))
              all_goals
                have hF := GrowK.kid (W := V2.drew) (W1 := v2) (Wa := v2.alloc (.cells #[.int .i64 d0, .slice da dl dc, .slice ea el ec] 26)) (one := .cells #[.int .i64 d0, .slice da dl dc, .slice ea el ec] 26) (g := g2) (cap := cap2) (xs := xs)
                  (HMN.out.keep (by omega) (by omega) ((Near.refl w.heap.size V2).drew)) (by omega) (by omega) (by omega) hn5 hk5 rfl ⟨rfl, rfl, rfl⟩ (by rw [HL.out.2.2]; exact HX.out.drew)
                  (fun q hq => by obtain ⟨a0, a1, a2, hd, hdt⟩ := HKK.out q hq; exact ⟨a0, a1, a2, hd, KindIn.keep (w := V2) (w' := V2.drew) (fun _ _ => rfl) (fun _ h => h) hdt⟩) (by rw [HL.out.2.2]; exact hown2) hgrow2 hat2
                rw [HL.out.2.2] at hF
                have HF := Lib.hid hF
                have HSF : Hid (SameX X W4 (v3.setCell ⟨X, 2, none⟩ (.slice (some ⟨g2, 0, none⟩) (ln + 1) cap2))) := sameX_kid HSN.out hz2 HX.out (Nat.le_refl _) hb5 hgrow2
                clear hF hown2 hgrow2 hat2 hlt2 hk5 hn5 hb5 hox x2' x2a x2'' xg'' hb6
                go_wp2_with fail
                go_roundw
                case rel =>
                  have hL1 : (acc ++ [(nm, tk)]).length = ln + 1 := by rw [List.length_append, HL.out.1]; rfl
                  refine ⟨i + 1, j, acc ++ [(nm, tk)], some ⟨g, 0, none⟩, cap, some ⟨g2, 0, none⟩, cap2, by omega, by omega, by go_num, by go_num, by omega, HStp.out, ?_, HSF.out⟩
                  rw [hL1, List.map_append, List.map_append]
                  exact HF.out
                case measure => simp [intOf]; omega
        case false =>
          have hjl : j < lb := by
            rcases Nat.lt_or_ge j lb with h | h
            · exact h
            · have := HC1.out.2 (.inl h); rw [hc1] at this; cases this
          have HNl : Hid (∀ (hi : i < NA.length) (hj : j < NB.length), ltB NA[i] NB[j] ≠ true) := fun hi hj h => by
            have := HC1.out.2 (.inr ⟨hi, hj, h⟩); rw [hc1] at this; cases this
          clear hc1 HC1
          obtain ⟨c2, hc2⟩ : ∃ c2 : Bool, c2 = true ↔ (la ≤ i ∨ (∃ (hi : i < NA.length) (hj : j < NB.length), ltB NB[j] NA[i] = true)) := ⟨@decide _ (Classical.propDecidable _), @decide_eq_true_iff _ (Classical.propDecidable _)⟩
          have HC2 := Lib.hid hc2
          clear hc2
          go_upto_region 25 with fail
          go_cut [11, 12, 162] from 64 to 203 (fun iv jv cv wx => iv = .int .i64 i ∧ jv = .int .i64 j ∧ cv = .bool c2 ∧ ∃ q, wx = V0.drewN q)
          case first =>
            as_aux_lemma =>
              have hg1 : decide ((la : Int) ≤ (i : Int)) = false := decide_eq_false (by omega)
              have hg1' : decide ((i : Int) ≥ (la : Int)) = false := decide_eq_false (by omega)
              have hgn1 : ¬ (la : Int) ≤ (i : Int) := by omega
              have hii : (i : Int) < (la : Int) := by omega
              have hjj : (j : Int) < (lb : Int) := by omega
              have hNi : i < NA.length := by have := HLe.out.1; omega
              have hNj : j < NB.length := by have := HLe.out.2.1; omega
              have hcc : c2 = ltB NB[j] NA[i] := by
                cases h : ltB NB[j] NA[i]
                · refine Bool.eq_false_iff.2 fun h' => ?_
                  rcases HC2.out.1 h' with h1 | ⟨_, _, h1⟩
                  · omega
                  · rw [h] at h1; cases h1
                · exact HC2.out.2 (.inr ⟨hNi, hNj, h⟩)
              obtain ⟨⟨gp, gq, rfl, hcA⟩, hnA⟩ := HNA.out i (by have := HLe.out.1; omega)
              obtain ⟨⟨hp, hq, rfl, hcB⟩, hnB⟩ := HNB.out j (by have := HLe.out.2.1; omega)
              have fA := hcA _ HS0.out
              have fB := hcB _ HS0.out
              clear hcA hcB
              clear HC2 HNl
              subst hcc
              unfold ltB at *
              generalize NA[i] = s1 at *
              generalize NB[j] = s2 at *
              go_quiet (fail)
              go_wp2_with fail
              go_meet
              exact ⟨rfl, rfl, congrArg Value.bool (gt_bl _ _), _, rfl⟩
          case rest =>
            obtain ⟨rfl, rfl, rfl, qm, hwq⟩ := hcut
            obtain ⟨V1, hV1⟩ : ∃ V1, V1 = wc := ⟨_, rfl⟩
            rw [← hV1] at hwq ⊢
            clear hV1
            have HG1 : Hid (GrowK w.heap.size X (L + 1) W4 V1 so (acc.map Prod.fst) (acc.map Prod.snd) (.slice an ln anc) (.slice ak ln akc)) := by
              show GrowK _ _ _ _ _ _ _ _ _ _
              rw [hwq]; exact HG0.out.keep (by omega) (by omega) (Near.of_below (below_drewN (Below.refl _ _) qm))
            have HS1 : Hid (SameX X W4 V1) := by rw [hwq]; exact HS0.out
            clear hwq HG0 HS0 y1 y2 z1 z2 hzv
            have hzv := HG1.out.near.size
            obtain ⟨⟨y1, y2, z1, z2⟩, -⟩ := HBX.out V1 HS1.out
            cases hc2 : c2
            case true =>
              have HStep : Hid (∀ (h : j < NB.length) (h' : j < KB.length), MSt f ga gb (NA.zip KA) (NB.zip KB) i (j + 1) (acc ++ [(NB[j], gb KB[j])])) := fun h h' => HM.out.rightZ HLL.out.1 HLL.out.2 h h' ((HC2.out.1 hc2).imp (fun h => by have := HLe.out.1; omega) (fun h => by obtain ⟨h1, h2, h3⟩ := h; exact ⟨h1, HNl.out h1 h2, h3⟩))
              clear hc2 HC2 HNl
              as_aux_lemma =>
                have hNl : j < NB.length := by have := HLe.out.2.1; omega
                have hKl : j < KB.length := by have := HLe.out.2.2.2; omega
                have HStp := Lib.hid (HStep.out hNl hKl)
                have hK3 := HKB.out j hKl
                clear HStep
                generalize gb KB[j] = tk at *
                generalize KB[j] = kx at *
                obtain ⟨⟨np, nq, rfl, hcN⟩, hnm⟩ := HNB.out j hNl
                have fN := hcN _ HS1.out
                have hii : (j : Int) < (lb : Int) := by omega
                have x1 : V1.cell? ⟨X, 1, none⟩ = some (.slice an ln anc) := j3_at HG1.out.box 1 _ rfl
                have HXN : Hid (V1.ownsRow W4.heap.size 9 1 (.slice an ln anc) ln ((acc.map Prod.fst).map .string)) := by
                  have := HG1.out.names
                  rw [HL.out.2.1] at this; exact this
                have hoxN : ∀ o, (V1.drew.alloc o).ownsRow W4.heap.size 9 1 (.slice an ln anc) ln ((acc.map Prod.fst).map .string) := fun o => HXN.out.drew.alloc o
                have hXr : X < V1.heap.size := HG1.out.lt
                clear hcN
                generalize hnmE : NB[j] = nm at *
                clear hnmE
                go_upto_region 26 with fail
                go_cut [11, 12] from 64 to 203 (fun iv jv wx => iv = .int .i64 i ∧ jv = .int .i64 j ∧ ∃ g cap, GrowK w.heap.size X (L + 1) W4 wx so (acc.map Prod.fst ++ [nm]) (acc.map Prod.snd) (.slice (some ⟨g, 0, none⟩) (ln + 1) cap) (.slice ak ln akc) ∧ SameX X W4 wx)
                case first =>
                  go_region_law (first
                    | (refine step_append_lies _ (by rfl) (.tmp 182) (.tmp 188) 23 (by rfl) W4.heap.size 9 is0 _ 1 16 Tryz.underlying23 HIS.out.1 HIS.out.2.1 HIS.out.2.2.1 HIS.out.2.2.2 rfl (by decide) (.slice an ln anc) ln ((acc.map Prod.fst).map .string) (by rfl) (hoxN _) ⟨V1.heap.size, 0, none⟩ 1 1 [.string nm] (by rfl) rfl (World.news_of_block (heap_alloc_new V1.drew _)) (by simp [Value.oneCell']) (by decide) (by unfold maxLen; omega) (by omega) (by simp; omega) (V1.heap.size + 1) (by simp) ?_; intro g cap v3 hown hgrow hat hlt3; have hb3 := ((hgrow.block X (by simp; omega) (fun e => by have := r1_lt HXN.out _ e.symm; omega)).trans (Below.heap_alloc _ _ _ (by simpa using hXr))).trans HG1.out.box; have x1'' : v3.cell? ⟨X, 1, none⟩ = some (.slice an ln anc) := (by simp [World.cell?, hb3]); have xf'' : v3.frozen? ⟨X, 1, none⟩ = false := (by simp [World.frozen?, hb3])))
                  all_goals
                    have hMN := GrowK.name (Wa := V1.drew.alloc (.cells #[.string nm] 9)) (one := .cells #[.string nm] 9) (x := nm) (g := g) (cap := cap) HG1.out (by omega) rfl ⟨rfl, rfl, rfl⟩ hnm (by rw [HL.out.2.1]; exact hown) hgrow hat
                    rw [HL.out.2.1] at hMN
                    have HMN := Lib.hid hMN
                    have HSN : Hid (SameX X W4 (v3.setCell ⟨X, 1, none⟩ (.slice (some ⟨g, 0, none⟩) (ln + 1) cap))) := sameX_name HS1.out hzv HXN.out (Nat.le_refl _) hgrow

                    clear hMN hown hgrow hat hlt3 hb3 x1'' xf'' x1 fN
                    go_wp2_with fail
                    go_meet
                    exact ⟨rfl, rfl, _, _, HMN.out, HSN.out⟩
                case rest =>
                  obtain ⟨rfl, rfl, g, cap, hMN, hsN⟩ := hcut
                  obtain ⟨V2, hV2⟩ : ∃ V2, V2 = wc := ⟨_, rfl⟩
                  rw [← hV2] at hMN hsN ⊢
                  clear hV2 y1 y2 z1 z2 x1 fN
                  have hz2 := hMN.near.size
                  obtain ⟨⟨y1, y2, z1, z2⟩, -⟩ := HBX.out V2 hsN
                  obtain ⟨kp, kq, u0, ua, ul, uc, ta, tl, tc, rfl, -, hKW⟩ := hK3
                  obtain ⟨⟨q0, q1, q2⟩, -, -, hcal⟩ := hKW V2 hsN hz2
                  have HCm := Lib.hid hcal
                  have hki : (j : Int) < (mb : Int) := by omega
                  obtain ⟨xs, hxs, hkk⟩ := hMN.kids
                  have HKK := Lib.hid hkk
                  have HX : Hid (V2.ownsRow W4.heap.size 26 3 (.slice ak ln akc) ln xs) := by
                    rw [HL.out.2.2] at hxs; exact hxs
                  have x2 : V2.cell? ⟨X, 2, none⟩ = some (.slice ak ln akc) := j3_at hMN.box 2 _ rfl
                  have hX2 := hMN.lt
                  have HMN := Lib.hid hMN
                  have HSN : Hid (SameX X W4 V2) := hsN
                  clear hMN hsN hKW hcal hxs hkk HXN hoxN HG1 HS1 hXr
                  go_wp2_with fail
                  go_region_law (first
                    | (refine step_append_lies _ (by rfl) (.tmp 192) (.tmp 199) 24 (by rfl) W4.heap.size 26 ik0 _ 3 56 Tryz.underlying24 HIK.out.1 HIK.out.2.1 HIK.out.2.2.1 HIK.out.2.2.2 rfl (by decide) (.slice ak ln akc) ln xs (by rfl) (hox _) ⟨v2.heap.size, 0, none⟩ 1 1 [.int .i64 d0, .slice da dl dc, .slice ea el ec] (by rfl) rfl (World.news_of_block (heap_alloc_new v2 _)) (by simp [Value.oneCell']) (by decide) (by unfold maxLen; omega) (by omega) (by simp; omega) (v2.heap.size + 1) (by simp) ?_; intro g2 cap2 v3 hown2 hgrow2 hat2 hlt2; have hb6 := (((hgrow2.block X (by simp; omega) (fun e => by have := r1_lt HX.out _ e.symm; omega)).trans (Below.heap_alloc _ _ _ (by omega))).trans (hb5.block X (by simpa using hX2))).trans HMN.out.box; have x2'' : v3.cell? ⟨X, 2, none⟩ = some (.slice ak ln akc) := (by simp [World.cell?, hb6]); have xg'' : v3.frozen? ⟨X, 2, none⟩ = false := (by simp [World.frozen?, hb6]))
                    | (go_simp; go_at_call 32; refine HCm.out.mono ?_; rintro e v2 ⟨hb5, c0', c1', c2', rfl, hk5⟩; obtain ⟨d0, da, dl, dc, ea, el, ec, rfl, rfl, rfl⟩ := hk5.shape; have hn5 := Near.of_below (bb := w.heap.size) hb5; have hsz2 : V2.heap.size ≤ v2.heap.size := hn5.size; have hox := fun o => owns_onG (R := w.heap.size) (M := W4.heap.size) (W := V2.drew) HX.out.drew (by omega) hn5 o; have x2' : v2.cell? ⟨X, 2, none⟩ = some (.slice ak ln akc) := (World.cell?_of_block (hb5.block X (by simpa using hX2))).trans x2; have x2a : (v2.alloc (.cells #[.int .i64 d0, .slice da dl dc, .slice ea el ec] 26)).cell? ⟨X, 2, none⟩ = some (.slice ak ln akc) := (World.cell?_of_block (Below.heap_alloc _ _ _ (by show X < _; omega))).trans x2'))
                  all_goals
                    have hF := GrowK.kid (W := V2.drew) (W1 := v2) (Wa := v2.alloc (.cells #[.int .i64 d0, .slice da dl dc, .slice ea el ec] 26)) (one := .cells #[.int .i64 d0, .slice da dl dc, .slice ea el ec] 26) (g := g2) (cap := cap2) (xs := xs)
                      (HMN.out.keep (by omega) (by omega) ((Near.refl w.heap.size V2).drew)) (by omega) (by omega) (by omega) hn5 hk5 rfl ⟨rfl, rfl, rfl⟩ (by rw [HL.out.2.2]; exact HX.out.drew)
                      (fun q hq => by obtain ⟨a0, a1, a2, hd, hdt⟩ := HKK.out q hq; exact ⟨a0, a1, a2, hd, KindIn.keep (w := V2) (w' := V2.drew) (fun _ _ => rfl) (fun _ h => h) hdt⟩) (by rw [HL.out.2.2]; exact hown2) hgrow2 hat2
                    rw [HL.out.2.2] at hF
                    have HF := Lib.hid hF
                    have HSF : Hid (SameX X W4 (v3.setCell ⟨X, 2, none⟩ (.slice (some ⟨g2, 0, none⟩) (ln + 1) cap2))) := sameX_kid HSN.out hz2 HX.out (Nat.le_refl _) hb5 hgrow2
                    clear hF hown2 hgrow2 hat2 hlt2 hk5 hn5 hb5 hox x2' x2a x2'' xg'' hb6
                    go_wp2_with fail
                    go_roundw
                    case rel =>
                      have hL1 : (acc ++ [(nm, tk)]).length = ln + 1 := by rw [List.length_append, HL.out.1]; rfl
                      refine ⟨i, j + 1, acc ++ [(nm, tk)], some ⟨g, 0, none⟩, cap, some ⟨g2, 0, none⟩, cap2, by omega, by omega, by go_num, by go_num, by omega, HStp.out, ?_, HSF.out⟩
                      rw [hL1, List.map_append, List.map_append]
                      exact HF.out
                    case measure => simp [intOf]; omega
            case false =>
              have HBoth : Hid (∀ (hi : i < NA.length) (hi' : i < KA.length) (hj : j < NB.length) (hj' : j < KB.length), (f KA[i] KB[j] = none → mergeF f ga gb ((NA.zip KA).length + (NB.zip KB).length) (NA.zip KA) (NB.zip KB) = none) ∧ ∀ r, f KA[i] KB[j] = some r → MSt f ga gb (NA.zip KA) (NB.zip KB) (i + 1) (j + 1) (acc ++ [(NA[i], r)])) := fun hi hi' hj hj' => HM.out.bothZ HLL.out.1 HLL.out.2 hi hi' hj hj' (HNl.out hi hj) (fun h => by
                have := HC2.out.2 (.inr ⟨hi, hj, h⟩); rw [hc2] at this; cases this)
              clear hc2 HC2 HNl
              as_aux_lemma =>
                have hNi : i < NA.length := by have := HLe.out.1; omega
                have hKi : i < KA.length := by have := HLe.out.2.2.1; omega
                have hNj : j < NB.length := by have := HLe.out.2.1; omega
                have hKj : j < KB.length := by have := HLe.out.2.2.2; omega
                have HBo := Lib.hid (HBoth.out hNi hKi hNj hKj)
                have hK3 := HKA.out i hKi
                have hK4 := HKB.out j hKj
                have hJ3 := HJJ.out i hKi j hKj
                clear HBoth
                generalize f KA[i] KB[j] = o at *
                generalize KA[i] = kx at *
                generalize KB[j] = ky at *
                obtain ⟨kp, kq, u0, ua, ul, uc, ta, tl, tc, rfl, hkp, hKW⟩ := hK3
                obtain ⟨lp, lq, v0, va, vl, vc, sa, sl, sc, rfl, hlp, hLW⟩ := hK4
                have hiA : (i : Int) < (ma : Int) := by omega
                have hjB : (j : Int) < (mb : Int) := by omega
                have HSx : Hid (∀ W, Below V1.heap.size V1 W → SameX X W4 W) := fun W hW b hb hne => (hW.block b (by omega)).trans (HS1.out b hb hne)
                have HS : Hid (∀ W, Below V1.heap.size V1 W → (W.cell? ⟨w.heap.size, 2, none⟩ = some (.slice (some ⟨kp, kq, none⟩) ma kac) ∧ W.cell? ⟨kp, kq + i * 3, none⟩ = some (.int .i64 u0) ∧ W.cell? ⟨kp, kq + i * 3 + 1, none⟩ = some (.slice ua ul uc) ∧ W.cell? ⟨kp, kq + i * 3 + 2, none⟩ = some (.slice ta tl tc)) ∧ W.cell? ⟨w.heap.size + 1, 2, none⟩ = some (.slice (some ⟨lp, lq, none⟩) mb kbc) ∧ W.cell? ⟨lp, lq + j * 3, none⟩ = some (.int .i64 v0) ∧ W.cell? ⟨lp, lq + j * 3 + 1, none⟩ = some (.slice va vl vc) ∧ W.cell? ⟨lp, lq + j * 3 + 2, none⟩ = some (.slice sa sl sc)) := fun W hW => by
                  have hs := HSx.out W hW
                  have hzW : W4.heap.size ≤ W.heap.size := by have := hW.size; omega
                  obtain ⟨⟨-, c2, -, c4⟩, -⟩ := HBX.out W hs
                  exact ⟨⟨c2, (hKW W hs hzW).1⟩, c4, (hLW W hs hzW).1⟩
                have HCj : Hid (∀ W, Below V1.heap.size V1 W → Calls Tryz.prog 17 #[.agg #[.int .i64 u0, .slice ua ul uc, .slice ta tl tc], .agg #[.int .i64 v0, .slice va vl vc, .slice sa sl sc]] W fun e w' => ∃ (d0 : Int) (da : Option Addr) (dl dc : Nat) (ea : Option Addr) (el ec : Nat), e = .returned (.tuple #[.agg #[.int .i64 d0, .slice da dl dc, .slice ea el ec], .bool o.isSome]) ∧ (∀ r, o = some r → KindIn (fun b => W.heap.size ≤ b ∧ b < w'.heap.size) w' (L + 1) r (.int .i64 d0) (.slice da dl dc) (.slice ea el ec)) ∧ (V1.heap.size ≤ W.heap.size ∧ Below V1.heap.size V1 w') ∧ ∀ N, NewJ W N → NewJ w' N ∧ N < W.heap.size) := fun W hW => by
                  have hs := HSx.out W hW
                  have hzW : W4.heap.size ≤ W.heap.size := by have := hW.size; omega
                  obtain ⟨-, k1, k2, -⟩ := hKW W hs hzW
                  obtain ⟨-, k3, -, -⟩ := hLW W hs hzW
                  refine (hJ3 _ _ _ _ _ _ W k1 k3 k2).mono ?_
                  rintro e w' ⟨hb, d0, da, dl, dc, ea, el, ec, rfl, hk⟩
                  exact ⟨d0, da, dl, dc, ea, el, ec, rfl, hk, ⟨hW.size, below_step hW hW.size hb⟩, fun N q => ⟨q.keep hb, q.lt⟩⟩
                have hd0 : Below V1.heap.size V1 V1.drew := (Below.refl _ _).drew
                have n0 : ¬ V1.heap.size = w.heap.size := by omega
                have n1 : ¬ V1.heap.size = w.heap.size + 1 := by omega
                have n2 : ¬ V1.heap.size = kp := by omega
                have n3 : ¬ V1.heap.size = lp := by omega
                clear hKW hLW hJ3 y1 y2 z1 z2
                obtain ⟨⟨i0, i1, i2, i3⟩, j0, j1, j2, j3⟩ := HS.out V1 (Below.refl _ _)
                generalize hok : o.isSome = ok at *
                have HOK := Lib.hid hok
                clear hok
                go_upto_region 14 with fail
                go_cut [11, 12, 13, 14] from 64 to 203 (fun iv jv pv ov wx => iv = .int .i64 i ∧ jv = .int .i64 j ∧ ov = .bool ok ∧ ∃ A d0 da dl dc ea el ec, pv = .pointer (some ⟨A, 0, none⟩) ∧ GotJ L o V1.heap.size A (.int .i64 d0) (.slice da dl dc) (.slice ea el ec) wx ∧ Below V1.heap.size V1 wx)
                case first =>
                  go_region_held (fun W => (W.cell? ⟨w.heap.size, 2, none⟩ = some (.slice (some ⟨kp, kq, none⟩) ma kac) ∧ W.cell? ⟨kp, kq + i * 3, none⟩ = some (.int .i64 u0) ∧ W.cell? ⟨kp, kq + i * 3 + 1, none⟩ = some (.slice ua ul uc) ∧ W.cell? ⟨kp, kq + i * 3 + 2, none⟩ = some (.slice ta tl tc)) ∧ W.cell? ⟨w.heap.size + 1, 2, none⟩ = some (.slice (some ⟨lp, lq, none⟩) mb kbc) ∧ W.cell? ⟨lp, lq + j * 3, none⟩ = some (.int .i64 v0) ∧ W.cell? ⟨lp, lq + j * 3 + 1, none⟩ = some (.slice va vl vc) ∧ W.cell? ⟨lp, lq + j * 3 + 2, none⟩ = some (.slice sa sl sc)) (first | with_reducible assumption | go_keep) (first
                    | (go_at_call 17; refine (HCj.out _ (by (first | with_reducible assumption | (with_reducible refine below_alloc ?_ _; with_reducible assumption) | (with_reducible refine below_allocD ?_ _; with_reducible assumption)))).mono ?_; rintro e y3 ⟨d0, da, dl, dc, ea, el, ec, rfl, hd3, ⟨hW3, hy3⟩, hq3⟩; obtain ⟨⟨ic0, ic1, ic2, ic3⟩, jc0, jc1, jc2, jc3⟩ := HS.out y3 hy3; have hzc := hy3.size; have mca : ¬ y3.heap.size = w.heap.size := (by omega); have mcb : ¬ y3.heap.size = w.heap.size + 1 := (by omega); have mcc : ¬ y3.heap.size = kp := (by omega); have mcd : ¬ y3.heap.size = lp := (by omega); (first | with_reducible (have q := hq3 _ (newJ_at _)) | with_reducible (have q := hq3 _ (newJ_atD _)) | with_reducible (have q := hq3 _ q) | skip); (first | (obtain ⟨q, hN⟩ := q; obtain ⟨⟨r0, r1, r2⟩, f0, f1, f2⟩ := j3_cells q) | skip)))
                  all_goals
                    go_wp2_with fail
                    go_meet
                    first
                      | with_reducible exact ⟨rfl, rfl, rfl, _, _, _, _, _, _, _, _, rfl, got_set q hd3 (by omega) (by omega) (by omega), j3_below hy3 (by omega)⟩
                      | with_reducible exact ⟨rfl, rfl, rfl, _, _, _, _, _, _, _, _, rfl, got_new hd3 (by omega) (by omega), below_alloc hy3 _⟩
                case rest =>
                  obtain ⟨rfl, rfl, rfl, A, d0, da, dl, dc, ea, el, ec, rfl, hGo, hbc⟩ := hcut
                  obtain ⟨V2, hV2⟩ : ∃ V2, V2 = wc := ⟨_, rfl⟩
                  rw [← hV2] at hGo hbc ⊢
                  clear hV2 i0 i1 i2 i3 j0 j1 j2 j3 HCj HS hd0 n0 n1 n2 n3
                  have hz2 := hbc.size
                  have hGA : A < V2.heap.size := (Array.getElem?_eq_some_iff.1 hGo.box).1
                  have hAV := hGo.ge
                  have hsV2 := HSx.out V2 hbc
                  obtain ⟨⟨y1, y2, z1, z2⟩, hzz⟩ := HBX.out V2 hsV2
                  cases ok
                  case false =>
                    have ho : o = none := by have := HOK.out; cases o with
                      | none => rfl
                      | some r => cases this
                    obtain ⟨⟨r0, r1, r2⟩, f0, f1, f2⟩ := j3_cells hzz
                    have hnr := HG1.out.near
                    have HFin : Hid (JoinPost (L + 1) oo w (.returned (.tuple #[.agg #[.int .i64 0, .slice none 0 0, .slice none 0 0], .bool false])) (((V2.setCell ⟨w.heap.size + 1 + 1, 0, none⟩ (.int .i64 0)).setCell ⟨w.heap.size + 1 + 1, 1, none⟩ (.slice none 0 0)).setCell ⟨w.heap.size + 1 + 1, 2, none⟩ (.slice none 0 0))) := by
                      show JoinPost _ _ _ _ _
                      rw [HOO.out, HBo.out.1 ho]
                      exact join_none (HBel.out V2 _ _ _ hsV2 (by omega) (hbc.os.trans hnr.os) rfl (hbc.tape.trans hnr.tape) rfl (hbc.output.trans hnr.output) rfl) _ (by omega)
                    clear hGo hbc hsV2 hzz hnr HG1 HS1 HSx HM HBX HNA HNB HKA HKB HJJ y1 y2 z1 z2 ho
                    go_wp2_with fail
                    refine bodyPost_ret (v := .tuple #[.agg #[.int .i64 0, .slice none 0 0, .slice none 0 0], .bool false]) (by simp [results, Tryz.results17, go_sem, r0, r1, r2]) rfl ?_
                    exact HFin.out
                  case true =>
                    obtain ⟨tk, ho⟩ : ∃ tk, o = some tk := by have := HOK.out; cases o with
                      | none => cases this
                      | some r => exact ⟨r, rfl⟩
                    have HStp := Lib.hid (HBo.out.2 tk ho)
                    have HKd := Lib.hid (hGo.kind tk ho)
                    have HBox := Lib.hid hGo.box
                    have HG2 : Hid (GrowK w.heap.size X (L + 1) W4 V2 so (acc.map Prod.fst) (acc.map Prod.snd) (.slice an ln anc) (.slice ak ln akc)) := HG1.out.keep (by omega) (by omega) (Near.of_below hbc)
                    have HS2 : Hid (SameX X W4 V2) := hsV2
                    have HOld : Hid ((∀ b, (Value.slice an ln anc).ownBlock = some b → b < V1.heap.size) ∧ ∀ b, (Value.slice ak ln akc).ownBlock = some b → b < V1.heap.size) := ⟨fun b hb => (r1_lt HG1.out.names b hb).2, fun b hb => by
                      obtain ⟨xs, hxs, -⟩ := HG1.out.kids
                      exact (r1_lt hxs b hb).2⟩
                    have hX1 : X < V1.heap.size := HG1.out.lt
                    have hzw := hzv
                    clear hzv
                    have hzv := HG2.out.near.size
                    clear hGo hbc hsV2 hzz HG1 HS1 HSx ho HOK HBo
                    obtain ⟨⟨np, nq, rfl, hcN⟩, hnm⟩ := HNA.out i hNi
                    have fN := hcN _ HS2.out
                    have hii : (i : Int) < (la : Int) := by omega
                    have x1 : V2.cell? ⟨X, 1, none⟩ = some (.slice an ln anc) := j3_at HG2.out.box 1 _ rfl
                    have HXN : Hid (V2.ownsRow W4.heap.size 9 1 (.slice an ln anc) ln ((acc.map Prod.fst).map .string)) := by
                      have := HG2.out.names
                      rw [HL.out.2.1] at this; exact this
                    have hoxN : ∀ o, (V2.drew.alloc o).ownsRow W4.heap.size 9 1 (.slice an ln anc) ln ((acc.map Prod.fst).map .string) := fun o => HXN.out.drew.alloc o
                    have hXr : X < V2.heap.size := HG2.out.lt
                    clear hcN
                    generalize hnmE : NA[i] = nm at *
                    clear hnmE
                    go_upto_region 17 with fail
                    go_cut [11, 12, 13] from 64 to 203 (fun iv jv pv wx => iv = .int .i64 i ∧ jv = .int .i64 j ∧ pv = .pointer (some ⟨A, 0, none⟩) ∧ ∃ g cap, GrowK w.heap.size X (L + 1) W4 wx so (acc.map Prod.fst ++ [nm]) (acc.map Prod.snd) (.slice (some ⟨g, 0, none⟩) (ln + 1) cap) (.slice ak ln akc) ∧ SameX X W4 wx ∧ wx.heap[A]? = some (.cells #[.int .i64 d0, .slice da dl dc, .slice ea el ec] 26 (0, 0)) ∧ KindIn (Fr W4.heap.size (.slice (some ⟨g, 0, none⟩) (ln + 1) cap) (.slice ak ln akc) wx.heap.size) wx (L + 1) tk (.int .i64 d0) (.slice da dl dc) (.slice ea el ec))
                    case first =>
                      go_region_law (first
                        | (refine step_append_lies _ (by rfl) (.tmp 94) (.tmp 100) 23 (by rfl) W4.heap.size 9 is0 _ 1 16 Tryz.underlying23 HIS.out.1 HIS.out.2.1 HIS.out.2.2.1 HIS.out.2.2.2 rfl (by decide) (.slice an ln anc) ln ((acc.map Prod.fst).map .string) (by rfl) (hoxN _) ⟨V2.heap.size, 0, none⟩ 1 1 [.string nm] (by rfl) rfl (World.news_of_block (heap_alloc_new V2.drew _)) (by simp [Value.oneCell']) (by decide) (by unfold maxLen; omega) (by omega) (by simp; omega) (V2.heap.size + 1) (by simp) ?_; intro g cap v3 hown hgrow hat hlt3; have hb3 := ((hgrow.block X (by simp; omega) (fun e => by have := r1_lt HXN.out _ e.symm; omega)).trans (Below.heap_alloc _ _ _ (by simpa using hXr))).trans HG2.out.box; have x1'' : v3.cell? ⟨X, 1, none⟩ = some (.slice an ln anc) := (by simp [World.cell?, hb3]); have xf'' : v3.frozen? ⟨X, 1, none⟩ = false := (by simp [World.frozen?, hb3])))
                      all_goals
                        have hMN := GrowK.name (Wa := V2.drew.alloc (.cells #[.string nm] 9)) (one := .cells #[.string nm] 9) (x := nm) (g := g) (cap := cap) HG2.out (by omega) rfl ⟨rfl, rfl, rfl⟩ hnm (by rw [HL.out.2.1]; exact hown) hgrow hat
                        rw [HL.out.2.1] at hMN
                        have HMN := Lib.hid hMN
                        have HSN : Hid (SameX X W4 (v3.setCell ⟨X, 1, none⟩ (.slice (some ⟨g, 0, none⟩) (ln + 1) cap))) := sameX_name HS2.out hzv HXN.out (Nat.le_refl _) hgrow
                        have HGr := Lib.hid hgrow
                        have HAt := Lib.hid hat
                        clear hMN hown hgrow hat hlt3 hb3 x1'' xf'' x1 fN
                        go_wp2_with fail
                        go_meet
                        exact ⟨rfl, rfl, rfl, _, _, HMN.out, HSN.out, ((kid_name (cap := cap) HKd.out hzw hX1 HXN.out HOld.out.1 HOld.out.2 HGr.out HAt.out).2 A hAV hGA).trans HBox.out, (kid_name (cap := cap) HKd.out hzw hX1 HXN.out HOld.out.1 HOld.out.2 HGr.out HAt.out).1⟩
                    case rest =>
                      obtain ⟨rfl, rfl, rfl, g, cap, hMN, hsN, hbA, hkA⟩ := hcut
                      obtain ⟨V3, hV3⟩ : ∃ V3, V3 = wc := ⟨_, rfl⟩
                      rw [← hV3] at hMN hsN hbA hkA ⊢
                      clear hV3 y1 y2 z1 z2 x1 fN
                      have hz3 := hMN.near.size
                      obtain ⟨xs, hxs, hkk⟩ := hMN.kids
                      rw [HL.out.2.2] at hxs
                      have HKK := Lib.hid hkk
                      have HX := Lib.hid hxs
                      have HMN := Lib.hid hMN
                      have HSN : Hid (SameX X W4 V3) := hsN
                      have HKA3 := Lib.hid hkA
                      have x2 : V3.cell? ⟨X, 2, none⟩ = some (.slice ak ln akc) := j3_at hMN.box 2 _ rfl
                      have hX3 := hMN.lt
                      obtain ⟨⟨r0, r1, r2⟩, -⟩ := j3_cells hbA
                      clear hMN hsN hkA hxs hkk HXN hoxN HG2 HS2 hXr hbA
                      go_wp2_with (at_builtin; refine wpList_append_lies _ rfl (.tmp 104) (.tmp 106) 24 rfl W4.heap.size 26 ik0 _ 3 56 Tryz.underlying24 HIK.out.1 HIK.out.2.1 HIK.out.2.2.1 HIK.out.2.2.2 rfl (by decide) (.slice ak ln akc) ln xs rfl (HX.out.alloc _) ⟨V3.heap.size, 0, none⟩ 1 1 [.int .i64 d0, .slice da dl dc, .slice ea el ec] rfl rfl (World.news_of_block (heap_alloc_new V3 _)) (by simp [Value.oneCell']) (by decide) (by unfold maxLen; omega) (by omega) (by simp; omega) (V3.heap.size + 1) (by simp) ?_; intro g2 cap2 v3 hown2 hgrow2 hat2 hlt2; refine Hid.out ?_)
                      refine Lib.hid ?_
                      have hb6 := ((hgrow2.block X (by simp; omega) (fun e => by have := r1_lt HX.out _ e.symm; omega)).trans (Below.heap_alloc _ _ _ hX3)).trans HMN.out.box
                      have x2'' : v3.cell? ⟨X, 2, none⟩ = some (.slice ak ln akc) := by simp [World.cell?, hb6]
                      have xg'' : v3.frozen? ⟨X, 2, none⟩ = false := by simp [World.frozen?, hb6]
                      have hF := GrowK.kidF (W := V3) (W1 := V3) (Wa := V3.alloc (.cells #[.int .i64 d0, .slice da dl dc, .slice ea el ec] 26)) (one := .cells #[.int .i64 d0, .slice da dl dc, .slice ea el ec] 26) (g := g2) (cap := cap2) (xs := xs)
                        HMN.out (by omega) (by omega) (by omega) (Near.refl _ _) HKA3.out rfl ⟨rfl, rfl, rfl⟩ (by rw [HL.out.2.2]; exact HX.out) HKK.out (by rw [HL.out.2.2]; exact hown2) hgrow2 hat2
                      rw [HL.out.2.2] at hF
                      have HF := Lib.hid hF
                      have HSF : Hid (SameX X W4 (v3.setCell ⟨X, 2, none⟩ (.slice (some ⟨g2, 0, none⟩) (ln + 1) cap2))) := sameX_plain HSN.out hz3 HX.out (Nat.le_refl _) hgrow2
                      clear hF hown2 hgrow2 hat2 hlt2 hb6 x2
                      go_wp2_with fail
                      go_roundw
                      case rel =>
                        have hL1 : (acc ++ [(nm, tk)]).length = ln + 1 := by rw [List.length_append, HL.out.1]; rfl
                        refine ⟨i + 1, j + 1, acc ++ [(nm, tk)], some ⟨g, 0, none⟩, cap, some ⟨g2, 0, none⟩, cap2, by omega, by omega, by go_num, by go_num, by omega, HStp.out, ?_, HSF.out⟩
                        rw [hL1, List.map_append, List.map_append]
                        exact HF.out
                      case measure => simp [intOf]; omega

end Go.Proofs.YthcdeahobjhkbaaGreatDoor
