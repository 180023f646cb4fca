/-
 Several texts in one, in their order.
-/
import Derived.Test.YtpalkdcgbbbmeaaGreatDoorB23
import Derived.Deep.AppendLies
import Derived.Lib.Hide
import Derived.WalkSmall
import Derived.LoopTactic

/-
 The program's widenings: what is made of two forms, with what it does.
-/
namespace Go.Proofs.YtpalkdcgbbbmeaaGreatDoor
open Go.RowKit

theorem Tryz.info_wdv : (Tryz.prog.info? 76).map (fun i => (i.zero, i.size, i.bytes)) = some (some .nilFunc, 1, 8) := by kernel_rfl

def RowF (S : Nat → Prop) (X m : Nat) (w : World) (v : Value) (xs : List Value) (Q : Nat → (Nat → Prop) → World → Value → T m → Prop) : Prop :=
 ∀ q (h : q < xs.length), Fv (fun b => S b ∨ (X + 1 ≤ b ∧ b < w.heap.size ∧ v.ownBlock ≠ some b)) m w xs[q] (Q q)

theorem rowF_next {S : Nat → Prop} {X m : Nat} {wr w2 w3 : World} {Q : Nat → (Nat → Prop) → World → Value → T m → Prop} {k g cap : Nat} {v fv u : Value} {xs : List Value} {one : Obj} {e : TypeId} (h : RowF S X m wr v xs Q) (hS : ∀ b, S b → b < X) (hX : X < wr.heap.size) (hown : wr.ownsRow (X + 1) e 1 v k xs)
  (hb2 : Below wr.heap.size wr w2) (hF : Fv (fun b => S b ∨ (wr.heap.size ≤ b ∧ b < w2.heap.size)) m w2 fv (Q k)) (hgrow : (w2.alloc one).grownBy w3 v.ownBlock) (hat : v.ownBlock = some g ∨ g = w2.heap.size + 1) :
  RowF S X m (w3.setCell ⟨X, 0, none⟩ u) (.slice (some ⟨g, 0, none⟩) (k + 1) cap) (xs ++ [fv]) Q := by
 have hz2 := hb2.size
 have hz3 := hgrow.size
 simp at hz3
 have hrl : ∀ b, v.ownBlock = some b → X + 1 ≤ b ∧ b < wr.heap.size := r1_lt hown
 have hxl : xs.length = k := by simpa using hown.1
 have hsz : (w3.setCell ⟨X, 0, none⟩ u).heap.size = w3.heap.size := by simp
 have qs : ∀ b, b ≠ X → (w3.setCell ⟨X, 0, none⟩ u).heap[b]? = w3.heap[b]? := fun b hb => Below.heap_setCell _ _ _ _ hb
 have q3 : ∀ b, b < w2.heap.size → v.ownBlock ≠ some b → w3.heap[b]? = w2.heap[b]? := fun b hb hne => by
  rw [hgrow.block b (by simp; omega) (fun e => hne e.symm), Below.heap_alloc _ _ _ hb]
 have q2 : ∀ b, b < wr.heap.size → v.ownBlock ≠ some b → w3.heap[b]? = wr.heap[b]? := fun b hb hno => by
  rw [q3 b (by omega) hno, hb2.block b hb]
 have hfar : ∀ b, v.ownBlock ≠ some b → b < w2.heap.size → (Value.slice (some ⟨g, 0, none⟩) (k + 1) cap).ownBlock ≠ some b := by
  intro b h1 h2 e
  have e : g = b := by simpa [Value.ownBlock] using e
  rcases hat with h3 | h3
  · exact h1 (by rw [h3, e])
  · omega
 intro q hq
 by_cases hqk : q < k
 ·
  have hxq : q < xs.length := by omega
  rw [List.getElem_append_left hxq]
  refine (h q hxq).keep (fun b hb => ?_) (fun b hb => ?_)
  ·
   rcases hb with hb | ⟨hb1, hb2, hb3⟩
   ·
    have := hS b hb
    rw [qs b (by omega)]
    exact q2 b (by omega) (fun e => by have := hrl b e; omega)
   ·
    rw [qs b (by omega)]
    exact q2 b hb2 hb3
  ·
   rcases hb with hb | ⟨hb1, hb2, hb3⟩
   · exact .inl hb
   · exact .inr ⟨hb1, by rw [hsz]; omega, hfar b hb3 (by omega)⟩
 ·
  have hqk' : q = k := by simp at hq; omega
  subst hqk'
  have : (xs ++ [fv])[q] = fv := by simp [← hxl]
  rw [this]
  refine hF.keep (fun b hb => ?_) (fun b hb => ?_)
  ·
   rcases hb with hb | hb
   ·
    have := hS b hb
    rw [qs b (by omega)]
    exact q3 b (by omega) (fun e => by have := hrl b e; omega)
   ·
    rw [qs b (by omega)]
    exact q3 b hb.2 (fun e => by have := hrl b e; omega)
  ·
   rcases hb with hb | hb
   · exact .inl hb
   · exact .inr ⟨by omega, by rw [hsz]; omega, hfar b (fun e => by have := hrl b e; omega) hb.2⟩

theorem rowF_end {S : Nat → Prop} {X m : Nat} {wr : World} {Q : Nat → (Nat → Prop) → World → Value → T m → Prop} {k vc : Nat} {ao : Option Addr} {xs : List Value} {e : TypeId} (hown : wr.ownsRow (X + 1) e 1 (.slice ao k vc) k xs) (hR : RowF S X m wr (.slice ao k vc) xs Q) (j : Nat) (hj : j < k) :
  ∃ fb foff fv, ao = some ⟨fb, foff, none⟩ ∧ (X + 1 ≤ fb ∧ fb < wr.heap.size) ∧ wr.cell? ⟨fb, foff + j, none⟩ = some fv ∧ Fv (fun b => S b ∨ (X + 1 ≤ b ∧ b < wr.heap.size)) m wr fv (Q j) := by
 have hxl : xs.length = k := by simpa using hown.1
 rcases id hown.2 with ⟨h1, h0⟩ | ⟨g, cap, cur, h1, hbg, hg, -⟩
 · omega
 ·
  have hao : ao = some ⟨g, 0, none⟩ := by cases h1; rfl
  subst hao
  have hc := hown.cells (g := g) rfl j (xs[j]'(by omega)) (by simp)
  rw [Addr.add_lit] at hc
  exact ⟨g, 0, _, rfl, ⟨hbg, (Array.getElem?_eq_some_iff.1 hg).1⟩, hc, (hR j (by omega)).keep (fun _ _ => rfl) (fun b hb => hb.elim .inl (fun h => .inr ⟨h.1, h.2.1⟩))⟩

set_option maxRecDepth 20000 in
set_option maxHeartbeats 4000000 in
theorem ofForms_v (m n : Nat) (hm : FitSaidV m) (S : Nat → Prop) (a : K (n + 1)) (b : K (m + 1)) (va vb : Value) (d d' : Int) (R : Nat) (x : ByteArray) (w : World) (ha : InnerK S w (n + 1) a va) (hb : InnerK S w (m + 1) b vb) (hB : ∀ b, S b → b < w.heap.size) (hT : TabW w R) (hR : R < w.heap.size)
  (hga : goodK (n + 1) a d = true) (hgb : goodK (m + 1) b d' = true) (hc40 : cntK (m + 1) b ≤ 40) (hd : 1 ≤ d') (hx : (x.size : Int) ≤ 20 * d') (sa : Kd.sort a = 5) (sb : Kd.sort b = 5) :
  Calls Tryz.prog 75 #[.pointer (some ⟨R, 0, none⟩), .agg #[va, vb, .string x]] w fun e w' => Below w.heap.size w w' ∧ EndV (m + 1) (fitsK (m + 1) b (n + 1) a) (WidR (m + 1) b (n + 1) a) S w e w' := by
 have hka : riseB (Kd.names a) = true := by
  rcases goodK_kids hga with ⟨h, -⟩ | ⟨h, -⟩ | ⟨-, -, h⟩
  · omega
  · omega
  · exact h
 have hkb : (Kd.names b).length = (Kd.kids b).length ∧ riseB (Kd.names b) = true := by
  rcases goodK_kids hgb with ⟨h, -⟩ | ⟨h, -⟩ | ⟨-, h⟩
  · omega
  · omega
  · exact h
 have h39 : (Kd.names b).length ≤ 39 := by rw [hkb.1]; exact kids_39 hgb hc40
 have hina := ha
 have hinb := hb
 obtain ⟨pa, nva, pva, kva, rfl, hSa, hca, hna, -, -⟩ := ha
 obtain ⟨pb, nvb, pvb, kvb, rfl, hSb, hcb, hnb, hpb, hrb⟩ := hb
 have hpb := hpb sb
 obtain ⟨nao, nac, rfl, hnal, -, hnac⟩ := hna
 obtain ⟨nbo, nbc, rfl, hnbl, -, hnbc⟩ := hnb
 obtain ⟨kbo, kbc, rfl, -, hkbc⟩ := hrb
 have hla := hB pa hSa
 have hlb := hB pb hSb
 have hst : ∀ (a : Addr) (md : Mode) (fn : Fn) (first cap : Array Value) (w : World), (store a (.func fn first cap) md).run Tryz.prog w = stored Tryz.prog w a (.func fn first cap) md := fun a md _ _ _ w => run_store _ w a _ md rfl
 have hmf : ∀ (fn : Fn) (first cap : Array Value) (w : World), (Instr.makeFunc fn first cap).run Tryz.prog w = .ok (.func fn first cap) w := fun _ _ _ _ => rfl
 have HFY : Hid (∀ W s, Below w.heap.size w W → s.size ≤ maxLen → s ∈ Kd.names b → ∃ qb, Calls Tryz.prog 96 #[.pointer (some ⟨pb, 0, none⟩), .string s] W fun e w' => e = .returned (.pointer (some ⟨qb, 0, none⟩)) ∧ w' = W) := fun W s hW hs hmem => by
  obtain ⟨q, hq, rfl⟩ := List.getElem_of_mem hmem
  have hqk : q < (Kd.kids b).length := by omega
  obtain ⟨g, o, rfl, hSg, hkids⟩ := hkbc (by intro h; rw [h] at hqk; simp at hqk)
  obtain ⟨c, ec, hic⟩ := hkids q hqk
  obtain ⟨qb, rfl, -⟩ := id hic.ptr
  exact ⟨qb, field_yes S W (Kd.names b) pvb pb g o (Kd.kids b).length kbc qb q ((hW.cell (p := ⟨pb, 2, none⟩) hlb).trans (by simp [World.cell?, hcb])) (hpb.keep (same_below hW hB) (fun _ h => h)) (asc_of _ hkb.2) hq hs ((hW.cell (p := ⟨pb, 3, none⟩) hlb).trans (by simp [World.cell?, hcb])) hqk ((hW.cell (p := ⟨g, o + q, none⟩) (hB g hSg)).trans ec)⟩
 have HFN : Hid (∀ W s, Below w.heap.size w W → s.size ≤ maxLen → s ∉ Kd.names b → Calls Tryz.prog 96 #[.pointer (some ⟨pb, 0, none⟩), .string s] W fun e w' => e = .returned (.pointer none) ∧ w' = W) := fun W s hW hs hmem =>
  field_no S W (Kd.names b) pvb pb s ((hW.cell (p := ⟨pb, 2, none⟩) hlb).trans (by simp [World.cell?, hcb])) (hpb.keep (same_below hW hB) (fun _ h => h)) hmem hs
 have HOF : Hid (∀ W, Below w.heap.size w W → ∀ j (hj : j < (Kd.names b).length) (hj' : j < (Kd.kids b).length), Calls Tryz.prog 101 #[.pointer (some ⟨R, 0, none⟩), .agg #[.pointer (some ⟨pa, 0, none⟩), .pointer (some ⟨pb, 0, none⟩), .string x], .string (Kd.names b)[j]] W fun e w' => Below W.heap.size W w' ∧ EndV m (fieldFits n (Kd.names a) (Kd.kids a) m (Kd.names b)[j] (Kd.kids b)[j]) (FieldR n (Kd.names a) (Kd.kids a) m (Kd.names b)[j] (Kd.kids b)[j]) S W e w') := fun W hW j hj hj' =>
  ofFields_v m n hm S a b _ _ d d' R x W (hina.keep (same_below hW hB) (fun _ h => h)) (hinb.keep (same_below hW hB) (fun _ h => h)) (fun b hb => Nat.lt_of_lt_of_le (hB b hb) hW.size) (hT.keep (hW.block R hR)) (Nat.lt_of_lt_of_le hR hW.size) hga hgb hc40 hd hx sa sb j hj hj'
 have HNA : Hid (∀ i (hi : i < (Kd.names a).length), ∃ g o, nao = some ⟨g, o, none⟩ ∧ g < w.heap.size ∧ w.cell? ⟨g, o + i, none⟩ = some (.string (Kd.names a)[i]) ∧ (Kd.names a)[i].size ≤ maxLen) := fun i hi => by
  obtain ⟨g, o, e, hSg, hc⟩ := hnac (by intro h; rw [h] at hi; simp at hi)
  exact ⟨g, o, e, hB g hSg, hc i hi, by have := name_short hka i hi; unfold maxLen; omega⟩
 have HNB : Hid (∀ i (hi : i < (Kd.names b).length), ∃ g o, nbo = some ⟨g, o, none⟩ ∧ g < w.heap.size ∧ w.cell? ⟨g, o + i, none⟩ = some (.string (Kd.names b)[i])) := fun i hi => by
  obtain ⟨g, o, e, hSg, hc⟩ := hnbc (by intro h; rw [h] at hi; simp at hi)
  exact ⟨g, o, e, hB g hSg, hc i hi⟩
 have HNo : Hid (∀ i (hi : i < (Kd.names a).length), (Kd.names a)[i] ∉ Kd.names b → fitsK (m + 1) b (n + 1) a = false) := fun i hi h => fitsK_form_no sb sa i hi h
 have HBad : Hid (∀ j (hj : j < (Kd.names b).length) (hk : j < (Kd.kids b).length), fieldFits n (Kd.names a) (Kd.kids a) m (Kd.names b)[j] (Kd.kids b)[j] = false → fitsK (m + 1) b (n + 1) a = false) := fun j hj hk h => fitsK_form_bad sb sa j hj hk h
 have HYes : Hid ((∀ i (h : i < (Kd.names a).length), (Kd.names a)[i] ∈ Kd.names b) → (∀ j (h : j < (Kd.names b).length) (h' : j < (Kd.kids b).length), fieldFits n (Kd.names a) (Kd.kids a) m (Kd.names b)[j] (Kd.kids b)[j] = true) → fitsK (m + 1) b (n + 1) a = true) := fitsK_form_yes sb sa
 have HEnd : Hid (∀ (W : World) (X vc : Nat) (ao : Option Addr), Below w.heap.size w W → w.heap.size + 1 ≤ X → X < W.heap.size → (W.cell? ⟨w.heap.size, 0, none⟩ = some (.pointer (some ⟨pa, 0, none⟩)) ∧ W.cell? ⟨w.heap.size, 1, none⟩ = some (.pointer (some ⟨pb, 0, none⟩)) ∧ W.cell? ⟨w.heap.size, 2, none⟩ = some (.string x)) → W.cell? ⟨X, 0, none⟩ = some (.slice ao (Kd.names b).length vc) →
   (∀ j (_ : j < (Kd.names b).length), ∃ fb foff fv, ao = some ⟨fb, foff, none⟩ ∧ (X + 1 ≤ fb ∧ fb < W.heap.size) ∧ W.cell? ⟨fb, foff + j, none⟩ = some fv ∧ Fv (fun b => S b ∨ (X + 1 ≤ b ∧ b < W.heap.size)) m W fv (FieldQ n (Kd.names a) (Kd.kids a) m (Kd.names b) (Kd.kids b) j)) →
   Fv (fun b => S b ∨ (w.heap.size ≤ b ∧ b < W.heap.size)) (m + 1) W (.func (.func 102) #[] #[.pointer (some ⟨w.heap.size, 0, none⟩), .pointer (some ⟨X, 0, none⟩)]) (WidR (m + 1) b (n + 1) a)) := fun W X vc ao hW hX hXW hp hc hf =>
  fv_form _ m n w.heap.size X pa pb ao vc x b a d d' W (hina.keep (same_below hW hB) (fun _ h => .inl h)) (hinb.keep (same_below hW hB) (fun _ h => .inl h)) hp (.inr ⟨Nat.le_refl _, by omega⟩) hc (.inr ⟨by omega, hXW⟩)
   (fun j hj => by
    obtain ⟨fb, foff, fv, h1, h2, h3, h4⟩ := hf j hj
    exact ⟨fb, foff, fv, h1, .inr ⟨by omega, h2.2⟩, h3, h4.keep (fun _ _ => rfl) (fun b hb => hb.elim .inl (fun h => .inr ⟨by omega, h.2⟩))⟩) hga hgb h39 sa sb
 have HSX : Hid (∀ X b, w.heap.size + 1 ≤ X → S b → b < X) := fun X b hX hb => by have := hB b hb; omega
 have HLen : Hid ((Kd.names b).length = (Kd.kids b).length) := hkb.1
 have HMax : Hid ((Kd.names b).length ≤ 39) := h39
 have HA : Hid (w.heap[pa]? = some (.cells #[.int .i64 (Kd.sort a), .slice nao (Kd.names a).length nac, pva, kva] 118 (0, 0)) ∧ w.heap[pb]? = some (.cells #[.int .i64 (Kd.sort b), .slice nbo (Kd.names b).length nbc, pvb, .slice kbo (Kd.kids b).length kbc] 118 (0, 0))) := ⟨hca, hcb⟩
 obtain ⟨W0, hW0⟩ : ∃ W0, W0 = w.alloc (.cells #[.pointer (some ⟨pa, 0, none⟩), .pointer (some ⟨pb, 0, none⟩), .string x] 67) := ⟨_, rfl⟩
 have hb0 : Below w.heap.size w W0 := by rw [hW0]; exact (Below.refl _ _).alloc (Nat.le_refl _) _
 have hz0 : W0.heap.size = w.heap.size + 1 := by rw [hW0]; simp
 have hp0 : W0.heap[w.heap.size]? = some (.cells #[.pointer (some ⟨pa, 0, none⟩), .pointer (some ⟨pb, 0, none⟩), .string x] 67 (0, 0)) := by rw [hW0]; exact heap_alloc_new _ _
 have HP : Hid (∀ W, Below W0.heap.size W0 W → Below w.heap.size w W ∧ (W.cell? ⟨w.heap.size, 0, none⟩ = some (.pointer (some ⟨pa, 0, none⟩)) ∧ W.cell? ⟨w.heap.size, 1, none⟩ = some (.pointer (some ⟨pb, 0, none⟩)) ∧ W.cell? ⟨w.heap.size, 2, none⟩ = some (.string x)) ∧ W.cell? ⟨pa, 1, none⟩ = some (.slice nao (Kd.names a).length nac) ∧ W.cell? ⟨pb, 1, none⟩ = some (.slice nbo (Kd.names b).length nbc)) := fun W hW => by
  have hbW := below_step hb0 (by omega) hW
  have e := (hW.block w.heap.size (by omega)).trans hp0
  have ea := (hbW.block pa hla).trans HA.out.1
  have eb := (hbW.block pb hlb).trans HA.out.2
  exact ⟨hbW, ⟨by simp [World.cell?, e], by simp [World.cell?, e], by simp [World.cell?, e]⟩, by simp [World.cell?, ea], by simp [World.cell?, eb]⟩
 have hi0 := HP.out W0 (Below.refl _ _)
 obtain ⟨-, ⟨c0, c1, c2⟩, cA, cB⟩ := hi0
 clear hm hT hga hgb hka hkb hina hinb hca hcb hpb hnac hnbc hkbc hb0 hp0 hx
 unfold maxLen at hnal hnbl
 rw [hW0] at c0 c1 c2 cA cB
 go_enter Tryz.func75, Tryz.ntmps75
 go_wp2_with fail
 rw [← hW0]
 clear hW0 c0 c1 c2 cA cB
 go_loopw [19] (fun iv wr => ∃ j : Nat, j ≤ (Kd.names a).length ∧ iv = .int .i64 j ∧ Below W0.heap.size W0 wr ∧ ∀ q (h : q < (Kd.names a).length), q < j → (Kd.names a)[q] ∈ Kd.names b) (fun iv _ => (Kd.names a).length - (intOf iv).toNat)
 case atStart => exact ⟨0, Nat.zero_le _, rfl, Below.refl _ _, fun q _ h => absurd h (Nat.not_lt_zero _)⟩
 case round =>
  obtain ⟨j, hj, rfl, hbel, hmem⟩ := hrel
  obtain ⟨hbw, ⟨c0, c1, c2⟩, cA, cB⟩ := HP.out wr hbel
  have HM := hidF hmem
  have hzr := hbel.size
  clear hmem
  by_cases hlt : j < (Kd.names a).length
  ·
   have hlti : (j : Int) < ((Kd.names a).length : Int) := by omega
   have HLT := hidF hlt
   obtain ⟨g, o, hno, hg, hcell, hsz⟩ := HNA.out j hlt
   have f1 := (hbw.cell (p := ⟨g, o + j, none⟩) hg).trans hcell
   clear hcell
   subst hno
   by_cases hin : (Kd.names a)[j] ∈ Kd.names b
   ·
    obtain ⟨qb, hcall⟩ := HFY.out wr _ hbw hsz hin
    have HC := hidF hcall
    have HMN : Hid (∀ q (h : q < (Kd.names a).length), q < j + 1 → (Kd.names a)[q] ∈ Kd.names b) := by
     intro q h hq
     by_cases hqj : q < j
     · exact HM.out q h hqj
     ·
      have e : q = j := by omega
      subst e; exact hin
    clear hcall hin
    generalize (Kd.names a)[j] = s at *
    go_wp2_with fail
    refine HC.out.mono ?_
    rintro e w2 ⟨rfl, rfl⟩
    go_wp2_with fail
    go_roundw
    case rel => exact ⟨j + 1, HLT.out, by go_num, hbel, HMN.out⟩
    case measure => have := HLT.out; simp [intOf]; omega
   ·
    have HC : Hid (Calls Tryz.prog 96 _ _ _) := HFN.out wr _ hbw hsz hin
    have HF : Hid (fitsK (m + 1) b (n + 1) a = false) := HNo.out j hlt hin
    clear hin
    generalize (Kd.names a)[j] = s at *
    go_wp2_with fail
    refine HC.out.mono ?_
    rintro e w2 ⟨rfl, rfl⟩
    go_wp2_with fail
    go_quiet (fail)
    go_wp2_with fail
    go_ret2
    exact ⟨below_drewN hbw _, .inr ⟨HF.out, _, rfl⟩⟩
  ·
   have hlti : ¬ (j : Int) < ((Kd.names a).length : Int) := by omega
   have HAll : Hid (∀ i (h : i < (Kd.names a).length), (Kd.names a)[i] ∈ Kd.names b) := fun i h => HM.out i h (by omega)
   have HBw : Hid (Below w.heap.size w wr ∧ Below W0.heap.size W0 wr) := ⟨hbw, hbel⟩
   obtain ⟨X, hX⟩ : ∃ X, X = wr.heap.size := ⟨_, rfl⟩
   obtain ⟨V, hV⟩ : ∃ V, V = wr.alloc (.cells #[.slice none 0 0] 152) := ⟨_, rfl⟩
   have hbV : Below X wr V := by rw [hV, hX]; exact (Below.refl _ _).alloc (Nat.le_refl _) _
   have hXV : V.heap[X]? = some (.cells #[.slice none 0 0] 152 (0, 0)) := by rw [hV, hX]; exact heap_alloc_new _ _
   have HV : Hid (Below X wr V ∧ V.heap[X]? = some (.cells #[.slice none 0 0] 152 (0, 0)) ∧ w.heap.size + 1 ≤ X ∧ V.heap.size = X + 1) := ⟨hbV, hXV, by omega, by rw [hV, hX]; simp⟩
   have HQ : Hid (∀ W, Below X wr W → Below w.heap.size w W ∧ (W.cell? ⟨w.heap.size, 0, none⟩ = some (.pointer (some ⟨pa, 0, none⟩)) ∧ W.cell? ⟨w.heap.size, 1, none⟩ = some (.pointer (some ⟨pb, 0, none⟩)) ∧ W.cell? ⟨w.heap.size, 2, none⟩ = some (.string x)) ∧ W.cell? ⟨pa, 1, none⟩ = some (.slice nao (Kd.names a).length nac) ∧ W.cell? ⟨pb, 1, none⟩ = some (.slice nbo (Kd.names b).length nbc)) := fun W hW => by
    have hW' : Below wr.heap.size wr W := by rw [← hX]; exact hW
    exact HP.out W (below_step hbel (by omega) hW')
   obtain ⟨-, ⟨d0, d1, d2⟩, dA, dB⟩ := HQ.out V hbV
   rw [hV] at d0 d1 d2 dA dB
   have hXs : wr.heap.size = X := hX.symm
   clear hX hbV hXV HM
   go_wp2_with fail
   rw [← hV]
   clear hV d0 d1 d2 dA dB hlti hlt cA cB c0 c1 c2 hbw hbel hzr
   clear hXs
   obtain ⟨wz, hwz⟩ : ∃ wz, wz = wr := ⟨_, rfl⟩
   rw [← hwz] at HV HQ
   clear hwz HBw
   go_loopw [39] (fun iv wq => ∃ (j va vc : Nat) (ao : Option Addr) (xs : List Value), j ≤ (Kd.names b).length ∧ iv = .int .i64 j ∧ Below X wz wq ∧ wq.heap[X]? = some (.cells #[.slice ao j vc] 152 (0, 0)) ∧ va = 0 ∧ wq.ownsRow (X + 1) 76 1 (.slice ao j vc) j xs ∧ RowF S X m wq (.slice ao j vc) xs (FieldQ n (Kd.names a) (Kd.kids a) m (Kd.names b) (Kd.kids b)) ∧ ∀ q (h : q < (Kd.names b).length) (h' : q < (Kd.kids b).length), q < j → fieldFits n (Kd.names a) (Kd.kids a) m (Kd.names b)[q] (Kd.kids b)[q] = true) (fun iv _ => (Kd.names b).length - (intOf iv).toNat)
   case atStart => exact ⟨0, 0, 0, none, [], Nat.zero_le _, rfl, HV.out.1, HV.out.2.1, rfl, World.ownsRow_nil _ _ _ _, fun q h => absurd h (Nat.not_lt_zero _), fun q _ _ h => absurd h (Nat.not_lt_zero _)⟩
   case round =>
    obtain ⟨j2, va, vc, ao, xs, hj2, rfl, hbq, hbox, -, hown, hrf, hall⟩ := hrel
    have HRF := hidF hrf
    clear hrf
    obtain ⟨hbw, ⟨c0, c1, c2⟩, cA, cB⟩ := HQ.out wr hbq
    have HBq : Hid (Below X wz wr) := hbq
    have HBx := hidF hbox
    have HO := hidF hown
    have HAl := hidF hall
    have hXr : X < wr.heap.size := (Array.getElem?_eq_some_iff.1 hbox).1
    clear hall hown hbox hbq
    by_cases hlt : j2 < (Kd.names b).length
    ·
     have hlti : (j2 : Int) < ((Kd.names b).length : Int) := by omega
     have HLT := hidF hlt
     have hlt' : j2 < (Kd.kids b).length := by rw [← HLen.out]; exact hlt
     obtain ⟨g, o, hno, hg, hcell⟩ := HNB.out j2 hlt
     have f1 := (hbw.cell (p := ⟨g, o + j2, none⟩) hg).trans hcell
     have HC := HOF.out wr hbw j2 hlt hlt'
     have HMx : Hid (j2 + 1 ≤ 39) := Nat.le_trans hlt HMax.out
     clear hcell
     subst hno
     cases hfit : fieldFits n (Kd.names a) (Kd.kids a) m (Kd.names b)[j2] (Kd.kids b)[j2]
     ·
      have HF : Hid (fitsK (m + 1) b (n + 1) a = false) := HBad.out j2 hlt hlt' hfit
      have HC' : Hid (Calls Tryz.prog 101 #[.pointer (some ⟨R, 0, none⟩), .agg #[.pointer (some ⟨pa, 0, none⟩), .pointer (some ⟨pb, 0, none⟩), .string x], .string (Kd.names b)[j2]] wr fun e w' => Below wr.heap.size wr w' ∧ ∃ z : ByteArray, e = .returned (.tuple #[.nilFunc, .iface 132 (.agg #[.string z])])) := HC.mono fun e w' h => ⟨h.1, h.2.elim (fun h => absurd (h.1.symm.trans hfit) (by simp)) (fun h => h.2)⟩
      clear HC hfit
      generalize (Kd.names b)[j2] = s at *
      go_wp2_with fail
      refine HC'.out.mono ?_
      rintro e w2 ⟨hb2, z, rfl⟩
      go_wp2_with fail
      go_ret2
      exact ⟨below_step hbw hbw.size hb2, .inr ⟨HF.out, _, rfl⟩⟩
     ·
      have HC' : Hid (Calls Tryz.prog 101 #[.pointer (some ⟨R, 0, none⟩), .agg #[.pointer (some ⟨pa, 0, none⟩), .pointer (some ⟨pb, 0, none⟩), .string x], .string (Kd.names b)[j2]] wr fun e w' => Below wr.heap.size wr w' ∧ ∃ fn first cap, e = .returned (.tuple #[.func fn first cap, .nilIface]) ∧ Hid (Fv (fun b => S b ∨ (wr.heap.size ≤ b ∧ b < w'.heap.size)) m w' (.func fn first cap) (FieldQ n (Kd.names a) (Kd.kids a) m (Kd.names b) (Kd.kids b) j2))) := HC.mono fun e w' h => ⟨h.1, h.2.elim (fun h => by obtain ⟨-, fn, first, cap, he, hF⟩ := h; exact ⟨fn, first, cap, he, hF.sub (fun _ _ _ _ hq => hq hlt hlt')⟩) (fun h => absurd (h.1.symm.trans hfit) (by simp))⟩
      have HAN : Hid (∀ q (h : q < (Kd.names b).length) (h' : q < (Kd.kids b).length), q < j2 + 1 → fieldFits n (Kd.names a) (Kd.kids a) m (Kd.names b)[q] (Kd.kids b)[q] = true) := by
       intro q h h' hq
       by_cases hqj : q < j2
       · exact HAl.out q h h' hqj
       ·
        have e : q = j2 := by omega
        subst e; exact hfit
      clear HC hfit
      generalize (Kd.names b)[j2] = s at *
      go_wp2_with fail
      refine HC'.out.mono ?_
      rintro e w2 ⟨hb2, fn, first, cap, rfl, hF2⟩
      have HB20 : Hid (Below wr.heap.size wr w2) := hb2
      have hz2 := hb2.size
      have hbx2 := (hb2.block X hXr).trans HBx.out
      have x0 : w2.cell? ⟨X, 0, none⟩ = some (.slice ao j2 vc) := by simp [World.cell?, hbx2]
      have HO2 : Hid (w2.ownsRow (X + 1) 76 1 (.slice ao j2 vc) j2 xs) := r1_keep HO.out (fun g' hg' => hb2.block g' (r1_lt HO.out g' hg').2)
      have HB2 : Hid (Below X wz w2) := HBq.out.trans (hb2.mono (by omega))
      have HX2 := hidF hbx2
      obtain ⟨i0, hi0, hy0, hy1, hyb⟩ := info_parts Tryz.info_wdv
      have HI : Hid (_ ∧ _ ∧ _ ∧ _) := ⟨hi0, hy0, hy1, hyb⟩
      have hmx := HMx.out
      clear hi0 hy0 hy1 hyb hb2 hbx2 HC' f1
      go_wp2_with (at_builtin; refine wpList_append_lies _ rfl (.tmp 53) (.tmp 55) 152 rfl (X + 1) 76 i0 _ 1 8 Tryz.underlying152 HI.out.1 HI.out.2.1 HI.out.2.2.1 HI.out.2.2.2 rfl (by decide) (.slice ao j2 vc) j2 xs rfl (HO2.out.alloc _) ⟨w2.heap.size, 0, none⟩ 1 1 [.func fn first cap] rfl rfl (World.news_of_block (heap_alloc_new w2 _)) (by simp [Value.oneCell']) (by decide) (by unfold maxLen; omega) (by omega) (by simp; omega) (w2.heap.size + 1) (by simp) ?_; intro g3 cap3 w3 hown3 hgrow3 hat3 hlt3; refine Hid.out ?_)
      refine Lib.hid ?_
      have hb6 := ((hgrow3.block X (by simp; omega) (fun e => by have := r1_lt HO2.out _ e.symm; omega)).trans (Below.heap_alloc _ _ _ (by omega))).trans HX2.out
      have x0'' : w3.cell? ⟨X, 0, none⟩ = some (.slice ao j2 vc) := by simp [World.cell?, hb6]
      have xf'' : w3.frozen? ⟨X, 0, none⟩ = false := by simp [World.frozen?, hb6]
      have HB3 : Hid (Below X wz w3) := (HB2.out.alloc (by omega) (.cells #[.func fn first cap] 76)).grown hgrow3 (by simp; omega) (fun q hq => by have := r1_lt HO2.out q hq; omega)
      have HF : Hid (Below X wz (w3.setCell ⟨X, 0, none⟩ (.slice (some ⟨g3, 0, none⟩) (j2 + 1) cap3)) ∧ (w3.setCell ⟨X, 0, none⟩ (.slice (some ⟨g3, 0, none⟩) (j2 + 1) cap3)).heap[X]? = some (.cells #[.slice (some ⟨g3, 0, none⟩) (j2 + 1) cap3] 152 (0, 0)) ∧ (w3.setCell ⟨X, 0, none⟩ (.slice (some ⟨g3, 0, none⟩) (j2 + 1) cap3)).ownsRow (X + 1) 76 1 (.slice (some ⟨g3, 0, none⟩) (j2 + 1) cap3) (j2 + 1) (xs ++ [.func fn first cap])) :=
       ⟨HB3.out.setCell (Nat.le_refl _) _, by simp [World.setCell, Array.getElem?_modify, hb6], r1_keep hown3 fun g' hg' => Below.heap_setCell _ _ _ _ (by have := r1_lt hown3 g' hg'; show g' ≠ X; omega)⟩
      have HRN : Hid (RowF S X m (w3.setCell ⟨X, 0, none⟩ (.slice (some ⟨g3, 0, none⟩) (j2 + 1) cap3)) (.slice (some ⟨g3, 0, none⟩) (j2 + 1) cap3) (xs ++ [.func fn first cap]) (FieldQ n (Kd.names a) (Kd.kids a) m (Kd.names b) (Kd.kids b))) := rowF_next HRF.out (fun b hb => HSX.out X b HV.out.2.2.1 hb) hXr HO.out HB20.out hF2.out hgrow3 hat3
      clear hown3 hgrow3 hat3 hb6 HB3 HO2 HX2 HB2 x0 HB20 hF2
      go_wp2_with fail
      go_roundw
      case rel => exact ⟨j2 + 1, 0, cap3, some ⟨g3, 0, none⟩, _, HLT.out, by go_num, HF.out.1, HF.out.2.1, rfl, HF.out.2.2, HRN.out, HAN.out⟩
      case measure => have := HLT.out; simp [intOf]; omega
    ·
     have hlti : ¬ (j2 : Int) < ((Kd.names b).length : Int) := by omega
     have HF : Hid (fitsK (m + 1) b (n + 1) a = true) := HYes.out HAll.out (fun q h h' => HAl.out q h h' (by omega))
     have hjl : j2 = (Kd.names b).length := by omega
     have xw : wr.cell? ⟨X, 0, none⟩ = some (.slice ao (Kd.names b).length vc) := by rw [← hjl]; simp [World.cell?, HBx.out]
     have HZ : Hid (Fv (fun b => S b ∨ (w.heap.size ≤ b ∧ b < wr.heap.size)) (m + 1) wr (.func (.func 102) #[] #[.pointer (some ⟨w.heap.size, 0, none⟩), .pointer (some ⟨X, 0, none⟩)]) (WidR (m + 1) b (n + 1) a)) := HEnd.out wr X vc ao hbw HV.out.2.2.1 hXr ⟨c0, c1, c2⟩ xw (fun j hj => rowF_end HO.out HRF.out j (by omega))
     clear hjl xw
     go_wp2_with fail
     go_ret2
     exact ⟨hbw, .inl ⟨HF.out, .func 102, #[], #[.pointer (some ⟨w.heap.size, 0, none⟩), .pointer (some ⟨X, 0, none⟩)], rfl, HZ.out⟩⟩

end Go.Proofs.YtpalkdcgbbbmeaaGreatDoor

/-
 The program's widenings: of two schemas of which the first fits into the second a function value is made that widens.
-/
namespace Go.Proofs.YtpalkdcgbbbmeaaGreatDoor
open Go.RowKit

def EndP (m : Nat) (r : Bool) (R : (Nat → Prop) → World → Value → T m → Prop) (S : Nat → Prop) (w : World) (v u : Value) (w' : World) : Prop :=
 (r = true ∧ (∃ fn first cap, v = .func fn first cap) ∧ u = .nilIface ∧ Fv (fun b => S b ∨ (w.heap.size ≤ b ∧ b < w'.heap.size)) m w' v R) ∨ (r = false ∧ v = .nilFunc ∧ ∃ y : ByteArray, u = .iface 132 (.agg #[.string y]))

theorem endP_to {m : Nat} {r : Bool} {R : (Nat → Prop) → World → Value → T m → Prop} {S : Nat → Prop} {w W : World} {e : Ending} {w' : World} (h : EndV m r R S W e w') (hz : w.heap.size ≤ W.heap.size) : ∃ v u, e = .returned (.tuple #[v, u]) ∧ EndP m r R S w v u w' := by
 rcases h.wide hz with ⟨hr, fn, first, cap, rfl, hF⟩ | ⟨hr, y, rfl⟩
 · exact ⟨_, _, rfl, .inl ⟨hr, ⟨_, _, _, rfl⟩, rfl, hF⟩⟩
 · exact ⟨_, _, rfl, .inr ⟨hr, rfl, _, rfl⟩⟩

theorem endP_from {m : Nat} {r : Bool} {R : (Nat → Prop) → World → Value → T m → Prop} {S : Nat → Prop} {w : World} {e : Ending} {w' : World} (h : ∃ v u, e = .returned (.tuple #[v, u]) ∧ EndP m r R S w v u w') : EndV m r R S w e w' := by
 obtain ⟨v, u, rfl, ⟨h, ⟨fn, first, cap, rfl⟩, rfl, hF⟩ | ⟨h, rfl, y, rfl⟩⟩ := h
 · exact .inl ⟨h, _, _, _, rfl, hF⟩
 · exact .inr ⟨h, _, rfl⟩

theorem sort_natV {n : Nat} {k : K (n + 1)} {d : Int} (h : goodK (n + 1) k d = true) : ∃ i : Nat, 1 ≤ i ∧ i ≤ 6 ∧ Kd.sort k = (i : Int) := by
 rcases goodK_kids h with ⟨h | h | h, -⟩ | ⟨h | h, -⟩ | ⟨h, -⟩
 · exact ⟨1, by omega, by omega, h⟩
 · exact ⟨2, by omega, by omega, h⟩
 · exact ⟨3, by omega, by omega, h⟩
 · exact ⟨4, by omega, by omega, h⟩
 · exact ⟨6, by omega, by omega, h⟩
 · exact ⟨5, by omega, by omega, h⟩

theorem fitV_step (m : Nat) (hm : FitSaidV m) : FitSaidV (m + 1) := by
 intro S n a b va vb d d' R x w ha hb hB hT hR hga hgb hc40 hd hx
 cases n with
 | zero => exact ha.elim
 | succ n =>
  obtain ⟨i, hi1, hi6, hi⟩ := sort_natV hga
  obtain ⟨j, hj1, hj6, hj⟩ := sort_natV hgb
  have hina := ha
  have hinb := hb
  obtain ⟨pa, nva, pva, kva, rfl, hSa, hca, -⟩ := ha
  obtain ⟨pb, nvb, pvb, kvb, rfl, hSb, hcb, -⟩ := hb
  have hla := hB pa hSa
  have hlb := hB pb hSb
  have ea : w.cell? ⟨pa, 0, none⟩ = some (.int .i64 (i : Int)) := by rw [zeroD_W4 hca, hi]
  have eb : w.cell? ⟨pb, 0, none⟩ = some (.int .i64 (j : Int)) := by rw [zeroD_W4 hcb, hj]
  have eT := hT i j hi1 hi6 hj1 hj6
  have key : ∀ {W : World}, Below w.heap.size w W → InnerK S W (n + 1) a (.pointer (some ⟨pa, 0, none⟩)) ∧ InnerK S W (m + 1) b (.pointer (some ⟨pb, 0, none⟩)) ∧ (∀ b, S b → b < W.heap.size) ∧ TabW W R ∧ R < W.heap.size := fun hW =>
   ⟨hina.keep (same_below hW hB) (fun _ h => h), hinb.keep (same_below hW hB) (fun _ h => h), fun b hb => Nat.lt_of_lt_of_le (hB b hb) hW.size, hT.keep (hW.block R hR), Nat.lt_of_lt_of_le hR hW.size⟩
  by_cases hj' : j = 6
  ·
   by_cases hi' : i = 6
   ·
    have e : widV R i j = widF R 77 := by unfold widV; rw [if_pos hj', if_pos hi']
    rw [e] at eT
    refine (of_v R pa pb i j _ (EndP (m + 1) (fitsK (m + 1) b (n + 1) a) (WidR (m + 1) b (n + 1) a) S w) x w hi1 hi6 hj1 hj6 Tryz.call77 ea eb eT hla hlb hR fun W hW => ?_).mono fun e w' h => ⟨h.1, endP_from h.2⟩
    obtain ⟨k1, k2, k3, k4, k5⟩ := key hW
    exact (ofMaybes_v m n hm S a b _ _ d d' R x W k1 k2 k3 k4 k5 hga hgb hc40 hd hx (by omega) (by omega)).mono fun e w' h => ⟨h.1, endP_to h.2 hW.size⟩
   ·
    have e : widV R i j = widF R 76 := by unfold widV; rw [if_pos hj', if_neg hi']
    rw [e] at eT
    refine (of_v R pa pb i j _ (EndP (m + 1) (fitsK (m + 1) b (n + 1) a) (WidR (m + 1) b (n + 1) a) S w) x w hi1 hi6 hj1 hj6 Tryz.call76 ea eb eT hla hlb hR fun W hW => ?_).mono fun e w' h => ⟨h.1, endP_from h.2⟩
    obtain ⟨k1, k2, k3, k4, k5⟩ := key hW
    exact (intoMaybe_v m n hm S a b _ _ d d' R x W k1 k2 k3 k4 k5 hga hgb hc40 hd hx (by omega) (by omega)).mono fun e w' h => ⟨h.1, endP_to h.2 hW.size⟩
  ·
   by_cases hij : i = j
   ·
    by_cases h4 : i = 4
    ·
     have e : widV R i j = widF R 74 := by unfold widV; rw [if_neg hj', if_pos hij, if_pos h4]
     rw [e] at eT
     refine (of_v R pa pb i j _ (EndP (m + 1) (fitsK (m + 1) b (n + 1) a) (WidR (m + 1) b (n + 1) a) S w) x w hi1 hi6 hj1 hj6 Tryz.call74 ea eb eT hla hlb hR fun W hW => ?_).mono fun e w' h => ⟨h.1, endP_from h.2⟩
     obtain ⟨k1, k2, k3, k4, k5⟩ := key hW
     exact (ofLists_v m n hm S a b _ _ d d' R x W k1 k2 k3 k4 k5 hga hgb hc40 hd hx (by omega) (by omega)).mono fun e w' h => ⟨h.1, endP_to h.2 hW.size⟩
    ·
     by_cases h5 : i = 5
     ·
      have e : widV R i j = widF R 75 := by unfold widV; rw [if_neg hj', if_pos hij, if_neg h4, if_pos h5]
      rw [e] at eT
      refine (of_v R pa pb i j _ (EndP (m + 1) (fitsK (m + 1) b (n + 1) a) (WidR (m + 1) b (n + 1) a) S w) x w hi1 hi6 hj1 hj6 Tryz.call75 ea eb eT hla hlb hR fun W hW => ?_).mono fun e w' h => ⟨h.1, endP_from h.2⟩
      obtain ⟨k1, k2, k3, k4, k5⟩ := key hW
      exact (ofForms_v m n hm S a b _ _ d d' R x W k1 k2 k3 k4 k5 hga hgb hc40 hd hx (by omega) (by omega)).mono fun e w' h => ⟨h.1, endP_to h.2 hW.size⟩
     ·
      have e : widV R i j = widF R 73 := by unfold widV; rw [if_neg hj', if_pos hij, if_neg h4, if_neg h5]
      rw [e] at eT
      have hna : Kd.names a = [] := by
       rcases goodK_kids hga with ⟨-, h, -⟩ | ⟨-, h, -⟩ | ⟨h, -⟩
       · exact h
       · exact h
       · omega
      have hnb : Kd.names b = [] := by
       rcases goodK_kids hgb with ⟨-, h, -⟩ | ⟨-, h, -⟩ | ⟨h, -⟩
       · exact h
       · exact h
       · omega
      have hf : fitsK (m + 1) b (n + 1) a = true := fitsK_leaf (by omega) (by omega) hna hnb
      refine (of_v R pa pb i j _ (EndP (m + 1) (fitsK (m + 1) b (n + 1) a) (WidR (m + 1) b (n + 1) a) S w) x w hi1 hi6 hj1 hj6 Tryz.call73 ea eb eT hla hlb hR fun W hW => ?_).mono fun e w' h => ⟨h.1, endP_from h.2⟩
      refine (ofLeaves_v R _ _ x W ⟨_, rfl⟩ ⟨_, rfl⟩).mono fun e w' h => ?_
      obtain ⟨rfl, hb⟩ := h
      exact ⟨hb, _, _, rfl, .inl ⟨hf, ⟨_, _, _, rfl⟩, rfl, fv_leaf _ m n b a _ (by omega) (by omega)⟩⟩
   ·
    have e : widV R i j = .nilFunc := by unfold widV; rw [if_neg hj', if_neg hij]
    rw [e] at eT
    have hf : fitsK (m + 1) b (n + 1) a = false := fitsK_no (by omega) (by omega)
    exact (of_nil R pa pb i j x w hi1 hi6 hj1 hj6 ea eb eT hla hlb hR).mono fun e w' h => ⟨h.1, .inr ⟨hf, h.2⟩⟩

theorem fitV_any : ∀ m, FitSaidV m := by
 intro m
 induction m with
 | zero => intro S n a b va vb d d' R x w _ hb; exact hb.elim
 | succ m ih => exact fitV_step m ih

end Go.Proofs.YtpalkdcgbbbmeaaGreatDoor
