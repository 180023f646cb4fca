/-
 Several texts in one, in their order.
-/
import Derived.Test.YtpalkdcgbbbmeaaGreatDoorB18
import Derived.Test.YtpalkdcgbbbmeaaGreatDoorPWalk
import Derived.Deep.RegionHeld
import Derived.Handy
import Derived.Deep.RegionLaw
import Derived.BigQuiet

/-
 The function values that widen: of leaves, of nothing, into maybes, of lists, of maybes.
-/
namespace Go.Proofs.YtpalkdcgbbbmeaaGreatDoor
open Go.RowKit

theorem row1_one {α : Type} {S : Nat → Prop} {w : World} {R : α → Value → Prop} (x : α) (c : Value) (ty : TypeId) (hS : S w.heap.size) (hR : R x c) : Row1 S (w.alloc (.cells #[c] ty)) R [x] (.slice (some ⟨w.heap.size, 0, none⟩) 1 1) := by
 refine ⟨_, _, rfl, by simp [maxLen], fun _ => ⟨w.heap.size, 0, rfl, hS, fun i hi => ⟨c, ?_, ?_⟩⟩⟩
 ·
  have : i = 0 := by simp at hi; exact hi
  subst this
  simp [go_sem]
 ·
  have : i = 0 := by simp at hi; exact hi
  subst this
  exact hR

set_option maxHeartbeats 400000 in
theorem fv_leaf (S : Nat → Prop) (m n : Nat) (b : K (m + 1)) (a : K (n + 1)) (w : World) (hb : Kd.sort b = 1 ∨ Kd.sort b = 2 ∨ Kd.sort b = 3) (hab : Kd.sort a = Kd.sort b) :
  Fv S (m + 1) w (.func (.func 97) #[] #[]) (WidR (m + 1) b (n + 1) a) := by
 refine ⟨_, _, rfl, Tryz.call97, fun S0 W h0 hB hs v t' hR args ha => ?_⟩
 obtain ⟨p, t, e, hin, hg, hh, rfl⟩ := hR
 cases p with
 | zero => exact hin.elim
 | succ p =>
 obtain ⟨hst, -⟩ := hasK_get hh
 obtain ⟨u, x, rfl⟩ := hin.iface
 rw [show args = #[Value.iface u x] from ha, widT_leaf hb]
 have HF : Hid (InnerT (fun b => S0 b ∨ (W.heap.size ≤ b ∧ b < W.heap.size)) W (m + 1) (mkT m (Nd.sort t) (Nd.num t) (Nd.text t) [] []) (.iface u x)) := by
  rcases hin with h | h | h | ⟨h, -⟩ | ⟨h, -⟩ | ⟨h, -⟩
  · exact .inl h
  · exact .inr (.inl h)
  · exact .inr (.inr (.inl h))
  · omega
  · omega
  · omega
 clear hin hg hh
 go_enter Tryz.func97, Tryz.ntmps97
 go_wp2_with fail
 go_ret
 exact ⟨Below.refl _ _, _, rfl, HF.out⟩

set_option maxHeartbeats 400000 in
theorem fv_none (S : Nat → Prop) (m : Nat) (b : K (m + 1)) (w : World) :
  Fv S (m + 1) w (.func (.func 121) #[] #[]) (fun S0 W v t' => (v = .nilIface ∨ ∃ u x, v = .iface u x) ∧ NoneR (m + 1) b S0 W v t') := by
 refine ⟨_, _, rfl, Tryz.call121, fun S0 W h0 hB hs v t' hR args ha => ?_⟩
 obtain ⟨hv, rfl⟩ := hR
 have HF : Hid (InnerT (fun b => S0 b ∨ (W.heap.size ≤ b ∧ b < W.heap.size)) W (m + 1) (noneT (m + 1) b) (.iface 128 (.slice none 0 0))) :=
  .inr (.inr (.inr (.inr (.inr ⟨rfl, _, rfl, none, 0, rfl, by simp [noneT, mkT], fun h => absurd rfl h⟩))))
 rw [show args = #[v] from ha]
 rcases hv with rfl | ⟨u, x, rfl⟩
 all_goals
  go_enter Tryz.func121, Tryz.ntmps121
  go_wp2_with fail
  go_ret
  exact ⟨Below.refl _ _, _, rfl, HF.out⟩

theorem cell_same {S : Nat → Prop} {w W : World} {g : Nat} {v : Value} (hs : Same S w W) (hg : S g) (h : w.cell? ⟨g, 0, none⟩ = some v) : W.cell? ⟨g, 0, none⟩ = some v := (World.cell?_of_block (a := ⟨g, 0, none⟩) (hs g hg)).trans h

set_option maxHeartbeats 1000000 in
theorem fv_into (S : Nat → Prop) (m n g : Nat) (b : K (m + 1)) (a : K (n + 1)) (y : K m) (w : World) (kv : Value) (hk : Fv S m w kv (WidR m y (n + 1) a)) (hc : w.cell? ⟨g, 0, none⟩ = some kv) (hg : S g) (sb : Kd.sort b = 6) (sa : Kd.sort a ≠ 6) (ky : Kd.kids b = [y]) :
  Fv S (m + 1) w (.func (.func 104) #[] #[.pointer (some ⟨g, 0, none⟩)]) (WidR (m + 1) b (n + 1) a) := by
 refine ⟨_, _, rfl, Tryz.call104, fun S0 W h0 hB hs v t' hR args ha => ?_⟩
 obtain ⟨p, t, e, hin, hgt, hh, rfl⟩ := hR
 cases p with
 | zero => exact hin.elim
 | succ p =>
 obtain ⟨f, cap, rfl, eg, hcall⟩ := hk
 have hc' := cell_same hs hg hc
 have HC : Hid (∀ args : Array Value, args = #[v] ++ cap → Calls Tryz.prog f args W fun e w' => Below W.heap.size W w' ∧ ∃ v', e = .returned v' ∧ InnerT (fun b => S0 b ∨ (W.heap.size ≤ b ∧ b < w'.heap.size)) w' m (widT m y (n + 1) a (p + 1) t) v') := hcall S0 W h0 hB hs v _ ⟨p + 1, t, e, hin, hgt, hh, rfl⟩
 obtain ⟨u, x, rfl⟩ := hin.iface
 rw [show args = #[Value.iface u x, .pointer (some ⟨g, 0, none⟩)] from ha, widT_xm sb sa ky]
 clear hcall hc hs hgt hh hin
 go_enter Tryz.func104, Tryz.ntmps104
 go_wp2_with fail
 refine (HC.out _ (by simp)).mono ?_
 rintro e w2 ⟨hb2, kv, rfl, hin⟩
 obtain ⟨ku, kx, rfl⟩ := hin.iface
 have HF : Hid (Below W.heap.size W (w2.alloc (.cells #[.iface ku kx] 71)) ∧ InnerT (fun b => S0 b ∨ (W.heap.size ≤ b ∧ b < (w2.alloc (.cells #[.iface ku kx] 71)).heap.size)) (w2.alloc (.cells #[.iface ku kx] 71)) (m + 1) (mkT m 6 0 ByteArray.empty [] [widT m y (n + 1) a (p + 1) t]) (.iface 128 (.slice (some ⟨w2.heap.size, 0, none⟩) 1 1))) := by
  have hz := hb2.size
  refine ⟨hb2.alloc hb2.size _, .inr (.inr (.inr (.inr (.inr ⟨rfl, _, rfl, row1_one _ _ _ (.inr ⟨hz, by simp⟩) (hin.keep (fun b hb => ?_) (fun b hb => ?_))⟩))))⟩
  ·
   rcases hb with hb | hb
   · have := hB b hb; exact Below.heap_alloc _ _ _ (by omega)
   · exact Below.heap_alloc _ _ _ hb.2
  ·
   rcases hb with hb | hb
   · exact .inl hb
   · exact .inr ⟨hb.1, by simp; omega⟩
 clear hb2 hin HC hB
 go_wp2_with fail
 go_ret
 exact ⟨HF.out.1, _, rfl, HF.out.2⟩

end Go.Proofs.YtpalkdcgbbbmeaaGreatDoor

/-
 The program's widenForm: each name of the second form, by a row of function values.
-/
namespace Go.Proofs.YtpalkdcgbbbmeaaGreatDoor
open Go.RowKit

structure MForm (S0 : Nat → Prop) (X m : Nat) (w1 : World) (ts : List (T m)) (nv : Value) (k : Nat) (v : Value) (wr : World) : Prop where
 below : Below X w1 wr
 box : wr.heap[X]? = some (.cells #[nv, v] 126 (0, 0))
 row : ∃ xs : List Value, wr.ownsRow (X + 1) 71 1 v k xs ∧ ∀ j (h : j < ts.length) (hx : j < xs.length), InnerT (fun b => S0 b ∨ (X + 1 ≤ b ∧ b < wr.heap.size ∧ v.ownBlock ≠ some b)) wr m ts[j] xs[j]

theorem form_next {S0 : Nat → Prop} {X m : Nat} {ts : List (T m)} {w1 wr V w2 w3 : World} {nv : Value} {k g cap : Nat} {v kv : Value} {xs : List Value} {one : Obj} (h : MForm S0 X m w1 ts nv k v wr) (hk : k < ts.length) (hS : ∀ b, S0 b → b < X)
  (hown : wr.ownsRow (X + 1) 71 1 v k xs) (hxs : ∀ j (h : j < ts.length) (hx : j < xs.length), InnerT (fun b => S0 b ∨ (X + 1 ≤ b ∧ b < wr.heap.size ∧ v.ownBlock ≠ some b)) wr m ts[j] xs[j])
  (hV : Below wr.heap.size wr V) (hVz : V.heap.size = wr.heap.size) (hb2 : Below V.heap.size V w2) (hin : InnerT (fun b => S0 b ∨ (V.heap.size ≤ b ∧ b < w2.heap.size)) w2 m ts[k] kv)
  (hown' : w3.ownsRow (X + 1) 71 1 (.slice (some ⟨g, 0, none⟩) (k + 1) cap) (k + 1) (xs ++ [kv])) (hgrow : (w2.alloc one).grownBy w3 v.ownBlock) (hat : v.ownBlock = some g ∨ g = w2.heap.size + 1) :
  MForm S0 X m w1 ts nv (k + 1) (.slice (some ⟨g, 0, none⟩) (k + 1) cap) (w3.setCell ⟨X, 1, none⟩ (.slice (some ⟨g, 0, none⟩) (k + 1) cap)) := by
 rw [hVz] at hin
 have hb2 : Below wr.heap.size wr w2 := hV.trans (hb2.mono (by omega))
 have hX : X < wr.heap.size := (Array.getElem?_eq_some_iff.1 h.box).1
 have hz2 := hb2.size
 have hz3 := hgrow.size
 simp at hz3
 have hrl : ∀ b, v.ownBlock = some b → X + 1 ≤ b ∧ b < wr.heap.size := r1_lt hown
 have hgl := r1_lt hown' g rfl
 have hxl : xs.length = k := by simpa using hown.1
 have hsz : (w3.setCell ⟨X, 1, none⟩ (.slice (some ⟨g, 0, none⟩) (k + 1) cap)).heap.size = w3.heap.size := by simp
 have qs : ∀ b, b ≠ X → (w3.setCell ⟨X, 1, none⟩ (.slice (some ⟨g, 0, none⟩) (k + 1) cap)).heap[b]? = w3.heap[b]? := fun b hb => Below.heap_setCell _ _ _ _ hb
 have q3 : ∀ b, b < w2.heap.size → v.ownBlock ≠ some b → w3.heap[b]? = w2.heap[b]? := fun b hb hne => by
  rw [hgrow.block b (by simp; omega) (fun e => hne e.symm), Below.heap_alloc _ _ _ hb]
 have q2 : ∀ b, b < wr.heap.size → v.ownBlock ≠ some b → w3.heap[b]? = wr.heap[b]? := fun b hb hno => by
  rw [q3 b (by omega) hno, hb2.block b hb]
 have hfar : ∀ b, v.ownBlock ≠ some b → b < w2.heap.size → (Value.slice (some ⟨g, 0, none⟩) (k + 1) cap).ownBlock ≠ some b := by
  intro b h1 h2 e
  have e : g = b := by simpa [Value.ownBlock] using e
  rcases hat with h3 | h3
  · exact h1 (by rw [h3, e])
  · omega
 have hXn : v.ownBlock ≠ some X := fun e => by have := hrl X e; omega
 have hbox3 := (q2 X hX hXn).trans h.box
 refine ⟨⟨?_, ?_, ?_, by rw [hsz]; have := h.below.size; omega, fun b hb => ?_⟩, ?_, xs ++ [kv], r1_keep hown' (fun g' hg' => qs g' (by have := r1_lt hown' g' hg'; omega)), fun j hj hx => ?_⟩
 ·
  show w3.os = w1.os
  rw [hgrow.os]; exact hb2.os.trans h.below.os
 ·
  show w3.tape = w1.tape
  rw [hgrow.tape]; exact hb2.tape.trans h.below.tape
 ·
  show w3.output = w1.output
  rw [hgrow.output]; exact hb2.output.trans h.below.output
 · rw [qs b (by omega), q2 b (by omega) (fun e => by have := hrl b e; omega)]; exact h.below.block b hb
 · simp [World.setCell, Array.getElem?_modify, hbox3]
 ·
  by_cases hjk : j < k
  ·
   have hxj : j < xs.length := by omega
   rw [List.getElem_append_left hxj]
   refine (hxs j hj hxj).keep (fun b hb => ?_) (fun b hb => ?_)
   ·
    rcases hb with hb | ⟨hb1, hb2, hb3⟩
    ·
     have := hS b hb
     rw [qs b (by omega)]
     exact q2 b (by omega) (fun e => by have := hrl b e; omega)
    ·
     rw [qs b (by omega)]
     exact q2 b hb2 hb3
   ·
    rcases hb with hb | ⟨hb1, hb2, hb3⟩
    · exact .inl hb
    · exact .inr ⟨hb1, by rw [hsz]; omega, hfar b hb3 (by omega)⟩
  ·
   have hjk' : j = k := by simp at hx; omega
   subst hjk'
   have : (xs ++ [kv])[j] = kv := by simp [← hxl]
   rw [this]
   refine hin.keep (fun b hb => ?_) (fun b hb => ?_)
   ·
    rcases hb with hb | hb
    ·
     have := hS b hb
     rw [qs b (by omega)]
     exact q3 b (by omega) (fun e => by have := hrl b e; omega)
    ·
     rw [qs b (by omega)]
     exact q3 b hb.2 (fun e => by have := hrl b e; omega)
   ·
    rcases hb with hb | hb
    · exact .inl hb
    · exact .inr ⟨by omega, by rw [hsz]; omega, hfar b (fun e => by have := hrl b e; omega) hb.2⟩

end Go.Proofs.YtpalkdcgbbbmeaaGreatDoor

/-
 The program's widenForm, walked.
-/
namespace Go.Proofs.YtpalkdcgbbbmeaaGreatDoor
open Go.RowKit

theorem form_box {S0 : Nat → Prop} {X m : Nat} {w1 wr w2 w3 : World} {ts : List (T m)} {nv : Value} {k : Nat} {v : Value} {xs : List Value} {one : Obj} (_h : MForm S0 X m w1 ts nv k v wr) (hX : X < wr.heap.size) (hown : wr.ownsRow (X + 1) 71 1 v k xs) (hz : wr.heap.size ≤ w2.heap.size) (hb : w2.heap[X]? = some (.cells #[nv, v] 126 (0, 0))) (hg : (w2.alloc one).grownBy w3 v.ownBlock) :
  w3.heap[X]? = some (.cells #[nv, v] 126 (0, 0)) := by
 rw [hg.block X (by simp; omega) (fun e => by have := r1_lt hown X e.symm; omega), Below.heap_alloc _ _ _ (by omega)]
 exact hb

set_option maxRecDepth 100000 in
set_option maxHeartbeats 4000000 in
theorem widenForm_any (m : Nat) (S S0 : Nat → Prop) (la lb : List ByteArray) (ts : List (T m)) (F : Nat → Value) (Rf : Nat → (Nat → Prop) → World → Value → T m → Prop) (pa pb : Nat) (nbo ko fo : Option Addr) (nbc kl kc fc : Nat) (pva : Value) (x : ByteArray) (w : World)
  (h0 : ∀ b, S b → S0 b) (hB : ∀ b, S0 b → b < w.heap.size) (hpa : pa < w.heap.size) (hpb : pb < w.heap.size) (cpa : w.cell? ⟨pa, 2, none⟩ = some pva) (cpb : w.cell? ⟨pb, 1, none⟩ = some (.slice nbo lb.length nbc))
  (hpl : PlacesIn S0 w la pva) (hasc : Asc la) (hnb : StrsIn S0 w lb (.slice nbo lb.length nbc)) (hl : lb.length ≤ 39) (hlt : ts.length = lb.length) (hs8 : ∀ s, s ∈ lb → s.size ≤ 8)
  (hf : ∀ j (_ : j < lb.length), ∃ fb foff, fo = some ⟨fb, foff, none⟩ ∧ fb < w.heap.size ∧ w.cell? ⟨fb, foff + j, none⟩ = some (F j) ∧ Fv S m w (F j) (Rf j))
  (hr : ∀ j (h : j < lb.length) (h' : j < ts.length), (∃ q, ∃ (hq : q < la.length), la[q] = lb[j] ∧ q < kl ∧ ∃ kb koff u z, ko = some ⟨kb, koff, none⟩ ∧ kb < w.heap.size ∧ w.cell? ⟨kb, koff + q, none⟩ = some (.iface u z) ∧ ∀ W, Below w.heap.size w W → Rf j S0 W (.iface u z) ts[j]) ∨ (lb[j] ∉ la ∧ ∀ W, Rf j S0 W .nilIface ts[j])) :
  Calls Tryz.prog 103 #[.slice ko kl kc, .agg #[.pointer (some ⟨pa, 0, none⟩), .pointer (some ⟨pb, 0, none⟩), .string x], .slice fo lb.length fc] w fun e w' => Below w.heap.size w w' ∧ ∃ kv, e = .returned (.iface 126 (.agg #[.slice nbo lb.length nbc, kv])) ∧ Row1 (fun b => S0 b ∨ (w.heap.size ≤ b ∧ b < w'.heap.size)) w' (InnerT (fun b => S0 b ∨ (w.heap.size ≤ b ∧ b < w'.heap.size)) w' m) ts kv := by
 obtain ⟨W0, hW0⟩ : ∃ W0, W0 = w.alloc (.cells #[.pointer (some ⟨pa, 0, none⟩), .pointer (some ⟨pb, 0, none⟩), .string x] 67) := ⟨_, rfl⟩
 have hb0 : Below w.heap.size w W0 := by rw [hW0]; exact (Below.refl _ _).alloc (Nat.le_refl _) _
 have hz0 : W0.heap.size = w.heap.size + 1 := by rw [hW0]; simp
 have hp0 : W0.heap[w.heap.size]? = some (.cells #[.pointer (some ⟨pa, 0, none⟩), .pointer (some ⟨pb, 0, none⟩), .string x] 67 (0, 0)) := by rw [hW0]; exact heap_alloc_new _ _
 have HP : Hid (∀ W, Below (w.heap.size + 1) W0 W → Below w.heap.size w W ∧ W.cell? ⟨w.heap.size, 0, none⟩ = some (.pointer (some ⟨pa, 0, none⟩)) ∧ W.cell? ⟨w.heap.size, 1, none⟩ = some (.pointer (some ⟨pb, 0, none⟩)) ∧ W.cell? ⟨pa, 2, none⟩ = some pva ∧ W.cell? ⟨pb, 1, none⟩ = some (.slice nbo lb.length nbc)) := fun W hW => by
  have hbW : Below w.heap.size w W := below_step hb0 (by omega) (by rw [hz0]; exact hW)
  have e := (hW.block w.heap.size (by omega)).trans hp0
  exact ⟨hbW, by simp [World.cell?, e], by simp [World.cell?, e], (hbW.cell (p := ⟨pa, 2, none⟩) hpa).trans cpa, (hbW.cell (p := ⟨pb, 1, none⟩) hpb).trans cpb⟩
 obtain ⟨-, c0, c1, cA, cB⟩ := HP.out W0 (by rw [← hz0]; exact Below.refl _ _)
 have HNB : Hid (∀ i (hi : i < lb.length), ∃ g o, nbo = some ⟨g, o, none⟩ ∧ g < w.heap.size ∧ w.cell? ⟨g, o + i, none⟩ = some (.string lb[i])) := fun i hi => by
  obtain ⟨ao, c', e, -, -, hnbc⟩ := hnb
  cases e
  obtain ⟨g, o, e, hSg, hc⟩ := hnbc (by intro h; rw [h] at hi; simp at hi)
  exact ⟨g, o, e, hB g hSg, hc i hi⟩
 have HLk : Hid (∀ W, Below w.heap.size w W → (∀ i (hi : i < la.length), la[i].size ≤ maxLen → (Instr.lookup 115 pva (.string la[i]) true).run Tryz.prog W = .ok (.tuple #[.int .i64 i, .bool true]) W) ∧ ∀ s, s ∉ la → s.size ≤ maxLen → ∃ c, (Instr.lookup 115 pva (.string s) true).run Tryz.prog W = .ok (.tuple #[.int .i64 c, .bool false]) W) := fun W hW =>
  ⟨fun i hi hs => look_yes (hpl.keep (same_below hW hB) (fun _ h => h)) hasc i hi hs, fun s hn hs => look_no (hpl.keep (same_below hW hB) (fun _ h => h)) s hn hs⟩
 have HF := hidF hf
 have HR := hidF hr
 have H8 : Hid (∀ s, s ∈ lb → s.size ≤ 8) := hs8
 have HT : Hid (ts.length = lb.length) := hlt
 obtain ⟨mb, hpv, -⟩ := id hpl
 clear hf hr hs8 hlt hnb hpl hasc hb0 hp0 cpa cpb
 rw [hW0] at c0 c1 cA cB
 go_enter Tryz.func103, Tryz.ntmps103
 go_wp2_with fail
 rw [← hW0]
 clear hW0 c0 c1 cA cB
 obtain ⟨i0, hi, hzz0, hzz1, hzz2⟩ := info_parts Tryz.info_at
 have HI : Hid (_ ∧ _ ∧ _ ∧ _) := ⟨hi, hzz0, hzz1, hzz2⟩
 clear hi hzz0 hzz1 hzz2
 have HS : Hid (∀ b, S0 b → b < w.heap.size + 1) := fun b hb => Nat.lt_succ_of_lt (hB b hb)
 go_loopw [25] (fun iv wr => ∃ (k : Nat) (v : Value), k ≤ lb.length ∧ iv = .int .i64 k ∧ MForm S0 (w.heap.size + 1) m W0 ts (.slice nbo lb.length nbc) k v wr) (fun iv _ => lb.length - (intOf iv).toNat)
 case atStart =>
  refine ⟨0, .slice none 0 0, Nat.zero_le _, rfl, ⟨?_, ?_, [], World.ownsRow_nil _ _ _ _, fun j _ hx => absurd hx (Nat.not_lt_zero _)⟩⟩
  · rw [← hz0]; exact (Below.refl _ _).alloc (Nat.le_refl _) _
  · rw [← hz0]; exact heap_alloc_new _ _
 case round =>
  obtain ⟨k, v, hk, rfl, hM⟩ := hrel
  obtain ⟨xs, hown, hxs⟩ := hM.row
  obtain ⟨va, vc, rfl⟩ := r1_shape hown
  obtain ⟨hbw, c0, c1, cA, cB⟩ := HP.out wr hM.below
  have hX : w.heap.size + 1 < wr.heap.size := (Array.getElem?_eq_some_iff.1 hM.box).1
  have x0 : wr.cell? ⟨w.heap.size + 1, 0, none⟩ = some (.slice nbo lb.length nbc) := by simp [World.cell?, hM.box]
  have x1 : wr.cell? ⟨w.heap.size + 1, 1, none⟩ = some (.slice va k vc) := by simp [World.cell?, hM.box]
  have HM := hidF hM
  have HX := hidF hown
  have HK := hidF hxs
  clear hM hown hxs
  by_cases hlt : k < lb.length
  ·
   have hlti : (k : Int) < (lb.length : Int) := by omega
   have hltt : k < ts.length := by have := HT.out; omega
   have HLT : Hid (k + 1 ≤ lb.length) := hlt
   have h8 : lb[k].size ≤ maxLen := by have := H8.out _ (List.getElem_mem hlt); unfold maxLen; omega
   obtain ⟨gn, on, hno, hgn, hcn⟩ := HNB.out k hlt
   have f1 := (hbw.cell (p := ⟨gn, on + k, none⟩) hgn).trans hcn
   obtain ⟨fb, foff, hfo, hfb, hfc, hFk⟩ := HF.out k hlt
   have f2 := (hbw.cell (p := ⟨fb, foff + k, none⟩) hfb).trans hfc
   obtain ⟨f, fcap, hFe, eg, hcall⟩ := hFk
   rw [hFe] at f2
   have HNext : Hid (∀ (w2 w3 : World) (g' cap : Nat) (kv : Value) (one : Obj), Below wr.heap.size wr.drew w2 → InnerT (fun b => S0 b ∨ (wr.heap.size ≤ b ∧ b < w2.heap.size)) w2 m ts[k] kv →
     w3.ownsRow (w.heap.size + 1 + 1) 71 1 (.slice (some ⟨g', 0, none⟩) (k + 1) cap) (k + 1) (xs ++ [kv]) → (w2.alloc one).grownBy w3 (Value.slice va k vc).ownBlock → ((Value.slice va k vc).ownBlock = some g' ∨ g' = w2.heap.size + 1) →
     MForm S0 (w.heap.size + 1) m W0 ts (.slice nbo lb.length nbc) (k + 1) (.slice (some ⟨g', 0, none⟩) (k + 1) cap) (w3.setCell ⟨w.heap.size + 1, 1, none⟩ (.slice (some ⟨g', 0, none⟩) (k + 1) cap))) := fun w2 w3 g' cap kv one h1 h2 h3 h4 h5 =>
    form_next (V := wr.drew) HM.out hltt HS.out HX.out HK.out (Below.refl _ _).drew rfl h1 h2 h3 h4 h5
   clear hcn hfc hFe
   subst hno hfo
   rcases HR.out k hlt hltt with ⟨q, hq, hqe, hqk, kb, koff, u, z, hko, hkb, hkc, hRk⟩ | ⟨hnot, hRk⟩
   ·
    have hrun := (HLk.out wr hbw).1 q hq (by rw [hqe]; exact h8)
    rw [hqe, hpv] at hrun
    rw [hpv] at cA
    have f3 := (hbw.cell (p := ⟨kb, koff + q, none⟩) hkb).trans hkc
    have hqi : (q : Int) < (kl : Int) := by omega
    subst hko
    clear hkc hqe
    have HC1 : Hid (∀ args : Array Value, args = #[Value.iface u z] ++ fcap → Calls Tryz.prog f args wr.drew fun e w' => Below wr.heap.size wr.drew w' ∧ ∃ v', e = .returned v' ∧ InnerT (fun b => S0 b ∨ (wr.heap.size ≤ b ∧ b < w'.heap.size)) w' m ts[k] v') := hcall S0 wr.drew h0 (fun b hb => Nat.lt_of_lt_of_le (hB b hb) hbw.size) (fun b hb => hbw.block b (hB b (h0 b hb))) _ _ (hRk wr.drew (hbw.drew))
    clear hcall hRk
    generalize lb[k] = s at *
    generalize ts[k] = tk at *
    go_wp2_with fail
    go_region_law (first
     | (refine step_append_lies _ (by rfl) (.tmp 46) (.tmp 53) 121 (by rfl) (w.heap.size + 1 + 1) 71 i0 _ 1 16 Tryz.underlying121 HI.out.1 HI.out.2.1 HI.out.2.2.1 HI.out.2.2.2 rfl (by decide) (.slice va k vc) k xs (by rfl) (hox _) ⟨w2.heap.size, 0, none⟩ 1 1 [.iface ku kx] (by rfl) rfl (World.news_of_block (heap_alloc_new w2 _)) (by simp [Value.oneCell']) (by decide) (by unfold maxLen; omega) (by omega) (by simp; omega) (w2.heap.size + 1) (by simp) ?_; intro g' cap w3 hown hgrow hat hlt3; have hb3 := form_box HM.out hX HX.out hz2 hbx2 hgrow; have x1'' : w3.cell? ⟨w.heap.size + 1, 1, none⟩ = some (.slice va k vc) := (by simp [World.cell?, hb3]); have xf'' : w3.frozen? ⟨w.heap.size + 1, 1, none⟩ = false := (by simp [World.frozen?, hb3]))
     | (go_simp; refine (HC1.out _ (by simp)).mono ?_; rintro e w2 ⟨hb2, kv, rfl, hin⟩; obtain ⟨ku, kx, rfl⟩ := hin.iface; have hz2 : wr.heap.size ≤ w2.heap.size := hb2.size; have hbx2 : w2.heap[w.heap.size + 1]? = some (.cells #[.slice (some ⟨gn, on, none⟩) lb.length nbc, .slice va k vc] 126 (0, 0)) := (hb2.block (w.heap.size + 1) hX).trans HM.out.box; have hox := fun o => (r1_keep (w' := w2) HX.out (fun g' hg' => hb2.block g' (r1_lt HX.out g' hg').2)).alloc o; have x1' : w2.cell? ⟨w.heap.size + 1, 1, none⟩ = some (.slice va k vc) := (by simp [World.cell?, hbx2]); have x1a : (w2.alloc (.cells #[.iface ku kx] 71)).cell? ⟨w.heap.size + 1, 1, none⟩ = some (.slice va k vc) := (World.cell?_of_block (Below.heap_alloc _ _ _ (by show w.heap.size + 1 < _; omega))).trans x1'))
    all_goals
     have HFm : Hid (MForm S0 (w.heap.size + 1) m W0 ts (.slice (some ⟨gn, on, none⟩) lb.length nbc) (k + 1) (.slice (some ⟨g', 0, none⟩) (k + 1) cap) (w3.setCell ⟨w.heap.size + 1, 1, none⟩ (.slice (some ⟨g', 0, none⟩) (k + 1) cap))) := HNext.out _ _ _ _ _ _ hb2 hin hown hgrow hat
     clear hown hgrow hat hb2 hin hox x1' x1a x1'' xf'' hb3 hbx2
     go_wp2_with fail
     go_roundw
     case rel => exact ⟨k + 1, _, HLT.out, by go_num, HFm.out⟩
     case measure => have := HLT.out; simp [intOf]; omega
   ·
    obtain ⟨cq, hrun⟩ := (HLk.out wr hbw).2 lb[k] hnot h8
    rw [hpv] at hrun cA
    clear hnot
    have HC1 : Hid (∀ args : Array Value, args = #[Value.nilIface] ++ fcap → Calls Tryz.prog f args wr.drew fun e w' => Below wr.heap.size wr.drew w' ∧ ∃ v', e = .returned v' ∧ InnerT (fun b => S0 b ∨ (wr.heap.size ≤ b ∧ b < w'.heap.size)) w' m ts[k] v') := hcall S0 wr.drew h0 (fun b hb => Nat.lt_of_lt_of_le (hB b hb) hbw.size) (fun b hb => hbw.block b (hB b (h0 b hb))) _ _ (hRk wr.drew)
    clear hcall hRk
    generalize lb[k] = s at *
    generalize ts[k] = tk at *
    go_wp2_with fail
    go_region_law (first
     | (refine step_append_lies _ (by rfl) (.tmp 46) (.tmp 53) 121 (by rfl) (w.heap.size + 1 + 1) 71 i0 _ 1 16 Tryz.underlying121 HI.out.1 HI.out.2.1 HI.out.2.2.1 HI.out.2.2.2 rfl (by decide) (.slice va k vc) k xs (by rfl) (hox _) ⟨w2.heap.size, 0, none⟩ 1 1 [.iface ku kx] (by rfl) rfl (World.news_of_block (heap_alloc_new w2 _)) (by simp [Value.oneCell']) (by decide) (by unfold maxLen; omega) (by omega) (by simp; omega) (w2.heap.size + 1) (by simp) ?_; intro g' cap w3 hown hgrow hat hlt3; have hb3 := form_box HM.out hX HX.out hz2 hbx2 hgrow; have x1'' : w3.cell? ⟨w.heap.size + 1, 1, none⟩ = some (.slice va k vc) := (by simp [World.cell?, hb3]); have xf'' : w3.frozen? ⟨w.heap.size + 1, 1, none⟩ = false := (by simp [World.frozen?, hb3]))
     | (go_simp; refine (HC1.out _ (by simp)).mono ?_; rintro e w2 ⟨hb2, kv, rfl, hin⟩; obtain ⟨ku, kx, rfl⟩ := hin.iface; have hz2 : wr.heap.size ≤ w2.heap.size := hb2.size; have hbx2 : w2.heap[w.heap.size + 1]? = some (.cells #[.slice (some ⟨gn, on, none⟩) lb.length nbc, .slice va k vc] 126 (0, 0)) := (hb2.block (w.heap.size + 1) hX).trans HM.out.box; have hox := fun o => (r1_keep (w' := w2) HX.out (fun g' hg' => hb2.block g' (r1_lt HX.out g' hg').2)).alloc o; have x1' : w2.cell? ⟨w.heap.size + 1, 1, none⟩ = some (.slice va k vc) := (by simp [World.cell?, hbx2]); have x1a : (w2.alloc (.cells #[.iface ku kx] 71)).cell? ⟨w.heap.size + 1, 1, none⟩ = some (.slice va k vc) := (World.cell?_of_block (Below.heap_alloc _ _ _ (by show w.heap.size + 1 < _; omega))).trans x1'))
    all_goals
     have HFm : Hid (MForm S0 (w.heap.size + 1) m W0 ts (.slice (some ⟨gn, on, none⟩) lb.length nbc) (k + 1) (.slice (some ⟨g', 0, none⟩) (k + 1) cap) (w3.setCell ⟨w.heap.size + 1, 1, none⟩ (.slice (some ⟨g', 0, none⟩) (k + 1) cap))) := HNext.out _ _ _ _ _ _ hb2 hin hown hgrow hat
     clear hown hgrow hat hb2 hin hox x1' x1a x1'' xf'' hb3 hbx2
     go_wp2_with fail
     go_roundw
     case rel => exact ⟨k + 1, _, HLT.out, by go_num, HFm.out⟩
     case measure => have := HLT.out; simp [intOf]; omega
  ·
   have hkl : k = lb.length := by omega
   have hlti : ¬ (k : Int) < (lb.length : Int) := by omega
   have HP' : Hid (Below w.heap.size w wr ∧ Row1 (fun b => S0 b ∨ (w.heap.size ≤ b ∧ b < wr.heap.size)) wr (InnerT (fun b => S0 b ∨ (w.heap.size ≤ b ∧ b < wr.heap.size)) wr m) ts (.slice va k vc)) := by
    refine ⟨hbw, ?_⟩
    have h1 := HX.out
    have hlen : ts.length = k := by have := HT.out; omega
    rw [← hlen] at h1 ⊢
    refine row1_of_owns h1 (by unfold maxLen; omega) (fun g hg => .inr (by have := r1_lt h1 g hg; exact ⟨by omega, this.2⟩)) (fun i hi hx => ?_)
    exact (HK.out i hi hx).keep (fun _ _ => rfl) (fun b hb => hb.elim .inl (fun h => .inr ⟨by omega, h.2.1⟩))
   clear hkl HX HK HM HF HR
   go_wp2_with fail
   go_ret
   exact ⟨HP'.out.1, _, rfl, HP'.out.2⟩

end Go.Proofs.YtpalkdcgbbbmeaaGreatDoor
