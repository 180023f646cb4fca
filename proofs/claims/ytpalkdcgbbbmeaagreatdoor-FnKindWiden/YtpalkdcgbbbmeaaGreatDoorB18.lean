/-
 Several texts in one, in their order.
-/
import Derived.Test.YtpalkdcgbbbmeaaGreatDoorKMade
import Derived.Test.YtpalkdcgbbbmeaaGreatDoorB1
import Derived.Maps.Views
import Derived.Maps.OwnSet
import Derived.Test.YtpalkdcgbbbmeaaGreatDoorB10
import Derived.Test.YtpalkdcgbbbmeaaGreatDoorB9
import Derived.Lib.Hide

/-
 Where a name stands: the map of places, asked; the program's field.
-/
namespace Go.Proofs.YtpalkdcgbbbmeaaGreatDoor
open Go.RowKit Go.WideMaps Go.Maps

theorem placesTo_map (l : List ByteArray) : ∀ k, IsMap (placesTo l k) := by
 intro k
 induction k with
 | zero => exact ⟨_, rfl⟩
 | succ k ih => exact ih.put _ _

theorem key_lit (s : ByteArray) : WideAt.IsKeyLit (.string s.data.toList) := trivial

theorem key_ne {a b : ByteArray} (h : a ≠ b) : (Lit.string a.data.toList) ≠ .string b.data.toList := by
 intro e
 apply h
 exact WideShapes.bytes_inj (by injection e)

theorem places_not (l : List ByteArray) (s : ByteArray) : ∀ k, (∀ i, i < k → l.getD i ByteArray.empty ≠ s) → has (placesTo l k) (.string s.data.toList) = false := by
 intro k
 induction k with
 | zero => intro _; rfl
 | succ k ih =>
  intro h
  rw [placesTo, has_put_other (key_ne (fun e => h k (by omega) e.symm))]
  exact ih (fun i hi => h i (by omega))

theorem places_at (l : List ByteArray) (i : Nat) : ∀ k, i < k → (∀ j, j < k → j ≠ i → l.getD j ByteArray.empty ≠ l.getD i ByteArray.empty) →
  has (placesTo l k) (.string (l.getD i ByteArray.empty).data.toList) = true ∧ ∀ z, (placesTo l k).atKey (.string (l.getD i ByteArray.empty).data.toList) z = .lit (.int .i64 i) := by
 intro k
 induction k with
 | zero => intro h; exact absurd h (Nat.not_lt_zero _)
 | succ k ih =>
  intro hi h
  by_cases hik : i = k
  ·
   subst hik
   exact ⟨has_put_same (placesTo_map l i) (key_lit _) _, fun z => atKey_put_same (placesTo_map l i) (key_lit _) _ z⟩
  ·
   have hne : (Lit.string (l.getD i ByteArray.empty).data.toList) ≠ .string (l.getD k ByteArray.empty).data.toList := key_ne (fun e => h k (by omega) (fun e => hik e.symm) e.symm)
   have := ih (by omega) (fun j hj hji => h j (by omega) hji)
   exact ⟨by rw [placesTo, has_put_other hne]; exact this.1, fun z => by rw [placesTo, atKey_put_other hne]; exact this.2 z⟩

theorem zero_int (w : World) : (zeroValue 3).run Tryz.prog w = .ok (.int .i64 0) w := by kernel_rfl

theorem lit_int {a b : Int} (h : (DataW.lit (Lit.int .i64 a) : DataW Unit) = .lit (.int .i64 b)) : a = b := by
 cases h; rfl

theorem look_yes {S : Nat → Prop} {w : World} {l : List ByteArray} {v : Value} (h : PlacesIn S w l v) (ha : Asc l) (i : Nat) (hi : i < l.length) (hs : l[i].size ≤ maxLen) :
  (Instr.lookup 115 v (.string l[i]) true).run Tryz.prog w = .ok (.tuple #[.int .i64 i, .bool true]) w := by
 obtain ⟨mb, rfl, -, hown⟩ := h
 have hg : ∀ j (h : j < l.length), l.getD j ByteArray.empty = l[j] := fun j h => by simp [List.getD, h]
 obtain ⟨p1, p2⟩ := places_at l i l.length hi (fun j hj hji e => hji (asc_inj ha j i hj hi (by rw [← hg j hj, ← hg i hi]; exact e)))
 rw [hg i hi] at p1 p2
 obtain ⟨c, ps, hrun, hv⟩ := hown.look_ok Tryz.skeyed Tryz.underlying115 (zero_int w) (plainElem_int Tryz.underlying3 (a := 0) (by decide)) (keyOf_string_mk Tryz.underlying9 hs)
 obtain ⟨c', rfl, hc, -⟩ := plainElem_int_inv Tryz.underlying3 hv
 rw [p1] at hrun
 have e := congrArg Prod.fst hc
 rw [p2] at e
 have e2 := lit_int e
 subst e2
 exact hrun

theorem look_no {S : Nat → Prop} {w : World} {l : List ByteArray} {v : Value} (h : PlacesIn S w l v) (s : ByteArray) (hn : s ∉ l) (hs : s.size ≤ maxLen) :
  ∃ c, (Instr.lookup 115 v (.string s) true).run Tryz.prog w = .ok (.tuple #[.int .i64 c, .bool false]) w := by
 obtain ⟨mb, rfl, -, hown⟩ := h
 have p1 := places_not l s l.length (fun i hi e => hn (by rw [← e]; simp [List.getD, hi]))
 obtain ⟨c, ps, hrun, hv⟩ := hown.look_ok Tryz.skeyed Tryz.underlying115 (zero_int w) (plainElem_int Tryz.underlying3 (a := 0) (by decide)) (keyOf_string_mk Tryz.underlying9 hs)
 obtain ⟨c', rfl, hc, -⟩ := plainElem_int_inv Tryz.underlying3 hv
 rw [p1] at hrun
 exact ⟨c', hrun⟩

set_option maxRecDepth 20000 in
set_option maxHeartbeats 1000000 in
theorem field_yes (S : Nat → Prop) (w : World) (l : List ByteArray) (pv : Value) (b g o len cap kb i : Nat) (h2 : w.cell? ⟨b, 2, none⟩ = some pv) (hp : PlacesIn S w l pv) (ha : Asc l) (hi : i < l.length) (hs : l[i].size ≤ maxLen)
  (h3 : w.cell? ⟨b, 3, none⟩ = some (.slice (some ⟨g, o, none⟩) len cap)) (hil : i < len) (hk : w.cell? ⟨g, o + i, none⟩ = some (.pointer (some ⟨kb, 0, none⟩))) :
  Calls Tryz.prog 96 #[.pointer (some ⟨b, 0, none⟩), .string l[i]] w fun e w' => e = .returned (.pointer (some ⟨kb, 0, none⟩)) ∧ w' = w := by
 have hrun := look_yes hp ha i hi hs
 obtain ⟨mb, rfl, -⟩ := hp
 clear ha
 generalize l[i] = s at *
 go_enter Tryz.func96, Tryz.ntmps96
 go_wp2_with fail
 go_ret
 exact ⟨rfl, rfl⟩

set_option maxRecDepth 20000 in
set_option maxHeartbeats 1000000 in
theorem field_no (S : Nat → Prop) (w : World) (l : List ByteArray) (pv : Value) (b : Nat) (s : ByteArray) (h2 : w.cell? ⟨b, 2, none⟩ = some pv) (hp : PlacesIn S w l pv) (hn : s ∉ l) (hs : s.size ≤ maxLen) :
  Calls Tryz.prog 96 #[.pointer (some ⟨b, 0, none⟩), .string s] w fun e w' => e = .returned (.pointer none) ∧ w' = w := by
 obtain ⟨c, hrun⟩ := look_no hp s hn hs
 obtain ⟨mb, rfl, -⟩ := hp
 go_enter Tryz.func96, Tryz.ntmps96
 go_wp2_with fail
 go_ret
 exact ⟨rfl, rfl⟩

end Go.Proofs.YtpalkdcgbbbmeaaGreatDoor

/-
 The program's widenings as function values: what it means that one widens; rows of widened trees.
-/
namespace Go.Proofs.YtpalkdcgbbbmeaaGreatDoor
open Go.RowKit

def Fv (S : Nat → Prop) (m : Nat) (w : World) (fv : Value) (R : (Nat → Prop) → World → Value → T m → Prop) : Prop :=
 ∃ (f : Nat) (cap : Array Value), fv = .func (.func f) #[] cap ∧ (∀ (args : Array Value) (W : World), (callFunc f args).run Tryz.prog W = .ok (.enter f args) W) ∧
  ∀ (S0 : Nat → Prop) (W : World), (∀ b, S b → S0 b) → (∀ b, S0 b → b < W.heap.size) → Same S w W → ∀ (v : Value) (t' : T m), R S0 W v t' → ∀ args : Array Value, args = #[v] ++ cap →
   Calls Tryz.prog f args W fun e w' => Below W.heap.size W w' ∧ ∃ v', e = .returned v' ∧ InnerT (fun b => S0 b ∨ (W.heap.size ≤ b ∧ b < w'.heap.size)) w' m t' v'

theorem Fv.keep {S S' : Nat → Prop} {m : Nat} {w w' : World} {fv : Value} {R : (Nat → Prop) → World → Value → T m → Prop} (h : Fv S m w fv R) (hs : Same S w w') (hS : ∀ b, S b → S' b) : Fv S' m w' fv R := by
 obtain ⟨f, cap, rfl, eg, hc⟩ := h
 exact ⟨f, cap, rfl, eg, fun S0 W h0 hB hW v t' hR args ha => hc S0 W (fun b hb => h0 b (hS b hb)) hB (fun b hb => (hW b (hS b hb)).trans (hs b hb)) v t' hR args ha⟩

def WidR (m : Nat) (b : K m) (n : Nat) (a : K n) (S : Nat → Prop) (W : World) (v : Value) (t' : T m) : Prop :=
 ∃ (p : Nat) (t : T p) (e : Int), InnerT S W p t v ∧ goodT p t e = true ∧ hasK n a p t = true ∧ t' = widT m b n a p t

theorem WidR.keep {m n : Nat} {b : K m} {a : K n} {S S' : Nat → Prop} {W W' : World} {v : Value} {t' : T m} (h : WidR m b n a S W v t') (hs : Same S W W') (hS : ∀ b, S b → S' b) : WidR m b n a S' W' v t' := by
 obtain ⟨p, t, e, hin, hg, hh, ht⟩ := h
 exact ⟨p, t, e, hin.keep hs hS, hg, hh, ht⟩

def NoneR (m : Nat) (b : K m) (_ : Nat → Prop) (_ : World) (_ : Value) (t' : T m) : Prop := t' = noneT m b

theorem wid_next {S : Nat → Prop} {M n : Nat} {ks : List (T n)} {w1 wr w2 w3 : World} {k g cap : Nat} {v kv : Value} {xs : List Value} {one : Obj} (h : MadeTLoop S M n ks w1 k v wr) (hk : k < ks.length) (hS : ∀ b, S b → b < M) (hMr : M ≤ wr.heap.size)
  (hown : wr.ownsRow M 71 1 v k xs) (hxs : ∀ j (h : j < ks.length) (hx : j < xs.length), InnerT (fun b => S b ∨ (M ≤ b ∧ b < wr.heap.size ∧ v.ownBlock ≠ some b)) wr n ks[j] xs[j])
  (hb2 : Below wr.heap.size wr w2) (hin : InnerT (fun b => S b ∨ (wr.heap.size ≤ b ∧ b < w2.heap.size)) w2 n ks[k] kv)
  (hown' : w3.ownsRow M 71 1 (.slice (some ⟨g, 0, none⟩) (k + 1) cap) (k + 1) (xs ++ [kv])) (hgrow : (w2.alloc one).grownBy w3 v.ownBlock) (hat : v.ownBlock = some g ∨ g = w2.heap.size + 1) :
  MadeTLoop S M n ks w1 (k + 1) (.slice (some ⟨g, 0, none⟩) (k + 1) cap) w3 := by
 have hz2 := hb2.size
 have hz3 := hgrow.size
 simp at hz3
 have hrl : ∀ b, v.ownBlock = some b → M ≤ b ∧ b < wr.heap.size := r1_lt hown
 have hxl : xs.length = k := by simpa using hown.1
 have q3 : ∀ b, b < w2.heap.size → v.ownBlock ≠ some b → w3.heap[b]? = w2.heap[b]? := fun b hb hne => by
  rw [hgrow.block b (by simp; omega) (fun e => hne e.symm), Below.heap_alloc _ _ _ hb]
 have q2 : ∀ b, b < wr.heap.size → v.ownBlock ≠ some b → w3.heap[b]? = wr.heap[b]? := fun b hb hno => by
  rw [q3 b (by omega) hno, hb2.block b hb]
 have hfar : ∀ b, v.ownBlock ≠ some b → b < w2.heap.size → (Value.slice (some ⟨g, 0, none⟩) (k + 1) cap).ownBlock ≠ some b := by
  intro b h1 h2 e
  have e : g = b := by simpa [Value.ownBlock] using e
  rcases hat with h3 | h3
  · exact h1 (by rw [h3, e])
  · omega
 refine ⟨⟨?_, ?_, ?_, by have := h.below.size; omega, fun b hb => ?_⟩, xs ++ [kv], hown', fun j hj hx => ?_⟩
 · rw [hgrow.os]; exact hb2.os.trans h.below.os
 · rw [hgrow.tape]; exact hb2.tape.trans h.below.tape
 · rw [hgrow.output]; exact hb2.output.trans h.below.output
 · rw [q2 b (by omega) (fun e => by have := hrl b e; omega)]; exact h.below.block b hb
 ·
  by_cases hjk : j < k
  ·
   have hxj : j < xs.length := by omega
   rw [List.getElem_append_left hxj]
   refine (hxs j hj hxj).keep (fun b hb => ?_) (fun b hb => ?_)
   ·
    rcases hb with hb | ⟨hb1, hb2, hb3⟩
    ·
     have := hS b hb
     exact q2 b (by omega) (fun e => by have := hrl b e; omega)
    · exact q2 b hb2 hb3
   ·
    rcases hb with hb | ⟨hb1, hb2, hb3⟩
    · exact .inl hb
    · exact .inr ⟨hb1, by omega, hfar b hb3 (by omega)⟩
  ·
   have hjk' : j = k := by simp at hx; omega
   subst hjk'
   have : (xs ++ [kv])[j] = kv := by simp [← hxl]
   rw [this]
   refine hin.keep (fun b hb => ?_) (fun b hb => ?_)
   ·
    rcases hb with hb | hb
    ·
     have := hS b hb
     exact q3 b (by omega) (fun e => by have := hrl b e; omega)
    · exact q3 b hb.2 (fun e => by have := hrl b e; omega)
   ·
    rcases hb with hb | hb
    · exact .inl hb
    · exact .inr ⟨by omega, by omega, hfar b (fun e => by have := hrl b e; omega) hb.2⟩

end Go.Proofs.YtpalkdcgbbbmeaaGreatDoor

/-
 The program's widenAll: each tree of a row, by a function value.
-/
namespace Go.Proofs.YtpalkdcgbbbmeaaGreatDoor
open Go.RowKit

set_option maxRecDepth 100000 in
set_option maxHeartbeats 2000000 in
theorem widenAll_any (m : Nat) (S S0 : Nat → Prop) (R : (Nat → Prop) → World → Value → T m → Prop) (ts : List (T m)) (v fv : Value) (w : World) (hF : Fv S m w fv R) (h0 : ∀ b, S b → S0 b) (hB : ∀ b, S0 b → b < w.heap.size)
  (hr : Row1 S0 w (fun t' c => (∃ u x, c = .iface u x) ∧ ∀ W, Below w.heap.size w W → R S0 W c t') ts v) (hl : ts.length ≤ 1000) :
  Calls Tryz.prog 100 #[v, fv] w fun e w' => Below w.heap.size w w' ∧ ∃ v', e = .returned v' ∧ Row1 (fun b => S0 b ∨ (w.heap.size ≤ b ∧ b < w'.heap.size)) w' (InnerT (fun b => S0 b ∨ (w.heap.size ≤ b ∧ b < w'.heap.size)) w' m) ts v' := by
 obtain ⟨ao, cap, rfl, hlen, hkids⟩ := hr
 obtain ⟨f, fcap, rfl, eg, hc⟩ := hF
 have HC : Hid (∀ W, Below w.heap.size w W → ∀ (t' : T m) (c : Value), (∀ W, Below w.heap.size w W → R S0 W c t') → ∀ args : Array Value, args = #[c] ++ fcap → Calls Tryz.prog f args W fun e w' => Below W.heap.size W w' ∧ ∃ v', e = .returned v' ∧ InnerT (fun b => S0 b ∨ (W.heap.size ≤ b ∧ b < w'.heap.size)) w' m t' v') := fun W hW t' c hR args ha =>
  hc S0 W h0 (fun b hb => Nat.lt_of_lt_of_le (hB b hb) hW.size) (same_below hW (fun b hb => hB b (h0 b hb))) c t' (hR W hW) args ha
 clear hc hlen
 obtain ⟨i0, hi, hzz0, hzz1, hzz2⟩ := info_parts Tryz.info_at
 have HI : Hid (_ ∧ _ ∧ _ ∧ _) := ⟨hi, hzz0, hzz1, hzz2⟩
 clear hi hzz0 hzz1 hzz2
 go_enter Tryz.func100, Tryz.ntmps100
 go_wp2_with fail
 go_loopw [5, 10] (fun v i wr => ∃ k : Nat, k ≤ ts.length ∧ i = .int .i64 k ∧ MadeTLoop S0 w.heap.size m ts w k v wr) (fun _ i _ => ts.length - (intOf i).toNat)
 case atStart => exact ⟨0, Nat.zero_le _, rfl, Below.refl _ _, [], World.ownsRow_nil _ _ _ _, fun j _ hx => absurd hx (Nat.not_lt_zero _)⟩
 case round =>
  obtain ⟨k, hk, rfl, hL⟩ := hrel
  obtain ⟨xs, hown, hxs⟩ := hL.row
  obtain ⟨va, vc, rfl⟩ := r1_shape hown
  have hbel := hL.below
  have hzr := hbel.size
  have HL := hidF hL
  have HX := hidF hown
  have HK := hidF hxs
  clear hL hown hxs
  by_cases hlt : k < ts.length
  ·
   obtain ⟨b, off, rfl, hbB, hcell⟩ := hkids (by intro h; rw [h] at hlt; simp at hlt)
   obtain ⟨c, e0, ⟨ku, kx, rfl⟩, hR⟩ := hcell k hlt
   have hbb := hB b hbB
   have f0 := (hbel.cell (p := ⟨b, off + k, none⟩) hbb).trans e0
   have HCk : Hid (∀ args : Array Value, args = #[Value.iface ku kx] ++ fcap → Calls Tryz.prog f args wr fun e w' => Below wr.heap.size wr w' ∧ ∃ v', e = .returned v' ∧ InnerT (fun b => S0 b ∨ (wr.heap.size ≤ b ∧ b < w'.heap.size)) w' m ts[k] v') := HC.out wr hbel ts[k] _ hR
   clear hkids hcell e0 hR HC
   go_wp2_with fail
   refine (HCk.out _ (by simp)).mono ?_
   rintro e w2 ⟨hb2, kv, rfl, hin⟩
   obtain ⟨ku', kx', rfl⟩ := hin.iface
   have hsz2 : wr.heap.size ≤ w2.heap.size := hb2.size
   have HO2 : Hid (w2.ownsRow w.heap.size 71 1 (.slice va k vc) k xs) := r1_keep HX.out (fun g' hg' => by have := r1_lt HX.out g' hg'; exact hb2.block g' this.2)
   have HK2 : Hid (_ ∧ _) := ⟨hb2, hin⟩
   clear hb2 hin f0 HCk
   go_wp2_with (at_builtin; refine wpList_append_lies _ rfl (.tmp 14) (.tmp 18) 121 rfl w.heap.size 71 i0 .nilIface 1 16 Tryz.underlying121 HI.out.1 HI.out.2.1 HI.out.2.2.1 HI.out.2.2.2 rfl (by decide) (.slice va k vc) k xs rfl (HO2.out.alloc _) ⟨w2.heap.size, 0, none⟩ 1 1 [.iface ku' kx'] rfl rfl (World.news_of_block (heap_alloc_new w2 _)) (by simp [Value.oneCell']) (by decide) (by unfold maxLen; omega) (by omega) (by simp; omega) (w2.heap.size + 1) (by simp) ?_; intro g cap w3 hown3 hgrow3 hat3 hlt3; refine Hid.out ?_)
   refine Lib.hid ?_
   have HF : Hid (MadeTLoop S0 w.heap.size m ts w (k + 1) (.slice (some ⟨g, 0, none⟩) (k + 1) cap) w3) := wid_next HL.out hlt hB hzr HX.out HK.out HK2.out.1 HK2.out.2 hown3 hgrow3 hat3
   clear hown3 hgrow3 hat3 HK2 HO2 HX HK HL
   go_wp2_with fail
   go_roundw
   case rel => exact ⟨k + 1, by omega, by go_num, HF.out⟩
   case measure => simp [intOf]; omega
  ·
   have hkl : k = ts.length := by omega
   have HP : Hid (Below w.heap.size w wr ∧ Row1 (fun b => S0 b ∨ (w.heap.size ≤ b ∧ b < wr.heap.size)) wr (InnerT (fun b => S0 b ∨ (w.heap.size ≤ b ∧ b < wr.heap.size)) wr m) ts (.slice va k vc)) := by
    refine ⟨hbel, ?_⟩
    have h1 := HX.out
    rw [hkl] at h1 ⊢
    refine row1_of_owns h1 (by unfold maxLen; omega) (fun g hg => .inr (r1_lt h1 g hg)) (fun i hi hx => ?_)
    have := HK.out i hi hx
    rw [hkl] at this
    exact this.keep (fun _ _ => rfl) (fun b hb => hb.elim .inl (fun h => .inr ⟨h.1, h.2.1⟩))
   clear hkl hkids HX HK HL HC
   go_wp2_with fail
   go_ret
   exact ⟨HP.out.1, _, rfl, HP.out.2⟩

end Go.Proofs.YtpalkdcgbbbmeaaGreatDoor
