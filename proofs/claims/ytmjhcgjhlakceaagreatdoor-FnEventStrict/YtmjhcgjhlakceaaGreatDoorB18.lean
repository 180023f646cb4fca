/-
  Several texts in one, in their order.
-/
import Derived.Test.YtmjhcgjhlakceaaGreatDoorEC4
import Derived.Test.YtmjhcgjhlakceaaGreatDoorB11
import Derived.Test.YtmjhcgjhlakceaaGreatDoorB14
import Derived.Test.YtmjhcgjhlakceaaGreatDoorB5
import Derived.Test.YtmjhcgjhlakceaaGreatDoorB16
import Derived.Test.YtmjhcgjhlakceaaGreatDoorB15

namespace Go.Proofs.YtmjhcgjhlakceaaGreatDoor
open Go.RowKit
def TypeC (w : World) (R : Nat) (ao : Option Addr) (l : List UInt8) (cap i : Nat) (e : Ending) (w' : World) : Prop :=
 Near R w w' /\ ((∃ x i', takeS (l.drop i) = some (x, l.drop i') /\ (∀ k (h : k < x.size), letB (x[k]'h).toNat) /\ e = .returned (.string x) /\ x.size <= 255 /\ Cu w' R ao l cap i' /\ i < i') ∨
  ((∀ x r, takeS (l.drop i) = some (x, r) -> ∃ k, ∃ h : k < x.size, ¬ letB (x[k]'h).toNat) /\ e = .panicked refusal))
set_option maxRecDepth 20000 in
set_option maxHeartbeats 2000000 in
theorem typeC_any (w : World) (R : Nat) (ao : Option Addr) (l : List UInt8) (cap i : Nat) (h : Cu w R ao l cap i) :
  Calls Tryz.prog 52 #[.pointer (some ⟨R, 0, none⟩)] w (TypeC w R ao l cap i) := by
 have HC := Lib.hid (textC_any w R ao l cap i h)
 clear h
 go_enter Tryz.func52, Tryz.ntmps52
 go_wp2_with fail
 refine HC.out.mono ?_
 rintro e w1 ⟨hn1, ⟨x, i', ht, rfl, hx, h1, hii⟩ | ⟨ht, rfl⟩⟩
 case inr => exact ⟨rfl, hn1, .inr ⟨fun x r h => (by rw [ht] at h; cases h), rfl⟩⟩
 case inl =>
  have HC2 := Lib.hid (ahead_any x w1 (by omega))
  have HT := Lib.hid ht
  have HN := Lib.hid hn1
  have HC1 := Lib.hid h1
  clear HC ht hn1 h1
  go_wp2_with fail
  refine HC2.out.mono ?_
  rintro e w2 ⟨hb2, ⟨ha, rfl⟩ | ⟨k, hk, hne, -, rfl⟩⟩
  ·have HP : Hid (TypeC w R ao l cap i (.returned (.string x)) w2) := ⟨HN.out.trans (Near.of_below hb2), .inl ⟨x, i', HT.out, ha, rfl, hx, HC1.out.same hb2, hii⟩⟩
   have hb : (x.toList == x.toList) = true := by simp
   clear ha hb2 HC2 HT HN HC1
   go_wp2_with (go_at_call 55; refine (demand_yes _).mono ?_; rintro e w' ⟨rfl, rfl⟩)
   go_ret
   exact HP.out
  ·have HP : Hid (TypeC w R ao l cap i (.panicked refusal) w2) := ⟨HN.out.trans (Near.of_below hb2), .inr ⟨fun y r h => (by rw [HT.out] at h; cases h; exact ⟨k, hk, hne⟩), rfl⟩⟩
   obtain ⟨y, hy⟩ : ∃ y, y = x.extract 0 k := ⟨_, rfl⟩
   have hyx : ¬ y = x := fun e => by
    have h1 : (x.extract 0 k).size = x.size := by rw [<- hy, e]
    rw [ByteArray.size_extract] at h1
    omega
   have hb : (y.toList == x.toList) = false := by
    rw [beq_eq_false_iff_ne]
    intro e
    rw [ByteArray.toList_eq, ByteArray.toList_eq] at e
    apply hyx
    cases y with | mk d1 => cases x with | mk d2 => simpa using e
   rw [<- hy]
   clear hy hne hk hb2 HC2 HT HN HC1
   go_wp2_with (go_at_call 55; refine (demand_no _).mono ?_; rintro e w' ⟨rfl, rfl⟩)
   exact ⟨rfl, HP.out⟩
end Go.Proofs.YtmjhcgjhlakceaaGreatDoor

namespace Go.Proofs.YtmjhcgjhlakceaaGreatDoor
open Go.RowKit
def OwnT (P : Nat -> Prop) (w : World) (n : Nat) (t : T n) (c3 c4 : Value) : Prop := ∃ L3 L4, SpN w c3 L3 /\ SpR w (n - 1) c4 L4 /\ Own P (L3 ++ L4) /\ (L3 ++ L4).length = spL n t
theorem OwnT.keep {P P' : Nat -> Prop} {w w' : World} {n : Nat} {t : T n} {c3 c4 : Value} (h : OwnT P w n t c3 c4) (hb : ∀ b, P b -> w'.heap[b]? = w.heap[b]?) (hP : ∀ b, P b -> P' b) : OwnT P' w' n t c3 c4 := by
 obtain ⟨L3, L4, h3, h4, ho, hl⟩ := h
 exact ⟨L3, L4, h3.same (fun s hs => hb _ (ho.1 s (List.mem_append_left _ hs))), h4.same (fun s hs => hb _ (ho.1 s (List.mem_append_right _ hs))), ho.mono hP, hl⟩
theorem OwnT.leaf (P : Nat -> Prop) (w : World) (m : Nat) (x y : Int) (s : ByteArray) : OwnT P w (m + 1) (⟨x, y, s, [], []⟩ : Nd (T m)) (.slice none 0 0) (.slice none 0 0) :=
 ⟨[], [], SpN.no _, SpR.no _ _, Own.nil _, rfl⟩
theorem KidsOwn.keep {P P' : Nat -> Prop} {w w' : World} {n : Nat} {ks : List (T n)} {xs : List Value} {Ps : List (List Spot)} (h : KidsOwn P w n ks xs Ps) (hb : ∀ b, P b -> w'.heap[b]? = w.heap[b]?) (hP : ∀ b, P b -> P' b) : KidsOwn P' w' n ks xs Ps := by
 refine ⟨h.1.mono hP, fun j hj hp => ?_⟩
 obtain ⟨c0, c1, c2, c3, c4, L3, L4, hx, hPj, ht, h3, h4⟩ := h.2 j hj hp
 have hm : ∀ s, s ∈ L3 ++ L4 -> w'.heap[s.b]? = w.heap[s.b]? := fun s hs => hb _ (h.1.1 s (List.mem_flatten.2 ⟨_, List.getElem_mem hp, by rw [hPj]; exact hs⟩))
 exact ⟨c0, c1, c2, c3, c4, L3, L4, hx, hPj, ht.keep (fun b h => hb b h) hP, h3.same (fun s hs => hm s (List.mem_append_left _ hs)), h4.same (fun s hs => hm s (List.mem_append_right _ hs))⟩
theorem KidsOwn.snoc {P Q : Nat -> Prop} {w : World} {n : Nat} {ks : List (T n)} {xs : List Value} {Ps : List (List Spot)} {t : T n} {c0 c1 c2 c3 c4 : Value} {L3 L4 : List Spot} (h : KidsOwn P w n ks xs Ps) (hpl : Ps.length = ks.length) (hxl : xs.length = ks.length * 5) (ht : TreeIn Q w n t c0 c1 c2 c3 c4) (h3 : SpN w c3 L3) (h4 : SpR w (n - 1) c4 L4) (ho : Own Q (L3 ++ L4)) (hd : ∀ b, P b -> Q b -> False) :
  KidsOwn (fun b => P b ∨ Q b) w n (ks ++ [t]) (xs ++ [c0, c1, c2, c3, c4]) (Ps ++ [L3 ++ L4]) := by
 refine ⟨?_, fun j hj hp => ?_⟩
 ·rw [List.flatten_append, List.flatten_singleton]
  exact h.1.app ho (fun b hb => .inl hb) (fun b hb => .inr hb) hd
 ·by_cases hjk : j < ks.length
  ·have hjp : j < Ps.length := by omega
   obtain ⟨d0, d1, d2, d3, d4, K3, K4, hx, hPj, hdt, hd3, hd4⟩ := h.2 j hjk hjp
   refine ⟨d0, d1, d2, d3, d4, K3, K4, ?_, by rw [List.getElem_append_left hjp]; exact hPj, ?_, hd3, hd4⟩
   ·rw [List.getElem?_append_left (by omega), List.getElem?_append_left (by omega), List.getElem?_append_left (by omega), List.getElem?_append_left (by omega), List.getElem?_append_left (by omega)]
    exact hx
   ·rw [List.getElem_append_left hjk]
    exact hdt.keep (fun _ _ => rfl) (fun b hb => .inl hb)
  ·have hje : j = ks.length := by
    rw [List.length_append, List.length_singleton] at hj; omega
   subst hje
   refine ⟨c0, c1, c2, c3, c4, L3, L4, ?_, by simp [<- hpl], ?_, h3, h4⟩
   ·rw [List.getElem?_append_right (by omega), List.getElem?_append_right (by omega), List.getElem?_append_right (by omega), List.getElem?_append_right (by omega), List.getElem?_append_right (by omega), hxl,
     Nat.sub_self, show ks.length * 5 + 1 - ks.length * 5 = 1 by omega, show ks.length * 5 + 2 - ks.length * 5 = 2 by omega, show ks.length * 5 + 3 - ks.length * 5 = 3 by omega, show ks.length * 5 + 4 - ks.length * 5 = 4 by omega]
    exact ⟨rfl, rfl, rfl, rfl, rfl⟩
   ·rw [List.getElem_append_right (Nat.le_refl _)]
    simp only [Nat.sub_self, List.getElem_cons_zero]
    exact ht.keep (fun _ _ => rfl) (fun b hb => .inr hb)
theorem sumL_app1 {α : Type} (f : α -> Nat) (l : List α) (x : α) : sumL f (l ++ [x]) = sumL f l + f x := by
 induction l with
 | nil => simp [sumL]
 | cons a r ih => simp only [List.cons_append, sumL, ih]; omega
structure ManyP (R X n : Nat) (w wr : World) (so : Int) (ns : List ByteArray) (ks : List (T n)) (nv kv : Value) : Prop extends Many R X n w wr so ns ks nv kv where
 own : ∃ xs Ps, wr.ownsRow (X + 1) 27 5 kv ks.length xs /\ Ps.length = ks.length /\ KidsOwn (Far (X + 1) nv kv wr.heap.size) wr n ks xs Ps /\ Ps.flatten.length + 3 * ks.length = sumL (fun x => 3 + spL n x) ks
theorem ManyP.start {R X n : Nat} {w wr : World} {so : Int} (h : Many R X n w wr so [] [] (.slice none 0 0) (.slice none 0 0)) : ManyP R X n w wr so [] [] (.slice none 0 0) (.slice none 0 0) :=
 ⟨h, [], [], ⟨rfl, .inl ⟨rfl, rfl⟩⟩, rfl, ⟨Own.nil _, fun _ hj => absurd hj (Nat.not_lt_zero _)⟩, rfl⟩
theorem ManyP.keep {R X n : Nat} {w wr W : World} {so : Int} {ns : List ByteArray} {ks : List (T n)} {nv kv : Value} (h : ManyP R X n w wr so ns ks nv kv) (hRX : R < X) (hn : Near R wr W) : ManyP R X n w W so ns ks nv kv := by
 obtain ⟨xs, Ps, hx, hp, hk, hl⟩ := h.own
 refine ⟨h.toMany.keep hRX hn, xs, Ps, owns_keep hx fun g hg => ?_, hp, hk.keep (fun b hb => ?_) (fun b hb => ⟨hb.1, Nat.lt_of_lt_of_le hb.2.1 hn.size, hb.2.2⟩), hl⟩
 ·have := owns_lt hx g hg
  exact hn.block g this.2 (by omega)
 ·have := hb.1
  exact hn.block b hb.2.1 (by omega)
theorem ManyP.name {R X n : Nat} {w W Wa W2 : World} {so : Int} {ns : List ByteArray} {ks : List (T n)} {nv kv : Value} {x : ByteArray} {one : Obj} {g cap : Nat} (h : ManyP R X n w W so ns ks nv kv) (hw : w.heap.size <= X)
  (ha : Wa.heap = W.heap.push one) (ho : Wa.os = W.os /\ Wa.tape = W.tape /\ Wa.output = W.output) (hx : x.size <= 10000)
  (hown : W2.ownsRow (X + 1) 9 1 (.slice (some ⟨g, 0, none⟩) (ns.length + 1) cap) (ns.length + 1) (ns.map .string ++ [.string x])) (hgrow : Wa.grownBy W2 nv.ownBlock) (hat : nv.ownBlock = some g ∨ g = W.heap.size + 1) :
  ManyP R X n w (W2.setCell ⟨X, 3, none⟩ (.slice (some ⟨g, 0, none⟩) (ns.length + 1) cap)) so (ns ++ [x]) ks (.slice (some ⟨g, 0, none⟩) (ns.length + 1) cap) kv := by
 have hM := h.toMany.name hw ha ho hx hown hgrow hat
 have hX := h.lt
 have hz : W2.heap.size ≥ W.heap.size + 1 := by have := hgrow.size; rw [ha] at this; simp at this; omega
 have hnl := owns_lt h.names
 have q : ∀ b, b < W.heap.size -> nv.ownBlock ≠ some b -> W2.heap[b]? = W.heap[b]? := fun b hb hne => by
  rw [hgrow.block b (by rw [ha]; simp; omega) (fun e => hne e.symm), ha, Array.getElem?_push_lt hb, Array.getElem?_eq_getElem hb]
 have qs : ∀ b, b ≠ X -> (W2.setCell ⟨X, 3, none⟩ (.slice (some ⟨g, 0, none⟩) (ns.length + 1) cap)).heap[b]? = W2.heap[b]? := fun b hb => Below.heap_setCell _ _ _ _ hb
 have hsz : (W2.setCell ⟨X, 3, none⟩ (.slice (some ⟨g, 0, none⟩) (ns.length + 1) cap)).heap.size = W2.heap.size := by simp
 obtain ⟨xs, Ps, hxs, hp, hk, hl⟩ := h.own
 have hkl := owns_lt hxs
 refine ⟨hM, xs, Ps, owns_keep hxs fun g' hg' => ?_, hp, hk.keep (fun b hb => ?_) (fun b hb => ?_), hl⟩
 ·have := hkl g' hg'
  rw [qs g' (by omega), q g' this.2 (fun e => h.apart g' e hg')]
 ·have h1 := hb.1
  rw [qs b (by omega), q b hb.2.1 hb.2.2.1]
 ·refine ⟨hb.1, by rw [hsz]; have := hb.2.1; omega, ?_, hb.2.2.2⟩
  intro e
  have e : g = b := by simpa [Value.ownBlock] using e
  rcases hat with h1 | h1
  ·exact hb.2.2.1 (by rw [h1, e])
  ·have := hb.2.1; omega
theorem ManyP.owns {R X n : Nat} {w wr : World} {so : Int} {ns : List ByteArray} {ks : List (T n)} {nv kv : Value} (h : ManyP R X n w wr so ns ks nv kv) (hns : ns.length <= 20000) (hks : ks.length <= 20000) :
  OwnT (fun b => X <= b /\ b < wr.heap.size) wr (n + 1) (⟨so, 0, ByteArray.empty, ns, ks⟩ : Nd (T n)) nv kv := by
 obtain ⟨xs, Ps, hxs, hp, hk, hl⟩ := h.own
 obtain ⟨L3, h3, l3, o3⟩ := spn_of_owns h.names hns
 obtain ⟨L4, h4, o4, l4⟩ := spr_of_owns hxs hks hp hk (fun b hb => hb.2.2.2)
 have hnl := owns_lt h.names
 have hkl := owns_lt hxs
 refine ⟨L3, L4, h3, h4, o3.app o4 (fun b hb => ?_) (fun b hb => ?_) (fun b h1 h2 => ?_), ?_⟩
 ·have := hnl b hb
  exact ⟨by omega, this.2⟩
 ·rcases hb with hb | hb
  ·have := hb.1
   exact ⟨by omega, hb.2.1⟩
  ·have := hkl b hb
   exact ⟨by omega, this.2⟩
 ·rcases h2 with h2 | h2
  ·exact h2.2.2.1 h1
  ·exact h.apart b h1 h2
 ·rw [List.length_append, l3, l4]
  show _ = ns.length + sumL (fun k => 3 + spL n k) ks
  omega
end Go.Proofs.YtmjhcgjhlakceaaGreatDoor

namespace Go.Proofs.YtmjhcgjhlakceaaGreatDoor
open Go.RowKit
theorem kidsI_five {α : Type} (f : List UInt8 -> Option (α × List UInt8)) (k : Nat) (bs : List UInt8) : kidsI f 5 (k + 1) bs = match takeS bs with
   | none => none
   | some (x, r) => match f r with
    | none => none
    | some (t, q) => (kidsI f 5 k q).map fun p => ((x :: p.1.1, t :: p.1.2), p.2) := by
 rw [kidsI, if_pos rfl]
 rfl
theorem kidsI_more {α : Type} (f : List UInt8 -> Option (α × List UInt8)) {s : Int} (hs : s ≠ 5) (k : Nat) (bs : List UInt8) : kidsI f s (k + 1) bs = match f bs with
   | none => none
   | some (t, q) => (kidsI f s k q).map fun p => ((p.1.1, t :: p.1.2), p.2) := by
 rw [kidsI, if_neg hs]
 rfl
def midK (L : Nat) (s : Int) (l : List UInt8) (i0 n : Nat) (ns : List ByteArray) (ks : List (T L)) (k i' : Nat) : Prop :=
 kidsI (decI L) s n (l.drop i0) = (kidsI (decI L) s k (l.drop i')).map fun p => ((ns ++ p.1.1, ks ++ p.1.2), p.2)
theorem midK_start (L : Nat) (s : Int) (l : List UInt8) (i0 n : Nat) : midK L s l i0 n [] [] n i0 := by
 unfold midK
 cases kidsI (decI L) s n (l.drop i0) <;> simp
theorem midK_five {L : Nat} {l : List UInt8} {i0 n : Nat} {ns : List ByteArray} {ks : List (T L)} {k i' i2 i3 : Nat} {x : ByteArray} {t : T L} (h : midK L 5 l i0 n ns ks (k + 1) i') (hx : takeS (l.drop i') = some (x, l.drop i2)) (ht : decI L (l.drop i2) = some (t, l.drop i3)) : midK L 5 l i0 n (ns ++ [x]) (ks ++ [t]) k i3 := by
 unfold midK at h ⊢
 rw [h, kidsI_five, hx]
 simp only [ht]
 cases kidsI (decI L) 5 k (l.drop i3) <;> simp
theorem midK_five_no {L : Nat} {l : List UInt8} {i0 n : Nat} {ns : List ByteArray} {ks : List (T L)} {k i' : Nat} (h : midK L 5 l i0 n ns ks (k + 1) i') (hx : takeS (l.drop i') = none) : kidsI (decI L) 5 n (l.drop i0) = none := by
 unfold midK at h
 rw [h, kidsI_five, hx]; rfl
theorem midK_five_no2 {L : Nat} {l : List UInt8} {i0 n : Nat} {ns : List ByteArray} {ks : List (T L)} {k i' i2 : Nat} {x : ByteArray} (h : midK L 5 l i0 n ns ks (k + 1) i') (hx : takeS (l.drop i') = some (x, l.drop i2)) (ht : decI L (l.drop i2) = none) : kidsI (decI L) 5 n (l.drop i0) = none := by
 unfold midK at h
 rw [h, kidsI_five, hx]
 simp only [ht]; rfl
theorem midK_more {L : Nat} {s : Int} (hs : s ≠ 5) {l : List UInt8} {i0 n : Nat} {ns : List ByteArray} {ks : List (T L)} {k i' i3 : Nat} {t : T L} (h : midK L s l i0 n ns ks (k + 1) i') (ht : decI L (l.drop i') = some (t, l.drop i3)) : midK L s l i0 n ns (ks ++ [t]) k i3 := by
 unfold midK at h ⊢
 rw [h, kidsI_more _ hs, ht]
 cases hk : kidsI (decI L) s k (l.drop i3) <;> simp [hk]
theorem midK_more_no {L : Nat} {s : Int} (hs : s ≠ 5) {l : List UInt8} {i0 n : Nat} {ns : List ByteArray} {ks : List (T L)} {k i' : Nat} (h : midK L s l i0 n ns ks (k + 1) i') (ht : decI L (l.drop i') = none) : kidsI (decI L) s n (l.drop i0) = none := by
 unfold midK at h
 rw [h, kidsI_more _ hs, ht]; rfl
theorem midK_end {L : Nat} {s : Int} {l : List UInt8} {i0 n : Nat} {ns : List ByteArray} {ks : List (T L)} {i' : Nat} (h : midK L s l i0 n ns ks 0 i') : kidsI (decI L) s n (l.drop i0) = some ((ns, ks), l.drop i') := by
 unfold midK at h
 rw [h]
 show (some (([], []), l.drop i')).map _ = _
 simp
def kidsB (L : Nat) (s : Int) : List UInt8 -> Option ((List ByteArray × List (T L)) × List UInt8)
 | [] => none
 | c :: q => kidsI (decI L) s c.toNat q
theorem kidsB_nil {L : Nat} {s : Int} {l : List UInt8} {i : Nat} (h : l.length <= i) : kidsB L s (l.drop i) = none := by
 rw [List.drop_eq_nil_of_le h]; rfl
theorem kidsB_at {L : Nat} {s : Int} {l : List UInt8} {i : Nat} (h : i < l.length) : kidsB L s (l.drop i) = kidsI (decI L) s l[i].toNat (l.drop (i + 1)) := by
 rw [List.drop_eq_getElem_cons h]; rfl
theorem decI_nil {L : Nat} {l : List UInt8} {i : Nat} (h : l.length <= i) : decI L (l.drop i) = none := by
 rw [List.drop_eq_nil_of_le h]
 cases L <;> rfl
theorem decI_num {L : Nat} {l : List UInt8} {i : Nat} (h : i < l.length) (hv : l[i].toNat = 1) : decI (L + 1) (l.drop i) = (decNum (l.drop (i + 1))).map fun p => ((⟨1, p.1, ByteArray.empty, [], []⟩ : Nd (T L)), p.2) := by
 rw [List.drop_eq_getElem_cons h]
 unfold decI
 rw [if_pos hv]
 all_goals rfl
theorem decI_text {L : Nat} {l : List UInt8} {i : Nat} (h : i < l.length) (hv : l[i].toNat = 2) : decI (L + 1) (l.drop i) = (takeS (l.drop (i + 1))).map fun p => ((⟨2, 0, p.1, [], []⟩ : Nd (T L)), p.2) := by
 rw [List.drop_eq_getElem_cons h]
 unfold decI
 rw [if_neg (by omega), if_pos hv]
 all_goals rfl
theorem decI_flag {L : Nat} {l : List UInt8} {i : Nat} (h : i < l.length) (hv : l[i].toNat = 3) (h1 : i + 1 < l.length) : decI (L + 1) (l.drop i) = some ((⟨3, (l[i + 1].toNat : Int), ByteArray.empty, [], []⟩ : Nd (T L)), l.drop (i + 1 + 1)) := by
 rw [List.drop_eq_getElem_cons h]
 unfold decI
 rw [if_neg (by omega), if_neg (by omega), if_pos hv, List.drop_eq_getElem_cons h1]
 all_goals rfl
theorem decI_flag_no {L : Nat} {l : List UInt8} {i : Nat} (h : i < l.length) (hv : l[i].toNat = 3) (h1 : l.length <= i + 1) : decI (L + 1) (l.drop i) = none := by
 rw [List.drop_eq_getElem_cons h]
 unfold decI
 rw [if_neg (by omega), if_neg (by omega), if_pos hv, List.drop_eq_nil_of_le h1]
 all_goals rfl
theorem decI_kids {L : Nat} {l : List UInt8} {i : Nat} (h : i < l.length) (hv : l[i].toNat = 4 ∨ l[i].toNat = 5 ∨ l[i].toNat = 6) : decI (L + 1) (l.drop i) = (kidsB L (l[i].toNat : Int) (l.drop (i + 1))).map fun p => ((⟨(l[i].toNat : Int), 0, ByteArray.empty, p.1.1, p.1.2⟩ : Nd (T L)), p.2) := by
 rw [List.drop_eq_getElem_cons h]
 unfold decI
 rw [if_neg (by omega), if_neg (by omega), if_neg (by omega), if_pos hv]
 cases l.drop (i + 1) <;> rfl
theorem decI_other {L : Nat} {l : List UInt8} {i : Nat} (h : i < l.length) (h1 : ¬ l[i].toNat = 1) (h2 : ¬ l[i].toNat = 2) (h3 : ¬ l[i].toNat = 3) (h4 : ¬ (l[i].toNat = 4 ∨ l[i].toNat = 5 ∨ l[i].toNat = 6)) : decI (L + 1) (l.drop i) = some ((⟨(l[i].toNat : Int), 0, ByteArray.empty, [], []⟩ : Nd (T L)), l.drop (i + 1)) := by
 rw [List.drop_eq_getElem_cons h]
 unfold decI
 rw [if_neg h1, if_neg h2, if_neg h3, if_neg h4]
 all_goals rfl
def TreeC (L : Nat) (w : World) (R : Nat) (ao : Option Addr) (l : List UInt8) (cap i : Nat) (e : Ending) (w' : World) : Prop :=
 Near R w w' /\ ((∃ (t : T L) (c0 c1 c2 c3 c4 : Value) (i' : Nat), decI L (l.drop i) = some (t, l.drop i') /\ e = .returned (.agg #[c0, c1, c2, c3, c4]) /\ TreeIn (fun b => w.heap.size <= b /\ b < w'.heap.size) w' L t c0 c1 c2 c3 c4 /\ OwnT (fun b => w.heap.size <= b /\ b < w'.heap.size) w' L t c3 c4 /\ Cu w' R ao l cap i' /\ i < i') ∨ (decI L (l.drop i) = none /\ e = .panicked refusal))
def KidsC (L X : Nat) (s : Int) (w0 : World) (R : Nat) (ao : Option Addr) (l : List UInt8) (cap i : Nat) (e : Ending) (w' : World) : Prop :=
 (∃ (ns : List ByteArray) (ks : List (T L)) (nv kv : Value) (i' : Nat), kidsB L s (l.drop i) = some ((ns, ks), l.drop i') /\ e = .returned (.tuple #[]) /\ ManyP R X L w0 w' s ns ks nv kv /\ Cu w' R ao l cap i' /\ i < i' /\ ns.length <= 255 /\ ks.length <= 255) ∨ (kidsB L s (l.drop i) = none /\ e = .panicked refusal /\ Near R w0 w')
def TrCSaid (L : Nat) : Prop := ∀ (R : Nat) (ao : Option Addr) (l : List UInt8) (cap i : Nat) (w : World), l.length <= L + i -> Cu w R ao l cap i -> Calls Tryz.prog 54 #[.pointer (some ⟨R, 0, none⟩)] w (TreeC L w R ao l cap i)
def KdCSaid (L : Nat) : Prop := ∀ (R : Nat) (ao : Option Addr) (l : List UInt8) (cap i X : Nat) (s : Nat) (w0 w : World), (s = 4 ∨ s = 5 ∨ s = 6) -> l.length <= L + i -> R < X -> w0.heap.size <= X -> Cu w0 R ao l cap i -> Cu w R ao l cap i -> ManyP R X L w0 w (s : Int) [] [] (.slice none 0 0) (.slice none 0 0) -> Calls Tryz.prog 96 #[.pointer (some ⟨R, 0, none⟩), .pointer (some ⟨X, 0, none⟩)] w (KidsC L X (s : Int) w0 R ao l cap i)
end Go.Proofs.YtmjhcgjhlakceaaGreatDoor

namespace Go.Proofs.YtmjhcgjhlakceaaGreatDoor
open Go.RowKit
theorem own_setz {w : World} {base z : Nat} {e : TypeId} {v : Value} {n : Nat} {xs : List Value} (h : w.ownsRow base e z v n xs) (g j : Nat) (hv : v.ownBlock = some g) (x : Value) : (w.setCell ⟨g, j, none⟩ x).ownsRow base e z v n (xs.set j x) := by
 obtain ⟨h1, h2⟩ := h
 refine ⟨by rw [List.length_set]; exact h1, ?_⟩
 rcases h2 with ⟨rfl, h0⟩ | ⟨g', cap, cur, rfl, hbg, hg, hnc, hcm, hcs, htake⟩
 ·cases hv
 ·have e : g' = g := by simpa [Value.ownBlock] using hv
  subst e
  refine .inr ⟨g', cap, cur.setIfInBounds j x, rfl, hbg, ?_, hnc, hcm, by rw [Array.size_setIfInBounds]; exact hcs, ?_⟩
  ·simp [World.setCell, Array.getElem?_modify, hg]
  ·rw [Array.toList_setIfInBounds, List.take_set, htake]
theorem set5_app {xs : List Value} {q : Nat} (hq : xs.length = q) (a b c d e a' b' c' d' e' : Value) : (((((xs ++ [a, b, c, d, e]).set q a').set (q + 1) b').set (q + 2) c').set (q + 3) d').set (q + 4) e' = xs ++ [a', b', c', d', e'] := by
 subst hq
 rw [List.set_append_right _ _ (Nat.le_refl _), List.set_append_right _ _ (by omega), List.set_append_right _ _ (by omega), List.set_append_right _ _ (by omega), List.set_append_right _ _ (by omega)]
 congr 1
 rw [show xs.length - xs.length = 0 by omega, show xs.length + 1 - xs.length = 1 by omega, show xs.length + 2 - xs.length = 2 by omega, show xs.length + 3 - xs.length = 3 by omega, show xs.length + 4 - xs.length = 4 by omega]
 rfl
theorem set_swap (w : World) (X o g p : Nat) (u v : Value) (h : X ≠ g) : (w.setCell ⟨X, o, none⟩ u).setCell ⟨g, p, none⟩ v = (w.setCell ⟨g, p, none⟩ v).setCell ⟨X, o, none⟩ u := by
 unfold World.setCell
 congr 1
 apply Array.ext_getElem?
 intro i
 simp only [Array.getElem?_modify]
 by_cases h1 : X = i
 ·have h2 : ¬ g = i := by omega
  simp [h1, h2]
 ·by_cases h2 : g = i
  ·simp [h1, h2]
  ·simp [h1, h2]
theorem put_swap (w : World) (X o g p : Nat) (u a b c d e : Value) (h : X ≠ g) : put5 (w.setCell ⟨X, o, none⟩ u) g p a b c d e = (put5 w g p a b c d e).setCell ⟨X, o, none⟩ u := by
 unfold put5
 rw [set_swap _ _ _ _ _ _ _ h, set_swap _ _ _ _ _ _ _ h, set_swap _ _ _ _ _ _ _ h, set_swap _ _ _ _ _ _ _ h, set_swap _ _ _ _ _ _ _ h]
theorem zrow_cells {W : World} {X g j cap : Nat} {xs : List Value} {a b c d e : Value} (h : W.ownsRow (X + 1) 27 5 (.slice (some ⟨g, 0, none⟩) (j + 1) cap) (j + 1) (xs ++ [a, b, c, d, e])) (hx : xs.length = j * 5) :
  (W.cell? ⟨g, j * 5, none⟩ = some a /\ W.cell? ⟨g, j * 5 + 1, none⟩ = some b /\ W.cell? ⟨g, j * 5 + 2, none⟩ = some c /\ W.cell? ⟨g, j * 5 + 3, none⟩ = some d /\ W.cell? ⟨g, j * 5 + 4, none⟩ = some e) /\ ∀ o, W.frozen? ⟨g, o, none⟩ = false := by
 have q : ∀ k v, (xs ++ [a, b, c, d, e])[k]? = some v -> W.cell? ⟨g, k, none⟩ = some v := fun k v hv => by
  have := h.cells (g := g) rfl k v hv
  rw [Addr.add_lit, Nat.zero_add] at this
  exact this
 refine ⟨⟨q _ _ ?_, q _ _ ?_, q _ _ ?_, q _ _ ?_, q _ _ ?_⟩, fun o => ?_⟩
 ·rw [List.getElem?_append_right (by omega), show j * 5 - xs.length = 0 by omega]; rfl
 ·rw [List.getElem?_append_right (by omega), show j * 5 + 1 - xs.length = 1 by omega]; rfl
 ·rw [List.getElem?_append_right (by omega), show j * 5 + 2 - xs.length = 2 by omega]; rfl
 ·rw [List.getElem?_append_right (by omega), show j * 5 + 3 - xs.length = 3 by omega]; rfl
 ·rw [List.getElem?_append_right (by omega), show j * 5 + 4 - xs.length = 4 by omega]; rfl
 ·rcases h.2 with ⟨h0, h1⟩ | ⟨g', cap', cur, hv, hbg, hg, hnc, hcm, hcs, htake⟩
  ·omega
  ·have e : g = g' := by simpa [Value.ownBlock] using congrArg (fun v => v.ownBlock) hv
   subst e
   simp [World.frozen?, hg]
theorem Many.kidZ {R X n : Nat} {w W Wp W2 : World} {so : Int} {ns : List ByteArray} {ks : List (T n)} {nv kv : Value} {t : T n} {c0 c1 c2 c3 c4 z0 z1 z2 z3 z4 : Value} {g cap : Nat} (h0 : Many R X n w W so ns ks nv kv) (hRX : R < X) (hw : w.heap.size <= X)
  (hn : Near R W Wp) (ht : TreeIn (fun b => W.heap.size <= b /\ b < Wp.heap.size) Wp n t c0 c1 c2 c3 c4) {xs : List Value}
  (hxs : W.ownsRow (X + 1) 27 5 kv ks.length xs) (hk : ∀ j (h : j < ks.length), ∃ c0 c1 c2 c3 c4, (xs[j * 5]? = some c0 /\ xs[j * 5 + 1]? = some c1 /\ xs[j * 5 + 2]? = some c2 /\ xs[j * 5 + 3]? = some c3 /\ xs[j * 5 + 4]? = some c4) /\ TreeIn (Far (X + 1) nv kv W.heap.size) W n ks[j] c0 c1 c2 c3 c4)
  (hown : W2.ownsRow (X + 1) 27 5 (.slice (some ⟨g, 0, none⟩) (ks.length + 1) cap) (ks.length + 1) (xs ++ [z0, z1, z2, z3, z4])) (hgrow : Wp.grownBy W2 kv.ownBlock) (hat : kv.ownBlock = some g ∨ g = Wp.heap.size) :
  Many R X n w ((put5 W2 g (ks.length * 5) c0 c1 c2 c3 c4).setCell ⟨X, 4, none⟩ (.slice (some ⟨g, 0, none⟩) (ks.length + 1) cap)) so ns (ks ++ [t]) nv (.slice (some ⟨g, 0, none⟩) (ks.length + 1) cap) := by
 have hX := h0.lt
 have hz1 := hn.size
 have hz : W2.heap.size ≥ Wp.heap.size := hgrow.size
 have hnl := owns_lt h0.names
 have hkl := owns_lt hxs
 have hgl := owns_lt hown g rfl
 have hxl : xs.length = ks.length * 5 := hxs.1
 have q1 : ∀ b, b < Wp.heap.size -> kv.ownBlock ≠ some b -> W2.heap[b]? = Wp.heap[b]? := fun b hb hne => hgrow.block b hb (fun e => hne e.symm)
 have hgX : g ≠ X := by omega
 have hown5 : (put5 W2 g (ks.length * 5) c0 c1 c2 c3 c4).ownsRow (X + 1) 27 5 (.slice (some ⟨g, 0, none⟩) (ks.length + 1) cap) (ks.length + 1) (xs ++ [c0, c1, c2, c3, c4]) := by
  unfold put5
  rw [<- set5_app hxl z0 z1 z2 z3 z4 c0 c1 c2 c3 c4]
  exact own_setz (own_setz (own_setz (own_setz (own_setz hown g _ rfl c0) g _ rfl c1) g _ rfl c2) g _ rfl c3) g _ rfl c4
 have p5 : ∀ b, b ≠ g -> (put5 W2 g (ks.length * 5) c0 c1 c2 c3 c4).heap[b]? = W2.heap[b]? := fun b hb => put5_other hb
 have p5s : (put5 W2 g (ks.length * 5) c0 c1 c2 c3 c4).heap.size = W2.heap.size := put5_size
 have hbl5 : Below 0 W2 (put5 W2 g (ks.length * 5) c0 c1 c2 c3 c4) := put5_below (Below.refl 0 W2) (Nat.zero_le _)
 generalize put5 W2 g (ks.length * 5) c0 c1 c2 c3 c4 = W3 at *
 have qs : ∀ b, b ≠ X -> (W3.setCell ⟨X, 4, none⟩ (.slice (some ⟨g, 0, none⟩) (ks.length + 1) cap)).heap[b]? = W3.heap[b]? := fun b hb => Below.heap_setCell _ _ _ _ hb
 have hsz : (W3.setCell ⟨X, 4, none⟩ (.slice (some ⟨g, 0, none⟩) (ks.length + 1) cap)).heap.size = W3.heap.size := by simp
 have hXn : kv.ownBlock ≠ some X := fun e => by have := hkl X e; omega
 have hgo : ∀ b, b < Wp.heap.size -> kv.ownBlock ≠ some b -> b ≠ g := fun b hb hne e => by
  subst e
  rcases hat with h | h
  ·exact hne h
  ·omega
 have qa : ∀ b, b < Wp.heap.size -> b ≠ X -> kv.ownBlock ≠ some b -> (W3.setCell ⟨X, 4, none⟩ (.slice (some ⟨g, 0, none⟩) (ks.length + 1) cap)).heap[b]? = Wp.heap[b]? := fun b hb hbX hne => by
  rw [qs b hbX, p5 b (hgo b hb hne), q1 b hb hne]
 have qw : ∀ b, b < W.heap.size -> b ≠ R -> b ≠ X -> kv.ownBlock ≠ some b -> (W3.setCell ⟨X, 4, none⟩ (.slice (some ⟨g, 0, none⟩) (ks.length + 1) cap)).heap[b]? = W.heap[b]? := fun b hb hR hbX hne => by
  rw [qa b (by omega) hbX hne, hn.block b hb hR]
 have hbox3 : W3.heap[X]? = _ := (p5 X (fun e => hgX e.symm)).trans ((q1 X (by omega) hXn).trans ((hn.block X hX (by omega)).trans h0.box))
 have hfar : ∀ b, kv.ownBlock ≠ some b -> b < Wp.heap.size -> (Value.slice (some ⟨g, 0, none⟩) (ks.length + 1) cap).ownBlock ≠ some b := by
  intro b h1 h2 e
  have e : g = b := by simpa [Value.ownBlock] using e
  exact hgo b h2 h1 e.symm
 refine ⟨⟨?_, ?_, ?_, by rw [hsz, p5s]; have := h0.near.size; omega, fun b hb hne => ?_⟩, ?_, owns_keep h0.names fun g' hg' => ?_, h0.short, ⟨xs ++ [c0, c1, c2, c3, c4], ?_, fun j hj => ?_⟩, fun b hb => ?_⟩
 ·show W3.os = w.os
  rw [hbl5.os, hgrow.os]; exact hn.os.trans h0.near.os
 ·show W3.tape = w.tape
  rw [hbl5.tape, hgrow.tape]; exact hn.tape.trans h0.near.tape
 ·show W3.output = w.output
  rw [hbl5.output, hgrow.output]; exact hn.output.trans h0.near.output
 ·have hs := h0.near.size
  rw [qw b (by omega) hne (by omega) (fun e => by have := hkl b e; omega)]
  exact h0.near.block b hb hne
 ·simp [World.setCell, Array.getElem?_modify, hbox3]
 ·have := hnl g' hg'
  exact qw g' this.2 (by omega) (by omega) (h0.apart g' hg')
 ·rw [List.length_append, List.length_singleton]
  exact owns_keep hown5 fun g' hg' => qs g' (by have := owns_lt hown5 g' hg'; omega)
 ·by_cases hjk : j < ks.length
  ·obtain ⟨d0, d1, d2, d3, d4, ⟨e0, e1, e2, e3, e4⟩, hd⟩ := hk j hjk
   have hlift : ∀ o v, o < 5 -> xs[j * 5 + o]? = some v -> (xs ++ [c0, c1, c2, c3, c4])[j * 5 + o]? = some v := fun o v ho h => by
    rw [List.getElem?_append_left (by omega)]; exact h
   refine ⟨d0, d1, d2, d3, d4, ⟨hlift 0 _ (by omega) e0, hlift 1 _ (by omega) e1, hlift 2 _ (by omega) e2, hlift 3 _ (by omega) e3, hlift 4 _ (by omega) e4⟩, ?_⟩
   rw [List.getElem_append_left hjk]
   refine hd.keep (fun b hb => ?_) (fun b hb => ⟨hb.1, by rw [hsz, p5s]; have := hb.2.1; omega, hb.2.2.1, hfar b hb.2.2.2 (by have := hb.2.1; omega)⟩)
   have h1 := hb.1
   exact qw b hb.2.1 (by omega) (by omega) hb.2.2.2
  ·have hje : j = ks.length := by
    rw [List.length_append, List.length_singleton] at hj; omega
   subst hje
   refine ⟨c0, c1, c2, c3, c4, ⟨?_, ?_, ?_, ?_, ?_⟩, ?_⟩
   ·rw [List.getElem?_append_right (by omega), show ks.length * 5 - xs.length = 0 by omega]; rfl
   ·rw [List.getElem?_append_right (by omega), show ks.length * 5 + 1 - xs.length = 1 by omega]; rfl
   ·rw [List.getElem?_append_right (by omega), show ks.length * 5 + 2 - xs.length = 2 by omega]; rfl
   ·rw [List.getElem?_append_right (by omega), show ks.length * 5 + 3 - xs.length = 3 by omega]; rfl
   ·rw [List.getElem?_append_right (by omega), show ks.length * 5 + 4 - xs.length = 4 by omega]; rfl
   ·rw [List.getElem_append_right (Nat.le_refl _)]
    simp only [Nat.sub_self, List.getElem_cons_zero]
    refine ht.keep (fun b hb => ?_) (fun b hb => ⟨by omega, by rw [hsz, p5s]; omega, fun e => by have := hnl b e; omega, hfar b (fun e => by have := hkl b e; omega) hb.2⟩)
    exact qa b hb.2 (by omega) (fun e => by have := hkl b e; omega)
 ·have := hnl b hb
  exact hfar b (h0.apart b hb) (by omega)
theorem kidZ_cur {R X n g q : Nat} {W Wp W2 : World} {kv u c0 c1 c2 c3 c4 : Value} {xs : List Value} {c : Obj} (hRX : R < X) (hxs : W.ownsRow (X + 1) 27 5 kv n xs) (hgrow : Wp.grownBy W2 kv.ownBlock) (hgX : X < g) (hRl : R < Wp.heap.size) (hc : Wp.heap[R]? = some c) : ((put5 W2 g q c0 c1 c2 c3 c4).setCell ⟨X, 4, none⟩ u).heap[R]? = some c := by
 rw [Below.heap_setCell _ _ _ _ (by show R ≠ X; omega), put5_other (by omega), hgrow.block R hRl (fun e => by have := owns_lt hxs R e.symm; omega)]
 exact hc
abbrev zeroT : Obj := .cells #[.int .i64 0, .int .i64 0, .string ⟨#[]⟩, .slice none 0 0, .slice none 0 0] 27
theorem boxZ_after {R X k z : Nat} {e : TypeId} {v : Value} {xs : List Value} {W Wp W2 : World} {c : Obj} (hb : W.heap[X]? = some c) (hx : W.ownsRow (X + 1) e z v k xs) (hRX : R < X) (hn : Near R W Wp) (hg : Wp.grownBy W2 v.ownBlock) : W2.heap[X]? = some c := by
 have hX : X < W.heap.size := (Array.getElem?_eq_some_iff.1 hb).1
 have := hn.size
 rw [hg.block X (by omega) (fun e => by have := owns_lt hx X e.symm; omega), hn.block X hX (by omega)]
 exact hb
theorem zero_kept {R : Nat} {wc v2 : World} (hn : Near R (wc.drew.alloc zeroT) v2) (hR : R < wc.heap.size) : v2.heap[wc.heap.size]? = some (.cells #[.int .i64 0, .int .i64 0, .string ⟨#[]⟩, .slice none 0 0, .slice none 0 0] 27 (0, 0)) := by
 rw [hn.block wc.heap.size (by show _ < (wc.heap.push _).size; simp) (by omega)]
 exact heap_alloc_new wc.drew zeroT
theorem owns_near {R X k z : Nat} {e : TypeId} {v : Value} {xs : List Value} {W w2 : World} (h : W.ownsRow (X + 1) e z v k xs) (hRX : R < X) (hn : Near R W w2) : w2.ownsRow (X + 1) e z v k xs :=
 owns_keep h fun g hg => hn.block g (owns_lt h g hg).2 (by have := (owns_lt h g hg).1; omega)
theorem ManyP.kidZ {R X n : Nat} {w W Wp W2 : World} {so : Int} {ns : List ByteArray} {ks : List (T n)} {nv kv : Value} {t : T n} {c0 c1 c2 c3 c4 z0 z1 z2 z3 z4 : Value} {g cap : Nat} (h0 : Many R X n w W so ns ks nv kv) (hRX : R < X) (hw : w.heap.size <= X)
  (hn : Near R W Wp) (ht : TreeIn (fun b => W.heap.size <= b /\ b < Wp.heap.size) Wp n t c0 c1 c2 c3 c4) (hot : OwnT (fun b => W.heap.size <= b /\ b < Wp.heap.size) Wp n t c3 c4) {xs : List Value} {Ps : List (List Spot)}
  (hxs : W.ownsRow (X + 1) 27 5 kv ks.length xs) (hpl : Ps.length = ks.length) (hko : KidsOwn (Far (X + 1) nv kv W.heap.size) W n ks xs Ps) (hln : Ps.flatten.length + 3 * ks.length = sumL (fun x => 3 + spL n x) ks)
  (hown : W2.ownsRow (X + 1) 27 5 (.slice (some ⟨g, 0, none⟩) (ks.length + 1) cap) (ks.length + 1) (xs ++ [z0, z1, z2, z3, z4])) (hgrow : Wp.grownBy W2 kv.ownBlock) (hat : kv.ownBlock = some g ∨ g = Wp.heap.size) :
  ManyP R X n w ((put5 W2 g (ks.length * 5) c0 c1 c2 c3 c4).setCell ⟨X, 4, none⟩ (.slice (some ⟨g, 0, none⟩) (ks.length + 1) cap)) so ns (ks ++ [t]) nv (.slice (some ⟨g, 0, none⟩) (ks.length + 1) cap) := by
 have hM := Many.kidZ h0 hRX hw hn ht hxs (fun j hj => by
  obtain ⟨d0, d1, d2, d3, d4, K3, K4, hx, -, hdt, -⟩ := hko.2 j hj (by omega)
  exact ⟨d0, d1, d2, d3, d4, hx, hdt⟩) hown hgrow hat
 have hX := h0.lt
 have hz1 := hn.size
 have hz : W2.heap.size ≥ Wp.heap.size := hgrow.size
 have hkl := owns_lt hxs
 have hgl := owns_lt hown g rfl
 have hxl : xs.length = ks.length * 5 := hxs.1
 have q1 : ∀ b, b < Wp.heap.size -> kv.ownBlock ≠ some b -> W2.heap[b]? = Wp.heap[b]? := fun b hb hne => hgrow.block b hb (fun e => hne e.symm)
 have hown5 : (put5 W2 g (ks.length * 5) c0 c1 c2 c3 c4).ownsRow (X + 1) 27 5 (.slice (some ⟨g, 0, none⟩) (ks.length + 1) cap) (ks.length + 1) (xs ++ [c0, c1, c2, c3, c4]) := by
  unfold put5
  rw [<- set5_app hxl z0 z1 z2 z3 z4 c0 c1 c2 c3 c4]
  exact own_setz (own_setz (own_setz (own_setz (own_setz hown g _ rfl c0) g _ rfl c1) g _ rfl c2) g _ rfl c3) g _ rfl c4
 have p5 : ∀ b, b ≠ g -> (put5 W2 g (ks.length * 5) c0 c1 c2 c3 c4).heap[b]? = W2.heap[b]? := fun b hb => put5_other hb
 have p5s : (put5 W2 g (ks.length * 5) c0 c1 c2 c3 c4).heap.size = W2.heap.size := put5_size
 generalize put5 W2 g (ks.length * 5) c0 c1 c2 c3 c4 = W3 at *
 have qs : ∀ b, b ≠ X -> (W3.setCell ⟨X, 4, none⟩ (.slice (some ⟨g, 0, none⟩) (ks.length + 1) cap)).heap[b]? = W3.heap[b]? := fun b hb => Below.heap_setCell _ _ _ _ hb
 have hsz : (W3.setCell ⟨X, 4, none⟩ (.slice (some ⟨g, 0, none⟩) (ks.length + 1) cap)).heap.size = W3.heap.size := by simp
 have hgo : ∀ b, b < Wp.heap.size -> kv.ownBlock ≠ some b -> b ≠ g := fun b hb hne e => by
  subst e
  rcases hat with h | h
  ·exact hne h
  ·omega
 have qa : ∀ b, b < Wp.heap.size -> b ≠ X -> kv.ownBlock ≠ some b -> (W3.setCell ⟨X, 4, none⟩ (.slice (some ⟨g, 0, none⟩) (ks.length + 1) cap)).heap[b]? = Wp.heap[b]? := fun b hb hbX hne => by
  rw [qs b hbX, p5 b (hgo b hb hne), q1 b hb hne]
 have hfar : ∀ b, kv.ownBlock ≠ some b -> b < Wp.heap.size -> (Value.slice (some ⟨g, 0, none⟩) (ks.length + 1) cap).ownBlock ≠ some b := by
  intro b h1 h2 e
  have e : g = b := by simpa [Value.ownBlock] using e
  exact hgo b h2 h1 e.symm
 have hnl := owns_lt h0.names
 obtain ⟨L3, L4, s3, s4, so4, sl⟩ := hot.keep (w' := W3.setCell ⟨X, 4, none⟩ (.slice (some ⟨g, 0, none⟩) (ks.length + 1) cap)) (fun b hb => qa b hb.2 (by omega) (fun e => by have := hkl b e; omega)) (fun _ h => h)
 have ht3 := ht.keep (w' := W3.setCell ⟨X, 4, none⟩ (.slice (some ⟨g, 0, none⟩) (ks.length + 1) cap)) (fun b hb => qa b hb.2 (by omega) (fun e => by have := hkl b e; omega)) (fun _ h => h)
 have hk3 := hko.keep (w' := W3.setCell ⟨X, 4, none⟩ (.slice (some ⟨g, 0, none⟩) (ks.length + 1) cap)) (fun b hb => by
  have h1 := hb.1
  have h2 := hb.2.1
  rw [qa b (by omega) (by omega) hb.2.2.2, hn.block b h2 (by omega)]) (fun _ h => h)
 have hS := hk3.snoc hpl hxl ht3 s3 s4 so4 (fun b h1 h2 => by have := h1.2.1; omega)
 refine ⟨hM, xs ++ [c0, c1, c2, c3, c4], Ps ++ [L3 ++ L4], ?_, by simp [hpl], hS.keep (fun _ _ => rfl) (fun b hb => ?_), ?_⟩
 ·rw [List.length_append, List.length_singleton]
  exact owns_keep hown5 fun g' hg' => qs g' (by have := owns_lt hown5 g' hg'; omega)
 ·rcases hb with hb | hb
  ·exact ⟨hb.1, by rw [hsz, p5s]; have := hb.2.1; omega, hb.2.2.1, hfar b hb.2.2.2 (by have := hb.2.1; omega)⟩
  ·exact ⟨by omega, by rw [hsz, p5s]; omega, fun e => by have := hnl b e; omega, hfar b (fun e => by have := hkl b e; omega) hb.2⟩
 ·rw [sumL_app1, <- hln, List.flatten_append, List.flatten_singleton, List.length_append, sl, List.length_append, List.length_singleton]; omega
theorem kidZ_all {L R X j g cap lcap i0 i5 kc : Nat} {ka ao : Option Addr} {l : List UInt8} {w0 wc Wp v3 : World} {so : Int} {ns : List ByteArray} {ks : List (T L)} {nv : Value} {t : T L} {c0 c1 c2 c3 c4 z0 z1 z2 z3 z4 : Value} {xs : List Value} (hkl : ks.length = j) (h0 : Many R X L w0 wc so ns ks nv (.slice ka j kc)) (hRX : R < X) (hw : w0.heap.size <= X)
  (hn : Near R wc Wp) (ht : TreeIn (fun b => wc.heap.size <= b /\ b < Wp.heap.size) Wp L t c0 c1 c2 c3 c4)
  (hot : OwnT (fun b => wc.heap.size <= b /\ b < Wp.heap.size) Wp L t c3 c4) {Ps : List (List Spot)} (hxs : wc.ownsRow (X + 1) 27 5 (.slice ka j kc) j xs) (hpl : Ps.length = ks.length) (hko : KidsOwn (Far (X + 1) nv (.slice ka j kc) wc.heap.size) wc L ks xs Ps) (hln : Ps.flatten.length + 3 * ks.length = sumL (fun x => 3 + spL L x) ks)
  (hown : v3.ownsRow (X + 1) 27 5 (.slice (some ⟨g, 0, none⟩) (j + 1) cap) (j + 1) (xs ++ [z0, z1, z2, z3, z4])) (hgrow : Wp.grownBy v3 (Value.slice ka j kc).ownBlock) (hat : (Value.slice ka j kc).ownBlock = some g ∨ g = Wp.heap.size) (hc0 : Cu w0 R ao l lcap i0) (hcp : Cu Wp R ao l lcap i5) :
  (ManyP R X L w0 ((((((v3.setCell ⟨g, j * 5, none⟩ c0).setCell ⟨g, j * 5 + 1, none⟩ c1).setCell ⟨g, j * 5 + 2, none⟩ c2).setCell ⟨g, j * 5 + 3, none⟩ c3).setCell ⟨g, j * 5 + 4, none⟩ c4).setCell ⟨X, 4, none⟩ (.slice (some ⟨g, 0, none⟩) (j + 1) cap)) so ns (ks ++ [t]) nv (.slice (some ⟨g, 0, none⟩) (j + 1) cap) /\
   Cu ((((((v3.setCell ⟨g, j * 5, none⟩ c0).setCell ⟨g, j * 5 + 1, none⟩ c1).setCell ⟨g, j * 5 + 2, none⟩ c2).setCell ⟨g, j * 5 + 3, none⟩ c3).setCell ⟨g, j * 5 + 4, none⟩ c4).setCell ⟨X, 4, none⟩ (.slice (some ⟨g, 0, none⟩) (j + 1) cap)) R ao l lcap i5) /\
  (ManyP R X L w0 ((((((v3.setCell ⟨X, 4, none⟩ (.slice (some ⟨g, 0, none⟩) (j + 1) cap)).setCell ⟨g, j * 5, none⟩ c0).setCell ⟨g, j * 5 + 1, none⟩ c1).setCell ⟨g, j * 5 + 2, none⟩ c2).setCell ⟨g, j * 5 + 3, none⟩ c3).setCell ⟨g, j * 5 + 4, none⟩ c4) so ns (ks ++ [t]) nv (.slice (some ⟨g, 0, none⟩) (j + 1) cap) /\
   Cu ((((((v3.setCell ⟨X, 4, none⟩ (.slice (some ⟨g, 0, none⟩) (j + 1) cap)).setCell ⟨g, j * 5, none⟩ c0).setCell ⟨g, j * 5 + 1, none⟩ c1).setCell ⟨g, j * 5 + 2, none⟩ c2).setCell ⟨g, j * 5 + 3, none⟩ c3).setCell ⟨g, j * 5 + 4, none⟩ c4) R ao l lcap i5) := by
 subst hkl
 have hgl := owns_lt hown g rfl
 have hF := ManyP.kidZ h0 hRX hw hn ht hot hxs hpl hko hln hown hgrow hat
 have hC : Cu ((put5 v3 g (ks.length * 5) c0 c1 c2 c3 c4).setCell ⟨X, 4, none⟩ (.slice (some ⟨g, 0, none⟩) (ks.length + 1) cap)) R ao l lcap i5 := hc0.keep hF.near (kidZ_cur hRX hxs hgrow (by omega) (by have := hcp.lt; omega) hcp.box) hcp.le
 have hG := hF
 have hD := hC
 rw [<- put_swap _ _ _ _ _ _ _ _ _ _ _ (by omega)] at hG hD
 exact ⟨⟨hF, hC⟩, ⟨hG, hD⟩⟩
end Go.Proofs.YtmjhcgjhlakceaaGreatDoor

namespace Go.Proofs.YtmjhcgjhlakceaaGreatDoor
open Go.RowKit
theorem spL_le : ∀ (n : Nat) (t : T n) (d : Int), goodT n t d = true -> spL n t + 4 <= 4 * cntT n t := by
 intro n
 induction n with
 | zero => intro t d h; simp [goodT] at h
 | succ n ih =>
  intro t d h
  have key : ∀ ks : List (T n), (∀ k, k ∈ ks -> goodT n k (d + 1) = true) -> ks.length + sumL (fun k => 3 + spL n k) ks <= 4 * sumL (fun k => cntT n k) ks := by
   intro ks
   induction ks with
   | nil => intro _; simp [sumL]
   | cons k r ihk =>
    intro hk
    have h1 := ih k (d + 1) (hk k (List.mem_cons_self ..))
    have h2 := ihk (fun x hx => hk x (List.mem_cons_of_mem _ hx))
    simp only [sumL, List.length_cons] at h2 ⊢
    omega
  have hc : cntT (n + 1) t = 1 + sumL (fun k => cntT n k) (Nd.kids t) := rfl
  have hs : spL (n + 1) t = (Nd.names t).length + sumL (fun k => 3 + spL n k) (Nd.kids t) := rfl
  rw [hc, hs]
  have hk := List.all_eq_true.1 (by simp only [goodT, Bool.and_eq_true] at h; exact h.2)
  have h0 := key (Nd.kids t) hk
  have hn : (Nd.names t).length <= (Nd.kids t).length := by
   rcases goodT_cases h with ⟨k, q0, q1, q2⟩ | ⟨y, q3, q1, q2⟩ | ⟨q1, q2⟩ | ⟨q1, q2⟩ | ⟨ks, q1, q3, q2⟩ | ⟨ns, ks, q1, q3, q4, q5, q2⟩ | ⟨q1, q2⟩ | ⟨y, q1, q3, q2⟩
   case inr.inr.inr.inr.inr.inl => rw [q1]; exact Nat.le_of_eq q3
   all_goals (rw [q1]; exact Nat.zero_le _)
  omega
end Go.Proofs.YtmjhcgjhlakceaaGreatDoor
