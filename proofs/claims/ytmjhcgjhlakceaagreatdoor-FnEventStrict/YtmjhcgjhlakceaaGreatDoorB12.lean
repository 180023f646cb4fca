/-
  Several texts in one, in their order.
-/
import Derived.Test.YtmjhcgjhlakceaaGreatDoorB5
import Derived.Test.YtmjhcgjhlakceaaGreatDoorShelf
import Derived.Lib.Hide
import Derived.Test.YtmjhcgjhlakceaaGreatDoorB11
import Derived.Test.YtmjhcgjhlakceaaGreatDoorB6
import Derived.Test.YtmjhcgjhlakceaaGreatDoorB1
import Derived.Deep.RegionLaw

namespace Go.Proofs.YtmjhcgjhlakceaaGreatDoor
open Go.RowKit
theorem Tryz.info_strO : (Tryz.prog.info? 9).map (fun i => (i.zero, i.size, i.bytes)) = some (some (.string ⟨#[]⟩), 1, 16) := by kernel_rfl
set_option maxHeartbeats 400000 in
theorem stringsClone_any (s : ByteArray) (w : World) (h : s.size <= 10000) : Calls Tryz.prog 74 #[.string s] w fun e w' => e = .returned (.string s) /\ Below w.heap.size w w' := by
 have HC : Hid (Calls Tryz.prog 107 _ _ _) := Tryz.stringslite_Clone s w (by omega)
 go_enter Tryz.func74, Tryz.ntmps74
 go_wp2_with fail
 refine HC.out.mono ?_
 rintro e w1 ⟨rfl, hb⟩
 clear HC
 go_wp2_with fail
 go_ret
 exact ⟨rfl, hb⟩
set_option maxRecDepth 100000 in
set_option maxHeartbeats 2000000 in
theorem copyNames_any (S : Nat -> Prop) (l : List ByteArray) (v : Value) (w : World) (hl : StrsIn S w l v) (hB : ∀ b, S b -> b < w.heap.size) (hlen : l.length <= 10000) (hs : ∀ s, s ∈ l -> s.size <= 10000) :
  Calls Tryz.prog 111 #[v] w fun e w' => ∃ v', e = .returned v' /\ w'.ownsRow w.heap.size 9 1 v' l.length (l.map .string) /\ Below w.heap.size w w' := by
 obtain ⟨ao, cap, rfl, -, -, hcell⟩ := hl
 obtain ⟨i0, hi, hzz0, hzz1, hzz2⟩ := info_parts Tryz.info_strO
 have HI : Hid (_ /\ _ /\ _ /\ _) := ⟨hi, hzz0, hzz1, hzz2⟩
 have HS := hidF hs
 clear hi hzz0 hzz1 hzz2 hs
 go_enter Tryz.func111, Tryz.ntmps111
 go_wp2_with fail
 go_loopw [3, 8] (fun v i wr => ∃ k : Nat, k <= l.length /\ i = .int .i64 k /\ wr.ownsRow w.heap.size 9 1 v k ((l.take k).map .string) /\ Below w.heap.size w wr) (fun _ i _ => l.length - (intOf i).toNat)
 case atStart => exact ⟨0, Nat.zero_le _, rfl, World.ownsRow_nil _ _ _ _, Below.refl _ _⟩
 case round =>
  obtain ⟨k, hk, rfl, hown, hbel⟩ := hrel
  obtain ⟨va, vc, rfl⟩ := r1_shape hown
  have hzr := hbel.size
  have HX := hidF hown
  clear hown
  by_cases hlt : k < l.length
  ·obtain ⟨b, off, rfl, hbB, hcl⟩ := hcell (by intro h; rw [h] at hlt; simp at hlt)
   have f0 := (hbel.cell (p := ⟨b, off + k, none⟩) (hB b hbB)).trans (hcl k hlt)
   have HC : Hid (Calls Tryz.prog 74 _ _ _) := stringsClone_any l[k] wr (HS.out _ (List.getElem_mem hlt))
   have HT : Hid ((l.take (k + 1)).map Value.string = (l.take k).map .string ++ [.string l[k]]) := by show _ = _; rw [List.take_succ_eq_append_getElem hlt, List.map_append]; rfl
   clear hcell hcl
   generalize l[k] = nm at *
   go_wp2_with fail
   refine HC.out.mono ?_
   rintro e w2 ⟨rfl, hb2⟩
   have hsz2 := hb2.size
   have HO2 : Hid (w2.ownsRow w.heap.size 9 1 (.slice va k vc) k ((l.take k).map .string)) := r1_keep HX.out (fun g' hg' => hb2.block g' (r1_lt HX.out g' hg').2)
   have HB2 : Hid (Below w.heap.size w w2) := hbel.trans (hb2.mono hzr)
   clear hb2 f0 HC
   go_wp2_with (at_builtin; refine wpList_append_lies _ rfl (.tmp 12) (.tmp 15) 24 rfl w.heap.size 9 i0 _ 1 16 Tryz.underlying24 HI.out.1 HI.out.2.1 HI.out.2.2.1 HI.out.2.2.2 rfl (by decide) (.slice va k vc) k ((l.take k).map .string) rfl (HO2.out.alloc _) ⟨w2.heap.size, 0, none⟩ 1 1 [.string nm] rfl rfl (World.news_of_block (heap_alloc_new w2 _)) (by simp [Value.oneCell']) (by decide) (by unfold maxLen; omega) (by omega) (by simp; omega) (w2.heap.size + 1) (by simp) ?_; intro g cap w3 hown3 hgrow3 hat3 hlt3; refine Hid.out ?_)
   refine Lib.hid ?_
   have HF : Hid (w3.ownsRow w.heap.size 9 1 (.slice (some ⟨g, 0, none⟩) (k + 1) cap) (k + 1) ((l.take (k + 1)).map .string)) := by
    show w3.ownsRow _ _ _ _ _ _
    rw [HT.out]; exact hown3
   have HB3 : Hid (Below w.heap.size w w3) := (HB2.out.alloc (by omega) (.cells #[.string nm] 9)).grown hgrow3 (by simp; omega) (fun q hq => (r1_lt HO2.out q hq).1)
   clear hown3 hgrow3 hat3 HO2 HX HB2
   go_wp2_with fail
   go_roundw
   case rel => exact ⟨k + 1, by omega, by go_num, HF.out, HB3.out⟩
   case measure => simp [intOf]; omega
  ·have hkl : k = l.length := by omega
   have HP : Hid (wr.ownsRow w.heap.size 9 1 (.slice va k vc) l.length (l.map .string)) := by
    have h1 := HX.out
    rw [hkl, List.take_length] at h1
    rw [hkl]; exact h1
   clear hkl hcell HX
   go_wp2_with fail
   go_ret
   exact ⟨_, rfl, HP.out, hbel⟩
theorem sumL_snoc {α : Type} (f : α -> Nat) (l : List α) (x : α) : sumL f (l ++ [x]) = sumL f l + f x := by
 induction l with
 | nil => simp [sumL]
 | cons a r ih => simp only [List.cons_append, sumL, ih]; omega
end Go.Proofs.YtmjhcgjhlakceaaGreatDoor

namespace Go.Proofs.YtmjhcgjhlakceaaGreatDoor
open Go.RowKit
def cleanT : (n : Nat) -> T n -> Prop
 | 0, _ => False
 | n + 1, t => (Nd.sort t = 1 -> Nd.text t = ByteArray.empty /\ Nd.names t = [] /\ Nd.kids t = []) /\ (Nd.sort t = 2 -> Nd.num t = 0 /\ Nd.names t = [] /\ Nd.kids t = []) /\
   (Nd.sort t = 3 -> Nd.text t = ByteArray.empty /\ Nd.names t = [] /\ Nd.kids t = [] /\ (Nd.num t = 0 ∨ Nd.num t = 1)) /\ (Nd.sort t = 4 -> Nd.num t = 0 /\ Nd.text t = ByteArray.empty /\ Nd.names t = []) /\
   (Nd.sort t = 5 -> Nd.num t = 0 /\ Nd.text t = ByteArray.empty) /\ (Nd.sort t = 6 -> Nd.num t = 0 /\ Nd.text t = ByteArray.empty /\ Nd.names t = []) /\
   -999999999 <= Nd.num t /\ Nd.num t <= 999999999 /\ (Nd.text t).size <= 10000 /\ (Nd.names t).length <= 10000 /\ (∀ s, s ∈ Nd.names t -> s.size <= 10000) /\ (Nd.kids t).length <= 10000 /\ ∀ k, k ∈ Nd.kids t -> cleanT n k
theorem Tryz.info_treeO : (Tryz.prog.info? 27).map (fun i => (i.zero, i.size, i.bytes)) = some (some (.agg #[.int .i64 0, .int .i64 0, .string ⟨#[]⟩, .slice none 0 0, .slice none 0 0]), 5, 80) := by kernel_rfl
structure OutLoop (M n : Nat) (ks : List (T n)) (w1 : World) (k : Nat) (v : Value) (wr : World) : Prop where
 below : Below M w1 wr
 row : ∃ xs Ps, wr.ownsRow M 27 5 v k xs /\ Ps.length = k /\ KidsOwn (fun b => M <= b /\ b < wr.heap.size /\ v.ownBlock ≠ some b) wr n ks xs Ps /\ Ps.flatten.length + 3 * k = sumL (fun x => 3 + spL n x) (ks.take k)
theorem out_next {M n : Nat} {ks : List (T n)} {w1 wr w2 w3 : World} {k g cap : Nat} {v : Value} {xs : List Value} {Ps : List (List Spot)} {one : Obj} {c0 c1 c2 c3 c4 : Value} {L3 L4 : List Spot} (h : Below M w1 wr) (hk : k < ks.length) (hMr : M <= wr.heap.size)
  (hown : wr.ownsRow M 27 5 v k xs) (hpl : Ps.length = k) (hko : KidsOwn (fun b => M <= b /\ b < wr.heap.size /\ v.ownBlock ≠ some b) wr n ks xs Ps) (hln : Ps.flatten.length + 3 * k = sumL (fun x => 3 + spL n x) (ks.take k))
  (hb2 : Below wr.heap.size wr w2) (hin : TreeIn (fun b => wr.heap.size <= b /\ b < w2.heap.size) w2 n ks[k] c0 c1 c2 c3 c4) (h3 : SpN w2 c3 L3) (h4 : SpR w2 (n - 1) c4 L4) (ho : Own (fun b => wr.heap.size <= b /\ b < w2.heap.size) (L3 ++ L4)) (hl : (L3 ++ L4).length = spL n ks[k])
  (hown' : w3.ownsRow M 27 5 (.slice (some ⟨g, 0, none⟩) (k + 1) cap) (k + 1) (xs ++ [c0, c1, c2, c3, c4])) (hgrow : (w2.alloc one).grownBy w3 v.ownBlock) (hat : v.ownBlock = some g ∨ g = w2.heap.size + 1) :
  OutLoop M n ks w1 (k + 1) (.slice (some ⟨g, 0, none⟩) (k + 1) cap) w3 := by
 have hz2 := hb2.size
 have hz3 := hgrow.size
 simp at hz3
 have hrl : ∀ b, v.ownBlock = some b -> M <= b /\ b < wr.heap.size := r1_lt hown
 have hxl : xs.length = k * 5 := hown.1
 have q3 : ∀ b, b < w2.heap.size -> v.ownBlock ≠ some b -> w3.heap[b]? = w2.heap[b]? := fun b hb hne => by
  rw [hgrow.block b (by simp; omega) (fun e => hne e.symm), Below.heap_alloc _ _ _ hb]
 have q2 : ∀ b, b < wr.heap.size -> v.ownBlock ≠ some b -> w3.heap[b]? = wr.heap[b]? := fun b hb hno => by
  rw [q3 b (by omega) hno, hb2.block b hb]
 have hfar : ∀ b, v.ownBlock ≠ some b -> b < w2.heap.size -> (Value.slice (some ⟨g, 0, none⟩) (k + 1) cap).ownBlock ≠ some b := by
  intro b h1 h2 e
  have e : g = b := by simpa [Value.ownBlock] using e
  rcases hat with h3 | h3
  ·exact h1 (by rw [h3, e])
  ·omega
 have hnv : ∀ b, wr.heap.size <= b -> v.ownBlock ≠ some b := fun b h1 e => by have := hrl b e; omega
 refine ⟨⟨?_, ?_, ?_, by have := h.size; omega, fun b hb => ?_⟩, xs ++ [c0, c1, c2, c3, c4], Ps ++ [L3 ++ L4], hown', by simp [hpl], ⟨?_, fun j hj hp => ?_⟩, ?_⟩
 ·rw [hgrow.os]; exact hb2.os.trans h.os
 ·rw [hgrow.tape]; exact hb2.tape.trans h.tape
 ·rw [hgrow.output]; exact hb2.output.trans h.output
 ·rw [q2 b (by omega) (fun e => by have := hrl b e; omega)]; exact h.block b hb
 ·rw [List.flatten_append, List.flatten_singleton]
  refine hko.1.app ho (fun b hb => ⟨hb.1, by omega, hfar b hb.2.2 (by omega)⟩) (fun b hb => ⟨by omega, by omega, hfar b (hnv b hb.1) hb.2⟩) (fun b h1 h2 => by omega)
 ·by_cases hjk : j < k
  ·have hjp : j < Ps.length := by omega
   obtain ⟨d0, d1, d2, d3, d4, K3, K4, hd, hPj, hdt, hd3, hd4⟩ := hko.2 j hj hjp
   have hsp : ∀ s, s ∈ K3 ++ K4 -> w3.heap[s.b]? = wr.heap[s.b]? := fun s hs => by
    have := hko.1.1 s (List.mem_flatten.2 ⟨_, List.getElem_mem hjp, by rw [hPj]; exact hs⟩)
    exact q2 s.b this.2.1 this.2.2
   refine ⟨d0, d1, d2, d3, d4, K3, K4, ?_, by rw [List.getElem_append_left hjp]; exact hPj, hdt.keep (fun b hb => q2 b hb.2.1 hb.2.2) (fun b hb => ⟨hb.1, by have := hb.2.1; omega, hfar b hb.2.2 (by have := hb.2.1; omega)⟩),
    hd3.same (fun s hs => hsp s (List.mem_append_left _ hs)), hd4.same (fun s hs => hsp s (List.mem_append_right _ hs))⟩
   rw [List.getElem?_append_left (by omega), List.getElem?_append_left (by omega), List.getElem?_append_left (by omega), List.getElem?_append_left (by omega), List.getElem?_append_left (by omega)]
   exact hd
  ·have hjk' : j = k := by simp at hp; omega
   subst hjk'
   have hsp : ∀ s, s ∈ L3 ++ L4 -> w3.heap[s.b]? = w2.heap[s.b]? := fun s hs => by
    have := ho.1 s hs
    exact q3 s.b this.2 (hnv _ this.1)
   refine ⟨c0, c1, c2, c3, c4, L3, L4, ?_, by simp [<- hpl], hin.keep (fun b hb => q3 b hb.2 (hnv b hb.1)) (fun b hb => ⟨by have := hb.1; omega, by have := hb.2; omega, hfar b (hnv b hb.1) hb.2⟩),
    h3.same (fun s hs => hsp s (List.mem_append_left _ hs)), h4.same (fun s hs => hsp s (List.mem_append_right _ hs))⟩
   rw [List.getElem?_append_right (by omega), List.getElem?_append_right (by omega), List.getElem?_append_right (by omega), List.getElem?_append_right (by omega), List.getElem?_append_right (by omega), hxl,
    Nat.sub_self, show j * 5 + 1 - j * 5 = 1 by omega, show j * 5 + 2 - j * 5 = 2 by omega, show j * 5 + 3 - j * 5 = 3 by omega, show j * 5 + 4 - j * 5 = 4 by omega]
   exact ⟨rfl, rfl, rfl, rfl, rfl⟩
 ·rw [List.take_succ_eq_append_getElem hk, sumL_snoc, <- hln, List.flatten_append, List.flatten_singleton, List.length_append, hl]; omega
def OutPost (n : Nat) (t : T n) (w : World) (e : Ending) (w' : World) : Prop :=
 Below w.heap.size w w' /\ ∃ g0 g1 g2 g3 g4 L3 L4, e = .returned (.agg #[g0, g1, g2, g3, g4]) /\ TreeIn (fun b => w.heap.size <= b /\ b < w'.heap.size) w' n t g0 g1 g2 g3 g4 /\ SpN w' g3 L3 /\ SpR w' (n - 1) g4 L4 /\
  Own (fun b => w.heap.size <= b /\ b < w'.heap.size) (L3 ++ L4) /\ (L3 ++ L4).length = spL n t
def OutSaid (n : Nat) : Prop := ∀ (S : Nat -> Prop) (t : T n) (iv : Value) (w : World), InnerT S w n t iv -> (∀ b, S b -> b < w.heap.size) -> cleanT n t -> Calls Tryz.prog 79 #[iv] w (OutPost n t w)
set_option maxRecDepth 100000 in
set_option maxHeartbeats 2000000 in
theorem outerTrees_any (n : Nat) (hn : OutSaid n) (S : Nat -> Prop) (ks : List (T n)) (v : Value) (w : World) (hr : Row1 S w (InnerT S w n) ks v) (hB : ∀ b, S b -> b < w.heap.size) (hkc : ks.length <= 10000) (hcl : ∀ k, k ∈ ks -> cleanT n k) :
  Calls Tryz.prog 110 #[v] w fun e w' => Below w.heap.size w w' /\ ∃ v' L, e = .returned v' /\ RowIn (fun b => w.heap.size <= b /\ b < w'.heap.size) w' (TreeIn (fun b => w.heap.size <= b /\ b < w'.heap.size) w' n) ks v' /\ SpR w' n v' L /\
   Own (fun b => w.heap.size <= b /\ b < w'.heap.size) L /\ L.length = sumL (fun x => 3 + spL n x) ks := by
 obtain ⟨ao, cap, rfl, -, hkids⟩ := hr
 obtain ⟨i0, hi, hzz0, hzz1, hzz2⟩ := info_parts Tryz.info_treeO
 have HI : Hid (_ /\ _ /\ _ /\ _) := ⟨hi, hzz0, hzz1, hzz2⟩
 have HCl : Hid (∀ k, k ∈ ks -> cleanT n k) := hcl
 clear hi hzz0 hzz1 hzz2 hcl
 go_enter Tryz.func110, Tryz.ntmps110
 go_wp2_with fail
 go_loopw [3, 8] (fun v i wr => ∃ k : Nat, k <= ks.length /\ i = .int .i64 k /\ OutLoop w.heap.size n ks w k v wr) (fun _ i _ => ks.length - (intOf i).toNat)
 case atStart => exact ⟨0, Nat.zero_le _, rfl, Below.refl _ _, [], [], World.ownsRow_nil _ _ _ _, rfl, ⟨Own.nil _, fun j _ hp => absurd hp (Nat.not_lt_zero _)⟩, by simp [sumL]⟩
 case round =>
  obtain ⟨k, hk, rfl, hbel, xs, Ps, hown, hpl, hko, hln⟩ := hrel
  obtain ⟨va, vc, rfl⟩ := r1_shape hown
  have hzr := hbel.size
  have HX := hidF hown
  have HK : Hid (Ps.length = k /\ KidsOwn (fun b => w.heap.size <= b /\ b < wr.heap.size /\ (Value.slice va k vc).ownBlock ≠ some b) wr n ks xs Ps /\ Ps.flatten.length + 3 * k = sumL (fun x => 3 + spL n x) (ks.take k)) := ⟨hpl, hko, hln⟩
  clear hown hpl hko hln
  by_cases hlt : k < ks.length
  ·obtain ⟨b, off, rfl, hbB, hcell⟩ := hkids (by intro h; rw [h] at hlt; simp at hlt)
   obtain ⟨c, e0, hr⟩ := hcell k hlt
   obtain ⟨ku, kx, rfl⟩ := id hr.iface
   have f0 := (hbel.cell (p := ⟨b, off + k, none⟩) (hB b hbB)).trans e0
   have HC : Hid (Calls Tryz.prog 79 _ _ _) := hn S ks[k] _ wr (hr.keep (same_below hbel hB) (fun _ h => h)) (fun b hb => by have := hB b hb; omega) (HCl.out _ (List.getElem_mem hlt))
   clear hkids hcell e0 hr
   go_wp2_with fail
   refine HC.out.mono ?_
   rintro e w2 ⟨hb2, g0, g1, g2, g3, g4, L3, L4, rfl, hin, hs3, hs4, ho, hl⟩
   obtain ⟨u0, u1, u2, ua, ul, uc, ya, yl, yc, rfl, rfl, rfl, rfl, rfl⟩ := hin.shape
   have hsz2 := hb2.size
   have HO2 : Hid (w2.ownsRow w.heap.size 27 5 (.slice va k vc) k xs) := r1_keep HX.out (fun g' hg' => hb2.block g' (r1_lt HX.out g' hg').2)
   have HK2 : Hid (_ /\ _ /\ _ /\ _ /\ _ /\ _) := ⟨hb2, hin, hs3, hs4, ho, hl⟩
   clear hb2 hin hs3 hs4 ho hl f0 HC
   go_wp2_with (at_builtin; refine wpList_append_lies _ rfl (.tmp 12) (.tmp 15) 25 rfl w.heap.size 27 i0 _ 5 80 Tryz.underlying25 HI.out.1 HI.out.2.1 HI.out.2.2.1 HI.out.2.2.2 rfl (by decide) (.slice va k vc) k xs rfl (HO2.out.alloc _) ⟨w2.heap.size, 0, none⟩ 1 1 [.int .i64 u0, .int .i64 u1, .string u2, .slice ua ul uc, .slice ya yl yc] rfl rfl (World.news_of_block (heap_alloc_new w2 _)) (by simp [Value.oneCell']) (by decide) (by unfold maxLen; omega) (by omega) (by simp; omega) (w2.heap.size + 1) (by simp) ?_; intro g cap w3 hown3 hgrow3 hat3 hlt3; refine Hid.out ?_)
   refine Lib.hid ?_
   have HF : Hid (OutLoop w.heap.size n ks w (k + 1) (.slice (some ⟨g, 0, none⟩) (k + 1) cap) w3) :=
    out_next hbel hlt hzr HX.out HK.out.1 HK.out.2.1 HK.out.2.2 HK2.out.1 HK2.out.2.1 HK2.out.2.2.1 HK2.out.2.2.2.1 HK2.out.2.2.2.2.1 HK2.out.2.2.2.2.2 hown3 hgrow3 hat3
   clear hown3 hgrow3 hat3 HK2 HO2 HX HK
   go_wp2_with fail
   go_roundw
   case rel => exact ⟨k + 1, by omega, by go_num, HF.out⟩
   case measure => simp [intOf]; omega
  ·have hkl : k = ks.length := by omega
   have HP : Hid (∃ L, RowIn (fun b => w.heap.size <= b /\ b < wr.heap.size) wr (TreeIn (fun b => w.heap.size <= b /\ b < wr.heap.size) wr n) ks (.slice va k vc) /\ SpR wr n (.slice va k vc) L /\
     Own (fun b => w.heap.size <= b /\ b < wr.heap.size) L /\ L.length = sumL (fun x => 3 + spL n x) ks) := by
    have h1 := HX.out
    obtain ⟨hpl, hko, hln⟩ := HK.out
    have hv := r1_lt h1
    rw [hkl, List.take_length] at hln
    have hpl' : Ps.length = ks.length := by omega
    have h1' : wr.ownsRow w.heap.size 27 5 (.slice va k vc) ks.length xs := by rw [hkl] at h1 ⊢; exact h1
    obtain ⟨L, hR, hO, hL⟩ := spr_of_owns h1' (by omega) hpl' hko (fun b hb => hb.2.2)
    refine ⟨L, row_of_owns h1' (by omega) (fun g hg => hv g hg) (fun j hj => ?_), hR, hO.mono (fun b hb => hb.elim (fun h => ⟨h.1, h.2.1⟩) (fun h => hv b h)), by omega⟩
    obtain ⟨d0, d1, d2, d3, d4, K3, K4, hd, -, hdt, -⟩ := hko.2 j hj (by omega)
    exact ⟨d0, d1, d2, d3, d4, hd, hdt.keep (fun _ _ => rfl) (fun b hb => ⟨hb.1, hb.2.1⟩)⟩
   clear hkl hkids HX HK
   go_wp2_with fail
   go_ret
   obtain ⟨L, q1, q2, q3, q4⟩ := HP.out
   exact ⟨hbel, _, L, rfl, q1, q2, q3, q4⟩
end Go.Proofs.YtmjhcgjhlakceaaGreatDoor

namespace Go.Proofs.YtmjhcgjhlakceaaGreatDoor
open Go.RowKit
theorem wf_i64 (x : Int) (h0 : -999999999 <= x) (h1 : x <= 999999999) : (Lit.int .i64 x).wf = true := by
 simp only [Lit.wf, Bool.and_eq_true, decide_eq_true_eq]
 have a : IntKind.i64.min = -9223372036854775808 := by rfl
 have b : IntKind.i64.max = 9223372036854775807 := by rfl
 rw [a, b]; omega
theorem out_leaf {n : Nat} {t : T (n + 1)} (w : World) (o : Obj) (hs : (Lit.int .i64 (Nd.sort t)).wf = true) (hn : (Lit.int .i64 (Nd.num t)).wf = true) (ht : (Nd.text t).size <= 10000) (hN : Nd.names t = []) (hK : Nd.kids t = []) :
  OutPost (n + 1) t w (.returned (.agg #[.int .i64 (Nd.sort t), .int .i64 (Nd.num t), .string (Nd.text t), .slice none 0 0, .slice none 0 0])) (w.alloc o) := by
 refine ⟨(Below.refl _ _).alloc (Nat.le_refl _) _, _, _, _, _, _, [], [], rfl, ⟨rfl, rfl, rfl, by unfold maxLen; omega, hs, hn, ?_, ?_⟩, SpN.no _, SpR.no _ _, Own.nil _, ?_⟩
 ·rw [hN]; exact ⟨none, 0, rfl, by simp [maxLen], fun s h => (by cases h), fun h => absurd rfl h⟩
 ·rw [hK]; exact ⟨none, 0, rfl, by simp [maxLen], fun h => absurd rfl h⟩
 ·simp only [spL, hN, hK]; simp [sumL]
theorem out_put {n : Nat} {t : T (n + 1)} {w W : World} {c3 c4 : Value} {L3 L4 : List Spot} (hb : Below w.heap.size w W) (hs : (Lit.int .i64 (Nd.sort t)).wf = true) (hn : (Lit.int .i64 (Nd.num t)).wf = true) (ht : (Nd.text t).size <= 10000)
  (h3 : StrsIn (fun b => w.heap.size + 1 <= b /\ b < W.heap.size) W (Nd.names t) c3) (h4 : RowIn (fun b => w.heap.size + 1 <= b /\ b < W.heap.size) W (TreeIn (fun b => w.heap.size + 1 <= b /\ b < W.heap.size) W n) (Nd.kids t) c4)
  (s3 : SpN W c3 L3) (s4 : SpR W n c4 L4) (ho : Own (fun b => w.heap.size + 1 <= b /\ b < W.heap.size) (L3 ++ L4)) (hl : (L3 ++ L4).length = spL (n + 1) t) :
  OutPost (n + 1) t w (.returned (.agg #[.int .i64 (Nd.sort t), .int .i64 (Nd.num t), .string (Nd.text t), c3, c4])) (put5 W w.heap.size 0 (.int .i64 (Nd.sort t)) (.int .i64 (Nd.num t)) (.string (Nd.text t)) c3 c4) := by
 have q : ∀ b, w.heap.size + 1 <= b -> (put5 W w.heap.size 0 (.int .i64 (Nd.sort t)) (.int .i64 (Nd.num t)) (.string (Nd.text t)) c3 c4).heap[b]? = W.heap[b]? := fun b h => put5_other (by omega)
 have hS : ∀ b, (w.heap.size + 1 <= b /\ b < W.heap.size) -> w.heap.size <= b /\ b < (put5 W w.heap.size 0 (.int .i64 (Nd.sort t)) (.int .i64 (Nd.num t)) (.string (Nd.text t)) c3 c4).heap.size := fun b h => by rw [put5_size]; omega
 refine ⟨put5_below hb (Nat.le_refl _), _, _, _, _, _, L3, L4, rfl, ⟨rfl, rfl, rfl, by unfold maxLen; omega, hs, hn, h3.keep (fun b h => q b h.1) hS, h4.keepT (fun b h => q b h.1) hS⟩, s3.same (fun s h => q _ (ho.1 s (List.mem_append_left _ h)).1), s4.same (fun s h => q _ (ho.1 s (List.mem_append_right _ h)).1), ho.mono hS, hl⟩
theorem zero_tree {W : World} {R : Nat} {c0 c1 c2 c3 c4 : Value} {ty : TypeId} (h : W.heap[R]? = some (.cells #[c0, c1, c2, c3, c4] ty (0, 0))) :
  (W.cell? ⟨R, 0, none⟩ = some c0 /\ W.cell? ⟨R, 1, none⟩ = some c1 /\ W.cell? ⟨R, 2, none⟩ = some c2 /\ W.cell? ⟨R, 3, none⟩ = some c3 /\ W.cell? ⟨R, 4, none⟩ = some c4) /\
  (W.frozen? ⟨R, 0, none⟩ = false /\ W.frozen? ⟨R, 1, none⟩ = false /\ W.frozen? ⟨R, 2, none⟩ = false /\ W.frozen? ⟨R, 3, none⟩ = false /\ W.frozen? ⟨R, 4, none⟩ = false) := by
 refine ⟨⟨?_, ?_, ?_, ?_, ?_⟩, ?_, ?_, ?_, ?_, ?_⟩ <;> simp [World.cell?, World.frozen?, h]
set_option maxRecDepth 20000 in
set_option maxHeartbeats 2000000 in
theorem outer_num (n : Nat) (t : T (n + 1)) (w : World) (hs : Nd.sort t = 1) (hc : cleanT (n + 1) t) : Calls Tryz.prog 79 #[.iface 130 (.int .i64 (Nd.num t))] w (OutPost (n + 1) t w) := by
 obtain ⟨c1, -, -, -, -, -, n0, n1, t0, -⟩ := hc
 obtain ⟨e1, e2, e3⟩ := c1 hs
 have hyes := Tryz.yes_num
 have HP : Hid (∀ o, OutPost (n + 1) t w (.returned (.agg #[.int .i64 1, .int .i64 (Nd.num t), .string ⟨#[]⟩, .slice none 0 0, .slice none 0 0])) (w.alloc o)) := fun o => by
  have := out_leaf (t := t) w o (by rw [hs]; rfl) (wf_i64 _ n0 n1) t0 e2 e3
  rw [hs, e1] at this; exact this
 clear c1 e1 e2 e3 t0
 generalize Nd.num t = x at *
 go_enter Tryz.func79, Tryz.ntmps79
 go_wp2_with fail
 refine bodyPost_ret (v := .agg #[.int .i64 1, .int .i64 x, .string ⟨#[]⟩, .slice none 0 0, .slice none 0 0]) (by simp [results, Tryz.results79, go_sem]) rfl ?_
 exact HP.out _
set_option maxRecDepth 20000 in
set_option maxHeartbeats 2000000 in
theorem outer_flag (n : Nat) (t : T (n + 1)) (w : World) (hs : Nd.sort t = 3) (hc : cleanT (n + 1) t) : Calls Tryz.prog 79 #[.iface 131 (.bool (Nd.num t == 1))] w (OutPost (n + 1) t w) := by
 obtain ⟨-, -, c1, -, -, -, n0, n1, t0, -⟩ := hc
 obtain ⟨e1, e2, e3, e4⟩ := c1 hs
 have hno0 := Tryz.no_num_flag
 have hno1 := Tryz.no_text_flag
 have hyes := Tryz.yes_flag
 have HP : Hid (∀ o, OutPost (n + 1) t w (.returned (.agg #[.int .i64 3, .int .i64 (Nd.num t), .string ⟨#[]⟩, .slice none 0 0, .slice none 0 0])) (w.alloc o)) := fun o => by
  have := out_leaf (t := t) w o (by rw [hs]; rfl) (wf_i64 _ n0 n1) t0 e2 e3
  rw [hs, e1] at this; exact this
 clear c1 e1 e2 e3 t0
 rcases e4 with e4 | e4
 ·rw [e4] at HP ⊢
  have e : ((0 : Int) == 1) = false := rfl
  rw [e]
  go_enter Tryz.func79, Tryz.ntmps79
  go_wp2_with fail
  refine bodyPost_ret (v := .agg #[.int .i64 3, .int .i64 0, .string ⟨#[]⟩, .slice none 0 0, .slice none 0 0]) (by simp [results, Tryz.results79, go_sem]) rfl ?_
  exact HP.out _
 ·rw [e4] at HP ⊢
  have e : ((1 : Int) == 1) = true := rfl
  rw [e]
  go_enter Tryz.func79, Tryz.ntmps79
  go_wp2_with fail
  refine bodyPost_ret (v := .agg #[.int .i64 3, .int .i64 1, .string ⟨#[]⟩, .slice none 0 0, .slice none 0 0]) (by simp [results, Tryz.results79, go_sem]) rfl ?_
  exact HP.out _
set_option maxRecDepth 20000 in
set_option maxHeartbeats 2000000 in
theorem outer_text (n : Nat) (t : T (n + 1)) (w : World) (hs : Nd.sort t = 2) (hc : cleanT (n + 1) t) : Calls Tryz.prog 79 #[.iface 134 (.string (Nd.text t))] w (OutPost (n + 1) t w) := by
 obtain ⟨-, c1, -, -, -, -, n0, n1, t0, -⟩ := hc
 obtain ⟨e1, e2, e3⟩ := c1 hs
 have hno0 := Tryz.no_num_text
 have hyes := Tryz.yes_text
 have HP : Hid (∀ W, Below w.heap.size w W -> OutPost (n + 1) t w (.returned (.agg #[.int .i64 2, .int .i64 0, .string (Nd.text t), .slice none 0 0, .slice none 0 0])) (put5 W w.heap.size 0 (.int .i64 2) (.int .i64 0) (.string (Nd.text t)) (.slice none 0 0) (.slice none 0 0))) := fun W hW => by
  have := out_put (t := t) (L3 := []) (L4 := []) (c3 := .slice none 0 0) (c4 := .slice none 0 0) hW (by rw [hs]; rfl) (wf_i64 _ n0 n1) t0 (by rw [e2]; exact ⟨none, 0, rfl, by simp [maxLen], fun s h => (by cases h), fun h => absurd rfl h⟩) (by rw [e3]; exact ⟨none, 0, rfl, by simp [maxLen], fun h => absurd rfl h⟩) (SpN.no _) (SpR.no _ _) (Own.nil _) (by simp only [spL, e2, e3]; simp [sumL])
  rw [hs, e1] at this; exact this
 have HC : Hid (∀ W, Calls Tryz.prog 74 #[.string (Nd.text t)] W fun e w' => e = .returned (.string (Nd.text t)) /\ Below W.heap.size W w') := fun W => stringsClone_any _ W t0
 have hb0 := (Below.refl w.heap.size w).alloc (Nat.le_refl _) (.cells #[.int .i64 0, .int .i64 0, .string ⟨#[]⟩, .slice none 0 0, .slice none 0 0] 27)
 have hz := heap_alloc_new w (.cells #[.int .i64 0, .int .i64 0, .string ⟨#[]⟩, .slice none 0 0, .slice none 0 0] 27)
 clear c1 e1 e2 e3 t0
 generalize Nd.text t = x at *
 go_enter Tryz.func79, Tryz.ntmps79
 go_wp2_with fail
 refine (HC.out _).mono ?_
 rintro e w1 ⟨rfl, hb1⟩
 obtain ⟨⟨r0, r1, r2, r3, r4⟩, f0, f1, f2, f3, f4⟩ := zero_tree ((hb1.block w.heap.size (by simp)).trans hz)
 have hbw := below_step hb0 (by simp) hb1
 have HQ : Hid _ := HP.out _ hbw
 clear HC HP hb0 hb1 hz hbw
 go_wp2_with fail
 refine bodyPost_ret (v := .agg #[.int .i64 2, .int .i64 0, .string x, .slice none 0 0, .slice none 0 0]) (by simp [results, Tryz.results79, go_sem, r0, r1, r2, r3, r4]) rfl ?_
 exact HQ.out
set_option maxRecDepth 20000 in
set_option maxHeartbeats 2000000 in
theorem outer_list (n : Nat) (hn : OutSaid n) (S : Nat -> Prop) (t : T (n + 1)) (kv : Value) (w : World) (hs : Nd.sort t = 4) (hr : Row1 S w (InnerT S w n) (Nd.kids t) kv) (hB : ∀ b, S b -> b < w.heap.size) (hc : cleanT (n + 1) t) :
  Calls Tryz.prog 79 #[.iface 135 kv] w (OutPost (n + 1) t w) := by
 obtain ⟨-, -, -, c1, -, -, n0, n1, t0, -, -, hkl, hkc⟩ := hc
 obtain ⟨e1, e2, e3⟩ := c1 hs
 have hno0 := Tryz.no_num_list
 have hno1 := Tryz.no_text_list
 have hno2 := Tryz.no_flag_list
 have hyes := Tryz.yes_list
 have hb0 := (Below.refl w.heap.size w).alloc (Nat.le_refl _) (.cells #[.int .i64 0, .int .i64 0, .string ⟨#[]⟩, .slice none 0 0, .slice none 0 0] 27)
 have hz := heap_alloc_new w (.cells #[.int .i64 0, .int .i64 0, .string ⟨#[]⟩, .slice none 0 0, .slice none 0 0] 27)
 have HC : Hid (Calls Tryz.prog 110 _ _ _) := outerTrees_any n hn S (Nd.kids t) kv (w.alloc (.cells #[.int .i64 0, .int .i64 0, .string ⟨#[]⟩, .slice none 0 0, .slice none 0 0] 27)) (hr.keep (same_below hb0 hB) (fun _ h => h) (fun _ _ _ hx => hx.keep (same_below hb0 hB) (fun _ h => h))) (fun b hb => by have := hB b hb; simp; omega) hkl hkc
 have HP : Hid (∀ W v' L, Below w.heap.size w W -> RowIn (fun b => w.heap.size + 1 <= b /\ b < W.heap.size) W (TreeIn (fun b => w.heap.size + 1 <= b /\ b < W.heap.size) W n) (Nd.kids t) v' -> SpR W n v' L -> Own (fun b => w.heap.size + 1 <= b /\ b < W.heap.size) L -> L.length = sumL (fun x => 3 + spL n x) (Nd.kids t) ->
   OutPost (n + 1) t w (.returned (.agg #[.int .i64 4, .int .i64 0, .string ⟨#[]⟩, .slice none 0 0, v'])) (put5 W w.heap.size 0 (.int .i64 4) (.int .i64 0) (.string ⟨#[]⟩) (.slice none 0 0) v')) := fun W v' L hW h1 h2 h3 h4 => by
  have := out_put (t := t) (L3 := []) (L4 := L) (c3 := .slice none 0 0) (c4 := v') hW (by rw [hs]; rfl) (wf_i64 _ n0 n1) t0 (by rw [e3]; exact ⟨none, 0, rfl, by simp [maxLen], fun s h => (by cases h), fun h => absurd rfl h⟩) h1 (SpN.no _) h2 h3 (by simp only [spL, e3]; simp [h4])
  rw [hs, e1, e2] at this; exact this
 obtain ⟨ka, kc, rfl, -⟩ := hr
 clear c1 e1 e2 e3 t0
 go_enter Tryz.func79, Tryz.ntmps79
 go_wp2_with fail
 refine HC.out.mono ?_
 rintro e w1 ⟨hb1, v', L, rfl, q1, q2, q3, q4⟩
 obtain ⟨va, vc, rfl, -⟩ := id q1
 obtain ⟨⟨r0, r1, r2, r3, r4⟩, f0, f1, f2, f3, f4⟩ := zero_tree ((hb1.block w.heap.size (by simp)).trans hz)
 have hbw := below_step hb0 (by simp) hb1
 simp only [World.size_alloc] at q1 q3
 have HQ : Hid _ := HP.out _ _ L hbw q1 q2 q3 q4
 clear HC HP hb0 hb1 hz hbw q1 q2 q3 q4
 go_wp2_with fail
 refine bodyPost_ret (v := .agg #[.int .i64 4, .int .i64 0, .string ⟨#[]⟩, .slice none 0 0, .slice va (Nd.kids t).length vc]) (by simp [results, Tryz.results79, go_sem, r0, r1, r2, r3, r4]) rfl ?_
 exact HQ.out
end Go.Proofs.YtmjhcgjhlakceaaGreatDoor
