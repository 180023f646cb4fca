/-
  Several texts in one, in their order.
-/
import Derived.Test.YtmjhcgjhlakceaaGreatDoorBufN
import Derived.Test.YtmjhcgjhlakceaaGreatDoorText
import Derived.Test.YtmjhcgjhlakceaaGreatDoorShelf
import Derived.Lib.AppendIntMem
import Derived.Test.YtmjhcgjhlakceaaGreatDoorB10
import Derived.Test.YtmjhcgjhlakceaaGreatDoorB8
import Derived.Test.YtmjhcgjhlakceaaGreatDoorB1
import Derived.Test.YtmjhcgjhlakceaaGreatDoorB6
import Derived.Deep.RegionLaw

namespace Go.Proofs.YtmjhcgjhlakceaaGreatDoor
open Go.RowKit
theorem buf_int (B : Nat) (w0 w : World) (v : Value) (l : List UInt8) (i : Int) (h0 : -9223372036854775808 <= i) (h1 : i <= 9223372036854775807) (hb : Buf B w0 w v l) (hlen : l.length <= 1000000)
  (htab : Lib.TabBelow Tryz.prog B w "internal/strconv.uint64pow10" .u64 Lib.pow10Tab) :
  Calls Tryz.prog 115 #[v, .int .i64 i, .int .i64 10] w fun e w' => ∃ v', e = .returned v' /\ Buf B w0 w' v' (l ++ Lib.itoa i) := by
 refine (Tryz.strconv_AppendInt_10 B l.length i h0 h1 v (Lib.byteCells l) w hb.own hb.le (by omega) htab).mono ?_
 rintro e w' ⟨v', rfl, hown, hbel, hkept⟩
 refine ⟨v', rfl, ?_, hb.below.trans hbel, Nat.le_trans hb.le hbel.size, hb.kept.trans hkept⟩
 rw [List.length_append, Lib.byteCells_append]
 exact hown
end Go.Proofs.YtmjhcgjhlakceaaGreatDoor

namespace Go.Proofs.YtmjhcgjhlakceaaGreatDoor
open Go.RowKit
def TextSaid (n : Nat) : Prop := ∀ (S : Nat -> Prop) (t : T n) (c0 c1 c2 c3 c4 : Value) (d : Int) (w : World), TreeIn S w n t c0 c1 c2 c3 c4 -> (∀ b, S b -> b < w.heap.size) -> goodT n t d = true -> cntT n t <= 120 ->
 Calls Tryz.prog 64 #[.agg #[c0, c1, c2, c3, c4]] w fun e w' => e = .returned (.string (bs (txtL n t))) /\ Below w.heap.size w w'
set_option maxRecDepth 20000 in
set_option maxHeartbeats 1000000 in
theorem text_num (m : Int) (x : ByteArray) (na ka : Option Addr) (nl nc kl kc : Nat) (w : World) (h0 : -999999999 <= m) (h1 : m <= 999999999) :
  Calls Tryz.prog 64 #[.agg #[.int .i64 1, .int .i64 m, .string x, .slice na nl nc, .slice ka kl kc]] w fun e w' => e = .returned (.string (bs (Lib.itoa m))) /\ Below w.heap.size w w' := by
 have hb0 := (Below.refl w.heap.size w).alloc (Nat.le_refl _) (.cells #[.int .i64 1, .int .i64 m, .string x, .slice na nl nc, .slice ka kl kc] 27)
 go_enter Tryz.func64, Tryz.ntmps64
 go_wp2_with fail
 refine (l6Dec_any m _ h0 h1).mono ?_
 rintro e w1 ⟨rfl, hb1⟩
 have hb2 := below_step hb0 (by simp) hb1
 clear hb0 hb1
 go_wp2_with fail
 go_ret
 exact ⟨rfl, hb2⟩
set_option maxRecDepth 20000 in
set_option maxHeartbeats 1000000 in
theorem text_text (m : Int) (x : ByteArray) (na ka : Option Addr) (nl nc kl kc : Nat) (w : World) (hx : x.size <= 60) :
  Calls Tryz.prog 64 #[.agg #[.int .i64 2, .int .i64 m, .string x, .slice na nl nc, .slice ka kl kc]] w fun e w' => e = .returned (.string (bs (34 :: x.data.toList ++ [34]))) /\ Below w.heap.size w w' := by
 have HA : Hid (bs [34] ++ x ++ bs [34] = bs (34 :: x.data.toList ++ [34])) := by
  show _ = _
  rw [<- bs_of x, bs_append, bs_append, bs_toList]; rfl
 have hs1 : (bs [34]).size = 1 := by rw [bs_size]; rfl
 go_enter Tryz.func64, Tryz.ntmps64
 go_wp2_with fail
 go_ret
 exact ⟨str_ret HA.out, (Below.refl _ _).alloc (Nat.le_refl _) _⟩
set_option maxRecDepth 20000 in
set_option maxHeartbeats 1000000 in
theorem text_flag (m : Int) (x : ByteArray) (na ka : Option Addr) (nl nc kl kc : Nat) (w : World) :
  Calls Tryz.prog 64 #[.agg #[.int .i64 3, .int .i64 m, .string x, .slice na nl nc, .slice ka kl kc]] w fun e w' => e = .returned (.string (bs (if m = 1 then [121, 101, 115] else [110, 111]))) /\ Below w.heap.size w w' := by
 by_cases hm : m = 1
 ·subst hm
  go_enter Tryz.func64, Tryz.ntmps64
  go_wp2_with fail
  go_ret
  exact ⟨rfl, (Below.refl _ _).alloc (Nat.le_refl _) _⟩
 ·rw [if_neg hm]
  have hm' : (m == 1) = false := by simpa using hm
  clear hm
  go_enter Tryz.func64, Tryz.ntmps64
  go_wp2_with fail
  go_ret
  exact ⟨rfl, (Below.refl _ _).alloc (Nat.le_refl _) _⟩
set_option maxRecDepth 20000 in
set_option maxHeartbeats 1000000 in
theorem text_maybe (n : Nat) (hn : TextSaid n) (S : Nat -> Prop) (ks : List (T n)) (m : Int) (x : ByteArray) (na : Option Addr) (nl nc : Nat) (kv : Value) (d : Int) (w : World) (hr : RowIn S w (TreeIn S w n) ks kv) (hB : ∀ b, S b -> b < w.heap.size)
  (hg : ks.all (fun x => goodT n x d) = true) (hc : 1 + sumL (fun x => cntT n x) ks <= 120) :
  Calls Tryz.prog 64 #[.agg #[.int .i64 6, .int .i64 m, .string x, .slice na nl nc, kv]] w fun e w' => e = .returned (.string (bs (mayTxt (txtL n) ks))) /\ Below w.heap.size w w' := by
 have hr0 := hr
 obtain ⟨ao, cap, rfl, hlen, hcell⟩ := hr
 cases ks with
 | nil =>
  go_enter Tryz.func64, Tryz.ntmps64
  go_wp2_with fail
  go_ret
  exact ⟨rfl, (Below.refl _ _).alloc (Nat.le_refl _) _⟩
 | cons k r =>
  obtain ⟨b, off, rfl, hbB, hcl⟩ := hcell (by simp)
  obtain ⟨y0, y1, y2, y3, y4, e0, e1, e2, e3, e4, hin⟩ := hcl 0 (by simp)
  simp only [Nat.zero_mul, Nat.add_zero, List.getElem_cons_zero] at e0 e1 e2 e3 e4 hin
  unfold maxLen at hlen
  simp only [List.length_cons] at hlen
  have hb0 := (Below.refl w.heap.size w).alloc (Nat.le_refl _) (.cells #[.int .i64 6, .int .i64 m, .string x, .slice na nl nc, .slice (some ⟨b, off, none⟩) (r.length + 1) cap] 27)
  have hbb := hB b hbB
  have f0 := (hb0.cell (p := ⟨b, off, none⟩) hbb).trans e0
  have f1 := (hb0.cell (p := ⟨b, off + 1, none⟩) hbb).trans e1
  have f2 := (hb0.cell (p := ⟨b, off + 2, none⟩) hbb).trans e2
  have f3 := (hb0.cell (p := ⟨b, off + 3, none⟩) hbb).trans e3
  have f4 := (hb0.cell (p := ⟨b, off + 4, none⟩) hbb).trans e4
  have hin' := hin.keep (same_below hb0 hB) (fun _ h => h)
  simp only [List.all_cons, Bool.and_eq_true] at hg
  simp only [sumL] at hc
  have hlen2 := txtL_len n k d hg.1
  have hl2 : (bs (txtL n k)).size <= 9840 := by rw [bs_size]; omega
  have HA : Hid (bs [63] ++ bs (txtL n k) = bs (63 :: txtL n k)) := by show _ = _; rw [bs_append]; rfl
  have hne : (((r.length : Nat) : Int) + 1 == 0) = false := by simp; omega
  have HQ : Hid (Calls Tryz.prog 64 #[.agg #[y0, y1, y2, y3, y4]] _ _) := hn S k y0 y1 y2 y3 y4 d _ hin' (fun b hb => by have := hB b hb; simp; omega) hg.1 (by omega)
  clear hcell hcl e0 e1 e2 e3 e4 hin hin' hr0 hg hlen2 hn
  rw [List.length_cons]
  go_enter Tryz.func64, Tryz.ntmps64
  go_wp2_with fail
  refine HQ.out.mono ?_
  rintro e w1 ⟨rfl, hb1⟩
  have hb2 := below_step hb0 (by simp) hb1
  clear hb0 hb1 f0 f1 f2 f3 f4 HQ
  go_wp2_with fail
  go_ret
  exact ⟨str_ret HA.out, hb2⟩
def soFar (parts : List (List UInt8)) (k : Nat) : ByteArray := bs (joinL (parts.take k))
theorem soFar_step (parts : List (List UInt8)) (k : Nat) (h : k < parts.length) (hk : ¬ k = 0) : soFar parts (k + 1) = soFar parts k ++ bs [44] ++ bs parts[k] := by
 unfold soFar; rw [joinL_take_succ _ _ h, if_neg hk, bs_append, bs_append]
theorem soFar_first (parts : List (List UInt8)) (h : 0 < parts.length) : soFar parts (0 + 1) = bs [] ++ bs parts[0] := by
 unfold soFar; rw [joinL_take_succ _ _ h, if_pos rfl, bs_append]
set_option maxRecDepth 20000 in
set_option maxHeartbeats 2000000 in
theorem text_list (n : Nat) (hn : TextSaid n) (S : Nat -> Prop) (ks : List (T n)) (m : Int) (x : ByteArray) (na : Option Addr) (nl nc : Nat) (kv : Value) (d : Int) (w : World) (hr : RowIn S w (TreeIn S w n) ks kv) (hB : ∀ b, S b -> b < w.heap.size)
  (hg : ks.all (fun x => goodT n x d) = true) (hc : 1 + sumL (fun x => cntT n x) ks <= 120) (hjl : (joinL (ks.map (txtL n))).length <= 9840) :
  Calls Tryz.prog 64 #[.agg #[.int .i64 4, .int .i64 m, .string x, .slice na nl nc, kv]] w fun e w' => e = .returned (.string (bs (91 :: joinL (ks.map (txtL n)) ++ [93]))) /\ Below w.heap.size w w' := by
 obtain ⟨ao, cap, rfl, hlen, hcell⟩ := hr
 unfold maxLen at hlen
 have hb0 := (Below.refl w.heap.size w).alloc (Nat.le_refl _) (.cells #[.int .i64 4, .int .i64 m, .string x, .slice na nl nc, .slice ao ks.length cap] 27)
 have hx0 := Box5.new w (.int .i64 4) (.int .i64 m) (.string x) (.slice na nl nc) (.slice ao ks.length cap) 27
 have hz0 : (w.alloc (.cells #[.int .i64 4, .int .i64 m, .string x, .slice na nl nc, .slice ao ks.length cap] 27)).heap.size = w.heap.size + 1 := by simp
 have HSz : Hid (∀ k, (soFar (ks.map (txtL n)) k).size <= 9840) := fun k => by
  have := joinL_take_len (ks.map (txtL n)) k
  unfold soFar; rw [bs_size]; omega
 have HG : Hid (∀ k (h : k < ks.length), goodT n ks[k] d = true /\ cntT n ks[k] <= 120) := fun k h => by
  refine ⟨List.all_eq_true.1 hg _ (List.getElem_mem h), ?_⟩
  have := sumL_mono (fun x => cntT n x) ks _ (List.getElem_mem h)
  omega
 clear hg
 go_enter Tryz.func64, Tryz.ntmps64
 go_wp2_with fail
 generalize hW : w.alloc (.cells #[.int .i64 4, .int .i64 m, .string x, .slice na nl nc, .slice ao ks.length cap] 27) = W at *
 clear hW
 go_loopw [3, 4] (fun a i wr => ∃ k : Nat, k <= ks.length /\ i = .int .i64 k /\ a = .string (soFar (ks.map (txtL n)) k) /\ Below W.heap.size W wr) (fun _ i _ => ks.length - (intOf i).toNat)
 case atStart => exact ⟨0, Nat.zero_le _, rfl, rfl, Below.refl _ _⟩
 case round =>
  obtain ⟨k, hk, rfl, rfl, hbel⟩ := hrel
  have hsk := HSz.out k
  obtain ⟨i0, i1, i2, i3, i4⟩ := hx0.keep hbel
  have hzr := hbel.size
  by_cases hlt : k < ks.length
  ·obtain ⟨b, off, rfl, hbB, hcl⟩ := hcell (by intro h; rw [h] at hlt; simp at hlt)
   obtain ⟨y0, y1, y2, y3, y4, e0, e1, e2, e3, e4, hin⟩ := hcl k hlt
   have hbb := hB b hbB
   have hbw : Below w.heap.size w wr := below_step hb0 (by omega) hbel
   have f0 := (hbw.cell (p := ⟨b, off + k * 5, none⟩) hbb).trans e0
   have f1 := (hbw.cell (p := ⟨b, off + k * 5 + 1, none⟩) hbb).trans e1
   have f2 := (hbw.cell (p := ⟨b, off + k * 5 + 2, none⟩) hbb).trans e2
   have f3 := (hbw.cell (p := ⟨b, off + k * 5 + 3, none⟩) hbb).trans e3
   have f4 := (hbw.cell (p := ⟨b, off + k * 5 + 4, none⟩) hbb).trans e4
   have hin' := hin.keep (same_below hbw hB) (fun _ h => h)
   have hgk := HG.out k hlt
   have hlen2 := txtL_len n ks[k] d hgk.1
   have hl2 : (bs (txtL n ks[k])).size <= 9840 := by rw [bs_size]; omega
   have HQ : Hid (Calls Tryz.prog 64 #[.agg #[y0, y1, y2, y3, y4]] wr _) := hn S ks[k] y0 y1 y2 y3 y4 d wr hin' (fun b hb => by have := hB b hb; omega) hgk.1 hgk.2
   have hs1 := HSz.out (k + 1)
   have hml : k < (ks.map (txtL n)).length := by simpa using hlt
   have hmg : (ks.map (txtL n))[k] = txtL n ks[k] := by simp
   clear hcell hcl e0 e1 e2 e3 e4 hin hin' hgk hlen2 hbw
   rcases Nat.eq_zero_or_pos k with rfl | hkp
   ·have HS : Hid (soFar (ks.map (txtL n)) (0 + 1) = bs [] ++ bs (txtL n ks[0])) := by show _ = _; rw [soFar_first _ hml, hmg]
    have HE : Hid (soFar (ks.map (txtL n)) 0 = bs []) := rfl
    clear hs1 hml hmg
    rw [Nat.zero_mul, Nat.add_zero] at f0
    rw [Nat.zero_mul, Nat.add_zero] at f1 f2 f3 f4
    rw [HE.out]
    rw [HE.out] at hsk
    generalize hac : bs [] = acc at *
    generalize bs (txtL n ks[0]) = tk at *
    clear hac
    go_wp2_with fail
    refine HQ.out.mono ?_
    rintro e w1 ⟨rfl, hb1⟩
    have hbel1 := below_step hbel hzr hb1
    obtain ⟨j0, j1, j2, j3, j4⟩ := hx0.keep hbel1
    clear hb1 HQ f0 f1 f2 f3 f4 i0 i1 i2 i3 i4
    go_wp2_with fail
    go_roundw
    case rel => exact ⟨0 + 1, by omega, by go_num, by rw [HS.out], hbel1⟩
    case measure => simp [intOf]; omega
   ·have HS : Hid (soFar (ks.map (txtL n)) (k + 1) = soFar (ks.map (txtL n)) k ++ bs [44] ++ bs (txtL n ks[k])) := by show _ = _; rw [soFar_step _ _ hml (by omega), hmg]
    have hk0 : decide ((0 : Int) < (k : Int)) = true := decide_eq_true (by omega)
    clear hs1 hml hmg
    generalize soFar (ks.map (txtL n)) k = acc at *
    generalize bs (txtL n ks[k]) = tk at *
    have hsa : (acc ++ bs [44]).size <= 9841 := by rw [ByteArray.size_append, bs_size]; simp; omega
    go_wp2_with fail
    refine HQ.out.mono ?_
    rintro e w1 ⟨rfl, hb1⟩
    have hbel1 := below_step hbel hzr hb1
    obtain ⟨j0, j1, j2, j3, j4⟩ := hx0.keep hbel1
    clear hb1 HQ f0 f1 f2 f3 f4 i0 i1 i2 i3 i4
    go_wp2_with fail
    go_roundw
    case rel => exact ⟨k + 1, by omega, by go_num, by rw [HS.out]; rfl, hbel1⟩
    case measure => simp [intOf]; omega
  ·have hkl : k = ks.length := by omega
   have HE : Hid (bs [91] ++ soFar (ks.map (txtL n)) k ++ bs [93] = bs (91 :: joinL (ks.map (txtL n)) ++ [93])) := by
    show _ = _
    unfold soFar
    rw [hkl, <- List.length_map (f := txtL n), List.take_length, bs_append, bs_append]; rfl
   have hbw : Below w.heap.size w wr := below_step hb0 (by omega) hbel
   clear hkl hcell
   generalize soFar (ks.map (txtL n)) k = acc at *
   go_wp2_with fail
   go_ret
   exact ⟨str_ret HE.out, hbw⟩
end Go.Proofs.YtmjhcgjhlakceaaGreatDoor

namespace Go.Proofs.YtmjhcgjhlakceaaGreatDoor
open Go.RowKit
set_option maxRecDepth 20000 in
set_option maxHeartbeats 2000000 in
theorem text_form (n : Nat) (hn : TextSaid n) (S : Nat -> Prop) (ks : List (T n)) (l : List ByteArray) (m : Int) (x : ByteArray) (na : Option Addr) (nc : Nat) (kv : Value) (d : Int) (w : World) (hl : StrsIn S w l (.slice na l.length nc)) (hll : l.length = ks.length) (hl8 : ∀ s, s ∈ l -> s.size <= 8) (hr : RowIn S w (TreeIn S w n) ks kv) (hB : ∀ b, S b -> b < w.heap.size)
  (hg : ks.all (fun x => goodT n x d) = true) (hc : 1 + sumL (fun x => cntT n x) ks <= 120) (hjl : (joinL (zipL l (ks.map (txtL n)))).length <= 9840) :
  Calls Tryz.prog 64 #[.agg #[.int .i64 5, .int .i64 m, .string x, .slice na l.length nc, kv]] w fun e w' => e = .returned (.string (bs (123 :: joinL (zipL l (ks.map (txtL n))) ++ [125]))) /\ Below w.heap.size w w' := by
 obtain ⟨ao, cap, rfl, hlen, hcell⟩ := hr
 obtain ⟨no, ncap, hnv, -, hns, hncell⟩ := hl
 cases hnv
 unfold maxLen at hlen
 have hb0 := (Below.refl w.heap.size w).alloc (Nat.le_refl _) (.cells #[.int .i64 5, .int .i64 m, .string x, .slice na l.length nc, .slice ao ks.length cap] 27)
 have hx0 := Box5.new w (.int .i64 5) (.int .i64 m) (.string x) (.slice na l.length nc) (.slice ao ks.length cap) 27
 have hz0 : (w.alloc (.cells #[.int .i64 5, .int .i64 m, .string x, .slice na l.length nc, .slice ao ks.length cap] 27)).heap.size = w.heap.size + 1 := by simp
 have HSz : Hid (∀ k, (soFar (zipL l (ks.map (txtL n))) k).size <= 9840) := fun k => by
  have := joinL_take_len (zipL l (ks.map (txtL n))) k
  unfold soFar; rw [bs_size]; omega
 have HG : Hid (∀ k (h : k < ks.length), goodT n ks[k] d = true /\ cntT n ks[k] <= 120) := fun k h => by
  refine ⟨List.all_eq_true.1 hg _ (List.getElem_mem h), ?_⟩
  have := sumL_mono (fun x => cntT n x) ks _ (List.getElem_mem h)
  omega
 have HLL : Hid (l.length = ks.length) := hll
 clear hg hll
 go_enter Tryz.func64, Tryz.ntmps64
 go_wp2_with fail
 generalize hW : w.alloc (.cells #[.int .i64 5, .int .i64 m, .string x, .slice na l.length nc, .slice ao ks.length cap] 27) = W at *
 clear hW
 go_loopw [3, 4] (fun a i wr => ∃ k : Nat, k <= ks.length /\ i = .int .i64 k /\ a = .string (soFar (zipL l (ks.map (txtL n))) k) /\ Below W.heap.size W wr) (fun _ i _ => ks.length - (intOf i).toNat)
 case atStart => exact ⟨0, Nat.zero_le _, rfl, rfl, Below.refl _ _⟩
 case round =>
  obtain ⟨k, hk, rfl, rfl, hbel⟩ := hrel
  have hsk := HSz.out k
  obtain ⟨i0, i1, i2, i3, i4⟩ := hx0.keep hbel
  have hzr := hbel.size
  by_cases hlt : k < ks.length
  ·obtain ⟨b, off, rfl, hbB, hcl⟩ := hcell (by intro h; rw [h] at hlt; simp at hlt)
   obtain ⟨y0, y1, y2, y3, y4, e0, e1, e2, e3, e4, hin⟩ := hcl k hlt
   have hbb := hB b hbB
   have hbw : Below w.heap.size w wr := below_step hb0 (by omega) hbel
   have f0 := (hbw.cell (p := ⟨b, off + k * 5, none⟩) hbb).trans e0
   have f1 := (hbw.cell (p := ⟨b, off + k * 5 + 1, none⟩) hbb).trans e1
   have f2 := (hbw.cell (p := ⟨b, off + k * 5 + 2, none⟩) hbb).trans e2
   have f3 := (hbw.cell (p := ⟨b, off + k * 5 + 3, none⟩) hbb).trans e3
   have f4 := (hbw.cell (p := ⟨b, off + k * 5 + 4, none⟩) hbb).trans e4
   have hin' := hin.keep (same_below hbw hB) (fun _ h => h)
   have hgk := HG.out k hlt
   have hlen2 := txtL_len n ks[k] d hgk.1
   have hl2 : (bs (txtL n ks[k])).size <= 9840 := by rw [bs_size]; omega
   have HQ : Hid (Calls Tryz.prog 64 #[.agg #[y0, y1, y2, y3, y4]] wr _) := hn S ks[k] y0 y1 y2 y3 y4 d wr hin' (fun b hb => by have := hB b hb; omega) hgk.1 hgk.2
   have hs1 := HSz.out (k + 1)
   have hnk : k < l.length := by rw [HLL.out]; exact hlt
   obtain ⟨nb, noff, rfl, hnB, hnc⟩ := hncell (by intro h; rw [h] at hnk; simp at hnk)
   have q0 := (hbw.cell (p := ⟨nb, noff + k, none⟩) (hB nb hnB)).trans (hnc k hnk)
   have hnl8 := hl8 l[k] (List.getElem_mem hnk)
   have hml : k < (zipL l (ks.map (txtL n))).length := by rw [zipL_length _ _ (by simpa using HLL.out)]; simpa using hlt
   have hmg : bs (zipL l (ks.map (txtL n)))[k] = l[k] ++ bs [58] ++ bs (txtL n ks[k]) := by
    rw [zipL_get l (ks.map (txtL n)) k hnk (by simpa using hlt) hml, List.getElem_map, <- bs_of l[k], bs_append, bs_append, bs_toList]
    simp
   clear hcell hcl e0 e1 e2 e3 e4 hin hin' hgk hlen2 hbw hncell hnc hns
   rcases Nat.eq_zero_or_pos k with rfl | hkp
   ·have HS : Hid (soFar (zipL l (ks.map (txtL n))) (0 + 1) = bs [] ++ (l[0] ++ bs [58] ++ bs (txtL n ks[0]))) := by show _ = _; rw [soFar_first _ hml, hmg]
    have HE : Hid (soFar (zipL l (ks.map (txtL n))) 0 = bs []) := rfl
    clear hs1 hml hmg
    rw [Nat.zero_mul, Nat.add_zero] at f0
    rw [Nat.zero_mul, Nat.add_zero] at f1 f2 f3 f4
    rw [HE.out]
    rw [HE.out] at hsk
    generalize hac : bs [] = acc at *
    generalize bs (txtL n ks[0]) = tk at *
    generalize l[0] = nm at *
    rw [Nat.add_zero] at q0
    have hsn : (acc ++ nm).size <= 9900 := by rw [ByteArray.size_append]; omega
    have hsn2 : (acc ++ nm ++ bs [58]).size <= 9901 := by rw [ByteArray.size_append, bs_size]; show _ + 1 <= 9901; omega
    clear hac
    go_wp2_with fail
    refine HQ.out.mono ?_
    rintro e w1 ⟨rfl, hb1⟩
    have hbel1 := below_step hbel hzr hb1
    obtain ⟨j0, j1, j2, j3, j4⟩ := hx0.keep hbel1
    clear hb1 HQ f0 f1 f2 f3 f4 i0 i1 i2 i3 i4
    go_wp2_with fail
    go_roundw
    case rel => exact ⟨0 + 1, by omega, by go_num, by rw [HS.out]; exact congrArg Value.string (by rw [<- ByteArray.append_assoc, <- ByteArray.append_assoc]; rfl), hbel1⟩
    case measure => simp [intOf]; omega
   ·have HS : Hid (soFar (zipL l (ks.map (txtL n))) (k + 1) = soFar (zipL l (ks.map (txtL n))) k ++ bs [44] ++ (l[k] ++ bs [58] ++ bs (txtL n ks[k]))) := by show _ = _; rw [soFar_step _ _ hml (by omega), hmg]
    have hk0 : decide ((0 : Int) < (k : Int)) = true := decide_eq_true (by omega)
    clear hs1 hml hmg
    generalize soFar (zipL l (ks.map (txtL n))) k = acc at *
    generalize bs (txtL n ks[k]) = tk at *
    generalize l[k] = nm at *
    have hsn : (acc ++ bs [44] ++ nm).size <= 9900 := by rw [ByteArray.size_append, ByteArray.size_append, bs_size]; show _ + 1 + _ <= 9900; omega
    have hsn2 : (acc ++ bs [44] ++ nm ++ bs [58]).size <= 9901 := by rw [ByteArray.size_append, bs_size]; show _ + 1 <= 9901; omega
    have hsa : (acc ++ bs [44]).size <= 9841 := by rw [ByteArray.size_append, bs_size]; simp; omega
    go_wp2_with fail
    refine HQ.out.mono ?_
    rintro e w1 ⟨rfl, hb1⟩
    have hbel1 := below_step hbel hzr hb1
    obtain ⟨j0, j1, j2, j3, j4⟩ := hx0.keep hbel1
    clear hb1 HQ f0 f1 f2 f3 f4 i0 i1 i2 i3 i4
    go_wp2_with fail
    go_roundw
    case rel => exact ⟨k + 1, by omega, by go_num, by rw [HS.out]; exact congrArg Value.string (by rw [<- ByteArray.append_assoc, <- ByteArray.append_assoc]; rfl), hbel1⟩
    case measure => simp [intOf]; omega
  ·have hkl : k = ks.length := by omega
   have HE : Hid (bs [123] ++ soFar (zipL l (ks.map (txtL n))) k ++ bs [125] = bs (123 :: joinL (zipL l (ks.map (txtL n))) ++ [125])) := by
    show _ = _
    unfold soFar
    have e : ks.length = (zipL l (ks.map (txtL n))).length := by rw [zipL_length _ _ (by simpa using HLL.out)]; simp
    rw [hkl, e, List.take_length, bs_append, bs_append]; rfl
   have hbw : Below w.heap.size w wr := below_step hb0 (by omega) hbel
   clear hkl hcell hncell hns
   generalize soFar (zipL l (ks.map (txtL n))) k = acc at *
   go_wp2_with fail
   go_ret
   exact ⟨str_ret HE.out, hbw⟩
theorem text_step (n : Nat) (hn : TextSaid n) : TextSaid (n + 1) := by
 intro S t c0 c1 c2 c3 c4 d w ht hB hg hc
 have hlen := txtL_len (n + 1) t d hg
 obtain ⟨rfl, rfl, rfl, hs, -, -, h3, h4⟩ := ht
 obtain ⟨na, nc, rfl, -, -, -⟩ := id h3
 obtain ⟨ka, kc, hkv, -, -⟩ := id h4
 simp only [goodT, Bool.and_eq_true] at hg
 have ha : aloneF (Nd.sort t) (Nd.num t) (Nd.text t) (Nd.names t) (Nd.kids t).length = true := hg.1.2
 have hc' : 1 + sumL (fun x => cntT n x) (Nd.kids t) <= 120 := by simpa only [cntT] using hc
 unfold aloneF at ha
 simp only [txtL] at hlen ⊢
 by_cases h1 : Nd.sort t = 1
 ·rw [if_pos h1] at ha ⊢
  rw [h1, hkv]
  simp only [Bool.and_eq_true, decide_eq_true_eq] at ha
  exact text_num _ _ _ _ _ _ _ _ w ha.1.1.1.1 ha.1.1.1.2
 rw [if_neg h1] at ha hlen ⊢
 by_cases h2 : Nd.sort t = 2
 ·rw [if_pos h2] at ha ⊢
  rw [h2, hkv]
  simp only [Bool.and_eq_true, textB, decide_eq_true_eq] at ha
  exact text_text _ _ _ _ _ _ _ _ w ha.1.1.2.1
 rw [if_neg h2] at ha hlen ⊢
 by_cases h3' : Nd.sort t = 3
 ·rw [if_pos h3']
  rw [h3', hkv]
  exact text_flag _ _ _ _ _ _ _ _ w
 rw [if_neg h3'] at ha hlen ⊢
 by_cases h6 : Nd.sort t = 6
 ·rw [if_pos h6]
  rw [h6]
  exact text_maybe n hn S (Nd.kids t) _ _ _ _ _ _ (d + 1) w h4 hB hg.2 hc'
 rw [if_neg h6] at hlen ⊢
 by_cases h5 : Nd.sort t = 5
 ·have h4' : ¬ Nd.sort t = 4 := by omega
  rw [if_neg h4', if_pos h5] at ha
  rw [if_pos h5] at hlen ⊢
  rw [h5]
  simp only [Bool.and_eq_true, beq_iff_eq] at ha
  simp only [List.length_append, List.length_cons, List.length_nil] at hlen
  exact text_form n hn S (Nd.kids t) (Nd.names t) _ _ _ _ _ (d + 1) w h3 (by omega) (riseB_names _ ha.2) h4 hB hg.2 hc' (by omega)
 rw [if_neg h5] at hlen ⊢
 have h4' : Nd.sort t = 4 := by
  by_cases h4' : Nd.sort t = 4
  ·exact h4'
  ·rw [if_neg h4', if_neg h5, if_neg h6] at ha; cases ha
 rw [h4']
 simp only [List.length_append, List.length_cons, List.length_nil] at hlen
 exact text_list n hn S (Nd.kids t) _ _ _ _ _ _ (d + 1) w h4 hB hg.2 hc' (by omega)
theorem l1Text_any : ∀ n, TextSaid n := by
 intro n
 induction n with
 | zero => intro S t c0 c1 c2 c3 c4 d w ht; exact ht.elim
 | succ n ih => exact text_step n ih
def textF (n : Nat) (t : T n) : ByteArray := if okT n t = true then bs (txtL n t) else bs []
theorem okT_get {n : Nat} {t : T n} (h : okT n t = true) : goodT n t 1 = true /\ cntT n t <= 120 := by
 simpa only [okT, Bool.and_eq_true, decide_eq_true_eq] using h
end Go.Proofs.YtmjhcgjhlakceaaGreatDoor

namespace Go.Proofs.YtmjhcgjhlakceaaGreatDoor
open Go.RowKit
def Tens (B : Nat) (w : World) : Prop := Lib.TabBelow Tryz.prog B w "internal/strconv.uint64pow10" .u64 Lib.pow10Tab
def AppSaid (n : Nat) : Prop := ∀ (B : Nat) (w0 w : World) (v : Value) (l : List UInt8) (t : T n) (iv : Value) (d : Int), Buf B w0 w v l -> InnerT (fun b => b < B) w n t iv -> goodT n t d = true -> cntT n t <= 120 -> l.length + (txtL n t).length <= 20000 -> Tens B w ->
 Calls Tryz.prog 83 #[v, iv] w fun e w' => ∃ v', e = .returned v' /\ Buf B w0 w' v' (l ++ txtL n t)
theorem Tens.on {B : Nat} {w w' : World} (h : Tens B w) (hb : Below B w w') : Tens B w' := Lib.TabBelow.on h hb
theorem buf_cast {B : Nat} {w0 w : World} {v : Value} {l l' : List UInt8} (h : Buf B w0 w v l) (e : l = l') : Buf B w0 w v l' := e ▸ h
set_option maxRecDepth 20000 in
set_option maxHeartbeats 400000 in
theorem appendList_any (n : Nat) (hn : AppSaid n) (B : Nat) (w0 w : World) (v : Value) (l : List UInt8) (ks : List (T n)) (kv : Value) (d : Int) (hb : Buf B w0 w v l) (hr : Row1 (fun b => b < B) w (InnerT (fun b => b < B) w n) ks kv)
  (hg : ks.all (fun x => goodT n x d) = true) (hc : 1 + sumL (fun x => cntT n x) ks <= 120) (hl : l.length + (joinL (ks.map (txtL n))).length + 2 <= 20000) (hT : Tens B w) :
  Calls Tryz.prog 117 #[v, kv] w fun e w' => ∃ v', e = .returned v' /\ Buf B w0 w' v' (l ++ (91 :: joinL (ks.map (txtL n)) ++ [93])) := by
 obtain ⟨ao, cap, rfl, hlen, hcell⟩ := hr
 unfold maxLen at hlen
 obtain ⟨va, vn, vc, rfl⟩ := hb.shape
 have HG : Hid (∀ k (h : k < ks.length), goodT n ks[k] d = true /\ cntT n ks[k] <= 120) := fun k h => by
  refine ⟨List.all_eq_true.1 hg _ (List.getElem_mem h), ?_⟩
  have := sumL_mono (fun x => cntT n x) ks _ (List.getElem_mem h)
  omega
 have HSz : Hid (∀ k, (joinL ((ks.map (txtL n)).take k)).length <= (joinL (ks.map (txtL n))).length) := fun k => joinL_take_len _ k
 have HB0 : Hid (Buf B w0 w (.slice va vn vc) l) := hb
 clear hg
 go_enter Tryz.func117, Tryz.ntmps117
 go_wp2_with (at_builtin; refine wpList_buf_byte rfl (.tmp 7) (.tmp 8) rfl B (.slice va vn vc) l rfl w w 91 91 rfl hb.here rfl (by omega) ?_; intro v1 w1 hb1; obtain ⟨va1, vn1, vc1, rfl⟩ := hb1.shape; refine Hid.out ?_)
 refine Lib.hid ?_
 go_wp2_with fail
 go_loopw [0, 12] (fun a i wr => ∃ k : Nat, k <= ks.length /\ i = .int .i64 k /\ Buf B w wr a (l ++ [91] ++ joinL ((ks.map (txtL n)).take k))) (fun _ i _ => ks.length - (intOf i).toNat)
 case atStart => exact ⟨0, Nat.zero_le _, rfl, buf_cast hb1 (by simp [joinL])⟩
 case round =>
  obtain ⟨k, hk, rfl, hbr⟩ := hrel
  obtain ⟨va2, vn2, vc2, rfl⟩ := hbr.shape
  have hsk := HSz.out k
  by_cases hlt : k < ks.length
  ·obtain ⟨b, off, rfl, hbB, hcl⟩ := hcell (by intro h; rw [h] at hlt; simp at hlt)
   obtain ⟨c, e0, hin⟩ := hcl k hlt
   obtain ⟨ku, kx, rfl⟩ := hin.iface
   have f0 := (hbr.below.cell (p := ⟨b, off + k, none⟩) hbB).trans e0
   have hgk := HG.out k hlt
   have hml : k < (ks.map (txtL n)).length := by simpa using hlt
   have HS : Hid (joinL ((ks.map (txtL n)).take (k + 1)) = (if k = 0 then [] else joinL ((ks.map (txtL n)).take k) ++ [44]) ++ txtL n ks[k]) := by show _ = _; rw [joinL_take_succ _ _ hml]; simp
   have HIn : Hid (∀ W, Below B w W -> InnerT (fun b => b < B) W n ks[k] (.iface ku kx)) := fun W hW => hin.keep (same_below hW (fun _ h => h)) (fun _ h => h)
   clear hcell hcl e0 hin hml
   have HBr : Hid _ := hbr
   clear hbr
   rcases Nat.eq_zero_or_pos k with rfl | hkp
   ·rw [Nat.add_zero] at f0
    go_wp2_with fail
    refine (hn B w wr _ _ ks[0] _ d HBr.out (HIn.out _ HBr.out.below) hgk.1 hgk.2 (by have h1 := HSz.out (0 + 1); rw [HS.out] at h1; simp [joinL] at h1 ⊢; omega) (hT.on HBr.out.below)).mono ?_
    rintro e w2 ⟨v2, rfl, hb2⟩
    obtain ⟨va3, vn3, vc3, rfl⟩ := hb2.shape
    have HF := buf_cast hb2 (l' := l ++ [91] ++ joinL ((ks.map (txtL n)).take (0 + 1))) (by rw [HS.out]; simp [joinL])
    have HF' : Hid _ := HF
    clear hb2 f0 HF
    go_wp2_with fail
    go_roundw
    case rel => exact ⟨0 + 1, by omega, by go_num, HF'.out⟩
    case measure => simp [intOf]; omega
   ·have hk0 : decide ((0 : Int) < (k : Int)) = true := decide_eq_true (by omega)
    go_wp2_with (at_builtin; refine wpList_buf_byte rfl (.tmp 19) (.tmp 20) rfl B (.slice va2 vn2 vc2) _ rfl w wr 44 44 rfl HBr.out rfl (by simp; omega) ?_; intro v3 w3 hb3; obtain ⟨va3, vn3, vc3, rfl⟩ := hb3.shape; refine Hid.out ?_)
    refine Lib.hid ?_
    have HB3 : Hid _ := hb3
    clear hb3
    go_wp2_with fail
    refine (hn B w w3 _ _ ks[k] _ d HB3.out (HIn.out _ HB3.out.below) hgk.1 hgk.2 (by have h1 := HSz.out (k + 1); rw [HS.out, if_neg (by omega)] at h1; simp at h1 ⊢; omega) (hT.on HB3.out.below)).mono ?_
    rintro e w2 ⟨v2, rfl, hb2⟩
    obtain ⟨va4, vn4, vc4, rfl⟩ := hb2.shape
    have HF : Hid _ := buf_cast hb2 (l' := l ++ [91] ++ joinL ((ks.map (txtL n)).take (k + 1))) (by rw [HS.out, if_neg (by omega)]; simp)
    clear hb2 f0 HB3 HBr
    go_wp2_with fail
    go_roundw
    case rel => exact ⟨k + 1, by omega, by go_num, HF.out⟩
    case measure => simp [intOf]; omega
  ·have hkl : k = ks.length := by omega
   have HBr : Hid (Buf B w wr (.slice va2 vn2 vc2) (l ++ [91] ++ joinL (ks.map (txtL n)))) := buf_cast hbr (by rw [hkl, <- List.length_map (f := txtL n), List.take_length])
   clear hcell hbr hkl
   go_wp2_with (at_builtin; refine wpList_buf_byte rfl (.tmp 26) (.tmp 27) rfl B (.slice va2 vn2 vc2) _ rfl w wr 93 93 rfl HBr.out rfl (by simp; omega) ?_; intro v3 w3 hb3; obtain ⟨va3, vn3, vc3, rfl⟩ := hb3.shape; refine Hid.out ?_)
   refine Lib.hid ?_
   have HF : Hid _ := buf_cast (hb3.from HB0.out) (l' := l ++ (91 :: joinL (ks.map (txtL n)) ++ [93])) (by simp)
   clear hb3 HBr
   go_wp2_with fail
   go_ret
   exact ⟨_, rfl, HF.out⟩
end Go.Proofs.YtmjhcgjhlakceaaGreatDoor

namespace Go.Proofs.YtmjhcgjhlakceaaGreatDoor
open Go.RowKit
set_option maxRecDepth 20000 in
set_option maxHeartbeats 1000000 in
theorem appendMaybe_any (n : Nat) (hn : AppSaid n) (B : Nat) (w0 w : World) (v : Value) (l : List UInt8) (ks : List (T n)) (kv : Value) (d : Int) (hb : Buf B w0 w v l) (hr : Row1 (fun b => b < B) w (InnerT (fun b => b < B) w n) ks kv)
  (hg : ks.all (fun x => goodT n x d) = true) (hc : 1 + sumL (fun x => cntT n x) ks <= 120) (hl : l.length + (mayTxt (txtL n) ks).length <= 20000) (hT : Tens B w) :
  Calls Tryz.prog 119 #[v, kv] w fun e w' => ∃ v', e = .returned v' /\ Buf B w0 w' v' (l ++ mayTxt (txtL n) ks) := by
 obtain ⟨ao, cap, rfl, hlen, hcell⟩ := hr
 unfold maxLen at hlen
 obtain ⟨va, vn, vc, rfl⟩ := hb.shape
 cases ks with
 | nil =>
  rw [List.length_nil]
  simp only [mayTxt, List.length_cons, List.length_nil] at hl
  go_enter Tryz.func119, Tryz.ntmps119
  go_wp2_with (at_builtin; refine wpList_buf_byte rfl (.tmp 8) (.tmp 9) rfl B (.slice va vn vc) l rfl w0 w 126 126 rfl hb rfl (by omega) ?_; intro v1 w1 hb1; obtain ⟨va1, vn1, vc1, rfl⟩ := hb1.shape; refine Hid.out ?_)
  refine Lib.hid ?_
  have HB1 : Hid _ := hb1
  clear hb1 hb
  go_wp2_with fail
  go_ret
  exact ⟨_, rfl, HB1.out⟩
 | cons k r =>
  obtain ⟨b, off, rfl, hbB, hcl⟩ := hcell (by simp)
  obtain ⟨c, e0, hin⟩ := hcl 0 (by simp)
  rw [Nat.add_zero] at e0
  rw [List.getElem_cons_zero] at hin
  obtain ⟨ku, kx, rfl⟩ := hin.iface
  rw [List.length_cons] at hlen ⊢
  have hne : (((r.length : Nat) : Int) + 1 == 0) = false := by simp; omega
  simp only [mayTxt, List.length_cons] at hl
  simp only [List.all_cons, Bool.and_eq_true] at hg
  simp only [sumL] at hc
  have hBw := hb.le
  have HB : Hid (Buf B w w (.slice va vn vc) l) := hb.here
  have HB0 : Hid (Buf B w0 w (.slice va vn vc) l) := hb
  have HC : Hid (∀ (W : World) (v1 : Value), Buf B w W v1 (l ++ [63]) -> Calls Tryz.prog 83 #[v1, .iface ku kx] W fun e w' => ∃ v', e = .returned v' /\ Buf B w w' v' (l ++ [63] ++ txtL n k)) := fun W v1 h1 =>
   hn B w W v1 _ k _ d h1 (hin.keep (same_below h1.below (fun _ h => h)) (fun _ h => h)) hg.1 (by omega) (by simp; omega) (hT.on h1.below)
  have HCell : Hid (∀ W, Below B w W -> W.cell? ⟨b, off, none⟩ = some (.iface ku kx)) := fun W hW => (hW.cell (p := ⟨b, off, none⟩) hbB).trans e0
  clear hcell hcl hin hn hT hg hc hb
  have hbw : b < w.heap.size := by have : b < B := hbB; omega
  go_enter Tryz.func119, Tryz.ntmps119
  go_wp2_with fail
  go_region_law (first
   | (refine step_buf_byte rfl (.tmp 11) (.tmp 12) rfl B (.slice va vn vc) l rfl w 63 (by first | exact (HB.out.alloc _).drew | exact HB.out.drew.alloc _) w.heap.size rfl (by simp [go_sem]) (by omega) ?_; intro v1 w1 hb1; obtain ⟨va1, vn1, vc1, rfl⟩ := hb1.shape; have hck := HCell.out _ hb1.below)
   | (go_simp; go_at_call 83; refine (HC.out _ _ (by first | assumption | exact Buf.drew (by assumption))).mono ?_; rintro e w2 ⟨v2, rfl, hb2⟩; obtain ⟨va2, vn2, vc2, rfl⟩ := hb2.shape))
  all_goals
   have HF : Hid _ := buf_cast (hb2.from HB0.out) (l' := l ++ mayTxt (txtL n) (k :: r)) (by simp [mayTxt])
   clear hb2
   go_wp2_with fail
   go_ret
   exact ⟨_, rfl, HF.out⟩
end Go.Proofs.YtmjhcgjhlakceaaGreatDoor

namespace Go.Proofs.YtmjhcgjhlakceaaGreatDoor
open Go.RowKit
set_option maxRecDepth 20000 in
set_option maxHeartbeats 2000000 in
theorem appendForm_any (n : Nat) (hn : AppSaid n) (B : Nat) (w0 w : World) (v : Value) (l : List UInt8) (ns : List ByteArray) (nv : Value) (ks : List (T n)) (kv : Value) (d : Int) (hN : StrsIn (fun b => b < B) w ns nv) (hll : ns.length = ks.length) (hl8 : ∀ s, s ∈ ns -> s.size <= 8)
  (hb : Buf B w0 w v l) (hr : Row1 (fun b => b < B) w (InnerT (fun b => b < B) w n) ks kv)
  (hg : ks.all (fun x => goodT n x d) = true) (hc : 1 + sumL (fun x => cntT n x) ks <= 120) (hl : l.length + (joinL (zipL ns (ks.map (txtL n)))).length + 2 <= 20000) (hT : Tens B w) :
  Calls Tryz.prog 118 #[v, nv, kv, .func (.func 83) #[] #[]] w fun e w' => ∃ v', e = .returned v' /\ Buf B w0 w' v' (l ++ (123 :: joinL (zipL ns (ks.map (txtL n))) ++ [125])) := by
 obtain ⟨ao, cap, rfl, hlen, hcell⟩ := hr
 obtain ⟨no, ncap, rfl, -, -, hncell⟩ := hN
 unfold maxLen at hlen
 obtain ⟨va, vn, vc, rfl⟩ := hb.shape
 have hBw := hb.le
 have HG : Hid (∀ k (h : k < ks.length), goodT n ks[k] d = true /\ cntT n ks[k] <= 120) := fun k h => by
  refine ⟨List.all_eq_true.1 hg _ (List.getElem_mem h), ?_⟩
  have := sumL_mono (fun x => cntT n x) ks _ (List.getElem_mem h)
  omega
 have HSz : Hid (∀ k, (joinL ((zipL ns (ks.map (txtL n))).take k)).length <= (joinL (zipL ns (ks.map (txtL n)))).length) := fun k => joinL_take_len _ k
 have HLL : Hid (ns.length = ks.length) := hll
 have HB0 : Hid (Buf B w0 w (.slice va vn vc) l) := hb
 clear hg hll
 go_enter Tryz.func118, Tryz.ntmps118
 go_wp2_with (at_builtin; refine wpList_buf_byte rfl (.tmp 11) (.tmp 12) rfl B (.slice va vn vc) l rfl w w 123 123 rfl HB0.out.here rfl (by omega) ?_; intro v1 w1 hb1; obtain ⟨va1, vn1, vc1, rfl⟩ := hb1.shape; refine Hid.out ?_)
 refine Lib.hid ?_
 have HB1 : Hid _ := hb1
 clear hb1
 go_wp2_with fail
 go_loopw [0, 16] (fun a i wr => ∃ k : Nat, k <= ks.length /\ i = .int .i64 k /\ Buf B w wr a (l ++ [123] ++ joinL ((zipL ns (ks.map (txtL n))).take k))) (fun _ i _ => ks.length - (intOf i).toNat)
 case atStart => exact ⟨0, Nat.zero_le _, rfl, buf_cast HB1.out (by simp [joinL])⟩
 case round =>
  obtain ⟨k, hk, rfl, hbr⟩ := hrel
  obtain ⟨va2, vn2, vc2, rfl⟩ := hbr.shape
  have hsk := HSz.out k
  clear HB1
  by_cases hlt : k < ks.length
  ·obtain ⟨b, off, rfl, hbB, hcl⟩ := hcell (by intro h; rw [h] at hlt; simp at hlt)
   obtain ⟨c, e0, hin⟩ := hcl k hlt
   obtain ⟨ku, kx, rfl⟩ := hin.iface
   have f0 := (hbr.below.cell (p := ⟨b, off + k, none⟩) hbB).trans e0
   have hgk := HG.out k hlt
   have hnk : k < ns.length := by rw [HLL.out]; exact hlt
   obtain ⟨nb, noff, rfl, hnB, hnc⟩ := hncell (by intro h; rw [h] at hnk; simp at hnk)
   have hnl8 := hl8 ns[k] (List.getElem_mem hnk)
   have HNm : Hid (∀ W, Below B w W -> W.cell? ⟨nb, noff + k, none⟩ = some (.string ns[k])) := fun W hW => (hW.cell (p := ⟨nb, noff + k, none⟩) hnB).trans (hnc k hnk)
   have hml : k < (zipL ns (ks.map (txtL n))).length := by rw [zipL_length _ _ (by simpa using HLL.out)]; simpa using hlt
   have HS : Hid (joinL ((zipL ns (ks.map (txtL n))).take (k + 1)) = (if k = 0 then [] else joinL ((zipL ns (ks.map (txtL n))).take k) ++ [44]) ++ (ns[k].data.toList ++ 58 :: txtL n ks[k])) := by
    show _ = _
    rw [joinL_take_succ _ _ hml, zipL_get ns (ks.map (txtL n)) k hnk (by simpa using hlt) hml, List.getElem_map]
   have HIn : Hid (∀ W, Below B w W -> InnerT (fun b => b < B) W n ks[k] (.iface ku kx)) := fun W hW => hin.keep (same_below hW (fun _ h => h)) (fun _ h => h)
   have hszn : ns[k].data.toList.length = ns[k].size := by simp
   clear hcell hcl e0 hin hml hncell hnc
   have HBr : Hid _ := hbr
   clear hbr
   rcases Nat.eq_zero_or_pos k with rfl | hkp
   ·rw [Nat.add_zero] at f0
    rw [Nat.add_zero] at HNm
    generalize ns[0] = nm at *
    have HC : Hid _ := HBr.out
    have q0 := HNm.out _ HC.out.below
    go_wp2_with (at_builtin; refine wpList_buf_text rfl (.tmp 26) (.tmp 30) 9 rfl Tryz.underlying9 B (.slice va2 vn2 vc2) _ rfl w HC.out nm rfl (by simp [joinL]; omega) ?_; intro v5 w5 hb5; obtain ⟨va5, vn5, vc5, rfl⟩ := hb5.shape; refine Hid.out ?_)
    refine Lib.hid ?_
    have HB5 : Hid _ := hb5
    clear hb5 HC q0 HBr f0
    go_wp2_with (at_builtin; refine wpList_buf_byte rfl (.tmp 32) (.tmp 33) rfl B (.slice va5 vn5 vc5) _ rfl w w5 58 58 rfl HB5.out rfl (by simp [joinL]; omega) ?_; intro v6 w6 hb6; obtain ⟨va6, vn6, vc6, rfl⟩ := hb6.shape; refine Hid.out ?_)
    refine Lib.hid ?_
    have HB6 : Hid _ := hb6
    clear hb6 HB5
    go_wp2_with fail
    refine (hn B w w6 _ _ ks[0] _ d HB6.out (HIn.out _ HB6.out.below) hgk.1 hgk.2 (by have h1 := HSz.out (0 + 1); rw [HS.out] at h1; simp [joinL] at h1 ⊢; omega) (hT.on HB6.out.below)).mono ?_
    rintro e w7 ⟨v7, rfl, hb7⟩
    obtain ⟨va7, vn7, vc7, rfl⟩ := hb7.shape
    have HF : Hid _ := buf_cast hb7 (l' := l ++ [123] ++ joinL ((zipL ns (ks.map (txtL n))).take (0 + 1))) (by rw [HS.out]; simp [joinL])
    clear hb7 HB6
    go_wp2_with fail
    go_roundw
    case rel => exact ⟨0 + 1, by omega, by go_num, HF.out⟩
    case measure => simp [intOf]; omega
   ·have hk0 : decide ((0 : Int) < (k : Int)) = true := decide_eq_true (by omega)
    generalize ns[k] = nm at *
    go_wp2_with (at_builtin; refine wpList_buf_byte rfl (.tmp 23) (.tmp 24) rfl B (.slice va2 vn2 vc2) _ rfl w wr 44 44 rfl HBr.out rfl (by simp; omega) ?_; intro v3 w3 hb3; obtain ⟨va3, vn3, vc3, rfl⟩ := hb3.shape; refine Hid.out ?_)
    refine Lib.hid ?_
    have HC : Hid _ := hb3
    clear hb3
    have q0 := HNm.out _ HC.out.below
    go_wp2_with (at_builtin; refine wpList_buf_text rfl (.tmp 26) (.tmp 30) 9 rfl Tryz.underlying9 B (.slice va3 vn3 vc3) _ rfl w HC.out nm rfl (by simp; omega) ?_; intro v5 w5 hb5; obtain ⟨va5, vn5, vc5, rfl⟩ := hb5.shape; refine Hid.out ?_)
    refine Lib.hid ?_
    have HB5 : Hid _ := hb5
    clear hb5 HC q0 HBr f0
    go_wp2_with (at_builtin; refine wpList_buf_byte rfl (.tmp 32) (.tmp 33) rfl B (.slice va5 vn5 vc5) _ rfl w w5 58 58 rfl HB5.out rfl (by simp; omega) ?_; intro v6 w6 hb6; obtain ⟨va6, vn6, vc6, rfl⟩ := hb6.shape; refine Hid.out ?_)
    refine Lib.hid ?_
    have HB6 : Hid _ := hb6
    clear hb6 HB5
    go_wp2_with fail
    refine (hn B w w6 _ _ ks[k] _ d HB6.out (HIn.out _ HB6.out.below) hgk.1 hgk.2 (by have h1 := HSz.out (k + 1); rw [HS.out, if_neg (by omega)] at h1; simp at h1 ⊢; omega) (hT.on HB6.out.below)).mono ?_
    rintro e w7 ⟨v7, rfl, hb7⟩
    obtain ⟨va7, vn7, vc7, rfl⟩ := hb7.shape
    have HF : Hid _ := buf_cast hb7 (l' := l ++ [123] ++ joinL ((zipL ns (ks.map (txtL n))).take (k + 1))) (by rw [HS.out, if_neg (by omega)]; simp)
    clear hb7 HB6
    go_wp2_with fail
    go_roundw
    case rel => exact ⟨k + 1, by omega, by go_num, HF.out⟩
    case measure => simp [intOf]; omega
  ·have hkl : k = ks.length := by omega
   have HBr : Hid (Buf B w wr (.slice va2 vn2 vc2) (l ++ [123] ++ joinL (zipL ns (ks.map (txtL n))))) := buf_cast hbr (by
    have e : ks.length = (zipL ns (ks.map (txtL n))).length := by rw [zipL_length _ _ (by simpa using HLL.out)]; simp
    rw [hkl, e, List.take_length])
   clear hcell hbr hkl hncell
   go_wp2_with (at_builtin; refine wpList_buf_byte rfl (.tmp 40) (.tmp 41) rfl B (.slice va2 vn2 vc2) _ rfl w wr 125 125 rfl HBr.out rfl (by simp; omega) ?_; intro v3 w3 hb3; obtain ⟨va3, vn3, vc3, rfl⟩ := hb3.shape; refine Hid.out ?_)
   refine Lib.hid ?_
   have HF : Hid _ := buf_cast (hb3.from HB0.out) (l' := l ++ (123 :: joinL (zipL ns (ks.map (txtL n))) ++ [125])) (by simp)
   clear hb3 HBr
   go_wp2_with fail
   go_ret
   exact ⟨_, rfl, HF.out⟩
end Go.Proofs.YtmjhcgjhlakceaaGreatDoor

namespace Go.Proofs.YtmjhcgjhlakceaaGreatDoor
open Go.RowKit
set_option maxRecDepth 20000 in
set_option maxHeartbeats 1000000 in
theorem appendTree_num (B : Nat) (w0 w : World) (v : Value) (l : List UInt8) (x : Int) (hb : Buf B w0 w v l) (h0 : -999999999 <= x) (h1 : x <= 999999999) (hl : l.length <= 20000) (hT : Tens B w) :
  Calls Tryz.prog 83 #[v, .iface 130 (.int .i64 x)] w fun e w' => ∃ v', e = .returned v' /\ Buf B w0 w' v' (l ++ Lib.itoa x) := by
 have hyes := Tryz.yes_num
 obtain ⟨va, vn, vc, rfl⟩ := hb.shape
 have HQ : Hid (Calls Tryz.prog 115 _ w _) := buf_int B w0 w _ l x (by omega) (by omega) hb (by omega) hT
 clear hb hT
 go_enter Tryz.func83, Tryz.ntmps83
 go_wp2_with fail
 refine HQ.out.mono ?_
 rintro e w1 ⟨v1, rfl, hb1⟩
 obtain ⟨va1, vn1, vc1, rfl⟩ := hb1.shape
 have HB1 : Hid _ := hb1
 clear hb1 HQ
 go_wp2_with fail
 go_ret
 exact ⟨_, rfl, HB1.out⟩
set_option maxRecDepth 20000 in
set_option maxHeartbeats 1000000 in
theorem appendTree_text (B : Nat) (w0 w : World) (v : Value) (l : List UInt8) (x : ByteArray) (hb : Buf B w0 w v l) (hx : x.size <= 60) (hl : l.length <= 20000) :
  Calls Tryz.prog 83 #[v, .iface 134 (.string x)] w fun e w' => ∃ v', e = .returned v' /\ Buf B w0 w' v' (l ++ (34 :: x.data.toList ++ [34])) := by
 have hno0 := Tryz.no_num_text
 have hyes := Tryz.yes_text
 obtain ⟨va, vn, vc, rfl⟩ := hb.shape
 have hxl : x.data.toList.length = x.size := by simp
 have HB : Hid _ := hb
 clear hb
 go_enter Tryz.func83, Tryz.ntmps83
 go_wp2_with (at_builtin; refine wpList_buf_byte rfl (.tmp 21) (.tmp 22) rfl B (.slice va vn vc) _ rfl w0 w 34 34 rfl HB.out rfl (by omega) ?_; intro v1 w1 hb1; obtain ⟨va1, vn1, vc1, rfl⟩ := hb1.shape; refine Hid.out ?_)
 refine Lib.hid ?_
 have HB1 : Hid _ := hb1
 clear hb1 HB
 go_wp2_with (at_builtin; refine wpList_buf_text rfl (.tmp 24) (.tmp 25) 134 rfl Tryz.underlying134 B (.slice va1 vn1 vc1) _ rfl w0 HB1.out x rfl (by simp; omega) ?_; intro v2 w2 hb2; obtain ⟨va2, vn2, vc2, rfl⟩ := hb2.shape; refine Hid.out ?_)
 refine Lib.hid ?_
 have HB2 : Hid _ := hb2
 clear hb2 HB1
 go_wp2_with (at_builtin; refine wpList_buf_byte rfl (.tmp 27) (.tmp 28) rfl B (.slice va2 vn2 vc2) _ rfl w0 w2 34 34 rfl HB2.out rfl (by simp; omega) ?_; intro v3 w3 hb3; obtain ⟨va3, vn3, vc3, rfl⟩ := hb3.shape; refine Hid.out ?_)
 refine Lib.hid ?_
 have HB3 : Hid _ := buf_cast hb3 (l' := l ++ (34 :: x.data.toList ++ [34])) (by simp)
 clear hb3 HB2
 go_wp2_with fail
 go_ret
 exact ⟨_, rfl, HB3.out⟩
set_option maxHeartbeats 400000 in
theorem flagWord_any (x : Bool) (w : World) : Calls Tryz.prog 116 #[.bool x] w fun e w' => e = .returned (.string (bs (if x = true then [121, 101, 115] else [110, 111]))) /\ w = w' := by
 cases x
 all_goals
  go_enter Tryz.func116, Tryz.ntmps116
  go_wp2
  go_ret
  exact ⟨rfl, rfl⟩
set_option maxRecDepth 20000 in
set_option maxHeartbeats 1000000 in
theorem appendTree_flag (B : Nat) (w0 w : World) (v : Value) (l : List UInt8) (x : Bool) (hb : Buf B w0 w v l) (hl : l.length <= 20000) :
  Calls Tryz.prog 83 #[v, .iface 131 (.bool x)] w fun e w' => ∃ v', e = .returned v' /\ Buf B w0 w' v' (l ++ (if x = true then [121, 101, 115] else [110, 111])) := by
 have hno0 := Tryz.no_num_flag
 have hno1 := Tryz.no_text_flag
 have hyes := Tryz.yes_flag
 obtain ⟨va, vn, vc, rfl⟩ := hb.shape
 have HB : Hid _ := hb
 have hfl : (if x = true then [121, 101, 115] else [110, 111] : List UInt8).length <= 3 := by split <;> simp
 have HE : Hid (∀ u : List UInt8, u = (if x = true then [121, 101, 115] else [110, 111]) -> Buf B w0 w (.slice va vn vc) l) := fun _ _ => hb
 obtain ⟨fw, hfw⟩ : ∃ fw : List UInt8, fw = (if x = true then [121, 101, 115] else [110, 111]) := ⟨_, rfl⟩
 rw [<- hfw] at hfl ⊢
 have HQ : Hid (Calls Tryz.prog 116 #[.bool x] w fun e w' => e = .returned (.string (bs fw)) /\ w = w') := by rw [hfw]; exact flagWord_any x w
 have hsz : (bs fw).size = fw.length := bs_size fw
 have hsl : (bs fw).data.toList = fw := bs_toList fw
 clear hb hfw HE
 go_enter Tryz.func83, Tryz.ntmps83
 go_wp2_with fail
 refine HQ.out.mono ?_
 rintro e w1 ⟨rfl, rfl⟩
 go_wp2_with (at_builtin; refine wpList_buf_text rfl (.tmp 33) (.tmp 35) 9 rfl Tryz.underlying9 B (.slice va vn vc) _ rfl w0 HB.out (bs fw) rfl (by omega) ?_; intro v2 w2 hb2; obtain ⟨va2, vn2, vc2, rfl⟩ := hb2.shape; refine Hid.out ?_)
 refine Lib.hid ?_
 have HB3 : Hid _ := buf_cast hb2 (l' := l ++ fw) (by rw [bs_toList])
 clear hb2 HB
 go_wp2_with fail
 go_ret
 exact ⟨_, rfl, HB3.out⟩
set_option maxRecDepth 20000 in
set_option maxHeartbeats 1000000 in
theorem appendTree_list (B : Nat) (w0 w : World) (v : Value) (l r : List UInt8) (ka : Option Addr) (kl kc : Nat) (hb : Buf B w0 w v l) (HQ : Hid (Calls Tryz.prog 117 #[v, .slice ka kl kc] w fun e w' => ∃ v', e = .returned v' /\ Buf B w0 w' v' r)) :
  Calls Tryz.prog 83 #[v, .iface 135 (.slice ka kl kc)] w fun e w' => ∃ v', e = .returned v' /\ Buf B w0 w' v' r := by
 have hno0 := Tryz.no_num_list
 have hno1 := Tryz.no_text_list
 have hno2 := Tryz.no_flag_list
 have hyes := Tryz.yes_list
 obtain ⟨va, vn, vc, rfl⟩ := hb.shape
 clear hb
 go_enter Tryz.func83, Tryz.ntmps83
 go_wp2_with fail
 refine HQ.out.mono ?_
 rintro e w1 ⟨v1, rfl, hb1⟩
 obtain ⟨va1, vn1, vc1, rfl⟩ := hb1.shape
 have HB1 : Hid _ := hb1
 clear hb1 HQ
 go_wp2_with fail
 go_ret
 exact ⟨_, rfl, HB1.out⟩
set_option maxRecDepth 20000 in
set_option maxHeartbeats 1000000 in
theorem appendTree_form (B : Nat) (w0 w : World) (v : Value) (l r : List UInt8) (na ka : Option Addr) (nl nc kl kc : Nat) (hb : Buf B w0 w v l)
  (HQ : Hid (Calls Tryz.prog 118 #[v, .slice na nl nc, .slice ka kl kc, .func (.func 83) #[] #[]] (w.alloc (.cells #[.slice na nl nc, .slice ka kl kc] 140)) fun e w' => ∃ v', e = .returned v' /\ Buf B w0 w' v' r)) :
  Calls Tryz.prog 83 #[v, .iface 140 (.agg #[.slice na nl nc, .slice ka kl kc])] w fun e w' => ∃ v', e = .returned v' /\ Buf B w0 w' v' r := by
 have hno0 := Tryz.no_num_form
 have hno1 := Tryz.no_text_form
 have hno2 := Tryz.no_flag_form
 have hno3 := Tryz.no_list_form
 have hyes := Tryz.yes_form
 obtain ⟨va, vn, vc, rfl⟩ := hb.shape
 clear hb
 go_enter Tryz.func83, Tryz.ntmps83
 go_wp2_with fail
 refine HQ.out.mono ?_
 rintro e w1 ⟨v1, rfl, hb1⟩
 obtain ⟨va1, vn1, vc1, rfl⟩ := hb1.shape
 have HB1 : Hid _ := hb1
 clear hb1 HQ
 go_wp2_with fail
 go_ret
 exact ⟨_, rfl, HB1.out⟩
set_option maxRecDepth 20000 in
set_option maxHeartbeats 1000000 in
theorem appendTree_maybe (B : Nat) (w0 w : World) (v : Value) (l r : List UInt8) (ka : Option Addr) (kl kc : Nat) (hb : Buf B w0 w v l) (HQ : Hid (Calls Tryz.prog 119 #[v, .slice ka kl kc] w fun e w' => ∃ v', e = .returned v' /\ Buf B w0 w' v' r)) :
  Calls Tryz.prog 83 #[v, .iface 133 (.slice ka kl kc)] w fun e w' => ∃ v', e = .returned v' /\ Buf B w0 w' v' r := by
 have hno0 := Tryz.no_num_maybe
 have hno1 := Tryz.no_text_maybe
 have hno2 := Tryz.no_flag_maybe
 have hno3 := Tryz.no_list_maybe
 have hno4 := Tryz.no_form_maybe
 have hyes := Tryz.yes_maybe
 obtain ⟨va, vn, vc, rfl⟩ := hb.shape
 clear hb
 go_enter Tryz.func83, Tryz.ntmps83
 go_wp2_with fail
 refine HQ.out.mono ?_
 rintro e w1 ⟨v1, rfl, hb1⟩
 obtain ⟨va1, vn1, vc1, rfl⟩ := hb1.shape
 have HB1 : Hid _ := hb1
 clear hb1 HQ
 go_wp2_with fail
 go_ret
 exact ⟨_, rfl, HB1.out⟩
end Go.Proofs.YtmjhcgjhlakceaaGreatDoor

namespace Go.Proofs.YtmjhcgjhlakceaaGreatDoor
open Go.RowKit
theorem app_step (n : Nat) (hn : AppSaid n) : AppSaid (n + 1) := by
 intro B w0 w v l t iv d hb h hg hc hl hT
 have hg' := hg
 simp only [goodT, Bool.and_eq_true] at hg'
 have ha : aloneF (Nd.sort t) (Nd.num t) (Nd.text t) (Nd.names t) (Nd.kids t).length = true := hg'.1.2
 have hc' : 1 + sumL (fun x => cntT n x) (Nd.kids t) <= 120 := by simpa only [cntT] using hc
 unfold aloneF at ha
 simp only [txtL] at hl ⊢
 rcases h with ⟨hs, rfl⟩ | ⟨hs, rfl⟩ | ⟨hs, rfl⟩ | ⟨hs, kv, rfl, hk⟩ | ⟨hs, nv, kv, rfl, hnm, hk⟩ | ⟨hs, kv, rfl, hk⟩
 ·rw [if_pos hs] at ha hl ⊢
  simp only [Bool.and_eq_true, decide_eq_true_eq] at ha
  exact appendTree_num B w0 w v l _ hb ha.1.1.1.1 ha.1.1.1.2 (by omega) hT
 ·rw [if_neg (by omega), if_pos hs] at ha hl ⊢
  simp only [Bool.and_eq_true, textB, decide_eq_true_eq] at ha
  exact appendTree_text B w0 w v l _ hb ha.1.1.2.1 (by omega)
 ·rw [if_neg (by omega), if_neg (by omega), if_pos hs] at hl ⊢
  have := appendTree_flag B w0 w v l (Nd.num t == 1) hb (by omega)
  simpa using this
 ·rw [if_neg (by omega), if_neg (by omega), if_neg (by omega), if_neg (by omega), if_neg (by omega)] at hl ⊢
  obtain ⟨ka, kc, rfl, -⟩ := id hk
  simp only [List.length_append, List.length_cons, List.length_nil] at hl
  exact appendTree_list B w0 w v l _ _ _ _ hb (appendList_any n hn B w0 w v l (Nd.kids t) _ (d + 1) hb hk hg'.2 hc' (by omega) hT)
 ·rw [if_neg (by omega), if_neg (by omega), if_neg (by omega), if_neg (by omega), if_pos hs] at hl ⊢
  rw [if_neg (by omega), if_neg (by omega), if_neg (by omega), if_neg (by omega), if_pos hs] at ha
  simp only [Bool.and_eq_true, beq_iff_eq] at ha
  obtain ⟨ka, kc, rfl, -⟩ := id hk
  obtain ⟨na, nc, rfl, -⟩ := id hnm
  simp only [List.length_append, List.length_cons, List.length_nil] at hl
  have hal := (Below.refl B w).alloc hb.le (.cells #[.slice na (Nd.names t).length nc, .slice ka (Nd.kids t).length kc] 140)
  exact appendTree_form B w0 w v l _ _ _ _ _ _ _ hb (appendForm_any n hn B w0 _ v l (Nd.names t) _ (Nd.kids t) _ (d + 1) (hnm.keep (same_below hal (fun _ h => h)) (fun _ h => h)) (by omega) (riseB_names _ ha.2) (hb.alloc _)
   (hk.keep (same_below hal (fun _ h => h)) (fun _ h => h) (fun _ _ _ hx => hx.keep (same_below hal (fun _ h => h)) (fun _ h => h))) hg'.2 hc' (by omega) (hT.on hal))
 ·rw [if_neg (by omega), if_neg (by omega), if_neg (by omega), if_pos hs] at hl ⊢
  obtain ⟨ka, kc, rfl, -⟩ := id hk
  exact appendTree_maybe B w0 w v l _ _ _ _ hb (appendMaybe_any n hn B w0 w v l (Nd.kids t) _ (d + 1) hb hk hg'.2 hc' (by omega) hT)
theorem appendTree_any : ∀ n, AppSaid n := by
 intro n
 induction n with
 | zero => intro B w0 w v l t iv d hb h; exact h.elim
 | succ n ih => exact app_step n ih
theorem txtL_ne : ∀ (n : Nat) (t : T n) (d : Int), goodT n t d = true -> txtL n t ≠ [] := by
 intro n t d h
 cases n with
 | zero => simp [goodT] at h
 | succ n =>
  simp only [txtL]
  by_cases h1 : Nd.sort t = 1
  ·rw [if_pos h1]
   intro e
   have : (Lib.itoa (Nd.num t)).length = 0 := by rw [e]; rfl
   unfold Lib.itoa at this
   split at this
   ·simp at this
   ·rw [Lib.decDigits_length] at this
    unfold Lib.nDigits at this
    split at this <;> omega
  rw [if_neg h1]
  by_cases h2 : Nd.sort t = 2
  ·rw [if_pos h2]; simp
  rw [if_neg h2]
  by_cases h3 : Nd.sort t = 3
  ·rw [if_pos h3]; split <;> simp
  rw [if_neg h3]
  by_cases h6 : Nd.sort t = 6
  ·rw [if_pos h6]; cases Nd.kids t <;> simp [mayTxt]
  rw [if_neg h6]
  by_cases h5 : Nd.sort t = 5
  ·rw [if_pos h5]; simp
  rw [if_neg h5]; simp
def TensIn (w : World) : Prop := Lib.TabBelow Tryz.prog w.heap.size w "internal/strconv.uint64pow10" .u64 Lib.pow10Tab
theorem TensIn.step {w w' : World} (h : TensIn w) (hb : Below w.heap.size w w') : TensIn w' := fun w2 h2 => h w2 (hb.trans (h2.mono hb.size))
set_option maxRecDepth 20000 in
set_option maxHeartbeats 400000 in
theorem implWrite_any (n : Nat) (S : Nat -> Prop) (t : T n) (c0 c1 c2 c3 c4 : Value) (w : World) (ht : TreeIn S w n t c0 c1 c2 c3 c4) (hB : ∀ b, S b -> b < w.heap.size) (hT : TensIn w) :
  Calls Tryz.prog 40 #[.agg #[c0, c1, c2, c3, c4]] w fun e w' => e = .returned (.string (textF n t)) /\ Below w.heap.size w w' := by
 obtain ⟨x0, x1, x2, xa, xl, xc, ya, yl, yc, rfl, rfl, rfl, rfl, rfl⟩ := ht.shape
 have hb0 := (Below.refl w.heap.size w).alloc (Nat.le_refl _) (.cells #[.int .i64 x0, .int .i64 x1, .string x2, .slice xa xl xc, .slice ya yl yc] 27)
 have ht' := ht.keep (same_below hb0 hB) (fun _ h => h)
 clear ht
 go_enter Tryz.func40, Tryz.ntmps40
 go_wp2_with fail
 refine (innerTree_any n S t _ _ _ _ _ _ ht' (fun b hb => by have := hB b hb; simp; omega)).mono ?_
 rintro e w1 ⟨hb, ⟨hok, v, rfl, hin⟩ | ⟨hok, rfl⟩⟩
 ·have hp := okT_get hok
  have hbw := below_step hb0 (by simp) hb
  have hz1 := hb.size
  simp at hz1
  have hin' : InnerT (fun b => b < w1.heap.size) w1 n t v := hin.keep (fun _ _ => rfl) (fun b hb => hb.elim (fun h => by have := hB b h; omega) (fun h => h.2))
  obtain ⟨ku, kx, rfl⟩ := id hin'.iface
  have hlen := txtL_len n t 1 hp.1
  have hne := txtL_ne n t 1 hp.1
  have HC : Hid (textF n t = bs (txtL n t)) := by show _ = _; rw [textF, if_pos hok]
  have HP : Hid (Calls Tryz.prog 83 #[.slice none 0 0, _] w1 _) := appendTree_any n w1.heap.size w1 w1 (.slice none 0 0) [] t _ 1 (Buf.nil (Nat.le_refl _)) hin' hp.1 hp.2 (by simp; omega) (hT.step hbw)
  have HNE : Hid (txtL n t ≠ []) := hne
  clear hb hok hin hin' hb0 ht' hp hne hlen
  go_wp2_with fail
  refine HP.out.mono ?_
  rintro e w2 ⟨v2, rfl, hb2⟩
  rw [List.nil_append] at hb2
  have hcv := buf_string _ _ _ _ _ hb2 HNE.out
  have hbw2 := hbw.trans (hb2.below.mono hbw.size)
  obtain ⟨va, vn, vc, rfl⟩ := hb2.shape
  clear hb2 hbw HP
  go_wp2_with fail
  go_ret
  exact ⟨str_ret HC.out.symm, hbw2⟩
 ·have HP : Hid (textF n t = bs [] /\ Below w.heap.size w w1) := ⟨by rw [textF, if_neg (by rw [hok]; simp)], below_step hb0 (by simp) hb⟩
  clear hb hok hb0 ht'
  go_wp2_with fail
  go_ret
  exact ⟨str_ret HP.out.1.symm, HP.out.2⟩
end Go.Proofs.YtmjhcgjhlakceaaGreatDoor
