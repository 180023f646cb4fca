/-
  Several texts in one, in their order.
-/
import Derived.Test.YtmjhcgjhlakceaaGreatDoorEC8
import Derived.Test.YtmjhcgjhlakceaaGreatDoorB18
import Derived.Test.YtmjhcgjhlakceaaGreatDoorB21

namespace Go.Proofs.YtmjhcgjhlakceaaGreatDoor
open Go.RowKit
theorem trC_exit {m : Nat} {R cap i i' N : Nat} {ao : Option Addr} {l : List UInt8} {w W : World} {t : T m} {g0 g1 g2 g3 g4 : Value} (h : Cu w R ao l cap i) (hN : N = w.heap.size) (hn : Near R w W) (hb : Cu W R ao l cap i') (hk : TreeIn (fun b => N + 1 <= b /\ b < W.heap.size) W m t g0 g1 g2 g3 g4) (ho : OwnT (fun b => N + 1 <= b /\ b < W.heap.size) W m t g3 g4) (hr : decI m (l.drop i) = some (t, l.drop i')) (hlt : i < i') :
  TreeC m w R ao l cap i (.returned (.agg #[g0, g1, g2, g3, g4])) (put5 W N 0 g0 g1 g2 g3 g4) := by
 have hR := h.lt
 have qq : ∀ b, b ≠ N -> (put5 W N 0 g0 g1 g2 g3 g4).heap[b]? = W.heap[b]? := fun b h => put5_other h
 have hz : (put5 W N 0 g0 g1 g2 g3 g4).heap.size = W.heap.size := put5_size
 have hbl : Below 0 W (put5 W N 0 g0 g1 g2 g3 g4) := put5_below (Below.refl 0 W) (Nat.zero_le _)
 have hn' : Near R w (put5 W N 0 g0 g1 g2 g3 g4) := ⟨by rw [hbl.os]; exact hn.os, by rw [hbl.tape]; exact hn.tape, by rw [hbl.output]; exact hn.output, by rw [hz]; exact hn.size, fun b hb hne => (qq b (by omega)).trans (hn.block b hb hne)⟩
 exact ⟨hn', .inl ⟨t, _, _, _, _, _, i', hr, rfl, hk.keep (fun b hb => qq b (by omega)) (fun b hb => ⟨by omega, by rw [hz]; exact hb.2⟩), ho.keep (fun b hb => qq b (by omega)) (fun b hb => ⟨by omega, by rw [hz]; exact hb.2⟩), h.keep hn' ((qq R (by omega)).trans hb.box) hb.le, hlt⟩⟩
structure TrC (m R : Nat) (ao : Option Addr) (l : List UInt8) (cap i : Nat) (w w1 W2 : World) (v : Nat) : Prop where
 many : Many R w1.heap.size m w1 W2 (v : Int) [] [] (.slice none 0 0) (.slice none 0 0)
 lt : w.heap.size < w1.heap.size
 sz2 : W2.heap.size = w1.heap.size + 1
 near : Near R w w1
 zero : w1.heap[w.heap.size]? = some (.cells #[.int .i64 0, .int .i64 0, .string ⟨#[]⟩, .slice none 0 0, .slice none 0 0] 27 (0, 0))
 r0 : Cu w R ao l cap i
 r1 : Cu w1 R ao l cap (i + 1)
 r2 : Cu W2 R ao l cap (i + 1)
 v255 : v <= 255
theorem trC (m : Nat) {R : Nat} {ao : Option Addr} {l : List UInt8} {cap i : Nat} {w W0 w1 W2 : World} {v : Nat} (h : Cu w R ao l cap i) (h0 : W0 = w.alloc (.cells #[.int .i64 0, .int .i64 0, .string ⟨#[]⟩, .slice none 0 0, .slice none 0 0] 27))
  (hn : Near R W0 w1) (h1 : Cu w1 R ao l cap (i + 1)) (hv : v <= 255) (h2 : W2 = w1.alloc (.cells #[.int .i64 (v : Int), .int .i64 0, .string ⟨#[]⟩, .slice none 0 0, .slice none 0 0] 27)) : TrC m R ao l cap i w w1 W2 v := by
 have hR := h.lt
 have hz0 : W0.heap.size = w.heap.size + 1 := by rw [h0]; simp
 have hs := hn.size
 have hb0 : Below w.heap.size w W0 := by rw [h0]; exact (Below.refl _ _).alloc (Nat.le_refl _) _
 have hb2 : Below w1.heap.size w1 W2 := by rw [h2]; exact (Below.refl _ _).alloc (Nat.le_refl _) _
 refine ⟨⟨Near.of_below hb2, by rw [h2]; exact heap_alloc_new _ _, ⟨rfl, .inl ⟨rfl, rfl⟩⟩, by simp, ⟨[], ⟨rfl, .inl ⟨rfl, rfl⟩⟩, fun j hj => absurd hj (Nat.not_lt_zero _)⟩, fun b hb => by cases hb⟩, by omega, by rw [h2]; simp, (Near.of_below hb0).trans hn, ?_, h, h1, h1.same hb2, hv⟩
 rw [hn.block w.heap.size (by omega) (by omega), h0]
 exact heap_alloc_new _ _
theorem trC_leaf {m : Nat} {R cap i i2 : Nat} {ao : Option Addr} {l : List UInt8} {w w1 W2 wr W : World} {v : Nat} {y : Int} {s : ByteArray} (hS : TrC m R ao l cap i w w1 W2 v) (hn : Near R W2 wr) (hD : Cu wr R ao l cap i2) (hW : ∀ b, b ≠ w1.heap.size -> W.heap[b]? = wr.heap[b]?) (hB : Below 0 wr W) (hz : W.heap.size = wr.heap.size)
  (hy : (Lit.int .i64 y).wf = true) (hs : s.size <= 10000) (hr : decI (m + 1) (l.drop i) = some ((⟨(v : Int), y, s, [], []⟩ : Nd (T m)), l.drop i2)) (hlt : i < i2) :
  TreeC (m + 1) w R ao l cap i (.returned (.agg #[.int .i64 (v : Int), .int .i64 y, .string s, .slice none 0 0, .slice none 0 0])) (put5 W w.heap.size 0 (.int .i64 (v : Int)) (.int .i64 y) (.string s) (.slice none 0 0) (.slice none 0 0)) := by
 have hR := hS.r0.lt
 have h1 := hS.many.near.size
 have h2 := hn.size
 have h3 := hS.lt
 have h4 := hS.v255
 have hnr : Near R w wr := (hS.near.trans hS.many.near).trans hn
 have hnW : Near R w W := ⟨by rw [hB.os]; exact hnr.os, by rw [hB.tape]; exact hnr.tape, by rw [hB.output]; exact hnr.output, by rw [hz]; exact hnr.size, fun b hb hne => (hW b (by omega)).trans (hnr.block b hb hne)⟩
 exact trC_exit hS.r0 rfl hnW (hS.r0.keep hnW ((hW R (by omega)).trans hD.box) hD.le) (leafR_in _ _ m (v : Int) y s (wf_wide (by omega) (by omega)) hy hs) (OwnT.leaf _ _ m (v : Int) y s) hr hlt
theorem trC_many {m : Nat} {R cap i i2 : Nat} {ao : Option Addr} {l : List UInt8} {w w1 W2 wr : World} {v : Nat} {nv kv : Value} {ns : List ByteArray} {ks : List (T m)} (hS : TrC m R ao l cap i w w1 W2 v) (hM : ManyP R w1.heap.size m w1 wr (v : Int) ns ks nv kv) (hD : Cu wr R ao l cap i2) (hns : ns.length <= 1000) (hks : ks.length <= 1000)
  (hr : decI (m + 1) (l.drop i) = some ((⟨(v : Int), 0, ByteArray.empty, ns, ks⟩ : Nd (T m)), l.drop i2)) (hlt : i < i2) :
  TreeC (m + 1) w R ao l cap i (.returned (.agg #[.int .i64 (v : Int), .int .i64 0, .string ByteArray.empty, nv, kv])) (put5 wr w.heap.size 0 (.int .i64 (v : Int)) (.int .i64 0) (.string ByteArray.empty) nv kv) := by
 have h3 := hS.lt
 have h4 := hS.v255
 exact trC_exit hS.r0 rfl (hS.near.trans hM.near) hD ((manyR_in hM.toMany (wf_wide (by omega) (by omega)) (by omega) (by omega)).keep (fun _ _ => rfl) (fun b hb => ⟨by omega, hb.2⟩)) ((hM.owns (by omega) (by omega)).keep (fun _ _ => rfl) (fun b hb => ⟨by omega, hb.2⟩)) hr hlt
set_option maxRecDepth 20000 in
set_option maxHeartbeats 4000000 in
theorem treeC_step (L : Nat) (hK : KdCSaid L) : TrCSaid (L + 1) := fun R ao l cap i w hL h => by
 have HI := Lib.hid hK
 have HL := Lib.hid hL
 clear hK hL
 obtain ⟨W0, hW0⟩ : ∃ W0, W0 = w.alloc (.cells #[.int .i64 0, .int .i64 0, .string ⟨#[]⟩, .slice none 0 0, .slice none 0 0] 27) := ⟨_, rfl⟩
 have hb0 : Below w.heap.size w W0 := by rw [hW0]; exact (Below.refl _ _).alloc (Nat.le_refl _) _
 have HC := Lib.hid (takeC_any W0 R ao l cap i (h.same hb0))
 have HR0 := Lib.hid h
 have HB0 := Lib.hid hb0
 have hRw := h.lt
 clear h hb0
 go_enter Tryz.func54, Tryz.ntmps54
 go_wp2_with fail
 rw [<- hW0]
 refine HC.out.mono ?_
 rintro e w1 ⟨hn1, ⟨hi, rfl, h1⟩ | ⟨hi, rfl⟩⟩
 case inr => exact ⟨rfl, (Near.of_below HB0.out).trans hn1, .inr ⟨decI_nil hi, rfl⟩⟩
 have hv := l[i].toNat_lt
 have HNum : Hid (l[i].toNat = 1 -> decI (L + 1) (l.drop i) = (decNum (l.drop (i + 1))).map fun p => ((⟨1, p.1, ByteArray.empty, [], []⟩ : Nd (T L)), p.2)) := fun h => decI_num hi h
 have HTxt : Hid (l[i].toNat = 2 -> decI (L + 1) (l.drop i) = (takeS (l.drop (i + 1))).map fun p => ((⟨2, 0, p.1, [], []⟩ : Nd (T L)), p.2)) := fun h => decI_text hi h
 have HFl : Hid (l[i].toNat = 3 -> (∀ h1 : i + 1 < l.length, decI (L + 1) (l.drop i) = some ((⟨3, (l[i + 1].toNat : Int), ByteArray.empty, [], []⟩ : Nd (T L)), l.drop (i + 1 + 1))) /\ (l.length <= i + 1 -> decI (L + 1) (l.drop i) = none)) := fun h => ⟨fun h1 => decI_flag hi h h1, fun h1 => decI_flag_no hi h h1⟩
 have HKd : Hid (l[i].toNat = 4 ∨ l[i].toNat = 5 ∨ l[i].toNat = 6 -> decI (L + 1) (l.drop i) = (kidsB L (l[i].toNat : Int) (l.drop (i + 1))).map fun p => ((⟨(l[i].toNat : Int), 0, ByteArray.empty, p.1.1, p.1.2⟩ : Nd (T L)), p.2)) := fun h => decI_kids hi h
 have HOt : Hid (¬ l[i].toNat = 1 -> ¬ l[i].toNat = 2 -> ¬ l[i].toNat = 3 -> ¬ (l[i].toNat = 4 ∨ l[i].toNat = 5 ∨ l[i].toNat = 6) -> decI (L + 1) (l.drop i) = some ((⟨(l[i].toNat : Int), 0, ByteArray.empty, [], []⟩ : Nd (T L)), l.drop (i + 1))) := fun h1 h2 h3 h4 => decI_other hi h1 h2 h3 h4
 obtain ⟨v, hvv⟩ : ∃ v, l[i].toNat = v := ⟨_, rfl⟩
 rw [hvv] at hv HNum HTxt HFl HKd HOt
 rw [hvv]
 obtain ⟨W2, hW2⟩ : ∃ W2, W2 = w1.alloc (.cells #[.int .i64 (v : Int), .int .i64 0, .string ⟨#[]⟩, .slice none 0 0, .slice none 0 0] 27) := ⟨_, rfl⟩
 have HS := Lib.hid (trC L HR0.out hW0 hn1 h1 (by omega) hW2)
 have hz1 := HS.out.lt
 have hz2 := HS.out.sz2
 have hwv : IntKind.i64.wrap (v : Int) = (v : Int) := by rw [IntKind.wrap_i64]; omega
 clear HC h1 hn1 hW0 hi hvv HB0
 obtain ⟨⟨x0, x1, x2, x3, x4⟩, y0, y1, y2, y3, y4⟩ := zeroR_cells HS.out.many.box
 go_upto_region 2 with fail
 rw [<- hW2]
 clear hW2
 by_cases h1 : v = 1
 ·subst h1
  have HC := Lib.hid (numC_any W2 R ao l cap (i + 1) HS.out.r2)
  clear HI x1 x2 x3 x4 y0 y1 y2 y3 y4
  go_wp2_with fail
  refine HC.out.mono ?_
  rintro e w3 ⟨hn3, ⟨x, i2, hd, rfl, hx, h3, hlt⟩ | ⟨hd, rfl⟩⟩
  case inr =>
   have HP : Hid (TreeC (L + 1) w R ao l cap i (.panicked refusal) w3) := ⟨(HS.out.near.trans HS.out.many.near).trans hn3, .inr ⟨by rw [HNum.out (by first | rfl | trivial), hd]; rfl, rfl⟩⟩
   exact ⟨rfl, HP.out⟩
  have hM := HS.out.many.keep (by omega) hn3
  obtain ⟨⟨x0, x1, x2, x3, x4⟩, y0, y1, y2, y3, y4⟩ := zeroR_cells hM.box
  have x0 : w3.cell? ⟨w1.heap.size, 0, none⟩ = some (.int .i64 1) := x0
  obtain ⟨⟨z0, z1, z2, z3, z4⟩, u0, u1, u2, u3, u4⟩ := zeroR_cells ((hM.near.block w.heap.size (by omega) (by omega)).trans HS.out.zero)
  have hd1 := HNum.out (by first | rfl | trivial)
  rw [hd, Option.map_some] at hd1
  have HP : Hid (TreeC (L + 1) w R ao l cap i (.returned (.agg #[.int .i64 1, .int .i64 x, .string ByteArray.empty, .slice none 0 0, .slice none 0 0])) (put5 (w3.setCell ⟨w1.heap.size, 1, none⟩ (.int .i64 x)) w.heap.size 0 (.int .i64 1) (.int .i64 x) (.string ByteArray.empty) (.slice none 0 0) (.slice none 0 0))) :=
   trC_leaf HS.out hn3 h3 (fun b hb => Below.heap_setCell _ _ _ _ hb) ((Below.refl 0 w3).setCell (Nat.zero_le _) _) (by simp) (wf_wide (by omega) (by omega)) (by simp) hd1 (by omega)
  clear HC hM hn3 h3 HS HR0 HNum HTxt HFl HKd HOt HL
  go_wp2_with fail
  refine bodyPost_ret (v := .agg #[.int .i64 1, .int .i64 x, .string ByteArray.empty, .slice none 0 0, .slice none 0 0]) (by simp [results, Tryz.results54, go_sem, z0, z1, z2, z3, z4]; rfl) rfl ?_
  exact HP.out
 by_cases h2 : v = 2
 ·subst h2
  have HC := Lib.hid (textC_any W2 R ao l cap (i + 1) HS.out.r2)
  clear HI x1 x2 x3 x4 y0 y1 y2 y3 y4
  go_wp2_with fail
  refine HC.out.mono ?_
  rintro e w3 ⟨hn3, ⟨x, i2, hd, rfl, hx, h3, hlt⟩ | ⟨hd, rfl⟩⟩
  case inr =>
   have HP : Hid (TreeC (L + 1) w R ao l cap i (.panicked refusal) w3) := ⟨(HS.out.near.trans HS.out.many.near).trans hn3, .inr ⟨by rw [HTxt.out (by first | rfl | trivial), hd]; rfl, rfl⟩⟩
   exact ⟨rfl, HP.out⟩
  have hM := HS.out.many.keep (by omega) hn3
  obtain ⟨⟨x0, x1, x2, x3, x4⟩, y0, y1, y2, y3, y4⟩ := zeroR_cells hM.box
  have x0 : w3.cell? ⟨w1.heap.size, 0, none⟩ = some (.int .i64 2) := x0
  obtain ⟨⟨z0, z1, z2, z3, z4⟩, u0, u1, u2, u3, u4⟩ := zeroR_cells ((hM.near.block w.heap.size (by omega) (by omega)).trans HS.out.zero)
  have hd1 := HTxt.out (by first | rfl | trivial)
  rw [hd, Option.map_some] at hd1
  have HP : Hid (TreeC (L + 1) w R ao l cap i (.returned (.agg #[.int .i64 2, .int .i64 0, .string x, .slice none 0 0, .slice none 0 0])) (put5 (w3.setCell ⟨w1.heap.size, 2, none⟩ (.string x)) w.heap.size 0 (.int .i64 2) (.int .i64 0) (.string x) (.slice none 0 0) (.slice none 0 0))) :=
   trC_leaf HS.out hn3 h3 (fun b hb => Below.heap_setCell _ _ _ _ hb) ((Below.refl 0 w3).setCell (Nat.zero_le _) _) (by simp) (by rfl) (by omega) hd1 (by omega)
  clear HC hM hn3 h3 HS HR0 HNum HTxt HFl HKd HOt HL
  go_wp2_with fail
  refine bodyPost_ret (v := .agg #[.int .i64 2, .int .i64 0, .string x, .slice none 0 0, .slice none 0 0]) (by simp [results, Tryz.results54, go_sem, z0, z1, z2, z3, z4]) rfl ?_
  exact HP.out
 by_cases h3 : v = 3
 ·subst h3
  have HC := Lib.hid (takeC_any W2 R ao l cap (i + 1) HS.out.r2)
  clear HI x1 x2 x3 x4 y0 y1 y2 y3 y4
  go_wp2_with fail
  refine HC.out.mono ?_
  rintro e w3 ⟨hn3, ⟨hlt3, rfl, h3⟩ | ⟨hlt3, rfl⟩⟩
  case inr =>
   have HP : Hid (TreeC (L + 1) w R ao l cap i (.panicked refusal) w3) := ⟨(HS.out.near.trans HS.out.many.near).trans hn3, .inr ⟨(HFl.out (by first | rfl | trivial)).2 hlt3, rfl⟩⟩
   exact ⟨rfl, HP.out⟩
  have hM := HS.out.many.keep (by omega) hn3
  obtain ⟨⟨x0, x1, x2, x3, x4⟩, y0, y1, y2, y3, y4⟩ := zeroR_cells hM.box
  have x0 : w3.cell? ⟨w1.heap.size, 0, none⟩ = some (.int .i64 3) := x0
  obtain ⟨⟨z0, z1, z2, z3, z4⟩, u0, u1, u2, u3, u4⟩ := zeroR_cells ((hM.near.block w.heap.size (by omega) (by omega)).trans HS.out.zero)
  have hd1 := (HFl.out (by first | rfl | trivial)).1 hlt3
  have hx3 := l[i + 1].toNat_lt
  generalize l[i + 1].toNat = x at *
  obtain ⟨i2, hi2⟩ : ∃ i2, i + 1 + 1 = i2 := ⟨_, rfl⟩
  rw [hi2] at hd1 h3
  have hwx : IntKind.i64.wrap (x : Int) = (x : Int) := by rw [IntKind.wrap_i64]; omega
  have HP : Hid (TreeC (L + 1) w R ao l cap i (.returned (.agg #[.int .i64 3, .int .i64 (x : Int), .string ByteArray.empty, .slice none 0 0, .slice none 0 0])) (put5 (w3.setCell ⟨w1.heap.size, 1, none⟩ (.int .i64 (x : Int))) w.heap.size 0 (.int .i64 3) (.int .i64 (x : Int)) (.string ByteArray.empty) (.slice none 0 0) (.slice none 0 0))) :=
   trC_leaf HS.out hn3 h3 (fun b hb => Below.heap_setCell _ _ _ _ hb) ((Below.refl 0 w3).setCell (Nat.zero_le _) _) (by simp) (wf_wide (by omega) (by omega)) (by simp) hd1 (by omega)
  clear HC hM hn3 h3 HS HR0 HNum HTxt HFl HKd HOt HL
  go_wp2_with fail
  refine bodyPost_ret (v := .agg #[.int .i64 3, .int .i64 (x : Int), .string ByteArray.empty, .slice none 0 0, .slice none 0 0]) (by simp [results, Tryz.results54, go_sem, z0, z1, z2, z3, z4]; rfl) rfl ?_
  exact HP.out
 have hv1 : ¬ (v : Int) = 1 := by omega
 have hv2 : ¬ (v : Int) = 2 := by omega
 have hv3 : ¬ (v : Int) = 3 := by omega
 by_cases h4 : v = 4 ∨ v = 5 ∨ v = 6
 case neg =>
  have hv4 : ¬ (v : Int) = 4 := by omega
  have hv5 : ¬ (v : Int) = 5 := by omega
  have hv6 : ¬ (v : Int) = 6 := by omega
  obtain ⟨⟨z0, z1, z2, z3, z4⟩, u0, u1, u2, u3, u4⟩ := zeroR_cells ((HS.out.many.near.block w.heap.size (by omega) (by omega)).trans HS.out.zero)
  have HP : Hid (TreeC (L + 1) w R ao l cap i (.returned (.agg #[.int .i64 (v : Int), .int .i64 0, .string ByteArray.empty, .slice none 0 0, .slice none 0 0])) (put5 W2 w.heap.size 0 (.int .i64 (v : Int)) (.int .i64 0) (.string ByteArray.empty) (.slice none 0 0) (.slice none 0 0))) :=
   trC_leaf HS.out (Near.refl R W2) HS.out.r2 (fun _ _ => rfl) (Below.refl _ _) rfl (by rfl) (by simp) (HOt.out h1 h2 h3 h4) (by omega)
  clear HS HR0 HNum HTxt HFl HKd HOt HL HI h4
  go_wp2_with fail
  refine bodyPost_ret (v := .agg #[.int .i64 (v : Int), .int .i64 0, .string ByteArray.empty, .slice none 0 0, .slice none 0 0]) (by simp [results, Tryz.results54, go_sem, z0, z1, z2, z3, z4]; rfl) rfl ?_
  exact HP.out
 case pos =>
  have HC := Lib.hid (HI.out R ao l cap (i + 1) w1.heap.size v w1 W2 h4 (by have := HL.out; omega) (by omega) (Nat.le_refl _) HS.out.r1 HS.out.r2 (ManyP.start HS.out.many))
  have HD := Lib.hid (HKd.out h4)
  clear HNum HTxt HFl HKd HOt HL HI
  have hrest : ∀ (A : Prop), A -> A := fun _ h => h
  clear hrest
  rcases h4 with h4 | h4 | h4
  all_goals
   subst h4
   clear h1 h2 h3 hv1 hv2 hv3
   go_wp2_with fail
   refine HC.out.mono ?_
   rintro e w3 (⟨ns, ks, nv, kv, i', hkb, rfl, hM, h3, hlt, hnsl, hksl⟩ | ⟨hkb, rfl, hn3⟩)
   case inr =>
    have HP : Hid (TreeC (L + 1) w R ao l cap i (.panicked refusal) w3) := ⟨HS.out.near.trans hn3, .inr ⟨by rw [HD.out, hkb]; rfl, rfl⟩⟩
    exact ⟨rfl, HP.out⟩
   obtain ⟨xs, hxs, -⟩ := hM.kids
   obtain ⟨ka, kc, rfl⟩ := owns_shape hxs
   obtain ⟨na, nc, rfl⟩ := owns_shape hM.names
   have HP := Lib.hid (trC_many HS.out hM h3 (by omega) (by omega) (by rw [HD.out, hkb]; rfl) (by omega))
   clear x0 x1 x2 x3 x4 y0 y1 y2 y3 y4
   obtain ⟨⟨x0, x1, x2, x3, x4⟩, -⟩ := zeroR_cells hM.box
   obtain ⟨⟨z0, z1, z2, z3, z4⟩, u0, u1, u2, u3, u4⟩ := zeroR_cells ((hM.near.block w.heap.size (by omega) (by omega)).trans HS.out.zero)
   generalize ns.length = nl at *
   generalize ks.length = kl at *
   clear HC hM h3 HS HR0 HD hkb hxs
   go_wp2_with fail
   refine bodyPost_ret (by simp [results, Tryz.results54, go_sem, z0, z1, z2, z3, z4]; rfl) rfl ?_
   exact HP.out
theorem treeC_zero : TrCSaid 0 := fun R ao l cap i w hL h => by
 obtain ⟨W0, hW0⟩ : ∃ W0, W0 = w.alloc (.cells #[.int .i64 0, .int .i64 0, .string ⟨#[]⟩, .slice none 0 0, .slice none 0 0] 27) := ⟨_, rfl⟩
 have hb0 : Below w.heap.size w W0 := by rw [hW0]; exact (Below.refl _ _).alloc (Nat.le_refl _) _
 have HC := Lib.hid (takeC_any W0 R ao l cap i (h.same hb0))
 have HB0 := Lib.hid hb0
 clear h hb0
 go_enter Tryz.func54, Tryz.ntmps54
 go_wp2_with fail
 rw [<- hW0]
 refine HC.out.mono ?_
 rintro e w1 ⟨hn1, ⟨hi, rfl, h1⟩ | ⟨hi, rfl⟩⟩
 case inr => exact ⟨rfl, (Near.of_below HB0.out).trans hn1, .inr ⟨decI_nil hi, rfl⟩⟩
 exact absurd hi (by omega)
theorem treeC_any : ∀ L : Nat, TrCSaid L := by
 intro L
 induction L with
 | zero => exact treeC_zero
 | succ L ih => exact treeC_step L (kidsC_step L ih)
end Go.Proofs.YtmjhcgjhlakceaaGreatDoor

namespace Go.Proofs.YtmjhcgjhlakceaaGreatDoor
open Go.RowKit
theorem nameB_let {x : ByteArray} (h : nameB x = true) : ∀ k (hk : k < x.size), letB (x[k]'hk).toNat := by
 intro k hk
 simp only [nameB, Bool.and_eq_true] at h
 have hm : x[k]'hk ∈ x.data.toList := by
  show x.data[k] ∈ x.data.toList
  exact Array.getElem_mem_toList ..
 have := List.all_eq_true.1 h.2 _ hm
 simp only [nmByte, decide_eq_true_eq] at this
 unfold letB
 omega
def TookE (L : Nat) (l : List UInt8) (x : ByteArray) (v : Int) (t : T L) : Prop :=
 (okE L x v t = true -> packE L x v t = l) /\ ∀ (x' : ByteArray) (v' : Int) (t' : T L), okE L x' v' t' = true -> packE L x' v' t' = l -> x = x' /\ v = v' /\ t = t'
def WholeC (L : Nat) (w : World) (R : Nat) (l : List UInt8) (e : Ending) (w' : World) : Prop :=
 Near R w w' /\ ((∃ (x : ByteArray) (v : Int) (t : T L) (c0 c1 c2 c3 c4 : Value), e = .returned (.agg #[.string x, .int .i64 v, c0, c1, c2, c3, c4]) /\ x.size <= 255 /\ TreeIn (fun b => w.heap.size <= b /\ b < w'.heap.size) w' L t c0 c1 c2 c3 c4 /\ OwnT (fun b => w.heap.size <= b /\ b < w'.heap.size) w' L t c3 c4 /\ TookE L l x v t) ∨
  ((∀ (x' : ByteArray) (v' : Int) (t' : T L), okE L x' v' t' = true -> packE L x' v' t' ≠ l) /\ e = .panicked refusal))
theorem packE_took {L : Nat} {l : List UInt8} {x' : ByteArray} {v' : Int} {t' : T L} (ho : okE L x' v' t' = true) (hp : packE L x' v' t' = l) : takeS l = some (x', b8 v' :: packT L t') /\ (∀ k (hk : k < x'.size), letB (x'[k]'hk).toNat) /\ ((b8 v').toNat : Int) = v' /\ decI L (packT L t') = some (t', []) := by
 obtain ⟨hnm, hv, -, hokT⟩ := okE_parts ho
 have hx8 : x'.size <= 8 := by simp only [nameB, Bool.and_eq_true, decide_eq_true_eq] at hnm; exact hnm.1.1.2
 have hg := okT_getE hokT
 refine ⟨?_, nameB_let hnm, ?_, ?_⟩
 ·rw [<- hp]; exact takeS_complete x' _ (by omega)
 ·obtain ⟨k, rfl⟩ : ∃ k : Nat, v' = (k : Int) := ⟨v'.toNat, by omega⟩
  rw [b8_toNat (by omega)]
 ·have := decI_complete L t' 1 [] hg.1 hg.2
  rw [List.append_nil] at this
  exact this
theorem eunp_one {m : Nat} {l : List UInt8} {ok ok' : Bool} {x x' : ByteArray} {v v' : Int} {t t' : T (m + 1)} (h : EUnp m l ok x v t) (h' : EUnp m l ok' x' v' t') : ok' = ok /\ x' = x /\ v' = v /\ t' = t := by
 rcases h with ⟨e1, e2, e3⟩ | ⟨e1, e2, e3, e4, e5⟩ <;> rcases h' with ⟨f1, f2, f3⟩ | ⟨f1, f2, f3, f4, f5⟩
 ·obtain ⟨a1, -, a3, a4⟩ := packE_took e2 e3
  obtain ⟨b1, -, b3, b4⟩ := packE_took f2 f3
  rw [a1] at b1
  injection b1 with b1
  have c1 := congrArg Prod.fst b1
  have c2 := congrArg Prod.snd b1
  simp only [] at c1 c2
  injection c2 with c2 c3
  rw [c3, b4] at a4
  injection a4 with a4
  refine ⟨f1.trans e1.symm, c1.symm, ?_, congrArg Prod.fst a4⟩
  rw [<- a3, <- b3, c2]
 ·exact absurd e3 (f5 x v t e2)
 ·exact absurd f3 (e5 x' v' t' f2)
 ·exact ⟨f1.trans e1.symm, f2.trans e2.symm, f3.trans e3.symm, f4.trans e4.symm⟩
theorem took_type {L : Nat} {l : List UInt8} (h : ∀ x r, takeS (l.drop 0) = some (x, r) -> ∃ k, ∃ h : k < x.size, ¬ letB (x[k]'h).toNat) : ∀ (x' : ByteArray) (v' : Int) (t' : T L), okE L x' v' t' = true -> packE L x' v' t' ≠ l := fun x' v' t' ho hp => by
 obtain ⟨h1, h2, -⟩ := packE_took ho hp
 obtain ⟨k, hk, hn⟩ := h x' _ h1
 exact hn (h2 k hk)
theorem drop_cons {l : List UInt8} {i : Nat} {b : UInt8} {r : List UInt8} (h : l.drop i = b :: r) : ∃ hi : i < l.length, l[i] = b /\ l.drop (i + 1) = r := by
 have hi : i < l.length := Classical.byContradiction fun hge => by rw [List.drop_eq_nil_of_le (by omega)] at h; cases h
 rw [List.drop_eq_getElem_cons hi] at h
 injection h with h1 h2
 exact ⟨hi, h1, h2⟩
theorem took_version {L : Nat} {l : List UInt8} {x : ByteArray} {i : Nat} (h : takeS (l.drop 0) = some (x, l.drop i)) (hi : l.length <= i) : ∀ (x' : ByteArray) (v' : Int) (t' : T L), okE L x' v' t' = true -> packE L x' v' t' ≠ l := fun x' v' t' ho hp => by
 obtain ⟨h1, -⟩ := packE_took ho hp
 rw [List.drop_zero, h1] at h
 injection h with h
 obtain ⟨hi', -⟩ := drop_cons (congrArg Prod.snd h).symm
 omega
theorem took_parts {L : Nat} {l : List UInt8} {x : ByteArray} {i : Nat} (h : takeS (l.drop 0) = some (x, l.drop i)) (hi : i < l.length) {x' : ByteArray} {v' : Int} {t' : T L} (ho : okE L x' v' t' = true) (hp : packE L x' v' t' = l) : x = x' /\ (l[i].toNat : Int) = v' /\ decI L (l.drop (i + 1)) = some (t', []) := by
 obtain ⟨h1, -, h3, h4⟩ := packE_took ho hp
 rw [List.drop_zero, h1] at h
 injection h with h
 obtain ⟨hi', h5, h6⟩ := drop_cons (congrArg Prod.snd h).symm
 exact ⟨(congrArg Prod.fst h).symm, by rw [h5]; exact h3, by rw [h6]; exact h4⟩
theorem took_tree {L : Nat} {l : List UInt8} {x : ByteArray} {i : Nat} (h : takeS (l.drop 0) = some (x, l.drop i)) (hi : i < l.length) (ht : ∀ t', decI L (l.drop (i + 1)) ≠ some (t', [])) : ∀ (x' : ByteArray) (v' : Int) (t' : T L), okE L x' v' t' = true -> packE L x' v' t' ≠ l := fun _ _ t' ho hp => ht t' (took_parts h hi ho hp).2.2
theorem took_all {L : Nat} {l : List UInt8} {x : ByteArray} {i : Nat} {t : T L} (h : takeS (l.drop 0) = some (x, l.drop i)) (hi : i < l.length) (ht : decI L (l.drop (i + 1)) = some (t, [])) : TookE L l x (l[i].toNat : Int) t := by
 refine ⟨fun ho => ?_, fun x' v' t' ho hp => ?_⟩
 ·have hg := (okT_getE (okE_parts ho).2.2.2).1
  have h1 := (takeS_sound h).1
  rw [List.drop_zero, List.drop_eq_getElem_cons hi, decI_sound L _ _ t 1 ht hg] at h1
  refine Eq.trans ?_ h1.symm
  unfold packE
  rw [b8_byte, List.append_nil]
 ·obtain ⟨a1, a2, a3⟩ := took_parts h hi ho hp
  rw [ht] at a3
  injection a3 with a3
  exact ⟨a1, a2, congrArg Prod.fst a3⟩
structure EW (w W : World) (R : Nat) (ao : Option Addr) (l : List UInt8) (cap i : Nat) (a0 a1 a2 a3 a4 a5 a6 : Value) : Prop where
 cu0 : Cu w R ao l cap 0
 near : Near R w W
 zero : W.heap[w.heap.size]? = some (.cells #[.string ⟨#[]⟩, .int .i64 0, .int .i64 0, .int .i64 0, .string ⟨#[]⟩, .slice none 0 0, .slice none 0 0] 29 (0, 0))
 box : W.heap[w.heap.size + 1]? = some (.cells #[a0, a1, a2, a3, a4, a5, a6] 29 (0, 0))
 cu : Cu W R ao l cap i
theorem EW.step {w W W' : World} {R : Nat} {ao : Option Addr} {l : List UInt8} {cap i j : Nat} {a0 a1 a2 a3 a4 a5 a6 : Value} (h : EW w W R ao l cap i a0 a1 a2 a3 a4 a5 a6) (hn : Near R W W') (hc : Cu W' R ao l cap j) : EW w W' R ao l cap j a0 a1 a2 a3 a4 a5 a6 := by
 have hR := h.cu0.lt
 have hX : w.heap.size + 1 < W.heap.size := (Array.getElem?_eq_some_iff.1 h.box).1
 exact ⟨h.cu0, h.near.trans hn, (hn.block _ (by omega) (by omega)).trans h.zero, (hn.block _ hX (by omega)).trans h.box, hc⟩
theorem EW.change {w W W' : World} {R : Nat} {ao : Option Addr} {l : List UInt8} {cap i : Nat} {a0 a1 a2 a3 a4 a5 a6 b0 b1 b2 b3 b4 b5 b6 : Value} (h : EW w W R ao l cap i a0 a1 a2 a3 a4 a5 a6) (hb : Below w.heap.size W W') (qq : ∀ b, b ≠ w.heap.size + 1 -> W'.heap[b]? = W.heap[b]?) (hx : W'.heap[w.heap.size + 1]? = some (.cells #[b0, b1, b2, b3, b4, b5, b6] 29 (0, 0))) : EW w W' R ao l cap i b0 b1 b2 b3 b4 b5 b6 := by
 have hR := h.cu0.lt
 have hn : Near R w W' := ⟨hb.os.trans h.near.os, hb.tape.trans h.near.tape, hb.output.trans h.near.output, Nat.le_trans h.near.size hb.size, fun b hb hne => (qq b (by omega)).trans (h.near.block b hb hne)⟩
 exact ⟨h.cu0, hn, (qq _ (by omega)).trans h.zero, hx, h.cu0.keep hn ((qq R (by omega)).trans h.cu.box) h.cu.le⟩
theorem EW.set0 {w W : World} {R : Nat} {ao : Option Addr} {l : List UInt8} {cap i : Nat} {a0 a1 a2 a3 a4 a5 a6 : Value} (h : EW w W R ao l cap i a0 a1 a2 a3 a4 a5 a6) (u : Value) : EW w (W.setCell ⟨w.heap.size + 1, 0, none⟩ u) R ao l cap i u a1 a2 a3 a4 a5 a6 :=
 h.change ((Below.refl _ _).setCell (by show w.heap.size <= w.heap.size + 1; omega) u) (fun b hb => Below.heap_setCell _ _ _ _ hb) (by simp [World.setCell, Array.getElem?_modify, h.box])
theorem EW.set1 {w W : World} {R : Nat} {ao : Option Addr} {l : List UInt8} {cap i : Nat} {a0 a1 a2 a3 a4 a5 a6 : Value} (h : EW w W R ao l cap i a0 a1 a2 a3 a4 a5 a6) (u : Value) : EW w (W.setCell ⟨w.heap.size + 1, 1, none⟩ u) R ao l cap i a0 u a2 a3 a4 a5 a6 :=
 h.change ((Below.refl _ _).setCell (by show w.heap.size <= w.heap.size + 1; omega) u) (fun b hb => Below.heap_setCell _ _ _ _ hb) (by simp [World.setCell, Array.getElem?_modify, h.box])
theorem EW.put {w W : World} {R : Nat} {ao : Option Addr} {l : List UInt8} {cap i : Nat} {a0 a1 a2 a3 a4 a5 a6 : Value} (h : EW w W R ao l cap i a0 a1 a2 a3 a4 a5 a6) (g0 g1 g2 g3 g4 : Value) : EW w (put5 W (w.heap.size + 1) 2 g0 g1 g2 g3 g4) R ao l cap i a0 a1 g0 g1 g2 g3 g4 :=
 h.change (put5_below (Below.refl _ _) (by omega)) (fun b hb => put5_other hb) (by simp [put5, World.setCell, Array.getElem?_modify, h.box])
theorem EW.drewN {w W : World} {R : Nat} {ao : Option Addr} {l : List UInt8} {cap i : Nat} {a0 a1 a2 a3 a4 a5 a6 : Value} (h : EW w W R ao l cap i a0 a1 a2 a3 a4 a5 a6) (n : Nat) : EW w (W.drewN n) R ao l cap i a0 a1 a2 a3 a4 a5 a6 := h.step (nearC_drewN (Near.refl R W) n) (h.cu.drewN n)
theorem whole_out {L : Nat} {w W : World} {R : Nat} {ao : Option Addr} {l : List UInt8} {cap i : Nat} {x : ByteArray} {v : Int} {t : T L} {c0 c1 c2 c3 c4 : Value} (h : EW w W R ao l cap i (.string x) (.int .i64 v) c0 c1 c2 c3 c4) (hx : x.size <= 255) (ht : TreeIn (fun b => w.heap.size + 2 <= b /\ b < W.heap.size) W L t c0 c1 c2 c3 c4) (ho : OwnT (fun b => w.heap.size + 2 <= b /\ b < W.heap.size) W L t c3 c4) (hk : TookE L l x v t) :
  WholeC L w R l (.returned (.agg #[.string x, .int .i64 v, c0, c1, c2, c3, c4])) (put7 W w.heap.size (.string x) (.int .i64 v) c0 c1 c2 c3 c4) := by
 have hR := h.cu0.lt
 have qq : ∀ b, b ≠ w.heap.size -> (put7 W w.heap.size (.string x) (.int .i64 v) c0 c1 c2 c3 c4).heap[b]? = W.heap[b]? := fun b h => put7_other h
 have hz : (put7 W w.heap.size (.string x) (.int .i64 v) c0 c1 c2 c3 c4).heap.size = W.heap.size := put7_size
 have hbl : Below 0 W (put7 W w.heap.size (.string x) (.int .i64 v) c0 c1 c2 c3 c4) := put7_below (Below.refl 0 W) (Nat.zero_le _)
 exact ⟨⟨hbl.os.trans h.near.os, hbl.tape.trans h.near.tape, hbl.output.trans h.near.output, by rw [hz]; exact h.near.size, fun b hb hne => (qq b (by omega)).trans (h.near.block b hb hne)⟩,
  .inl ⟨x, v, t, _, _, _, _, _, rfl, hx, ht.keep (fun b hb => qq b (by omega)) (fun b hb => ⟨by omega, by rw [hz]; exact hb.2⟩), ho.keep (fun b hb => qq b (by omega)) (fun b hb => ⟨by omega, by rw [hz]; exact hb.2⟩), hk⟩⟩
end Go.Proofs.YtmjhcgjhlakceaaGreatDoor
