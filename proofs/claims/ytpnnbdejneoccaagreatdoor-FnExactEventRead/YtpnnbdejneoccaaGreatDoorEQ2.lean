/-
  The program's reader of events: whole, walked.
-/
import Derived.Test.YtpnnbdejneoccaaGreatDoorEQ1
namespace Go.Proofs.YtpnnbdejneoccaaGreatDoor
open Go.RowKit

/-- What whole makes. -/
def WholeR (L : Nat) (w : World) (R : Nat) (l : List UInt8) (e : Ending) (w' : World) : Prop :=
  Near R w w' ∧ ((∃ (x : ByteArray) (v : Int) (t : T L) (c0 c1 c2 c3 c4 : Value), e = .returned (.agg #[.string x, .int .i64 v, c0, c1, c2, c3, c4]) ∧ x.size ≤ 10000 ∧ TreeIn (fun b => w.heap.size ≤ b ∧ b < w'.heap.size) w' L t c0 c1 c2 c3 c4 ∧ OwnT (fun b => w.heap.size ≤ b ∧ b < w'.heap.size) w' L t c3 c4 ∧ TookR L l x v t) ∨
    (NoR L l ∧ e = .panicked refusal))

/-- What stands while the event is read: the reader's handle at N = w.heap.size, the answer at N + 1. -/
structure RW (B : Nat) (w W : World) (R : Nat) (s : ByteArray) (i : Nat) : Prop where
  br : B ≤ R
  rw : R < w.heap.size
  near : Near R w W
  ptr : W.heap[w.heap.size]? = some (.cells #[.pointer (some ⟨R, 0, none⟩)] 46 (0, 0))
  zero : W.heap[w.heap.size + 1]? = some (.cells #[.string ⟨#[]⟩, .int .i64 0, .int .i64 0, .int .i64 0, .string ⟨#[]⟩, .slice none 0 0, .slice none 0 0] 27 (0, 0))
  sc : Sc W R s i
  meth : Meth W R
  laid : LaidU B W

theorem RW.scan {B R i j : Nat} {w W W' : World} {s : ByteArray} (h : RW B w W R s i) (hs : Scan R W W' j) : RW B w W' R s j := by
  have hR := h.rw
  have hB := h.br
  have hz : w.heap.size + 1 < W.heap.size := (Array.getElem?_eq_some_iff.1 h.zero).1
  exact ⟨hB, hR, h.near.trans hs.near, (hs.near.block _ (by omega) (by omega)).trans h.ptr, (hs.near.block _ hz (by omega)).trans h.zero, hs.sc h.sc, h.meth.scan hs, h.laid.near hs.near hB (by omega)⟩

theorem RW.below {B R i : Nat} {w W W' : World} {s : ByteArray} (h : RW B w W R s i) (hb : Below W.heap.size W W') : RW B w W' R s i :=
  h.scan ((Scan.refl h.sc).below hb (by have := h.rw; have := h.near.size; omega))

theorem RW.cell {B R i : Nat} {w W : World} {s : ByteArray} (h : RW B w W R s i) : W.cell? ⟨w.heap.size, 0, none⟩ = some (.pointer (some ⟨R, 0, none⟩)) := by
  simp [World.cell?, h.ptr]

theorem eat_pre {p : UInt8 → Bool} (l : List UInt8) : eatP (l.takeWhile p) l = some (l.drop (l.takeWhile p).length) := by
  unfold eatP
  rw [if_pos]
  rw [List.isPrefixOf_iff_prefix]
  exact List.takeWhile_prefix p

set_option maxRecDepth 100000 in
set_option maxHeartbeats 2000000 in
theorem wholeR_any (m B R : Nat) (s : ByteArray) (w : World) (hL : LaidU B w) (hBR : B ≤ R) (h : Sc w R s 0) (hM : Meth w R) (hs : s.size ≤ 10000) (hm : s.size < m + 1) :
    Calls Tryz.prog 16 #[.agg #[.pointer (some ⟨R, 0, none⟩)]] w (WholeR (m + 1) w R s.data.toList) := by
  have hR := h.lt
  obtain ⟨W1, hW1⟩ : ∃ W1, W1 = (w.alloc (.cells #[.pointer (some ⟨R, 0, none⟩)] 46)).alloc (.cells #[.string ⟨#[]⟩, .int .i64 0, .int .i64 0, .int .i64 0, .string ⟨#[]⟩, .slice none 0 0, .slice none 0 0] 27) := ⟨_, rfl⟩
  have hb1 : Below w.heap.size w W1 := by rw [hW1]; exact ((Below.refl _ _).alloc (Nat.le_refl _) _).alloc (by simp) _
  have hsc1 : Scan R w W1 0 := (Scan.refl h).below hb1 hR
  have hE1 : RW B w W1 R s 0 := by
    refine ⟨hBR, hR, hsc1.near, ?_, ?_, hsc1.sc h, hM.scan hsc1, hL.step (hb1.mono (by omega))⟩
    · rw [hW1, Below.heap_alloc _ _ _ (by simp)]; exact heap_alloc_new _ _
    · rw [hW1]
      have := heap_alloc_new (w.alloc (.cells #[.pointer (some ⟨R, 0, none⟩)] 46)) (.cells #[.string ⟨#[]⟩, .int .i64 0, .int .i64 0, .int .i64 0, .string ⟨#[]⟩, .slice none 0 0, .slice none 0 0] 27)
      simpa using this
  obtain ⟨y, hy⟩ : ∃ y, y = bs (s.data.toList.takeWhile nmByte) := ⟨_, rfl⟩
  have HYl : Hid (y.data.toList = s.data.toList.takeWhile nmByte ∧ y.size = (s.data.toList.takeWhile nmByte).length) := by rw [hy]; exact ⟨by unfold bs; simp, by rw [bs_size]⟩
  have hys : y.size ≤ 10000 := by
    rw [HYl.out.2]
    have := (List.takeWhile_prefix nmByte (l := s.data.toList)).length_le
    have h2 : s.data.toList.length = s.size := by simp
    omega
  have HE1 := Lib.hid hE1
  have c1 := hE1.cell
  have k1 := hE1.sc.c0
  have HC1 : Hid (Calls Tryz.prog 35 #[.string s] W1 fun e w' => e = .returned (.string y) ∧ Below W1.heap.size W1 w') := by rw [hy]; exact ahead_take s W1 hs
  have HY := Lib.hid hy
  clear hb1 hsc1 hE1 h hM hL hy
  go_enter Tryz.func16, Tryz.ntmps16
  rw [hW1] at c1 k1
  go_wp2_with fail
  rw [← hW1]
  rw [← hW1] at c1 k1
  clear hW1
  refine HC1.out.mono ?_
  rintro e w2 ⟨rfl, hb2⟩
  have HE2 := Lib.hid (HE1.out.below hb2)
  clear c1 k1 hb2 HC1 HE1
  go_wp2_with fail
  refine (stringsClone_any y w2 hys).mono ?_
  rintro e w3 ⟨rfl, hb3⟩
  have hE3 := HE2.out.below hb3
  have c3 := hE3.cell
  have HW3 := Lib.hid (want_any w3 R s y 0 hE3.sc hs hys (Nat.zero_le _))
  have HE3 := Lib.hid hE3
  clear hb3 hE3 HE2
  go_wp2_with fail
  refine HW3.out.mono ?_
  rintro e w4 (⟨q1, rfl, q2, q3⟩ | ⟨q1, -, -⟩)
  case inr =>
    rw [List.drop_zero, HYl.out.1, eat_pre] at q1
    cases q1
  rw [Nat.zero_add] at q2 q3
  have hE4 := HE3.out.scan q2
  obtain ⟨n1, hn1⟩ : ∃ n1, y.size = n1 := ⟨_, rfl⟩
  rw [hn1] at hE4 q3
  have c4 := hE4.cell
  have HN1 : Hid ((s.data.toList.takeWhile nmByte).length = n1) := by rw [← hn1, HYl.out.2]; rfl
  have HW4 := Lib.hid (want_any w4 R s ⟨#[64]⟩ n1 hE4.sc hs (by decide) q3)
  have HE4 := Lib.hid hE4
  clear q1 q2 hE4 HW3 HE3 c3
  go_wp2_with fail
  refine HW4.out.mono ?_
  rintro e w5 (⟨q1, rfl, q2, q4⟩ | ⟨q1, rfl, q2⟩)
  case inr =>
    have HNo : Hid (NoR (m + 1) s.data.toList) := took_atR (by rw [HN1.out]; exact q1)
    exact ⟨rfl, HE4.out.near.trans q2, .inr ⟨HNo.out, rfl⟩⟩
  have hE5 := HE4.out.scan q2
  have HEat : Hid (eatP [64] (s.data.toList.drop (s.data.toList.takeWhile nmByte).length) = some (s.data.toList.drop ((s.data.toList.takeWhile nmByte).length + 1))) := by rw [HN1.out]; exact q1
  have hi5 : n1 + 1 ≤ s.size := q4
  have c5 := hE5.cell
  have HU := Lib.hid (until_any 123 w5 R s (n1 + 1) hE5.sc hs hi5)
  have HE5 := Lib.hid hE5
  clear q1 q2 hE5 HW4 HE4 c4 q4
  go_wp2_with fail
  refine HU.out.mono ?_
  rintro e w6 (⟨d, q1, rfl, q2, q3'⟩ | ⟨q1, rfl, q2⟩)
  case inr =>
    have HNo : Hid (NoR (m + 1) s.data.toList) := took_untilR (by rw [HN1.out]; exact q1)
    exact ⟨rfl, HE5.out.near.trans q2, .inr ⟨HNo.out, rfl⟩⟩
  have hE6 := HE5.out.scan q2
  have HUn : Hid (untilP 123 (s.data.toList.drop ((s.data.toList.takeWhile nmByte).length + 1)) = some (d, s.data.toList.drop (n1 + 1 + d.length))) := by rw [HN1.out]; exact q1
  obtain ⟨i2, hi2⟩ : ∃ i2, n1 + 1 + d.length = i2 := ⟨_, rfl⟩
  rw [hi2] at hE6 HUn q3'
  have hds : (bs d).size ≤ 10000 := by rw [bs_size]; omega
  have hDl : (bs d).data.toList = d := by unfold bs; simp
  have HRn := Lib.hid (readNum_any B (bs d) w6 hE6.laid (by have := hE6.br; have := hE6.rw; have := hE6.near.size; omega) hds)
  have HE6 := Lib.hid hE6
  have HDl := Lib.hid hDl
  generalize bs d = db at *
  clear q1 q2 hE6 HU HE5 c5 hDl hi2
  go_wp2_with fail
  refine HRn.out.mono ?_
  rintro e w7 ⟨hb7, ⟨v, hnv, rfl⟩ | ⟨hnv, rfl⟩⟩
  case inr =>
    have HP : Hid (WholeR (m + 1) w R s.data.toList (.panicked refusal) w7) := ⟨(HE6.out.below hb7).near, .inr ⟨took_numR HUn.out (by rw [HDl.out] at hnv; exact hnv), rfl⟩⟩
    clear HRn hnv hb7 HE6 HUn HEat
    go_wp2_with (go_at_call 39; refine (demand_no _).mono ?_; rintro e w' ⟨rfl, rfl⟩)
    exact ⟨rfl, HP.out⟩
  rw [HDl.out] at hnv
  have hE7 := HE6.out.below hb7
  have c7 := hE7.cell
  have HWh := Lib.hid (wholeI_at (m + 1) B R s i2 w7 hE7.laid hE7.br hE7.sc hE7.meth hs (by omega) hm)
  have HE7 := Lib.hid hE7
  have HNv := Lib.hid hnv
  clear HRn hnv hb7 HE6 hE7
  go_wp2_with (go_at_call 39; refine (demand_yes _).mono ?_; rintro e w' ⟨rfl, hw'⟩; have hw'' := hw'.symm; subst hw''; clear hw')
  refine HWh.out.mono ?_
  rintro e w8 ⟨hn8, ⟨t, iv, ht, rfl, hin⟩ | ⟨hno, rfl⟩⟩
  case inr =>
    have HNo : Hid (NoR (m + 1) s.data.toList) := took_treeR HUn.out hno
    exact ⟨rfl, HE7.out.near.trans hn8, .inr ⟨HNo.out, rfl⟩⟩
  obtain ⟨zt, zx, rfl⟩ := id hin.iface
  have hz7 := HE7.out.near.size
  have hz7' : w.heap.size + 1 < w7.heap.size := (Array.getElem?_eq_some_iff.1 HE7.out.zero).1
  have hz8 := hn8.size
  have HO := Lib.hid (outerTree_any (m + 1) _ t _ w8 hin (fun b hb => hb.2) (parseU_clean (m + 1) _ t [] (by rw [List.length_drop]; have : s.data.toList.length = s.size := (by simp); omega) ht))
  have HTk : Hid (TookR (m + 1) s.data.toList y v t) := by
    have := took_allR HEat.out HUn.out HNv.out ht
    rw [← HY.out] at this
    exact this
  have HN8 : Hid (Near R w w8 ∧ w8.heap[w.heap.size + 1]? = some (.cells #[.string ⟨#[]⟩, .int .i64 0, .int .i64 0, .int .i64 0, .string ⟨#[]⟩, .slice none 0 0, .slice none 0 0] 27 (0, 0))) := ⟨HE7.out.near.trans hn8, (hn8.block _ hz7' (by omega)).trans HE7.out.zero⟩
  clear HWh hn8 ht hin HE7 HNv HUn HEat c7
  go_wp2_with fail
  refine HO.out.mono ?_
  rintro e w9 ⟨hb9, g0, g1, g2, g3, g4, L3, L4, rfl, hin9, hs3, hs4, ho, hl⟩
  obtain ⟨t0, t1, t2, ta, tl, tc, ua, ul, uc, rfl, rfl, rfl, rfl, rfl⟩ := hin9.shape
  have hz9 := hb9.size
  obtain ⟨⟨z0, z1, z2, z3, z4, z5, z6⟩, f0, f1, f2, f3, f4, f5, f6⟩ := ev7_cells ((hb9.block (w.heap.size + 1) (by omega)).trans HN8.out.2)
  have HP : Hid (WholeR (m + 1) w R s.data.toList (.returned (.agg #[.string y, .int .i64 v, .int .i64 t0, .int .i64 t1, .string t2, .slice ta tl tc, .slice ua ul uc])) (put7 w9 (w.heap.size + 1) (.string y) (.int .i64 v) (.int .i64 t0) (.int .i64 t1) (.string t2) (.slice ta tl tc) (.slice ua ul uc))) := by
    have hot : OwnT (fun b => w8.heap.size ≤ b ∧ b < w9.heap.size) w9 (m + 1) t (.slice ta tl tc) (.slice ua ul uc) := ⟨L3, L4, hs3, hs4, ho, hl⟩
    exact ⟨put7_near (HN8.out.1.trans (Near.of_below hb9)) (by omega), .inl ⟨y, v, t, _, _, _, _, _, rfl, hys, hin9.keep (fun b hb => put7_other (by omega)) (fun b hb => ⟨by omega, by rw [put7_size]; exact hb.2⟩), hot.keep (fun b hb => put7_other (by omega)) (fun b hb => ⟨by omega, by rw [put7_size]; exact hb.2⟩), HTk.out⟩⟩
  clear HO hb9 hin9 hs3 hs4 ho hl HTk HN8
  go_wp2_with fail
  refine bodyPost_ret (v := .agg #[.string y, .int .i64 v, .int .i64 t0, .int .i64 t1, .string t2, .slice ta tl tc, .slice ua ul uc]) (by simp [results, Tryz.results16, go_sem, z0, z1, z2, z3, z4, z5, z6]) rfl ?_
  exact HP.out

end Go.Proofs.YtpnnbdejneoccaaGreatDoor
