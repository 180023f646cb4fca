/-
  The specification's reader of schemas, whole; KindRead of the specification: what it answers.
-/
import Derived.Test.YtlinplghgamgbaaGreatDoorB11
import Derived.Test.YtlinplghgamgbaaGreatDoorKRd3
import Derived.Test.YtlinplghgamgbaaGreatDoorKSpecText
import Derived.Test.YtlinplghgamgbaaGreatDoorB17
namespace Go.Proofs.YtlinplghgamgbaaGreatDoor
open Go.RowKit

theorem l2Kind_any : ∀ n, n ≤ 6 → ReadKSaid n := by
  intro n
  induction n with
  | zero =>
    intro _ m R s i bad w hm h hs hi _
    obtain ⟨m', rfl⟩ : ∃ m', m = m' + 1 := ⟨m - 1, by omega⟩
    exact l2_stop 0 m' R s i bad w h (.inr rfl) hi
  | succ n ih =>
    intro hn6 m R s i bad w hm h hs hi hi2
    obtain ⟨m', rfl⟩ : ∃ m', m = m' + 1 := ⟨m - 1, by omega⟩
    have hn := ih (by omega)
    cases bad with
    | true => exact l2_stop (n + 1) m' R s i true w h (.inl rfl) hi
    | false =>
      have hi := hi rfl
      by_cases h1 : lookB s i = 110
      · exact l2_num n m' R s i w h hs hi h1
      by_cases h2 : lookB s i = 116
      · exact l2_text n m' R s i w h hs hi h2
      by_cases h3 : lookB s i = 102
      · exact l2_flag n m' R s i w h hs hi h3
      by_cases h4 : lookB s i = 63
      · exact l2_maybe n hn m' R s i w (by omega) (by omega) h hs hi h4
      by_cases h5 : lookB s i = 91
      · exact l2_list n hn m' R s i w (by omega) (by omega) h hs hi h5
      · exact l2_form n hn m' R s i w (by omega) (by omega) h hs hi h1 h2 h3 h4 h5

/-- What KindRead of the specification gives. -/
def SpecReadPost (m : Nat) (k : K m) (ok : Bool) (w : World) (e : Ending) (w' : World) : Prop :=
  Below w.heap.size w w' ∧ ∃ c0 c1 c2, e = .returned (.tuple #[.agg #[c0, c1, c2], .bool ok]) ∧ KindIn (fun b => w.heap.size ≤ b ∧ b < w'.heap.size) w' m k c0 c1 c2

theorem spec_none {m : Nat} {s : ByteArray} {w w' : World} (h : readK (m + 1) s = none) (hb : Below w.heap.size w w') : SpecReadPost (m + 1) (ansR m s) (okR m s) w (.returned (.tuple #[.agg #[.int .i64 0, .slice none 0 0, .slice none 0 0], .bool false])) w' := by
  obtain ⟨h1, h2⟩ := ansR_none h
  rw [h1, h2]
  exact ⟨hb, _, _, _, rfl, zeroK_in _ _ m⟩

/-- What the reader has got is what the text is read as, if it is read. -/
theorem got_read {m : Nat} {s : ByteArray} {t : K (m + 1)} {i' : Nat} {bad' : Bool} (hg : GotK (m + 1) 6 s 0 false t i' bad') (k : K (m + 1)) (h : readK (m + 1) s = some k) : t = k ∧ bad' = false ∧ i' = s.size ∧ okK (m + 1) t = true ∧ txtK (m + 1) t = s.data.toList := by
  obtain ⟨h8, hok, ht⟩ := readK_some h
  obtain ⟨-, -, -, -, h5⟩ := hg
  obtain ⟨q1, q2, q3⟩ := h5 k [] rfl (by rw [List.drop_zero, List.append_nil, ht]) (okK_get hok).1
  subst q1
  refine ⟨rfl, q2, ?_, hok, ht⟩
  rw [q3, ht]; simp

theorem not_read {m : Nat} {s : ByteArray} {t : K (m + 1)} {i' : Nat} {bad' : Bool} (hg : GotK (m + 1) 6 s 0 false t i' bad') (h : bad' = true ∨ i' ≠ s.size ∨ okK (m + 1) t = false ∨ txtK (m + 1) t ≠ s.data.toList) : readK (m + 1) s = none := by
  cases hr : readK (m + 1) s with
  | none => rfl
  | some k =>
    obtain ⟨-, q1, q2, q3, q4⟩ := got_read hg k hr
    rcases h with h | h | h | h
    · rw [q1] at h; cases h
    · exact absurd q2 h
    · rw [q3] at h; cases h
    · exact absurd q4 h

set_option maxRecDepth 100000 in
set_option maxHeartbeats 2000000 in
theorem specKRead_any (s : ByteArray) (m : Nat) (hm : 7 ≤ m + 1) (hs : s.size ≤ 1048576) (w : World) :
    Calls Tryz.prog 53 #[.string s] w (SpecReadPost (m + 1) (ansR m s) (okR m s) w) := by
  obtain ⟨W1, hW1⟩ : ∃ W1, W1 = w.alloc (.cells #[.int .i64 0, .slice none 0 0, .slice none 0 0] 70) := ⟨_, rfl⟩
  have hz1 : W1.heap.size = w.heap.size + 1 := by rw [hW1]; simp
  have hb1 : Below w.heap.size w W1 := by rw [hW1]; exact (Below.refl _ _).alloc (Nat.le_refl _) _
  have hzero : W1.heap[w.heap.size]? = some (.cells #[.int .i64 0, .slice none 0 0, .slice none 0 0] 70 (0, 0)) := by rw [hW1]; exact heap_alloc_new _ _
  have HPut : Hid (∀ W : World, Below w.heap.size w W → Below w.heap.size w (put3 W w.heap.size 0 (.int .i64 0) (.slice none 0 0) (.slice none 0 0))) := fun W h => put3_below h (Nat.le_refl _)
  by_cases h8 : s.size ≤ 800
  case neg =>
    have hgt : (800 : Int) < (s.size : Int) := by omega
    have HP : Hid (∀ o, SpecReadPost (m + 1) (ansR m s) (okR m s) w (.returned (.tuple #[.agg #[.int .i64 0, .slice none 0 0, .slice none 0 0], .bool false])) (w.alloc o)) := fun o => spec_none (readK_long h8) ((Below.refl _ _).alloc (Nat.le_refl _) _)
    clear hb1 hzero hz1 h8
    go_enter Tryz.func53, Tryz.ntmps53
    go_wp2_with fail
    refine bodyPost_ret (v := .tuple #[.agg #[.int .i64 0, .slice none 0 0, .slice none 0 0], .bool false]) (by simp [results, Tryz.results53, go_sem]) rfl ?_
    exact HP.out _
  have hle : ¬ (800 : Int) < (s.size : Int) := by omega
  obtain ⟨W2, hW2⟩ : ∃ W2, W2 = W1.alloc (.cells #[.string s, .int .i64 0, .bool false] 84) := ⟨_, rfl⟩
  have hz2 : W2.heap.size = w.heap.size + 2 := by rw [hW2]; simp; omega
  have hb2 : Below w.heap.size w W2 := by rw [hW2]; exact hb1.alloc hb1.size _
  have hr2 : RdS W2 (w.heap.size + 1) s ((0 : Nat) : Int) false := by
    show W2.heap[w.heap.size + 1]? = _
    rw [hW2, ← hz1]; exact heap_alloc_new _ _
  have hzero2 : W2.heap[w.heap.size]? = some (.cells #[.int .i64 0, .slice none 0 0, .slice none 0 0] 70 (0, 0)) := by rw [hW2, Below.heap_alloc _ _ _ (by omega)]; exact hzero
  have HK : Hid (Calls Tryz.prog 58 #[.pointer (some ⟨w.heap.size + 1, 0, none⟩), .int .i64 1] W2 (ReadKPost (m + 1) 6 W2 (w.heap.size + 1) s 0 false)) := l2Kind_any 6 (Nat.le_refl _) (m + 1) (w.heap.size + 1) s 0 false W2 hm hr2 (by omega) (fun _ => Nat.zero_le _) (by omega)
  clear hr2 hzero hb1
  go_enter Tryz.func53, Tryz.ntmps53
  go_wp2_with fail
  rw [← hW1, ← hW2]
  clear hW1 hW2
  refine HK.out.mono ?_
  rintro e w3 ⟨hn3, t, d0, d1, d2, i', bad', rfl, ht, hr3, hG⟩
  obtain ⟨u0, ua, ul, uc, ya, yl, yc, rfl, rfl, rfl⟩ := ht.shape
  have hz3 := hn3.size
  have hb3 : Below w.heap.size w w3 := ⟨hn3.os.trans hb2.os, hn3.tape.trans hb2.tape, hn3.output.trans hb2.output, by omega, fun b hb => (hn3.block b (by omega) (by omega)).trans (hb2.block b hb)⟩
  have hzero3 : w3.heap[w.heap.size]? = some (.cells #[.int .i64 0, .slice none 0 0, .slice none 0 0] 70 (0, 0)) := (hn3.block _ (by omega) (by omega)).trans hzero2
  obtain ⟨W4, hW4⟩ : ∃ W4, W4 = w3.alloc (.cells #[.int .i64 u0, .slice ua ul uc, .slice ya yl yc] 70) := ⟨_, rfl⟩
  have hz4 : W4.heap.size = w3.heap.size + 1 := by rw [hW4]; simp
  have hb34 : Below w3.heap.size w3 W4 := by rw [hW4]; exact (Below.refl _ _).alloc (Nat.le_refl _) _
  have hb4 := below_step hb3 hb3.size hb34
  have hzero4 := (hb34.block w.heap.size (by omega)).trans hzero3
  obtain ⟨ht4, hB4⟩ := ht.step (fun b hb => hb.2) hb34
  have hr4 : RdS W4 (w.heap.size + 1) s i' bad' := (hb34.block _ hr3.lt).trans hr3
  have hx4 : Box3 W4 w3.heap.size (.int .i64 u0) (.slice ua ul uc) (.slice ya yl yc) := by rw [hW4]; exact Box3.new _ _ _ _ _
  have c1 := hr4.cell1
  have c2 := hr4.cell2
  have HG : Hid (GotK (m + 1) 6 s 0 false t i' bad') := hG
  obtain ⟨k0, k1, k2⟩ := id hx4
  have hnone : Hid (∀ W : World, Below W4.heap.size W4 W → readK (m + 1) s = none → SpecReadPost (m + 1) (ansR m s) (okR m s) w (.returned (.tuple #[.agg #[.int .i64 0, .slice none 0 0, .slice none 0 0], .bool false])) (put3 W w.heap.size 0 (.int .i64 0) (.slice none 0 0) (.slice none 0 0))) := fun W hW h => spec_none h (HPut.out W (below_step hb4 hb4.size hW))
  have HZ : Hid (∀ W : World, Below W4.heap.size W4 W → W.heap[w.heap.size]? = some (.cells #[.int .i64 0, .slice none 0 0, .slice none 0 0] 70 (0, 0))) := fun W hW => (hW.block w.heap.size (by omega)).trans hzero4
  have HB : Hid (Below w.heap.size w W4) := hb4
  clear HK hG ht hr3 hr4 hn3 hb3 hb34 hb4 hzero2 hzero3 hzero4 hb2 HPut
  cases bad' with
  | true =>
    obtain ⟨⟨r0, r1, r2⟩, f0, f1, f2⟩ := zeroK_cells (HZ.out W4 (Below.refl _ _))
    have HP : Hid _ := hnone.out W4 (Below.refl _ _) (not_read HG.out (.inl rfl))
    rw [hW4] at c1 c2 k0 k1 k2 r0 r1 r2 f0 f1 f2 HP
    clear hx4 ht4 hnone HZ HG
    go_wp2_with fail
    refine bodyPost_ret (v := .tuple #[.agg #[.int .i64 0, .slice none 0 0, .slice none 0 0], .bool false]) (by simp [results, Tryz.results53, go_sem, r0, r1, r2]) rfl ?_
    exact HP.out
  | false =>
    by_cases hat : i' = s.size
    case neg =>
      have hne : ((i' : Int) != (s.size : Int)) = true := by simp; omega
      obtain ⟨⟨r0, r1, r2⟩, f0, f1, f2⟩ := zeroK_cells (HZ.out W4 (Below.refl _ _))
      have HP : Hid _ := hnone.out W4 (Below.refl _ _) (not_read HG.out (.inr (.inl hat)))
      rw [hW4] at c1 c2 k0 k1 k2 r0 r1 r2 f0 f1 f2 HP
      clear hx4 ht4 hnone HZ HG hat
      go_wp2_with fail
      refine bodyPost_ret (v := .tuple #[.agg #[.int .i64 0, .slice none 0 0, .slice none 0 0], .bool false]) (by simp [results, Tryz.results53, go_sem, r0, r1, r2]) rfl ?_
      exact HP.out
    have hne : ((i' : Int) != (s.size : Int)) = false := by simp; omega
    have HOk : Hid (Calls Tryz.prog 59 #[.agg #[.int .i64 u0, .slice ua ul uc, .slice ya yl yc]] W4 _) := specKOk_any (m + 1) _ t _ _ _ W4 ht4 hB4
    rw [hW4] at c1 c2 k0 k1 k2
    clear hat
    go_wp2_with fail
    rw [← hW4]
    clear c1 c2 k0 k1 k2
    refine HOk.out.mono ?_
    rintro e w5 ⟨rfl, hb5⟩
    have hz5 := hb5.size
    obtain ⟨k0, k1, k2⟩ := hx4.keep hb5
    cases hok : okK (m + 1) t with
    | false =>
      obtain ⟨⟨r0, r1, r2⟩, f0, f1, f2⟩ := zeroK_cells (HZ.out w5 hb5)
      have HP : Hid _ := hnone.out w5 hb5 (not_read HG.out (.inr (.inr (.inl hok))))
      clear hx4 ht4 hnone HZ HG hb5 HOk hok
      go_wp2_with fail
      refine bodyPost_ret (v := .tuple #[.agg #[.int .i64 0, .slice none 0 0, .slice none 0 0], .bool false]) (by simp [results, Tryz.results53, go_sem, r0, r1, r2]) rfl ?_
      exact HP.out
    | true =>
      have hp := okK_get hok
      obtain ⟨ht5, hB5⟩ := ht4.step hB4 hb5
      have HTx : Hid (Calls Tryz.prog 60 _ w5 _) := l2Text_any (m + 1) _ t _ _ _ 1 w5 ht5 hB5 hp.1 hp.2
      have HOK : Hid (okK (m + 1) t = true) := hok
      clear hok hp HOk
      go_wp2_with fail
      refine HTx.out.mono ?_
      rintro e w6 ⟨rfl, hb6⟩
      have hz6 := hb6.size
      have hb46 := below_step hb5 hz5 hb6
      clear k0 k1 k2
      obtain ⟨k0, k1, k2⟩ := hx4.keep hb46
      obtain ⟨⟨r0, r1, r2⟩, f0, f1, f2⟩ := zeroK_cells (HZ.out w6 hb46)
      by_cases htx : txtK (m + 1) t = s.data.toList
      · have hq : ((bs (txtK (m + 1) t)).toList == s.toList) = true := by rw [htx, bs_of]; simp
        have HP : Hid (SpecReadPost (m + 1) (ansR m s) (okR m s) w (.returned (.tuple #[.agg #[.int .i64 u0, .slice ua ul uc, .slice ya yl yc], .bool true])) (put3 w6 w.heap.size 0 (.int .i64 u0) (.slice ua ul uc) (.slice ya yl yc))) := by
          obtain ⟨q1, q2⟩ := ansR_some (readK_of h8 HOK.out htx)
          rw [q1, q2]
          have ht6 := (ht4.step hB4 hb46).1
          refine ⟨put3_below (below_step HB.out HB.out.size hb46) (Nat.le_refl _), _, _, _, rfl, ht6.keep (fun b hb => put3_other (by omega)) (fun b hb => by rw [put3_size]; omega)⟩
        clear hx4 ht4 ht5 hnone HZ HG hb5 hb6 hb46 HTx htx HOK
        go_wp2_with fail
        refine bodyPost_ret (v := .tuple #[.agg #[.int .i64 u0, .slice ua ul uc, .slice ya yl yc], .bool true]) (by simp [results, Tryz.results53, go_sem, r0, r1, r2]) rfl ?_
        exact HP.out
      · have hq : ((bs (txtK (m + 1) t)).toList == s.toList) = false := by
          rw [beq_eq_false_iff_ne]
          intro e
          apply htx
          rw [ByteArray.toList_eq, ByteArray.toList_eq, bs_toList] at e
          exact e
        have HP : Hid _ := hnone.out w6 hb46 (not_read HG.out (.inr (.inr (.inr htx))))
        clear hx4 ht4 ht5 hnone HZ HG hb5 hb6 hb46 HTx htx HOK
        go_wp2_with fail
        refine bodyPost_ret (v := .tuple #[.agg #[.int .i64 0, .slice none 0 0, .slice none 0 0], .bool false]) (by simp [results, Tryz.results53, go_sem, r0, r1, r2]) rfl ?_
        exact HP.out

end Go.Proofs.YtlinplghgamgbaaGreatDoor
