/-
  The specification's EventUnpack, walked.
-/
import Derived.Test.YtpnnbdejneoccaaB16
namespace Go.Proofs.Ytpnnbdejneoccaa
open Go.RowKit

theorem tree4_any : ∀ (m : Nat), Tr4Said m := by
  intro m
  induction m with
  | zero => intro d R ao l cap i bad w hd hmd; omega
  | succ m ih => exact tree4_step m ih

set_option maxRecDepth 20000 in
set_option maxHeartbeats 1000000 in
theorem specEUnpack_any (m : Nat) (hm : 6 ≤ m) (l : List UInt8) (ao : Option Addr) (cap : Nat) (w : World) (h : BytesA (fun b => b < w.heap.size) w ao l cap) :
    Calls Try.prog 14 #[.slice ao l.length cap] w (EUPost m l w) := by
  have HSrc := Lib.hid h
  obtain ⟨ln, hln⟩ : ∃ ln, l.length = ln := ⟨_, rfl⟩
  obtain ⟨W0, hW0⟩ : ∃ W0, W0 = w.alloc (.cells #[.string ⟨#[]⟩, .int .i64 0, .int .i64 0, .int .i64 0, .string ⟨#[]⟩, .slice none 0 0, .slice none 0 0] 35) := ⟨_, rfl⟩
  have hb0 : Below w.heap.size w W0 := by rw [hW0]; exact (Below.refl _ _).alloc (Nat.le_refl _) _
  have hz0 : W0.heap.size = w.heap.size + 1 := by rw [hW0]; simp
  have hN0 : W0.heap[w.heap.size]? = some (.cells #[.string ⟨#[]⟩, .int .i64 0, .int .i64 0, .int .i64 0, .string ⟨#[]⟩, .slice none 0 0, .slice none 0 0] 35 (0, 0)) := by rw [hW0]; exact heap_alloc_new _ _
  have HLn := Lib.hid hln
  have HB0 := Lib.hid hb0
  have HN0 := Lib.hid hN0
  rw [hln]
  clear h hln hb0
  by_cases hL : 9000 < ln
  case pos =>
    have HP : Hid (EUPost m l w (.returned (.tuple #[.agg #[.string ⟨#[]⟩, .int .i64 0, .int .i64 0, .int .i64 0, .string ⟨#[]⟩, .slice none 0 0, .slice none 0 0], .bool false])) W0) := eu_none0 HB0.out (fun x' v' t' ho hp => by have h1 := packE_len ho; rw [hp] at h1; have := HLn.out; omega)
    obtain ⟨⟨z0, z1, z2, z3, z4, z5, z6⟩, f0, f1, f2, f3, f4, f5, f6⟩ := ev7_cells hN0
    subst hW0
    have hLi : (9000 : Int) < (ln : Int) := by omega
    clear hN0 HN0 HB0 HLn HSrc
    go_enter Try.func14, Try.ntmps14
    go_wp2_with fail
    refine bodyPost_ret (v := .tuple #[.agg #[.string ⟨#[]⟩, .int .i64 0, .int .i64 0, .int .i64 0, .string ⟨#[]⟩, .slice none 0 0, .slice none 0 0], .bool false]) (by simp [results, Try.results14, go_sem, z0, z1, z2, z3, z4, z5, z6]) rfl ?_
    exact HP.out
  case neg =>
    have hLi : ¬ (9000 : Int) < (ln : Int) := by omega
    obtain ⟨W1, hW1⟩ : ∃ W1, W1 = W0.alloc (.cells #[.slice ao ln cap, .int .i64 0, .bool false] 63) := ⟨_, rfl⟩
    have hb1 : Below W0.heap.size W0 W1 := by rw [hW1]; exact (Below.refl _ _).alloc (Nat.le_refl _) _
    have hR1 : R4 W1 (w.heap.size + 1) ao l cap 0 false := by
      refine rd_of HSrc.out (by have := HLn.out; omega) (below_step HB0.out HB0.out.size hb1) ?_ (Nat.zero_le _)
      rw [HLn.out, hW1, ← hz0]; exact heap_alloc_new _ _
    have hN1 := (hb1.block w.heap.size (by omega)).trans HN0.out
    have HC := Lib.hid (short_any W1 (w.heap.size + 1) ao l cap 0 false hR1)
    have HB1 := Lib.hid (below_step HB0.out HB0.out.size hb1)
    have HN1 := Lib.hid hN1
    have hz1 : W1.heap.size = w.heap.size + 2 := by rw [hW1]; simp [hz0]
    clear hb1 hR1 hN1 hN0 HN0 HB0
    go_enter Try.func14, Try.ntmps14
    go_wp2_with fail
    rw [← hW0, ← hW1]
    clear hW0 hW1
    refine HC.out.mono ?_
    rintro e w2 ⟨x, i1, b1, rfl, hx, hsh, hR2, hn2⟩
    have hs2 := hn2.size
    obtain ⟨X, hX⟩ : ∃ X, w2.heap.size = X := ⟨_, rfl⟩
    obtain ⟨W2, hW2⟩ : ∃ W2, W2 = w2.alloc (.cells #[.string x, .int .i64 0, .int .i64 0, .int .i64 0, .string ⟨#[]⟩, .slice none 0 0, .slice none 0 0] 35) := ⟨_, rfl⟩
    have hb2 : Below w2.heap.size w2 W2 := by rw [hW2]; exact (Below.refl _ _).alloc (Nat.le_refl _) _
    have hE2 : EU w W2 ao l cap i1 b1 X (.string x) (.int .i64 0) (.int .i64 0) (.int .i64 0) (.string ⟨#[]⟩) (.slice none 0 0) (.slice none 0 0) := by
      refine ⟨HSrc.out, by have := HLn.out; omega, ⟨by rw [hb2.os, hn2.os]; exact HB1.out.os, by rw [hb2.tape, hn2.tape]; exact HB1.out.tape, by rw [hb2.output, hn2.output]; exact HB1.out.output, by have := hb2.size; omega, fun b hb => (hb2.block b (by omega)).trans ((hn2.block b (by omega) (by omega)).trans (HB1.out.block b hb))⟩, ?_, (hb2.block _ (by omega)).trans hR2.box, hR2.le, by omega, ?_⟩
      · exact (hb2.block _ (by omega)).trans ((hn2.block _ (by omega) (by omega)).trans HN1.out)
      · rw [hW2, ← hX]; exact heap_alloc_new _ _
    have HSh := Lib.hid hsh
    have HE2 := Lib.hid hE2
    have HC2 := Lib.hid (one_any W2 (w.heap.size + 1) ao l cap i1 b1 hE2.rd)
    clear HC hsh hR2 hn2 hb2 hE2 HB1 HN1
    go_wp2_with fail
    rw [← hW2]
    try rw [hX]
    clear hW2
    refine HC2.out.mono ?_
    rintro e w3 ⟨v, i2, b2, rfl, hv, hone, hR3, hn3⟩
    have hE3 := HE2.out.near hn3 hR3
    obtain ⟨⟨s0, s1, s2, s3, s4, s5, s6⟩, g0, g1, g2, g3, g4, g5, g6⟩ := ev7_cells hE3.box
    obtain ⟨W3, hW3⟩ : ∃ W3, W3 = w3.setCell ⟨X, 1, none⟩ (.int .i64 (v : Int)) := ⟨_, rfl⟩
    have hE3' := hE3.set1 (.int .i64 (v : Int))
    rw [← hW3] at hE3'
    have HOne := Lib.hid hone
    have HE3 := Lib.hid hE3'
    have HC3 := Lib.hid (tree4_any (m + 1) 1 (w.heap.size + 1) ao l cap i2 b2 W3 (by omega) (by omega) hE3'.rd)
    clear HC2 hone hR3 hn3 hE3 hE3' HE2
    go_wp2_with fail
    rw [← hW3]
    clear hW3 s0 s1 s2 s3 s4 s5 s6 g0 g1 g2 g3 g4 g5 g6
    refine HC3.out.mono ?_
    rintro e w4 ⟨hn4, t, q0, q1, q2, q3, q4, i3, b3, rfl, ht, hR4, htr⟩
    obtain ⟨t0, t1, t2, ta, tl, tc, ua, ul, uc, rfl, rfl, rfl, rfl, rfl⟩ := ht.shape
    have hE4 := HE3.out.near hn4 hR4
    have hs4 := hn4.size
    have hX3 := HE3.out.ltX
    have hXl := HE3.out.lt
    obtain ⟨⟨s0, s1, s2, s3, s4, s5, s6⟩, g0, g1, g2, g3, g4, g5, g6⟩ := ev7_cells hE4.box
    obtain ⟨V, hV⟩ : ∃ V, V = put5 w4 X 2 (.int .i64 t0) (.int .i64 t1) (.string t2) (.slice ta tl tc) (.slice ua ul uc) := ⟨_, rfl⟩
    have hE5 := hE4.put (.int .i64 t0) (.int .i64 t1) (.string t2) (.slice ta tl tc) (.slice ua ul uc)
    rw [← hV] at hE5
    have htV : TreeIn (fun b => w.heap.size + 1 ≤ b ∧ b < V.heap.size) V (m + 1) t (.int .i64 t0) (.int .i64 t1) (.string t2) (.slice ta tl tc) (.slice ua ul uc) :=
      ht.keep (fun b hb => by rw [hV]; exact put5_other (by omega)) (fun b hb => ⟨by omega, by rw [hV, put5_size]; exact hb.2⟩)
    have HRead : Hid (∀ (x' : ByteArray) (v' : Int) (t' : T (m + 1)), okE (m + 1) x' v' t' = true → packE (m + 1) x' v' t' = l → x = x' ∧ (v : Int) = v' ∧ t = t' ∧ b3 = false ∧ l.drop i3 = []) := fun x' v' t' ho hp => event_read HSh.out HOne.out htr ho hp
    have HE := Lib.hid hE5
    have HT := Lib.hid htV
    have HV : Hid (put5 w4 X 2 (.int .i64 t0) (.int .i64 t1) (.string t2) (.slice ta tl tc) (.slice ua ul uc) = V) := hV.symm
    clear HC3 hn4 ht hR4 htr hE4 hE5 htV hV HE3 HOne HSh
    go_upto_region 7 with fail
    have HV2 := HV.out
    unfold put5 at HV2
    try rw [HV2]
    clear HV HV2 s0 s1 s2 s3 s4 s5 s6 g0 g1 g2 g3 g4 g5 g6
    have hXs := HE.out.ltX
    obtain ⟨⟨k0, k1, k2⟩, -⟩ := HE.out.rd.cells
    obtain ⟨⟨s0, s1, s2, s3, s4, s5, s6⟩, -⟩ := ev7_cells HE.out.box
    have hle := HE.out.le
    rw [HLn.out] at hle
    cases b3
    case true =>
      have HP : Hid (EUPost m l w (.returned (.tuple #[.agg #[.string ⟨#[]⟩, .int .i64 0, .int .i64 0, .int .i64 0, .string ⟨#[]⟩, .slice none 0 0, .slice none 0 0], .bool false])) (put7 V w.heap.size (.string ⟨#[]⟩) (.int .i64 0) (.int .i64 0) (.int .i64 0) (.string ⟨#[]⟩) (.slice none 0 0) (.slice none 0 0))) := eu_none rfl HE.out.below (fun x' v' t' ho hp => by have h := HRead.out x' v' t' ho hp; exact absurd h.2.2.2.1 (by simp))
      obtain ⟨⟨z0, z1, z2, z3, z4, z5, z6⟩, f0, f1, f2, f3, f4, f5, f6⟩ := ev7_cells HE.out.zero

      clear HRead HE HT HLn HSrc
      go_wp2_with fail
      refine bodyPost_ret (v := .tuple #[.agg #[.string ⟨#[]⟩, .int .i64 0, .int .i64 0, .int .i64 0, .string ⟨#[]⟩, .slice none 0 0, .slice none 0 0], .bool false]) (by simp [results, Try.results14, go_sem, z0, z1, z2, z3, z4, z5, z6]) rfl ?_
      exact HP.out

    case false =>
      by_cases hi3 : i3 = ln
      case neg =>
        have hi3' : ¬ (i3 : Int) = (ln : Int) := by omega
        have HP : Hid (EUPost m l w (.returned (.tuple #[.agg #[.string ⟨#[]⟩, .int .i64 0, .int .i64 0, .int .i64 0, .string ⟨#[]⟩, .slice none 0 0, .slice none 0 0], .bool false])) (put7 V w.heap.size (.string ⟨#[]⟩) (.int .i64 0) (.int .i64 0) (.int .i64 0) (.string ⟨#[]⟩) (.slice none 0 0) (.slice none 0 0))) := eu_none rfl HE.out.below (fun x' v' t' ho hp => by have h := (HRead.out x' v' t' ho hp).2.2.2.2; have h2 := congrArg List.length h; rw [List.length_drop, HLn.out] at h2; simp at h2; omega)
        obtain ⟨⟨z0, z1, z2, z3, z4, z5, z6⟩, f0, f1, f2, f3, f4, f5, f6⟩ := ev7_cells HE.out.zero

        clear HRead HE HT HLn HSrc
        go_wp2_with fail
        refine bodyPost_ret (v := .tuple #[.agg #[.string ⟨#[]⟩, .int .i64 0, .int .i64 0, .int .i64 0, .string ⟨#[]⟩, .slice none 0 0, .slice none 0 0], .bool false]) (by simp [results, Try.results14, go_sem, z0, z1, z2, z3, z4, z5, z6]) rfl ?_
        exact HP.out

      case pos =>
        subst hi3
        have HC4 := Lib.hid (specEOk_any (m + 1) _ x (v : Int) t _ _ _ _ _ V (by unfold maxLen; omega) HT.out (fun b hb => hb.2))
        go_wp2_with fail
        refine HC4.out.mono ?_
        rintro e w5 ⟨rfl, hb5⟩
        have hE5 := HE.out.same hb5
        have hT5 := HT.out.step (fun b hb => hb.2) hb5
        have hs5 := hb5.size
        cases hok : okE (m + 1) x (v : Int) t
        case false =>
          have HP : Hid (EUPost m l w (.returned (.tuple #[.agg #[.string ⟨#[]⟩, .int .i64 0, .int .i64 0, .int .i64 0, .string ⟨#[]⟩, .slice none 0 0, .slice none 0 0], .bool false])) (put7 w5 w.heap.size (.string ⟨#[]⟩) (.int .i64 0) (.int .i64 0) (.int .i64 0) (.string ⟨#[]⟩) (.slice none 0 0) (.slice none 0 0))) := eu_none rfl hE5.below (fun x' v' t' ho hp => by obtain ⟨rfl, rfl, rfl, -⟩ := HRead.out x' v' t' ho hp; rw [hok] at ho; cases ho)
          obtain ⟨⟨z0, z1, z2, z3, z4, z5, z6⟩, f0, f1, f2, f3, f4, f5, f6⟩ := ev7_cells hE5.zero

          clear HRead HE HT HLn HSrc hE5 hT5 HC4 hok hb5 k0 k1 k2 s0 s1 s2 s3 s4 s5 s6
          go_wp2_with fail
          refine bodyPost_ret (v := .tuple #[.agg #[.string ⟨#[]⟩, .int .i64 0, .int .i64 0, .int .i64 0, .string ⟨#[]⟩, .slice none 0 0, .slice none 0 0], .bool false]) (by simp [results, Try.results14, go_sem, z0, z1, z2, z3, z4, z5, z6]) rfl ?_
          exact HP.out

        case true =>
          have HOk := Lib.hid hok
          have HE5 := Lib.hid hE5
          have HT5 := Lib.hid hT5
          have HC5 := Lib.hid (specEPack_any (m + 1) _ x (v : Int) t _ _ _ _ _ w5 (by unfold maxLen; omega) hT5.1 hT5.2)
          obtain ⟨⟨s0, s1, s2, s3, s4, s5, s6⟩, -⟩ := ev7_cells hE5.box
          clear hok hE5 hT5 hb5 HC4 HE HT k0 k1 k2
          go_wp2_with fail
          refine HC5.out.mono ?_
          rintro e w6 ⟨u, rfl, hrow, hb6⟩
          have hpk : bytesE (m + 1) x (v : Int) t = packE (m + 1) x (v : Int) t := by unfold bytesE; rw [if_pos HOk.out]
          rw [hpk] at hrow
          have hE6 := HE5.out.same hb6
          have hT6 := HT5.out.1.step HT5.out.2 hb6
          have hs6 := hb6.size
          have hcv : (convert 29 9 (.slice ao i3 cap)).run Try.prog w6 = .ok (.string ⟨l.toArray⟩) w6 := by
            have h := conv_bytes (w := w6) (ao := ao) (l := l) (cap := cap) (fun j hj => by
              obtain ⟨b, off, ha, hb, hc⟩ := HSrc.out.bytes j hj
              exact ⟨b, off, ha, (World.cell?_of_block (hE6.below.block b hb)).trans hc⟩)
            rw [HLn.out] at h; exact h
          have HC6 := Lib.hid (l4Same_any w6 u (.slice ao i3 cap) _ l (conv_row hrow) hcv)
          have HE6 := Lib.hid hE6
          have HT6 := Lib.hid hT6
          clear hrow hcv hpk hE6 hT6 hb6 HC5 HE5 HT5 s0 s1 s2 s3 s4 s5 s6
          go_wp2_with fail
          refine HC6.out.mono ?_
          rintro e w7 ⟨rfl, rfl⟩
          by_cases hpe : packE (m + 1) x (v : Int) t = l
          case neg =>
            have hde : decide (packE (m + 1) x (v : Int) t = l) = false := decide_eq_false hpe
            have HP : Hid (EUPost m l w (.returned (.tuple #[.agg #[.string ⟨#[]⟩, .int .i64 0, .int .i64 0, .int .i64 0, .string ⟨#[]⟩, .slice none 0 0, .slice none 0 0], .bool false])) (put7 w7 w.heap.size (.string ⟨#[]⟩) (.int .i64 0) (.int .i64 0) (.int .i64 0) (.string ⟨#[]⟩) (.slice none 0 0) (.slice none 0 0))) := eu_none rfl HE6.out.below (fun x' v' t' ho hp => by obtain ⟨rfl, rfl, rfl, -⟩ := HRead.out x' v' t' ho hp; exact hpe hp)
            obtain ⟨⟨z0, z1, z2, z3, z4, z5, z6⟩, f0, f1, f2, f3, f4, f5, f6⟩ := ev7_cells HE6.out.zero

            rw [hde]
            clear HRead HE6 HT6 HLn HSrc HC6 hde hpe HOk
            go_wp2_with fail
            refine bodyPost_ret (v := .tuple #[.agg #[.string ⟨#[]⟩, .int .i64 0, .int .i64 0, .int .i64 0, .string ⟨#[]⟩, .slice none 0 0, .slice none 0 0], .bool false]) (by simp [results, Try.results14, go_sem, z0, z1, z2, z3, z4, z5, z6]) rfl ?_
            exact HP.out

          case pos =>
            have hde : decide (packE (m + 1) x (v : Int) t = l) = true := decide_eq_true hpe
            have HP : Hid (EUPost m l w (.returned (.tuple #[.agg #[.string x, .int .i64 (v : Int), .int .i64 t0, .int .i64 t1, .string t2, .slice ta tl tc, .slice ua ul uc], .bool true])) (put7 w7 w.heap.size (.string x) (.int .i64 (v : Int)) (.int .i64 t0) (.int .i64 t1) (.string t2) (.slice ta tl tc) (.slice ua ul uc))) := eu_some rfl HE6.out.below (HT6.out.1.keep (fun _ _ => rfl) (fun b hb => ⟨hb.1, HT6.out.2 b hb⟩)) HOk.out hpe
            obtain ⟨⟨z0, z1, z2, z3, z4, z5, z6⟩, f0, f1, f2, f3, f4, f5, f6⟩ := ev7_cells HE6.out.zero
            obtain ⟨⟨s0, s1, s2, s3, s4, s5, s6⟩, -⟩ := ev7_cells HE6.out.box
            rw [hde]
            clear HRead HE6 HT6 HLn HSrc HC6 hde hpe HOk
            go_wp2_with fail
            refine bodyPost_ret (v := .tuple #[.agg #[.string x, .int .i64 (v : Int), .int .i64 t0, .int .i64 t1, .string t2, .slice ta tl tc, .slice ua ul uc], .bool true]) (by simp [results, Try.results14, go_sem, z0, z1, z2, z3, z4, z5, z6]) rfl ?_
            exact HP.out

end Go.Proofs.Ytpnnbdejneoccaa
