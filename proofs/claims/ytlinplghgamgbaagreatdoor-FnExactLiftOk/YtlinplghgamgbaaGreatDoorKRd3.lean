/-
  The specification's reader of schemas: forms.
-/
import Derived.Test.YtlinplghgamgbaaGreatDoorB11
import Derived.Deep.RegionLaw
import Derived.Deep.Cut
import Derived.Deep.CutRange
namespace Go.Proofs.YtlinplghgamgbaaGreatDoor
open Go.RowKit

theorem Tryz.info_strR : (Tryz.prog.info? 9).map (fun i => (i.zero, i.size, i.bytes)) = some (some (.string ⟨#[]⟩), 1, 16) := by kernel_rfl
theorem Tryz.info_kindR : (Tryz.prog.info? 70).map (fun i => (i.zero, i.size, i.bytes)) = some (some (.agg #[.int .i64 0, .slice none 0 0, .slice none 0 0]), 3, 56) := by kernel_rfl

/-- The way out of the form's loop. -/
theorem form_outK {m n R i i' : Nat} {s : ByteArray} {bad' : Bool} {w w3 wr : World} {ns : List ByteArray} {ks : List (K m)} {nv kv : Value} (hM : ManyK R w3.heap.size m w3 wr 5 ns ks nv kv) (hn3 : Near R w w3) (hR : R < w.heap.size) (hz3 : w.heap.size + 1 ≤ w3.heap.size) (hr : RdS wr R s i' bad') (hI : FormInvK m n s i ns ks i' bad') (hs : s.size ≤ 10000) (hn6 : n ≤ 6)
    (h1n : ¬ lookB s i = 110) (h2n : ¬ lookB s i = 116) (h3n : ¬ lookB s i = 102) (h4n : ¬ lookB s i = 63) (h5n : ¬ lookB s i = 91) (hend : bad' = false → lookB s i' = 125) :
    ReadKPost (m + 1) (n + 1) w R s i false (.returned (.agg #[.int .i64 5, nv, kv])) (put3 (wr.setCell ⟨R, 1, none⟩ (.int .i64 ((i' : Int) + 1))) w.heap.size 0 (.int .i64 5) nv kv) := by
  have hg := form_got h1n h2n h3n h4n h5n hI hend
  obtain ⟨q1, q2, q3, q4, q5, -⟩ := hI
  have hzz := hM.near.size
  have hl : ks.length ≤ 20000 := by cases bad' <;> simp at q4 <;> omega
  refine rk_exit ((hn3.trans hM.near).trans (Near.set R 1 _ _)) hR (by have := hr.set1 ((i' : Int) + 1); simpa using this) ?_ hg
  exact manyK_kind hM (fun b hb => Below.heap_setCell _ _ _ _ (by show b ≠ R; omega)) (by simp) (by omega) hl (by omega)

set_option maxRecDepth 20000 in
set_option maxHeartbeats 4000000 in
theorem l2_form (n : Nat) (hn : ReadKSaid n) (m R : Nat) (s : ByteArray) (i : Nat) (w : World) (hm : n + 1 ≤ m) (hn6 : n ≤ 6) (h : RdS w R s i false) (hs : s.size ≤ 10000) (hi : i ≤ s.size)
    (h1n : ¬ lookB s i = 110) (h2n : ¬ lookB s i = 116) (h3n : ¬ lookB s i = 102) (h4n : ¬ lookB s i = 63) (h5n : ¬ lookB s i = 91) :
    Calls Tryz.prog 58 #[.pointer (some ⟨R, 0, none⟩), .int .i64 (7 - ((n + 1 : Nat) : Int))] w (ReadKPost (m + 1) (n + 1) w R s i false) := by
  have hR := h.lt
  obtain ⟨W1, hW1⟩ : ∃ W1, W1 = w.alloc (.cells #[.int .i64 0, .slice none 0 0, .slice none 0 0] 70) := ⟨_, rfl⟩
  have hz1 : W1.heap.size = w.heap.size + 1 := by rw [hW1]; simp
  have hb1 : Below w.heap.size w W1 := by rw [hW1]; exact (Below.refl _ _).alloc (Nat.le_refl _) _
  have hzero : W1.heap[w.heap.size]? = some (.cells #[.int .i64 0, .slice none 0 0, .slice none 0 0] 70 (0, 0)) := by rw [hW1]; exact heap_alloc_new _ _
  have hr1 : RdS W1 R s i false := (hb1.block R hR).trans h
  have c2 := hr1.cell2
  rw [hW1] at c2
  have hdeep : ¬ (6 : Int) < 7 - ((n + 1 : Nat) : Int) := by omega
  have HL : Hid (Calls Tryz.prog 72 #[.pointer (some ⟨R, 0, none⟩)] W1 fun e w' => e = .returned (.int .u8 (((lookB s i).toNat : Nat) : Int)) ∧ Near R w w' ∧ RdS w' R s i false ∧ w'.heap.size = w.heap.size + 1 ∧ w'.heap[w.heap.size]? = some (.cells #[.int .i64 0, .slice none 0 0, .slice none 0 0] 70 (0, 0))) :=
    (look_any W1 R s i false hr1).mono fun e w' ⟨he, k, hk⟩ => by
      subst hk
      exact ⟨he, ((Near.of_below hb1).trans (Near.refl R W1)).drewN k, hr1.drewN k, hz1, hzero⟩
  have hcne : ∀ c : UInt8, ¬ lookB s i = c → ((((lookB s i).toNat : Nat) : Int) == (c.toNat : Int)) = false := fun c hc => by
    rw [beq_eq_false_iff_ne]
    intro e
    apply hc
    apply UInt8.toNat_inj.1
    omega
  have e1 : ((((lookB s i).toNat : Nat) : Int) == 110) = false := hcne 110 h1n
  have e2 : ((((lookB s i).toNat : Nat) : Int) == 116) = false := hcne 116 h2n
  have e3 : ((((lookB s i).toNat : Nat) : Int) == 102) = false := hcne 102 h3n
  have e4 : ((((lookB s i).toNat : Nat) : Int) == 63) = false := hcne 63 h4n
  have e5 : ((((lookB s i).toNat : Nat) : Int) == 91) = false := hcne 91 h5n
  have HNo : Hid (¬ lookB s i = 110 ∧ ¬ lookB s i = 116 ∧ ¬ lookB s i = 102 ∧ ¬ lookB s i = 63 ∧ ¬ lookB s i = 91) := ⟨h1n, h2n, h3n, h4n, h5n⟩
  have hw6 : IntKind.i64.wrap (7 - ((n + 1 : Nat) : Int) + 1) = 7 - (n : Int) := by rw [IntKind.wrap_i64]; omega
  have HN : Hid (ReadKSaid n) := hn
  clear hr1 hzero hb1 h hn hcne h1n h2n h3n h4n h5n
  generalize hdp : 7 - ((n + 1 : Nat) : Int) = dp at *
  clear hdp
  generalize ((lookB s i).toNat : Nat) = cc at *
  go_enter Tryz.func58, Tryz.ntmps58
  go_wp2_with fail
  rw [← hW1]
  clear hW1 c2
  refine HL.out.mono ?_
  rintro e w2 ⟨rfl, hn2, hr2, hz2, hzero2⟩
  have HE : Hid (Calls Tryz.prog 73 #[.pointer (some ⟨R, 0, none⟩), .string ⟨#[123]⟩] w2 _) := eat_any w2 R s ⟨#[123]⟩ i false hr2 hs (by decide) hi
  clear HL hr2
  go_wp2_with fail
  refine HE.out.mono ?_
  rintro e w3 ⟨rfl, hn3, hor⟩
  have hz3 := hn3.size
  have hzero3 := (hn3.block w.heap.size (by omega) (by omega)).trans hzero2
  have hn13 := hn2.trans hn3
  obtain ⟨i0, bad0, hr3, hI0⟩ : ∃ (i0 : Nat) (bad0 : Bool), RdS w3 R s i0 bad0 ∧ FormInvK m n s i [] [] i0 bad0 := by
    rcases hor with ⟨q1, q2, q3⟩ | ⟨q1, q3⟩
    · exact ⟨i + 1, false, q3, form_start hi (.inl ⟨q1, q2, rfl, rfl⟩)⟩
    · exact ⟨i, true, q3, form_start hi (.inr ⟨q1, rfl, rfl⟩)⟩
  have HN13 : Hid (Near R w w3 ∧ w3.heap[w.heap.size]? = some (.cells #[.int .i64 0, .slice none 0 0, .slice none 0 0] 70 (0, 0))) := ⟨hn13, hzero3⟩
  have hr4 : RdS (w3.alloc (.cells #[.int .i64 5, .slice none 0 0, .slice none 0 0] 70)) R s i0 bad0 := (Below.heap_alloc _ _ _ hr3.lt).trans hr3
  clear HE hor hn2 hn3 hzero2 hzero3 hn13 hr3 e1 e2 e3 e4 e5
  go_wp2_with fail
  go_loopw [71] (fun _ wr => ∃ (ns : List ByteArray) (ks : List (K m)) (j ln : Nat) (bad' : Bool) (na : Option Addr) (nc : Nat) (ka : Option Addr) (kc : Nat), ns.length = ln ∧ ks.length = ln ∧ ManyK R w3.heap.size m w3 wr 5 ns ks (.slice na ln nc) (.slice ka ln kc) ∧ RdS wr R s j bad' ∧ FormInvK m n s i ns ks j bad') (fun _ wr => leftRK wr R s.size)
  case atStart => exact ⟨[], [], i0, 0, bad0, none, 0, none, 0, rfl, rfl, ManyK.start, hr4, hI0⟩
  case round =>
    obtain ⟨ns, ks, j, ln, bad', na, nc, ka, kc, hnl, hkl, hM, hr, hI⟩ := hrel
    have hX := hM.lt
    have hzr := hM.near.size
    have x0 : wr.cell? ⟨w3.heap.size, 0, none⟩ = some (.int .i64 5) := by simp [World.cell?, hM.box]
    have x1 : wr.cell? ⟨w3.heap.size, 1, none⟩ = some (.slice na ln nc) := by simp [World.cell?, hM.box]
    have x2 : wr.cell? ⟨w3.heap.size, 2, none⟩ = some (.slice ka ln kc) := by simp [World.cell?, hM.box]
    have d1 := hr.cell1
    have d2 := hr.cell2
    have df := hr.free 1
    have hI' := hI
    obtain ⟨hi1, hi2, hi3, hi4, -, -⟩ := hI'
    rw [hkl] at hi4
    have HN2 : Hid (ns.length = ln ∧ ks.length = ln) := ⟨hnl, hkl⟩
    have HM : Hid (ManyK R w3.heap.size m w3 wr 5 ns ks (.slice na ln nc) (.slice ka ln kc)) := hM
    have HR : Hid (RdS wr R s j bad') := hr
    have HI : Hid (FormInvK m n s i ns ks j bad') := hI
    have hw9 : IntKind.i64.wrap ((j : Int) + 1) = (j : Int) + 1 := by rw [IntKind.wrap_i64]; omega
    have hlen : ln ≤ 10010 := by cases bad' <;> simp at hi4 <;> omega
    obtain ⟨⟨r0, r1, r2⟩, f0, f1, f2⟩ := zeroK_cells ((hM.near.block w.heap.size (by omega) (by omega)).trans HN13.out.2)
    have HOut : Hid ((bad' = false → lookB s j = 125) → ∀ q, ReadKPost (m + 1) (n + 1) w R s i false (.returned (.agg #[.int .i64 5, .slice na ln nc, .slice ka ln kc])) (put3 ((wr.drewN q).setCell ⟨R, 1, none⟩ (.int .i64 ((j : Int) + 1))) w.heap.size 0 (.int .i64 5) (.slice na ln nc) (.slice ka ln kc))) := fun he q =>
      form_outK (HM.out.keep (by omega) ((Near.refl R wr).drewN q)) HN13.out.1 hR (by omega) (HR.out.drewN q) HI.out hs hn6 HNo.out.1 HNo.out.2.1 HNo.out.2.2.1 HNo.out.2.2.2.1 HNo.out.2.2.2.2 he
    clear hM hr hI hnl hkl hr4 hI0
    cases bad' with
    | true =>
      have HZ : Hid _ := HOut.out (fun h => by cases h) 0
      clear HOut
      go_wp2_with fail
      refine bodyPost_ret (v := .agg #[.int .i64 5, .slice na ln nc, .slice ka ln kc]) (by simp [results, Tryz.results58, go_sem, r0, r1, r2]) rfl ?_
      exact HZ.out
    | false =>
      have hjz : j ≤ s.size := (hi2 rfl).2
      have hlj : ln ≤ j := by simpa using hi4
      clear hi2 hi4
      have HL : Hid (Calls Tryz.prog 72 #[.pointer (some ⟨R, 0, none⟩)] wr fun e w' => e = .returned (.int .u8 ((lookB s j).toNat : Int)) ∧ ∃ m', w' = wr.drewN m') := look_any wr R s j false HR.out
      by_cases hend : lookB s j = 125
      · have hc : ((lookB s j).toNat : Nat) = 125 := by rw [hend]; rfl
        rw [hc] at HL
        have HZ : Hid (∀ q, _) := HOut.out (fun _ => hend)
        clear HOut hend hc
        go_wp2_with (go_at_call 72; refine HL.out.mono ?_; rintro e w' ⟨rfl, nq, rfl⟩)
        refine bodyPost_ret (v := .agg #[.int .i64 5, .slice na ln nc, .slice ka ln kc]) (by simp [results, Tryz.results58, go_sem, r0, r1, r2]) rfl ?_
        exact HZ.out nq
      · have hne : ((((lookB s j).toNat : Nat) : Int) == 125) = false := by
          rw [beq_eq_false_iff_ne]
          intro e; apply hend; apply UInt8.toNat_inj.1
          have h125 : (125 : UInt8).toNat = 125 := rfl
          omega
        have hne' : ((((lookB s j).toNat : Nat) : Int) != 125) = true := by simp [bne, hne]
        have HE : Hid (¬ lookB s j = 125) := hend
        have hb1 : (((lookB s j).toNat : Nat) : Int) ≤ 255 := by have := (lookB s j).toNat_lt; omega
        clear hend HOut r0 r1 r2 f0 f1 f2
        generalize ((lookB s j).toNat : Nat) = c at *
        rcases Nat.eq_zero_or_pos ln with h0 | h0
        case' inl =>
          have hd : (0 < ln) = False := eq_false (by omega)
          have hd' : ((0 : Int) < (ln : Int)) = False := eq_false (by omega)
          have HCM : Hid (CommaK s ln j j false) := .inl ⟨h0, rfl, rfl⟩
          clear h0
          go_wp2_with (go_at_call 72; refine HL.out.mono ?_; rintro e w' ⟨rfl, nq, rfl⟩)
          have hnw : Near R wr (wr.drewN nq) := (Near.refl R wr).drewN nq
          have hr1 : RdS (wr.drewN nq) R s j false := HR.out.drewN nq
          generalize wr.drewN nq = w1 at *
          obtain ⟨i1, bad1, hr1, HCM, hlei1⟩ : ∃ (i1 : Nat) (bad1 : Bool), RdS w1 R s i1 bad1 ∧ Hid (CommaK s ln j i1 bad1) ∧ i1 ≤ s.size := ⟨j, false, hr1, HCM, hjz⟩
          clear hd hd'
        case' inr =>
          have hd : (0 : Int) < (ln : Int) := by omega
          go_wp2_with (go_at_call 72; refine HL.out.mono ?_; rintro e w' ⟨rfl, nq, rfl⟩)
          refine (eat_any _ R s ⟨#[44]⟩ j false (HR.out.drewN nq) hs (by decide) hjz).mono ?_
          rintro e w1 ⟨rfl, hn1, hor⟩
          obtain ⟨i1, bad1, hr1, HCM, hlei1⟩ : ∃ (i1 : Nat) (bad1 : Bool), RdS w1 R s i1 bad1 ∧ Hid (CommaK s ln j i1 bad1) ∧ i1 ≤ s.size := by
            rcases hor with ⟨he, hz, h⟩ | ⟨he, h⟩
            · exact ⟨j + 1, false, h, .inr ⟨by omega, .inl ⟨he, hz, rfl, rfl⟩⟩, hz⟩
            · exact ⟨j, true, h, .inr ⟨by omega, .inr ⟨he, rfl, rfl⟩⟩, hjz⟩
          have hnw : Near R wr w1 := ((Near.refl R wr).drewN nq).trans hn1
          clear hor hn1 hd h0
        all_goals
          have HM1 : Hid (ManyK R w3.heap.size m w3 w1 5 ns ks (.slice na ln nc) (.slice ka ln kc)) := HM.out.keep (by omega) hnw
          have hX1 := HM1.out.lt
          have x1w : w1.cell? ⟨w3.heap.size, 1, none⟩ = some (.slice na ln nc) := by simp [World.cell?, HM1.out.box]
          obtain ⟨x, HXe⟩ : ∃ x, Hid (bs ((s.data.toList.drop i1).takeWhile nmByte) = x) := ⟨_, rfl⟩
          obtain ⟨j1, HJ⟩ : ∃ j1, Hid (i1 + ((s.data.toList.drop i1).takeWhile nmByte).length = j1) := ⟨_, rfl⟩
          have HNm : Hid (Calls Tryz.prog 74 #[.pointer (some ⟨R, 0, none⟩)] w1.drew fun e w' => e = .returned (.string x) ∧ Near R w1.drew w' ∧ RdS w' R s (j1 : Int) bad1) :=
            (name_any w1.drew R s i1 bad1 (hr1.drewN 1) hs hlei1).mono fun e w' ⟨h1, h2, h3, _⟩ => ⟨by rw [h1, HXe.out], h2, by rw [HJ.out] at h3; exact h3⟩
          have HT : Hid ((bs ((s.data.toList.drop i1).takeWhile nmByte)).size ≤ 10000 ∧ i1 + ((s.data.toList.drop i1).takeWhile nmByte).length ≤ s.size) := by
            have h1 : ((s.data.toList.drop i1).takeWhile nmByte).length ≤ (s.data.toList.drop i1).length := (List.takeWhile_prefix _).length_le
            rw [List.length_drop] at h1
            have h2 : s.data.toList.length = s.size := by simp
            exact ⟨by rw [bs_size]; omega, by omega⟩
          rw [HXe.out, HJ.out] at HT
          have hjs := HT.out.2
          have HO1 : Hid (w1.ownsRow (w3.heap.size + 1) 9 1 (.slice na ln nc) ln (ns.map .string)) := by
            have := HM1.out.names
            rw [HN2.out.1] at this; exact this
          obtain ⟨is0, hi0, hy0, hy1, hyb⟩ := info_parts Tryz.info_strR
          have HIS : Hid (_ ∧ _ ∧ _ ∧ _) := ⟨hi0, hy0, hy1, hyb⟩
          clear hi0 hy0 hy1 hyb hr1 x0 x1 x2 d1 d2 df HL HM hnw
          go_upto_region 27 with fail
          go_cut [71] from 62 to 95 (fun _ wx => ∃ g cap, ManyK R w3.heap.size m w3 wx 5 (ns ++ [x]) ks (.slice (some ⟨g, 0, none⟩) (ln + 1) cap) (.slice ka ln kc) ∧ RdS wx R s (j1 : Int) bad1)
          case first =>
            go_region_law (first
              | (refine step_append_lies _ (by rfl) (.tmp 79) (.tmp 82) 22 (by rfl) (w3.heap.size + 1) 9 is0 _ 1 16 Tryz.underlying22 HIS.out.1 HIS.out.2.1 HIS.out.2.2.1 HIS.out.2.2.2 rfl (by decide) (.slice na ln nc) ln (ns.map .string) (by rfl) (hox _) ⟨w2.heap.size, 0, none⟩ 1 1 [.string x] (by rfl) rfl (World.news_of_block (heap_alloc_new w2 _)) (by simp [Value.oneCell']) (by decide) (by unfold maxLen; omega) (by omega) (by simp; omega) (w2.heap.size + 1) (by simp) ?_; intro g cap w3' hown hgrow hat hlt; have hb3 := (box_afterK (W := w1.drew) HO1.out hX1 (by omega) hn2 hgrow).trans HM1.out.box; have x1'' : w3'.cell? ⟨w3.heap.size, 1, none⟩ = some (.slice na ln nc) := (by simp [World.cell?, hb3]); have xf'' : w3'.frozen? ⟨w3.heap.size, 1, none⟩ = false := (by simp [World.frozen?, hb3]))
              | (go_simp; go_at_call 74; refine HNm.out.mono ?_; rintro e w2 ⟨rfl, hn2, hr2⟩; have hsz2 : w1.heap.size ≤ w2.heap.size := hn2.size; have hox := fun o => owns_onK (R := R) (X := w3.heap.size) (W := w1.drew) HO1.out (by omega) hn2 o; have x1' : w2.cell? ⟨w3.heap.size, 1, none⟩ = some (.slice na ln nc) := (World.cell?_of_block (hn2.block w3.heap.size (by simpa using hX1) (by omega))).trans x1w; have x1a : (w2.alloc (.cells #[.string x] 9)).cell? ⟨w3.heap.size, 1, none⟩ = some (.slice na ln nc) := (World.cell?_of_block (Below.heap_alloc _ _ _ (by show w3.heap.size < _; omega))).trans x1'))
            all_goals
              have hM2 := ManyK.name (W := w2) (Wa := w2.alloc (.cells #[.string x] 9)) (one := .cells #[.string x] 9) (HM1.out.keep (by omega) (((Near.refl R w1).drewN 1).trans hn2)) (Nat.le_refl _) rfl ⟨rfl, rfl, rfl⟩ HT.out.1 (by rw [HN2.out.1]; exact hown) hgrow hat
              rw [HN2.out.1] at hM2
              have HM2 : Hid (ManyK R w3.heap.size m w3 (w3'.setCell ⟨w3.heap.size, 1, none⟩ (.slice (some ⟨g, 0, none⟩) (ln + 1) cap)) 5 (ns ++ [x]) ks (.slice (some ⟨g, 0, none⟩) (ln + 1) cap) (.slice ka ln kc)) := hM2
              have HR2 : Hid (RdS (w3'.setCell ⟨w3.heap.size, 1, none⟩ (.slice (some ⟨g, 0, none⟩) (ln + 1) cap)) R s (j1 : Int) bad1) := rd_afterK (X := w3.heap.size) (q := 1) (W := w1.drew) hr2 HO1.out (by omega) hgrow
              clear hM2 hown hgrow hat hn2 hr2 hox x1' x1a x1'' xf'' hb3
              go_wp2_with fail
              go_meet
              exact ⟨_, _, HM2.out, HR2.out⟩
          case rest =>
            obtain ⟨g, cap, hM2, hR2⟩ := hcut
            have HM2 : Hid (ManyK R w3.heap.size m w3 wc 5 (ns ++ [x]) ks (.slice (some ⟨g, 0, none⟩) (ln + 1) cap) (.slice ka ln kc)) := hM2
            have HR2 : Hid (RdS wc R s (j1 : Int) bad1) := hR2
            clear hM2 hR2 x1w HNm HM1 HO1 hX1
            go_wp2_with fail
            refine (eat_any wc R s ⟨#[58]⟩ j1 bad1 HR2.out hs (by decide) hjs).mono ?_
            rintro e w5 ⟨rfl, hn5, hor⟩
            obtain ⟨i3, bad3, hr3, HCO, hok3, hlim3⟩ : ∃ (i3 : Nat) (bad3 : Bool), RdS w5 R s i3 bad3 ∧ Hid (ColonK s j1 i3 bad1 bad3) ∧ (bad3 = false → i3 ≤ s.size) ∧ i3 ≤ 20000 := by
              rcases hor with ⟨he, hz, h⟩ | ⟨he, h⟩
              · exact ⟨j1 + 1, bad1, h, .inl ⟨he, hz, rfl, rfl⟩, fun _ => hz, by have : (⟨#[58]⟩ : ByteArray).size = 1 := rfl; omega⟩
              · exact ⟨j1, true, h, .inr ⟨he, rfl, rfl⟩, (fun h => by cases h), by omega⟩
            have hM5 := HM2.out.keep (by omega) hn5
            have HM5 : Hid (ManyK R w3.heap.size m w3 w5 5 (ns ++ [x]) ks (.slice (some ⟨g, 0, none⟩) (ln + 1) cap) (.slice ka ln kc)) := hM5
            obtain ⟨xs, hxs, hkk⟩ := hM5.kids
            have HKK : Hid (∀ q (h : q < ks.length), _) := hkk
            have HX5 : Hid (w5.ownsRow (w3.heap.size + 1) 70 3 (.slice ka ln kc) ln xs) := by
              rw [HN2.out.2] at hxs; exact hxs
            have hX5 := HM5.out.lt
            have x2w : w5.cell? ⟨w3.heap.size, 2, none⟩ = some (.slice ka ln kc) := by simp [World.cell?, HM5.out.box]
            have HC1 : Hid (Calls Tryz.prog 58 #[.pointer (some ⟨R, 0, none⟩), .int .i64 (7 - (n : Int))] w5.drew (ReadKPost m n w5.drew R s i3 bad3)) := HN.out m R s i3 bad3 _ hm (hr3.drewN 1) hs hok3 hlim3
            obtain ⟨ik0, hi0, hy0, hy1, hyb⟩ := info_parts Tryz.info_kindR
            have HIK : Hid (_ ∧ _ ∧ _ ∧ _) := ⟨hi0, hy0, hy1, hyb⟩
            clear hi0 hy0 hy1 hyb hxs hkk hM5 hor hr3 hn5 HM2 HR2
            go_wp2_with fail
            go_region_law (first
              | (refine step_append_lies _ (by rfl) (.tmp 88) (.tmp 93) 68 (by rfl) (w3.heap.size + 1) 70 ik0 _ 3 56 Tryz.underlying68 HIK.out.1 HIK.out.2.1 HIK.out.2.2.1 HIK.out.2.2.2 rfl (by decide) (.slice ka ln kc) ln xs (by rfl) (hox2 _) ⟨v2.heap.size, 0, none⟩ 1 1 [.int .i64 y0, .slice ya yl yc, .slice za zl zc] (by rfl) rfl (World.news_of_block (heap_alloc_new v2 _)) (by simp [Value.oneCell']) (by decide) (by unfold maxLen; omega) (by omega) (by simp; omega) (v2.heap.size + 1) (by simp) ?_; intro g2 cap2 v3 hown2 hgrow2 hat2 hlt2; have hb6 := (box_afterK (W := w5.drew) HX5.out hX5 (by omega) hn6' hgrow2).trans HM5.out.box; have x2'' : v3.cell? ⟨w3.heap.size, 2, none⟩ = some (.slice ka ln kc) := (by simp [World.cell?, hb6]); have xg'' : v3.frozen? ⟨w3.heap.size, 2, none⟩ = false := (by simp [World.frozen?, hb6]))
              | (go_simp; go_at_call 58; refine HC1.out.mono ?_; rintro e v2 ⟨hn6', t2, c0', c1', c2', i2, bad2, rfl, ht2, hr6, hp2⟩; obtain ⟨y0, ya, yl, yc, za, zl, zc, rfl, rfl, rfl⟩ := ht2.shape; have hsz2 : w5.heap.size ≤ v2.heap.size := hn6'.size; have hox2 := fun o => owns_onK (R := R) (X := w3.heap.size) (W := w5.drew) HX5.out (by omega) hn6' o; have x2' : v2.cell? ⟨w3.heap.size, 2, none⟩ = some (.slice ka ln kc) := (World.cell?_of_block (hn6'.block w3.heap.size (by simpa using hX5) (by omega))).trans x2w; have x2a : (v2.alloc (.cells #[.int .i64 y0, .slice ya yl yc, .slice za zl zc] 70)).cell? ⟨w3.heap.size, 2, none⟩ = some (.slice ka ln kc) := (World.cell?_of_block (Below.heap_alloc _ _ _ (by show w3.heap.size < _; omega))).trans x2'))
            all_goals
              have hF := ManyK.kid (W := w5.drew) (W1 := v2) (Wa := v2.alloc (.cells #[.int .i64 y0, .slice ya yl yc, .slice za zl zc] 70)) (one := .cells #[.int .i64 y0, .slice ya yl yc, .slice za zl zc] 70) (g := g2) (cap := cap2) (xs := xs)
                (HM5.out.keep (by omega) ((Near.refl R w5).drewN 1)) (by omega) (Nat.le_refl _) hn6' ht2 rfl ⟨rfl, rfl, rfl⟩ (by rw [HN2.out.2]; exact HX5.out)
                (fun q hq => by obtain ⟨a0, a1, a2, hd, hdt⟩ := HKK.out q hq; exact ⟨a0, a1, a2, hd, KindIn.keep (w := w5) (w' := w5.drew) (fun _ _ => rfl) (fun _ h => h) hdt⟩) (by rw [HN2.out.2]; exact hown2) hgrow2 hat2
              rw [HN2.out.2] at hF
              have HF : Hid (ManyK R w3.heap.size m w3 (v3.setCell ⟨w3.heap.size, 2, none⟩ (.slice (some ⟨g2, 0, none⟩) (ln + 1) cap2)) 5 (ns ++ [x]) (ks ++ [t2]) (.slice (some ⟨g, 0, none⟩) (ln + 1) cap) (.slice (some ⟨g2, 0, none⟩) (ln + 1) cap2)) := hF
              have HG' : Hid (RdS (v3.setCell ⟨w3.heap.size, 2, none⟩ (.slice (some ⟨g2, 0, none⟩) (ln + 1) cap2)) R s i2 bad2) := rd_afterK (X := w3.heap.size) (q := 2) (u := .slice (some ⟨g2, 0, none⟩) (ln + 1) cap2) (W := w5.drew) hr6 HX5.out (by omega) hgrow2
              have HS := form_stepK HI.out HE.out (by rw [HN2.out.2]; exact HCM.out) (by rw [HJ.out]; exact HCO.out) hp2 (by rw [HJ.out]; exact hjs)
              rw [HXe.out] at HS
              have HS' : Hid _ := HS
              clear hF HS hown2 hgrow2 hat2 ht2 hr6 hp2 hn6' hox2 x2' x2a x2'' xg'' hb6
              go_wp2_with fail
              go_roundw
              case rel => exact ⟨ns ++ [x], ks ++ [t2], i2, ln + 1, bad2, some ⟨g, 0, none⟩, cap, some ⟨g2, 0, none⟩, cap2, by simp [HN2.out.1], by simp [HN2.out.2], HF.out, HG'.out, HS'.out.1⟩
              case measure => rw [RdS.leftRK HG'.out, RdS.leftRK HR.out]; simpa using HS'.out.2

end Go.Proofs.YtlinplghgamgbaaGreatDoor
