/-
  KindFits of the program at two schemas that are ok, the first of which fits: it answers yes.
-/
import Derived.Test.YtpalkdcgbbbmeaaGreatDoorKW9
import Derived.Deep.RegionLaw
namespace Go.Proofs.YtpalkdcgbbbmeaaGreatDoor
open Go.RowKit

set_option maxRecDepth 20000 in
set_option maxHeartbeats 2000000 in
theorem implKFits_yes (n m : Nat) (S : Nat → Prop) (a : K n) (b : K m) (a0 a1 a2 b0 b1 b2 : Value) (w : World) (ha : KindIn S w n a a0 a1 a2) (hb : KindIn S w m b b0 b1 b2) (hB : ∀ b, S b → b < w.heap.size) (hoa : okK n a = true) (hob : okK m b = true) (hf : fitsK m b n a = true) :
    Calls Tryz.prog 10 #[.agg #[a0, a1, a2], .agg #[b0, b1, b2]] w fun e w' => e = .returned (.bool true) ∧ Below w.heap.size w w' := by
  obtain ⟨x0, xa, xl, xc, ya, yl, yc, rfl, rfl, rfl⟩ := ha.shape
  obtain ⟨z0, za, zl, zc, ua, ul, uc, rfl, rfl, rfl⟩ := hb.shape
  have hb1 : Below w.heap.size w ((w.alloc (.cells #[.int .i64 x0, .slice xa xl xc, .slice ya yl yc] 26)).alloc (.cells #[.int .i64 z0, .slice za zl zc, .slice ua ul uc] 26)) := ((Below.refl _ _).alloc (Nat.le_refl _) _).alloc (by simp) _
  obtain ⟨ha1, hB1⟩ := ha.step hB hb1
  obtain ⟨hb1', -⟩ := hb.step hB hb1
  have HP : Hid (Calls Tryz.prog 34 _ _ _) := innerPair_yes n m S a b x0 z0 xa ya za ua xl xc yl yc zl zc ul uc _ ha1 hb1' hB1 hoa hob
  have HG : Hid (goodK n a 1 = true ∧ goodK m b 1 = true ∧ cntK m b ≤ 40) := ⟨(okK_get hoa).1, (okK_get hob).1, (okK_get hob).2⟩
  have HF : Hid (fitsK m b n a = true) := hf
  have HB1 : Hid (Below w.heap.size w _) := hb1
  clear ha hb ha1 hb1' hb1 hoa hob hf
  go_enter Tryz.func10, Tryz.ntmps10
  go_wp2_with fail
  refine HP.out.mono ?_
  rintro e w2 ⟨hb2, pa, pb, rfl, hia, hib⟩
  have HB2 : Hid (Below w.heap.size w w2) := below_step HB1.out HB1.out.size hb2
  obtain ⟨W3, hW3⟩ : ∃ W3, W3 = w2.alloc (.cells #[.pointer (some ⟨pa, 0, none⟩), .pointer (some ⟨pb, 0, none⟩), .string ⟨#[]⟩] 67) := ⟨_, rfl⟩
  have hb3 : Below w2.heap.size w2 W3 := by rw [hW3]; exact (Below.refl _ _).alloc (Nat.le_refl _) _
  have hk3 : W3.heap[w2.heap.size]? = some (.cells #[.pointer (some ⟨pa, 0, none⟩), .pointer (some ⟨pb, 0, none⟩), .string ⟨#[]⟩] 67 (0, 0)) := by rw [hW3]; exact heap_alloc_new _ _
  have hz3 : W3.heap.size = w2.heap.size + 1 := by rw [hW3]; simp
  have HB3 : Hid (Below w.heap.size w W3) := below_step HB2.out HB2.out.size hb3
  have HNW : Hid (Calls Tryz.prog 37 #[] W3.drew fun e w' => e = .returned (.pointer (some ⟨W3.heap.size, 0, none⟩)) ∧ Below W3.heap.size W3 w' ∧ TabW w' W3.heap.size ∧ W3.heap.size < w'.heap.size) := (newWidenings_any W3.drew).mono fun e w' h => ⟨h.1, ((Below.refl W3.heap.size W3).drew).trans h.2.1, h.2.2.1, h.2.2.2⟩
  have HOf : Hid (∀ W, Below W3.heap.size W3 W → TabW W W3.heap.size → W3.heap.size < W.heap.size → Calls Tryz.prog 38 #[.pointer (some ⟨W3.heap.size, 0, none⟩), .agg #[.pointer (some ⟨pa, 0, none⟩), .pointer (some ⟨pb, 0, none⟩), .string ⟨#[]⟩]] W fun e w' => Below w.heap.size w w' ∧ ∃ fn first cap, e = .returned (.tuple #[.func fn first cap, .nilIface])) := fun W hW hT hl => by
    have hw2 : Below w2.heap.size w2 W := hb3.trans (hW.mono (by omega))
    refine (fit_any m (fun b => b < w2.heap.size) n a b _ _ 1 1 W3.heap.size ⟨#[]⟩ W (hia.keep (same_below hw2 (fun _ h => h)) (fun _ h => h)) (hib.keep (same_below hw2 (fun _ h => h)) (fun _ h => h)) (fun b hb => Nat.lt_of_lt_of_le hb hw2.size) hT hl HG.out.1 HG.out.2.1 HG.out.2.2 (by omega) (by show ((0 : Nat) : Int) ≤ 20 * 1; omega)).mono fun e w' h => ?_
    refine ⟨below_step (below_step HB2.out HB2.out.size hw2) (by have := HB2.out.size; have := hw2.size; omega) h.1, ?_⟩
    rcases h.2 with ⟨-, h2⟩ | ⟨h2, -⟩
    · exact h2
    · rw [HF.out] at h2; cases h2
  have c0 : W3.cell? ⟨w2.heap.size, 0, none⟩ = some (.pointer (some ⟨pa, 0, none⟩)) := by simp [World.cell?, hk3]
  have c1 : W3.cell? ⟨w2.heap.size, 1, none⟩ = some (.pointer (some ⟨pb, 0, none⟩)) := by simp [World.cell?, hk3]
  have c2 : W3.cell? ⟨w2.heap.size, 2, none⟩ = some (.string ⟨#[]⟩) := by simp [World.cell?, hk3]
  have HK : Hid (∀ W, Below W3.heap.size W3 W → W.cell? ⟨w2.heap.size, 0, none⟩ = some (.pointer (some ⟨pa, 0, none⟩)) ∧ W.cell? ⟨w2.heap.size, 1, none⟩ = some (.pointer (some ⟨pb, 0, none⟩)) ∧ W.cell? ⟨w2.heap.size, 2, none⟩ = some (.string ⟨#[]⟩)) := fun W hW => pair_kept ⟨c0, c1, c2⟩ hW
  clear hia hib hb2 hk3 HP hb3 hz3
  go_upto_region 4 with fail
  rw [← hW3]
  clear hW3
  go_region_law (first
    | (go_simp; go_at_call 37; refine HNW.out.mono ?_; rintro e w5 ⟨rfl, hb5, hT5, hl5⟩; obtain ⟨k0, k1, k2⟩ := HK.out w5 hb5)
    | (go_simp; go_at_call 38; refine (HOf.out w5 hb5 hT5 hl5).mono ?_; rintro e w6 ⟨hb6, fn, first, cap, rfl⟩))
  all_goals
    have HM : Hid (Calls Tryz.prog 39 #[.nilIface] w6 _) := isMisfit_nil w6
    go_wp2_with fail
    refine HM.out.mono ?_
    rintro e w7 ⟨rfl, hb7⟩
    go_wp2_with fail
    go_ret
    exact ⟨rfl, below_step hb6 hb6.size hb7⟩

end Go.Proofs.YtpalkdcgbbbmeaaGreatDoor
