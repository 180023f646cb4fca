/-
  KindFits of the program: what it answers.
-/
import Derived.Test.YthcdeahobjhkbaaGreatDoorB11
import Derived.Test.YthcdeahobjhkbaaGreatDoorAsMis2
import Derived.Test.YthcdeahobjhkbaaGreatDoorB10
import Derived.Deep.RegionLaw
namespace Go.Proofs.YthcdeahobjhkbaaGreatDoor
open Go.RowKit

theorem HandleIn.step {w w' : World} (h : HandleIn w) (hb : Below w.heap.size w w') : HandleIn w' := by
  unfold HandleIn at *
  exact (hb.cell (p := ⟨0, 0, none⟩) (World.block_lt_of_cell? w ⟨0, 0, none⟩ h)).trans h

set_option maxRecDepth 20000 in
set_option maxHeartbeats 400000 in
theorem isMisfit_yes (z : ByteArray) (w : World) (hg : HandleIn w) : Calls Tryz.prog 21 #[.iface 87 (.agg #[.string z])] w fun e w' => e = .returned (.bool true) ∧ Below w.heap.size w w' := by
  have ha : Below w.heap.size w (w.alloc (.cells #[.string ⟨#[]⟩] 41)) := (Below.refl _ _).alloc (Nat.le_refl _) _
  have HA : Hid (Calls Tryz.prog 39 #[.iface 87 (.agg #[.string z]), .iface 89 (.pointer (some ⟨w.heap.size, 0, none⟩))] (w.alloc (.cells #[.string ⟨#[]⟩] 41)) fun e w' => e = .returned (.bool true) ∧ Below w.heap.size w w') := by
    refine (asMisfit_any z ⟨w.heap.size, 0, none⟩ (.string ⟨#[]⟩) _ (hg.step ha) (by simp) (by simp)).mono ?_
    rintro e w' ⟨rfl, W, hW, rfl⟩
    exact ⟨rfl, (below_step ha ha.size hW).setCell (Nat.le_refl _) _⟩
  clear hg ha
  go_enter Tryz.func21, Tryz.ntmps21
  go_wp2_with fail
  refine HA.out.mono ?_
  rintro e w1 ⟨rfl, hb1⟩
  go_wp2_with fail
  go_ret
  exact ⟨rfl, hb1⟩

set_option maxRecDepth 20000 in
set_option maxHeartbeats 1000000 in
theorem innerPair_no (n m : Nat) (S : Nat → Prop) (a : K n) (b : K m) (x0 z0 : Int) (xa ya za ua : Option Addr) (xl xc yl yc zl zc ul uc : Nat) (w : World) (ha : KindIn S w n a (.int .i64 x0) (.slice xa xl xc) (.slice ya yl yc)) (hb : KindIn S w m b (.int .i64 z0) (.slice za zl zc) (.slice ua ul uc)) (hB : ∀ b, S b → b < w.heap.size) (hno : (okK n a && okK m b) = false) :
    Calls Tryz.prog 18 #[.agg #[.int .i64 x0, .slice xa xl xc, .slice ya yl yc], .agg #[.int .i64 z0, .slice za zl zc, .slice ua ul uc]] w fun e w' => Below w.heap.size w w' ∧ ∃ pa pb, e = .returned (.tuple #[.agg #[.pointer pa, .pointer pb, .string ⟨#[]⟩], .bool false]) := by
  obtain ⟨W1, hW1⟩ : ∃ W1, W1 = ((w.alloc (.cells #[.int .i64 x0, .slice xa xl xc, .slice ya yl yc] 26)).alloc (.cells #[.int .i64 z0, .slice za zl zc, .slice ua ul uc] 26)).alloc (.cells #[.pointer none, .pointer none, .string ⟨#[]⟩] 43) := ⟨_, rfl⟩
  have hb1 : Below w.heap.size w W1 := by rw [hW1]; exact (((Below.refl _ _).alloc (Nat.le_refl _) _).alloc (by simp) _).alloc (by simp; omega) _
  have hz1 : W1.heap.size = w.heap.size + 3 := by rw [hW1]; simp
  have kA : W1.heap[w.heap.size + 1]? = some (.cells #[.int .i64 z0, .slice za zl zc, .slice ua ul uc] 26 (0, 0)) := by
    rw [hW1, Below.heap_alloc _ _ _ (by simp)]
    have := heap_alloc_new (w.alloc (.cells #[.int .i64 x0, .slice xa xl xc, .slice ya yl yc] 26)) (.cells #[.int .i64 z0, .slice za zl zc, .slice ua ul uc] 26)
    simpa using this
  have kZ : W1.heap[w.heap.size + 2]? = some (.cells #[.pointer none, .pointer none, .string ⟨#[]⟩] 43 (0, 0)) := by
    have := heap_alloc_new ((w.alloc (.cells #[.int .i64 x0, .slice xa xl xc, .slice ya yl yc] 26)).alloc (.cells #[.int .i64 z0, .slice za zl zc, .slice ua ul uc] 26)) (.cells #[.pointer none, .pointer none, .string ⟨#[]⟩] 43)
    rw [hW1]; simpa using this
  obtain ⟨ha1, hB1⟩ := ha.step hB hb1
  obtain ⟨hb1', -⟩ := hb.step hB hb1
  have face : ∀ (k : Nat) (t : K k) (c0 c1 c2 : Value) (W : World), KindIn S W k t c0 c1 c2 → (∀ b, S b → b < W.heap.size) → Calls Tryz.prog 33 #[.agg #[c0, c1, c2]] W fun e w' => Below W.heap.size W w' ∧ ∃ pa, e = .returned (.tuple #[.pointer pa, .bool (okK k t)]) := fun k t c0 c1 c2 W ht hBt => (innerKind_any k S t _ _ _ W ht hBt).mono fun e w' h => by
    obtain ⟨h1, ⟨h3, v, rfl, hin⟩ | ⟨h2, rfl⟩⟩ := h
    · obtain ⟨p, rfl, -⟩ := id hin.ptr
      exact ⟨h1, _, by rw [h3]⟩
    · exact ⟨h1, _, by rw [h2]⟩
  have HA : Hid (Calls Tryz.prog 33 #[.agg #[.int .i64 x0, .slice xa xl xc, .slice ya yl yc]] W1 _) := face n a _ _ _ W1 ha1 hB1
  have HBk : Hid (∀ W, Below W1.heap.size W1 W → Calls Tryz.prog 33 #[.agg #[.int .i64 z0, .slice za zl zc, .slice ua ul uc]] W fun e w' => Below W.heap.size W w' ∧ ∃ pa, e = .returned (.tuple #[.pointer pa, .bool (okK m b)])) := fun W hW => by
    obtain ⟨hb2, hB2⟩ := hb1'.step hB1 hW
    exact face m b _ _ _ W hb2 hB2
  have HB1 : Hid (Below w.heap.size w W1) := hb1
  clear ha hb ha1 hb1' hb1 hB1 face
  generalize okK n a = oa at *
  generalize okK m b = ob at *
  go_enter Tryz.func18, Tryz.ntmps18
  go_wp2_with fail
  rw [← hW1]
  clear hW1
  refine HA.out.mono ?_
  rintro e w2 ⟨hb2, pa, rfl⟩
  have HA2 : Hid (Below W1.heap.size W1 w2) := hb2
  have kA2 := (hb2.block (w.heap.size + 1) (by omega)).trans kA
  have q0 : w2.cell? ⟨w.heap.size + 1, 0, none⟩ = some (.int .i64 z0) := by simp [World.cell?, kA2]
  have q1 : w2.cell? ⟨w.heap.size + 1, 1, none⟩ = some (.slice za zl zc) := by simp [World.cell?, kA2]
  have q2 : w2.cell? ⟨w.heap.size + 1, 2, none⟩ = some (.slice ua ul uc) := by simp [World.cell?, kA2]
  have HB2 : Hid (Calls Tryz.prog 33 _ w2 _) := HBk.out w2 hb2
  clear hb2 kA2 HA
  go_wp2_with fail
  refine HB2.out.mono ?_
  rintro e w3 ⟨hb3, pb, rfl⟩
  have hbW := HA2.out
  have kZ3 := (hb3.block (w.heap.size + 2) (by have := hbW.size; omega)).trans ((hbW.block (w.heap.size + 2) (by omega)).trans kZ)
  have z0' : w3.cell? ⟨w.heap.size + 1 + 1, 0, none⟩ = some (.pointer none) := by simp [World.cell?, kZ3]
  have z1' : w3.cell? ⟨w.heap.size + 1 + 1, 1, none⟩ = some (.pointer none) := by simp [World.cell?, kZ3]
  have z2' : w3.cell? ⟨w.heap.size + 1 + 1, 2, none⟩ = some (.string ⟨#[]⟩) := by simp [World.cell?, kZ3]
  have f0' : w3.frozen? ⟨w.heap.size + 1 + 1, 0, none⟩ = false := by simp [World.frozen?, kZ3]
  have f1' : w3.frozen? ⟨w.heap.size + 1 + 1, 1, none⟩ = false := by simp [World.frozen?, kZ3]
  have f2' : w3.frozen? ⟨w.heap.size + 1 + 1, 2, none⟩ = false := by simp [World.frozen?, kZ3]
  have HEnd : Hid (Below w.heap.size w (put3 w3 (w.heap.size + 1 + 1) 0 (.pointer pa) (.pointer pb) (.string ⟨#[]⟩))) := by
    have h3 : Below w.heap.size w w3 := (HB1.out.trans (hbW.mono (by omega))).trans (hb3.mono (by have := hbW.size; omega))
    exact ((h3.setCell (by show _ ≤ w.heap.size + 1 + 1; omega) _).setCell (by show _ ≤ w.heap.size + 1 + 1; omega) _).setCell (by show _ ≤ w.heap.size + 1 + 1; omega) _
  clear q0 q1 q2 kZ3 HB2 hb3 hbW
  cases oa
  case' true =>
    cases ob
    case' true => cases hno
  all_goals
    go_wp2_with fail
    refine bodyPost_ret (v := .tuple #[.agg #[.pointer pa, .pointer pb, .string ⟨#[]⟩], .bool false]) (by simp [results, Tryz.results18, go_sem, z0', z1', z2']) rfl ?_
    exact ⟨HEnd.out, pa, pb, rfl⟩

set_option maxRecDepth 20000 in
set_option maxHeartbeats 2000000 in
theorem implKFits_bad (n m : Nat) (S : Nat → Prop) (a : K n) (b : K m) (a0 a1 a2 b0 b1 b2 : Value) (w : World) (ha : KindIn S w n a a0 a1 a2) (hb : KindIn S w m b b0 b1 b2) (hB : ∀ b, S b → b < w.heap.size) (hno : (okK n a && okK m b) = false) :
    Calls Tryz.prog 8 #[.agg #[a0, a1, a2], .agg #[b0, b1, b2]] w fun e w' => e = .returned (.bool false) ∧ Below w.heap.size w w' := by
  obtain ⟨x0, xa, xl, xc, ya, yl, yc, rfl, rfl, rfl⟩ := ha.shape
  obtain ⟨z0, za, zl, zc, ua, ul, uc, rfl, rfl, rfl⟩ := hb.shape
  have hb1 : Below w.heap.size w ((w.alloc (.cells #[.int .i64 x0, .slice xa xl xc, .slice ya yl yc] 26)).alloc (.cells #[.int .i64 z0, .slice za zl zc, .slice ua ul uc] 26)) := ((Below.refl _ _).alloc (Nat.le_refl _) _).alloc (by simp) _
  obtain ⟨ha1, hB1⟩ := ha.step hB hb1
  obtain ⟨hb1', -⟩ := hb.step hB hb1
  have HP : Hid (Calls Tryz.prog 18 _ _ _) := innerPair_no n m S a b x0 z0 xa ya za ua xl xc yl yc zl zc ul uc _ ha1 hb1' hB1 hno
  have HB1 : Hid (Below w.heap.size w _) := hb1
  clear ha hb ha1 hb1' hb1 hno
  go_enter Tryz.func8, Tryz.ntmps8
  go_wp2_with fail
  refine HP.out.mono ?_
  rintro e w2 ⟨hb2, pa, pb, rfl⟩
  have HB2 : Hid (Below w.heap.size w w2) := below_step HB1.out HB1.out.size hb2
  clear hb2 HP
  go_wp2_with fail
  go_ret
  exact ⟨rfl, below_alloc HB2.out _⟩

set_option maxRecDepth 20000 in
set_option maxHeartbeats 2000000 in
theorem implKFits_mis (n m : Nat) (S : Nat → Prop) (a : K n) (b : K m) (a0 a1 a2 b0 b1 b2 : Value) (w : World) (ha : KindIn S w n a a0 a1 a2) (hb : KindIn S w m b b0 b1 b2) (hB : ∀ b, S b → b < w.heap.size) (hoa : okK n a = true) (hob : okK m b = true) (hf : fitsK m b n a = false) (hg : HandleIn w) :
    Calls Tryz.prog 8 #[.agg #[a0, a1, a2], .agg #[b0, b1, b2]] w fun e w' => e = .returned (.bool false) ∧ Below w.heap.size w w' := by
  obtain ⟨x0, xa, xl, xc, ya, yl, yc, rfl, rfl, rfl⟩ := ha.shape
  obtain ⟨z0, za, zl, zc, ua, ul, uc, rfl, rfl, rfl⟩ := hb.shape
  have hb1 : Below w.heap.size w ((w.alloc (.cells #[.int .i64 x0, .slice xa xl xc, .slice ya yl yc] 26)).alloc (.cells #[.int .i64 z0, .slice za zl zc, .slice ua ul uc] 26)) := ((Below.refl _ _).alloc (Nat.le_refl _) _).alloc (by simp) _
  obtain ⟨ha1, hB1⟩ := ha.step hB hb1
  obtain ⟨hb1', -⟩ := hb.step hB hb1
  have HP : Hid (Calls Tryz.prog 18 _ _ _) := innerPair_yes n m S a b x0 z0 xa ya za ua xl xc yl yc zl zc ul uc _ ha1 hb1' hB1 hoa hob
  have HG : Hid (goodK n a 1 = true ∧ goodK m b 1 = true ∧ cntK m b ≤ 40) := ⟨(okK_get hoa).1, (okK_get hob).1, (okK_get hob).2⟩
  have HF : Hid (fitsK m b n a = false) := hf
  have HG0 : Hid (HandleIn w) := hg
  have HB1 : Hid (Below w.heap.size w _) := hb1
  clear ha hb ha1 hb1' hb1 hoa hob hf hg
  go_enter Tryz.func8, Tryz.ntmps8
  go_wp2_with fail
  refine HP.out.mono ?_
  rintro e w2 ⟨hb2, pa, pb, rfl, hia, hib⟩
  have HB2 : Hid (Below w.heap.size w w2) := below_step HB1.out HB1.out.size hb2
  obtain ⟨W3, hW3⟩ : ∃ W3, W3 = w2.alloc (.cells #[.pointer (some ⟨pa, 0, none⟩), .pointer (some ⟨pb, 0, none⟩), .string ⟨#[]⟩] 43) := ⟨_, rfl⟩
  have hb3 : Below w2.heap.size w2 W3 := by rw [hW3]; exact (Below.refl _ _).alloc (Nat.le_refl _) _
  have hk3 : W3.heap[w2.heap.size]? = some (.cells #[.pointer (some ⟨pa, 0, none⟩), .pointer (some ⟨pb, 0, none⟩), .string ⟨#[]⟩] 43 (0, 0)) := by rw [hW3]; exact heap_alloc_new _ _
  have hz3 : W3.heap.size = w2.heap.size + 1 := by rw [hW3]; simp
  have HB3 : Hid (Below w.heap.size w W3) := below_step HB2.out HB2.out.size hb3
  have HNW : Hid (Calls Tryz.prog 23 #[] W3.drew fun e w' => e = .returned (.pointer (some ⟨W3.heap.size, 0, none⟩)) ∧ Below W3.heap.size W3 w' ∧ TabW w' W3.heap.size ∧ W3.heap.size < w'.heap.size) := (newWidenings_any W3.drew).mono fun e w' h => ⟨h.1, ((Below.refl W3.heap.size W3).drew).trans h.2.1, h.2.2.1, h.2.2.2⟩
  have HOf : Hid (∀ W, Below W3.heap.size W3 W → TabW W W3.heap.size → W3.heap.size < W.heap.size → Calls Tryz.prog 24 #[.pointer (some ⟨W3.heap.size, 0, none⟩), .agg #[.pointer (some ⟨pa, 0, none⟩), .pointer (some ⟨pb, 0, none⟩), .string ⟨#[]⟩]] W fun e w' => Below w.heap.size w w' ∧ ∃ z : ByteArray, e = .returned (.tuple #[.nilFunc, .iface 87 (.agg #[.string z])])) := fun W hW hT hl => by
    have hw2 : Below w2.heap.size w2 W := hb3.trans (hW.mono (by omega))
    refine (fit_any m (fun b => b < w2.heap.size) n a b _ _ 1 1 W3.heap.size ⟨#[]⟩ W (hia.keep (same_below hw2 (fun _ h => h)) (fun _ h => h)) (hib.keep (same_below hw2 (fun _ h => h)) (fun _ h => h)) (fun b hb => Nat.lt_of_lt_of_le hb hw2.size) hT hl HG.out.1 HG.out.2.1 HG.out.2.2 (by omega) (by show ((0 : Nat) : Int) ≤ 20 * 1; omega)).mono fun e w' h => ?_
    refine ⟨below_step (below_step HB2.out HB2.out.size hw2) (by have := HB2.out.size; have := hw2.size; omega) h.1, ?_⟩
    rcases h.2 with ⟨h2, -⟩ | ⟨-, h2⟩
    · rw [HF.out] at h2; cases h2
    · exact h2
  have c0 : W3.cell? ⟨w2.heap.size, 0, none⟩ = some (.pointer (some ⟨pa, 0, none⟩)) := by simp [World.cell?, hk3]
  have c1 : W3.cell? ⟨w2.heap.size, 1, none⟩ = some (.pointer (some ⟨pb, 0, none⟩)) := by simp [World.cell?, hk3]
  have c2 : W3.cell? ⟨w2.heap.size, 2, none⟩ = some (.string ⟨#[]⟩) := by simp [World.cell?, hk3]
  have HK : Hid (∀ W, Below W3.heap.size W3 W → W.cell? ⟨w2.heap.size, 0, none⟩ = some (.pointer (some ⟨pa, 0, none⟩)) ∧ W.cell? ⟨w2.heap.size, 1, none⟩ = some (.pointer (some ⟨pb, 0, none⟩)) ∧ W.cell? ⟨w2.heap.size, 2, none⟩ = some (.string ⟨#[]⟩)) := fun W hW => pair_kept ⟨c0, c1, c2⟩ hW
  clear hia hib hb2 hk3 HP hb3 hz3
  go_upto_region 4 with fail
  rw [← hW3]
  clear hW3
  go_region_law (first
    | (go_simp; go_at_call 23; refine HNW.out.mono ?_; rintro e w5 ⟨rfl, hb5, hT5, hl5⟩; obtain ⟨k0, k1, k2⟩ := HK.out w5 hb5)
    | (go_simp; go_at_call 24; refine (HOf.out w5 hb5 hT5 hl5).mono ?_; rintro e w6 ⟨hb6, z, rfl⟩))
  all_goals
    have HM : Hid (Calls Tryz.prog 21 #[.iface 87 (.agg #[.string z])] w6 _) := isMisfit_yes z w6 (HG0.out.step hb6)
    go_wp2_with fail
    refine HM.out.mono ?_
    rintro e w7 ⟨rfl, hb7⟩
    go_wp2_with fail
    go_ret
    exact ⟨rfl, below_step hb6 hb6.size hb7⟩

theorem implKFits_any (n m : Nat) (S : Nat → Prop) (a : K n) (b : K m) (a0 a1 a2 b0 b1 b2 : Value) (w : World) (ha : KindIn S w n a a0 a1 a2) (hb : KindIn S w m b b0 b1 b2) (hB : ∀ b, S b → b < w.heap.size) (hg : HandleIn w) :
    Calls Tryz.prog 8 #[.agg #[a0, a1, a2], .agg #[b0, b1, b2]] w fun e w' => e = .returned (.bool (fitsF n a m b)) ∧ Below w.heap.size w w' := by
  cases hok : okK n a && okK m b
  · have hF : fitsF n a m b = false := by unfold fitsF; rw [hok]; rfl
    rw [hF]
    exact implKFits_bad n m S a b _ _ _ _ _ _ w ha hb hB hok
  · have hok2 : okK n a = true ∧ okK m b = true := by simpa using hok
    have hF : fitsF n a m b = fitsK m b n a := by unfold fitsF; rw [hok]; rfl
    rw [hF]
    cases hf : fitsK m b n a
    · exact implKFits_mis n m S a b _ _ _ _ _ _ w ha hb hB hok2.1 hok2.2 hf hg
    · exact implKFits_yes n m S a b _ _ _ _ _ _ w ha hb hB hok2.1 hok2.2 hf

end Go.Proofs.YthcdeahobjhkbaaGreatDoor
