/-
  The law of EventUnpack, walked.
-/
import Derived.Test.YtpnnbdejneoccaaEC12
import Derived.Test.YtpnnbdejneoccaaEL1
import Derived.Test.YtpnnbdejneoccaaB16
import Derived.Test.YtpnnbdejneoccaaER7
namespace Go.Proofs.Ytpnnbdejneoccaa
open Go.RowKit

/-- Two answers of one row of bytes are one. -/
theorem eunp_one {m : Nat} {l : List UInt8} {ok ok' : Bool} {x x' : ByteArray} {v v' : Int} {t t' : T (m + 1)} (h : EUnp m l ok x v t) (h' : EUnp m l ok' x' v' t') : ok' = ok ∧ x' = x ∧ v' = v ∧ t' = t := by
  rcases h with ⟨e1, e2, e3⟩ | ⟨e1, e2, e3, e4, e5⟩ <;> rcases h' with ⟨f1, f2, f3⟩ | ⟨f1, f2, f3, f4, f5⟩
  · obtain ⟨a1, -, a3, a4⟩ := packE_took e2 e3
    obtain ⟨b1, -, b3, b4⟩ := packE_took f2 f3
    rw [a1] at b1
    injection b1 with b1
    have c1 := congrArg Prod.fst b1
    have c2 := congrArg Prod.snd b1
    simp only [] at c1 c2
    injection c2 with c2 c3
    rw [c3, b4] at a4
    injection a4 with a4
    refine ⟨f1.trans e1.symm, c1.symm, ?_, congrArg Prod.fst a4⟩
    rw [← a3, ← b3, c2]
  · exact absurd e3 (f5 x v t e2)
  · exact absurd f3 (e5 x' v' t' f2)
  · exact ⟨f1.trans e1.symm, f2.trans e2.symm, f3.trans e3.symm, f4.trans e4.symm⟩

/-- What the law holds from the first answer on: what is asked for, what was answered. -/
structure SitE (n : Nat) (x : ByteArray) (v : Int) (t : T n) (P : Nat → Prop) (A G : Nat) (p0 p1 p2 p3 p4 g0 g1 g2 g3 g4 : Value) (w u : World) : Prop where
  below : Below w.heap.size w u
  ansBox : Box7 u A (.string x) (.int .i64 v) p0 p1 p2 p3 p4
  ans : TreeIn P u n t p0 p1 p2 p3 p4
  ansB : ∀ b, P b → b < A
  gotBox : Box7 u G (.string x) (.int .i64 v) g0 g1 g2 g3 g4
  ag : A < G
  gu : G < u.heap.size

theorem SitE.step {n : Nat} {x : ByteArray} {v : Int} {t : T n} {P : Nat → Prop} {A G : Nat} {p0 p1 p2 p3 p4 g0 g1 g2 g3 g4 : Value} {w u u' : World} (h : SitE n x v t P A G p0 p1 p2 p3 p4 g0 g1 g2 g3 g4 w u) {Z : Nat → Prop} (hb : Below w.heap.size w u') (hz : u.heap.size ≤ u'.heap.size)
    (hs : ∀ b : Nat, b < u.heap.size → ¬ Z b → u'.heap[b]? = u.heap[b]?) (hZ : ∀ b, Z b → A < b ∧ b ≠ G) : SitE n x v t P A G p0 p1 p2 p3 p4 g0 g1 g2 g3 g4 w u' := by
  have ag := h.ag
  have gu := h.gu
  have q : ∀ b, b ≤ A → u'.heap[b]? = u.heap[b]? := fun b hb => hs b (by omega) (fun hz => by have := hZ b hz; omega)
  exact ⟨hb, h.ansBox.eqe (q A (Nat.le_refl _)), h.ans.keep (fun b hb => q b (by have := h.ansB b hb; omega)) (fun _ h => h), h.ansB,
    h.gotBox.eqe (hs G gu (fun hz => (hZ G hz).2 rfl)), ag, by omega⟩

theorem SitE.keep {n : Nat} {x : ByteArray} {v : Int} {t : T n} {P : Nat → Prop} {A G : Nat} {p0 p1 p2 p3 p4 g0 g1 g2 g3 g4 : Value} {w u u' : World} (h : SitE n x v t P A G p0 p1 p2 p3 p4 g0 g1 g2 g3 g4 w u) (hb : Below u.heap.size u u') :
    SitE n x v t P A G p0 p1 p2 p3 p4 g0 g1 g2 g3 g4 w u' := h.step (Z := fun _ => False) (below_step h.below h.below.size hb) hb.size (fun b hb' _ => hb.block b hb') (fun _ h => h.elim)

set_option maxRecDepth 20000 in
set_option maxHeartbeats 4000000 in
theorem lawEUnp_of (m : Nat) (hT : TrCSaid (m + 1)) (hm : 6 ≤ m) (l : List UInt8) (hL : l.length ≤ m + 1) (ao : Option Addr) (cap : Nat) (w : World) (h : BytesA (fun b => b < w.heap.size) w ao l cap) (hl : l.length ≤ 1048576) :
    Calls Try.prog 4 #[.slice ao l.length cap] w fun e w' => e = .returned (.bool true) ∧ Below w.heap.size w w' := by
  have HCp : Hid (∀ W, Below w.heap.size w W → Calls Try.prog 15 #[.slice ao l.length cap] W fun e w' => e = .returned (.slice (some ⟨W.heap.size, 0, none⟩) l.length l.length) ∧ OwnB W.heap.size w' (.slice (some ⟨W.heap.size, 0, none⟩) l.length l.length) l ∧ Below W.heap.size W w') := fun W hW => toByteS_any l ao cap W (h.step hW) hl
  have HSp : Hid (∀ (W : World) (a : Option Addr) (c : Nat), BytesA (fun b => b < W.heap.size) W a l c → Calls Try.prog 14 #[.slice a l.length c] W (EUPost m l W)) := fun W a c hW => specEUnpack_any m hm l a c W hW
  have HIm : Hid (∀ (W : World) (a : Option Addr) (c : Nat), BytesA (fun b => b < W.heap.size) W a l c → Calls Try.prog 16 #[.slice a l.length c] W (EUPostI m l W)) := fun W a c hW => implEUnpack_of m hT l hL a c W hW
  have HMx : Hid (l.length ≤ maxLen) := by show _ ≤ _; unfold maxLen; omega
  obtain ⟨ln, hln⟩ : ∃ ln, l.length = ln := ⟨_, rfl⟩
  have HLn := Lib.hid hln
  rw [hln] at HCp HSp HIm hl
  rw [hln]
  have hlen : ¬ (1048576 : Int) < (ln : Int) := by omega
  clear hT h hln hL
  go_enter Try.func4, Try.ntmps4
  go_wp2_with fail
  refine (HCp.out w (Below.refl _ _)).mono ?_
  rintro e w1 ⟨rfl, hO1, hb1⟩
  have HC2 : Hid (Calls Try.prog 14 #[.slice (some ⟨w.heap.size, 0, none⟩) ln ln] w1 (EUPost m l w1)) := HSp.out w1 _ _ (by rw [← HLn.out] at hO1; have := hO1.given; rw [HLn.out] at this; exact this)
  have HB1 := Lib.hid hb1
  have hz1 := hb1.size
  clear hO1 hb1
  go_wp2_with fail
  refine HC2.out.mono ?_
  rintro e w2 ⟨hb2, ok, x, v, t, p0, p1, p2, p3, p4, rfl, hP2, hU2⟩
  obtain ⟨s0, s1, s2, sa, sl, sc, ra, rl, rc, rfl, rfl, rfl, rfl, rfl⟩ := hP2.shape
  have hz2 := hb2.size
  obtain ⟨WA, hWA⟩ : ∃ WA, WA = w2.alloc (.cells #[.string x, .int .i64 v, .int .i64 s0, .int .i64 s1, .string s2, .slice sa sl sc, .slice ra rl rc] 35) := ⟨_, rfl⟩
  have hbA : Below w2.heap.size w2 WA := by rw [hWA]; exact (Below.refl _ _).alloc (Nat.le_refl _) _
  have hzA0 : WA.heap.size = w2.heap.size + 1 := by rw [hWA]; simp
  have hzA : w2.heap.size + 1 ≤ WA.heap.size := by omega
  have hzA' : WA.heap.size ≤ w2.heap.size + 1 := by omega
  clear hzA0
  have hA : Box7 WA w2.heap.size (.string x) (.int .i64 v) (.int .i64 s0) (.int .i64 s1) (.string s2) (.slice sa sl sc) (.slice ra rl rc) := by rw [hWA]; exact Box7.new _ _ _ _ _ _ _ _ _
  have hbwA := below_step (below_step HB1.out HB1.out.size hb2) (by omega) hbA
  have hPA : TreeIn (fun b => w.heap.size ≤ b ∧ b < w2.heap.size) WA (m + 1) t (.int .i64 s0) (.int .i64 s1) (.string s2) (.slice sa sl sc) (.slice ra rl rc) := hP2.keep (fun b hb => hbA.block b hb.2) (fun b hb => ⟨by omega, hb.2⟩)
  have HA : Hid (_ ∧ _ ∧ _) := ⟨hbwA, hA, hPA⟩
  have HU := Lib.hid hU2
  clear HC2 HSp hb2 hP2 hU2 hbA hA hbwA hPA HB1
  go_upto_region 4 with fail
  rw [← hWA]
  clear hWA
  go_wp2_with fail
  refine (HCp.out WA HA.out.1).mono ?_
  rintro e w3 ⟨rfl, hO3, hb3⟩
  have hz3 : WA.heap.size < w3.heap.size := (r1_lt hO3 WA.heap.size rfl).2
  have HC4 : Hid (Calls Try.prog 16 #[.slice (some ⟨WA.heap.size, 0, none⟩) ln ln] w3 (EUPostI m l w3)) := HIm.out w3 _ _ (by rw [← HLn.out] at hO3; have := hO3.given; rw [HLn.out] at this; exact this)
  have HO3 := Lib.hid hO3
  have HB3 := Lib.hid hb3
  clear hO3 hb3
  go_wp2_with fail
  refine HC4.out.mono ?_
  rintro e w4 ⟨hb4, ok', x', v', t', g0, g1, g2, g3, g4, rfl, hG4, hW4, hU4⟩
  obtain ⟨rfl, rfl, rfl, rfl⟩ := eunp_one HU.out hU4
  have HU0 := Lib.hid hU4
  obtain ⟨u0, u1, u2, ua, ul, uc, qa, ql, qc, rfl, rfl, rfl, rfl, rfl⟩ := hG4.shape
  obtain ⟨L3, L4, hN4, hR4, hOw, hll⟩ := hW4
  have hz4 := hb4.size
  obtain ⟨w5, hw5⟩ : ∃ w5, w5 = w4.alloc (.cells #[.string x', .int .i64 v', .int .i64 u0, .int .i64 u1, .string u2, .slice ua ul uc, .slice qa ql qc] 35) := ⟨_, rfl⟩
  have hb5 : Below w4.heap.size w4 w5 := by rw [hw5]; exact (Below.refl _ _).alloc (Nat.le_refl _) _
  have hz50 : w5.heap.size = w4.heap.size + 1 := by rw [hw5]; simp
  have hz5 : w4.heap.size + 1 ≤ w5.heap.size := by omega
  clear hz50
  have hg5 : Box7 w5 w4.heap.size (.string x') (.int .i64 v') (.int .i64 u0) (.int .i64 u1) (.string u2) (.slice ua ul uc) (.slice qa ql qc) := by rw [hw5]; exact Box7.new _ _ _ _ _ _ _ _ _
  have hbA5 : Below WA.heap.size WA w5 := below_step (below_step HB3.out (Nat.le_of_lt hz3) hb4) (by omega) hb5
  have sit5 : SitE (m + 1) x' v' t' (fun b => w.heap.size ≤ b ∧ b < w2.heap.size) w2.heap.size w4.heap.size (.int .i64 s0) (.int .i64 s1) (.string s2) (.slice sa sl sc) (.slice ra rl rc) (.int .i64 u0) (.int .i64 u1) (.string u2) (.slice ua ul uc) (.slice qa ql qc) w w5 := ⟨below_step HA.out.1 HA.out.1.size hbA5, HA.out.2.1.keep hbA5, HA.out.2.2.keep (fun b hb => hbA5.block b (by omega)) (fun _ h => h), fun b hb => hb.2, hg5, by omega, by omega⟩
  have hG5 := (hG4.step (fun b hb => hb.2) hb5).1
  have HO5 : Hid (OwnB WA.heap.size w5 (.slice (some ⟨WA.heap.size, 0, none⟩) ln ln) l) := by
    refine OwnB.keep HO3.out (fun b h1 h2 => ?_)
    exact (hb5.block b (by omega)).trans (hb4.block b h2)
  have HG5 : Hid (TreeIn (fun b => w3.heap.size ≤ b ∧ b < w4.heap.size) w5 (m + 1) t' (.int .i64 u0) (.int .i64 u1) (.string u2) (.slice ua ul uc) (.slice qa ql qc) ∧ SpN w5 (.slice ua ul uc) L3 ∧ SpR w5 (m + 1 - 1) (.slice qa ql qc) L4) := ⟨hG5, hN4.below hb5, hR4.below hb5⟩
  have HOw : Hid (Own (fun b => w3.heap.size ≤ b ∧ b < w4.heap.size) (L3 ++ L4) ∧ (L3 ++ L4).length ≤ 1000) := ⟨hOw, hll⟩
  have HE1 := Lib.hid (eqEvent_same (m + 1) _ _ x' v' t' _ _ _ _ _ _ _ _ _ _ w5 hG5 sit5.ans (fun b hb => by omega) (fun b hb => by omega))
  have HS5 := Lib.hid sit5
  obtain ⟨a0, a1, a2, a3, a4, a5, a6⟩ := id sit5.ansBox
  obtain ⟨b0, b1, b2, b3, b4, b5, b6⟩ := id hg5
  have hbne : (ok' != ok') = false := by simp
  have HW5 : Hid (w4.alloc (.cells #[.string x', .int .i64 v', .int .i64 u0, .int .i64 u1, .string u2, .slice ua ul uc, .slice qa ql qc] 35) = w5) := hw5.symm
  clear HC4 HU hU4 hb4 hG4 hN4 hR4 hOw hll hb5 hg5 hbA5 sit5 hG5 HO3 HB3 HA hw5
  go_upto_region 6 with fail
  rw [HW5.out]
  clear HW5
  go_wp2_with fail
  refine HE1.out.mono ?_
  rintro e w6 ⟨rfl, hb6⟩
  have hz6 := hb6.size
  have HS6 := Lib.hid (HS5.out.keep hb6)
  have HO6 : Hid (OwnB WA.heap.size w6 (.slice (some ⟨WA.heap.size, 0, none⟩) ln ln) l) := OwnB.keep HO5.out (fun b _ h2 => hb6.block b h2)
  have HG6 : Hid (TreeIn (fun b => w3.heap.size ≤ b ∧ b < w4.heap.size) w6 (m + 1) t' (.int .i64 u0) (.int .i64 u1) (.string u2) (.slice ua ul uc) (.slice qa ql qc) ∧ SpN w6 (.slice ua ul uc) L3 ∧ SpR w6 (m + 1 - 1) (.slice qa ql qc) L4) := ⟨HG5.out.1.keep (fun b hb => hb6.block b (by omega)) (fun _ h => h), HG5.out.2.1.below hb6, HG5.out.2.2.below hb6⟩
  clear HE1 a0 a1 a2 a3 a4 a5 a6 b0 b1 b2 b3 b4 b5 b6 HS5 HO5 HG5 hb6
  -- the copy is as the argument
  go_wp2_with fail
  refine (HCp.out w6 HS6.out.below).mono ?_
  rintro e w7 ⟨rfl, hO7, hb7⟩
  have hz7 := hb7.size
  have hO7' : OwnB WA.heap.size w7 (.slice (some ⟨WA.heap.size, 0, none⟩) ln ln) l := OwnB.keep HO6.out (fun b _ h2 => hb7.block b h2)
  have hE8 := eqByteS_same _ _ l _ _ w7 (OwnB.row hO7' HMx.out) (OwnB.row hO7 HMx.out) (by rw [HLn.out]; exact hl)
  have HE8 := Lib.hid hE8
  have HS7 := Lib.hid (HS6.out.keep hb7)
  have HO7 := Lib.hid hO7'
  have HG7 : Hid (TreeIn (fun b => w3.heap.size ≤ b ∧ b < w4.heap.size) w7 (m + 1) t' (.int .i64 u0) (.int .i64 u1) (.string u2) (.slice ua ul uc) (.slice qa ql qc) ∧ SpN w7 (.slice ua ul uc) L3 ∧ SpR w7 (m + 1 - 1) (.slice qa ql qc) L4) := ⟨HG6.out.1.keep (fun b hb => hb7.block b (by omega)) (fun _ h => h), HG6.out.2.1.below hb7, HG6.out.2.2.below hb7⟩
  clear hO7 hb7 hO7' hE8 HS6 HO6 HG6
  go_wp2_with fail
  refine HE8.out.mono ?_
  rintro e w8 ⟨rfl, hb8⟩
  have hz8 := hb8.size
  have hS8 := HS7.out.keep hb8
  have hO8 : OwnB WA.heap.size w8 (.slice (some ⟨WA.heap.size, 0, none⟩) ln ln) l := OwnB.keep HO7.out (fun b _ h2 => hb8.block b h2)
  have hM := markByteS_any WA.heap.size l _ 1 w8 hO8 (by omega) (by rw [HLn.out]; exact hl)
  rw [HLn.out] at hM
  have HM := Lib.hid hM
  have HS8 := Lib.hid hS8
  have HG8 : Hid (TreeIn (fun b => w3.heap.size ≤ b ∧ b < w4.heap.size) w8 (m + 1) t' (.int .i64 u0) (.int .i64 u1) (.string u2) (.slice ua ul uc) (.slice qa ql qc) ∧ SpN w8 (.slice ua ul uc) L3 ∧ SpR w8 (m + 1 - 1) (.slice qa ql qc) L4) := ⟨HG7.out.1.keep (fun b hb => hb8.block b (by omega)) (fun _ h => h), HG7.out.2.1.below hb8, HG7.out.2.2.below hb8⟩
  clear hb8 hS8 hO8 hM HE8 HS7 HO7 HG7
  -- marks in the copy
  go_wp2_with fail
  refine HM.out.mono ?_
  rintro e w9 ⟨rfl, -, hos9, hz9, ho9⟩
  have hs9 : ∀ b : Nat, b ≠ WA.heap.size → w9.heap[b]? = w8.heap[b]? := fun b hb => ho9 b (fun e => hb (by simpa [Value.ownBlock] using e.symm))
  have hB8 := HS8.out.below
  have hB9 : Below w.heap.size w w9 := ⟨hos9.1.trans hB8.os, hos9.2.1.trans hB8.tape, hos9.2.2.trans hB8.output, by have := hB8.size; omega, fun b hb => (hs9 b (by omega)).trans (hB8.block b hb)⟩
  have sit9 := HS8.out.step (u' := w9) (Z := fun b => b = WA.heap.size) hB9 hz9 (fun b _ hne => hs9 b hne) (fun b hb => by omega)
  have hG9 : TreeIn (fun b => w3.heap.size ≤ b ∧ b < w4.heap.size) w9 (m + 1) t' (.int .i64 u0) (.int .i64 u1) (.string u2) (.slice ua ul uc) (.slice qa ql qc) := HG8.out.1.keep (fun b hb => hs9 b (by omega)) (fun _ h => h)
  have hsp9 : ∀ s, s ∈ L3 ++ L4 → w9.heap[s.b]? = w8.heap[s.b]? := fun s hs => hs9 _ (by have := HOw.out.1.1 s hs; omega)
  have HG9 : Hid (SpN w9 (.slice ua ul uc) L3 ∧ SpR w9 (m + 1 - 1) (.slice qa ql qc) L4) := ⟨HG8.out.2.1.same (fun s hs => hsp9 s (List.mem_append_left _ hs)), HG8.out.2.2.same (fun s hs => hsp9 s (List.mem_append_right _ hs))⟩
  have HE10 := Lib.hid (eqEvent_same (m + 1) _ _ x' v' t' _ _ _ _ _ _ _ _ _ _ w9 hG9 sit9.ans (fun b hb => by omega) (fun b hb => by have := sit9.gu; omega))
  have HS9 := Lib.hid sit9
  obtain ⟨a0, a1, a2, a3, a4, a5, a6⟩ := id sit9.ansBox
  obtain ⟨b0, b1, b2, b3, b4, b5, b6⟩ := id sit9.gotBox
  have e9 : ¬ (1 : Int) + (ln : Int) < 0 := by omega
  have e9' : decide ((1 : Int) + (ln : Int) < 0) = false := decide_eq_false e9
  clear hos9 ho9 hs9 hB8 hB9 sit9 hG9 hsp9 HM HS8 HG8
  go_wp2_with fail
  refine HE10.out.mono ?_
  rintro e w10 ⟨rfl, hb10⟩
  have hz10 := hb10.size
  have s10 := HS9.out.keep hb10
  have hN10 := HG9.out.1.below hb10
  have hR10 := HG9.out.2.below hb10
  have hll := HOw.out.2
  rw [List.length_append] at hll
  have hok10 : ∀ s, s ∈ L3 ++ L4 → s.ok w10 := fun s hs => (List.mem_append.1 hs).elim (hN10.ok s) (hR10.ok s)
  have HM11 := Lib.hid (markEvent_any (m + 1 - 1) x' v' u0 u1 u2 ua qa ul uc ql qc L3 L4 1 w10 hN10 hR10 (by omega) (by omega))
  have HS10 := Lib.hid s10
  have H10 : Hid (SpN w10 (.slice ua ul uc) L3 ∧ SpR w10 (m + 1 - 1) (.slice qa ql qc) L4 ∧ ∀ s, s ∈ L3 ++ L4 → s.ok w10) := ⟨hN10, hR10, hok10⟩
  clear a0 a1 a2 a3 a4 a5 a6 b0 b1 b2 b3 b4 b5 b6
  obtain ⟨b0, b1, b2, b3, b4, b5, b6⟩ := id s10.gotBox
  clear s10 hN10 hR10 hok10 HS9 HG9 HE10 hb10
  -- marks in the answer
  go_wp2_with fail
  refine HM11.out.mono ?_
  rintro e w11 ⟨rfl, W10, hbW, hW11⟩
  have hzW := hbW.size
  have hz11 := hW11.size
  have hs11 : ∀ b : Nat, b < w10.heap.size → ¬ (w3.heap.size ≤ b ∧ b < w4.heap.size) → w11.heap[b]? = w10.heap[b]? := fun b hb hn => (hW11.other (by omega) (fun s hs e => hn (by rw [← e]; exact HOw.out.1.1 s hs))).trans (hbW.block b hb)
  have s11 := HS10.out.step (u' := w11) (Z := fun b => w3.heap.size ≤ b ∧ b < w4.heap.size) (Wrote.below_of (below_step HS10.out.below HS10.out.below.size hbW) (by have := HS10.out.below.size; omega) hW11 (fun s hs => by have := HOw.out.1.1 s hs; have := HS10.out.gu; omega)) (by omega) hs11 (fun b hb => by omega)
  have hokW : ∀ s, s ∈ L3 ++ L4 → s.ok W10 := fun s hs => Spot.ok_same (H10.out.2.2 s hs) (hbW.block _ (by have := HOw.out.1.1 s hs; have := HS10.out.gu; omega))
  have hh11 := hW11.holds hokW HOw.out.1.2
  have hsim := hW11.sim hokW
  have hN11 := (H10.out.1.below hbW).sim hsim
  have hR11 := SpR.sim hsim (H10.out.2.1.below hbW)
  have hok11 : ∀ s, s ∈ L3 ++ L4 → s.ok w11 := fun s hs => Spot.ok_sim (hokW s hs) hsim
  have HH12 := Lib.hid (heldEvent_any (m + 1 - 1) x' v' u0 u1 u2 ua qa ul uc ql qc L3 L4 1 w11 hN11 hR11 hh11 hok11 (by omega) (by omega))
  have HS11 := Lib.hid s11
  have H11 : Hid (SpN w11 (.slice ua ul uc) L3 ∧ SpR w11 (m + 1 - 1) (.slice qa ql qc) L4 ∧ Holds w11 (L3 ++ L4) 1 ∧ ∀ s, s ∈ L3 ++ L4 → s.ok w11) := ⟨hN11, hR11, hh11, hok11⟩
  clear b0 b1 b2 b3 b4 b5 b6
  obtain ⟨b0, b1, b2, b3, b4, b5, b6⟩ := id s11.gotBox
  clear s11 hh11 hsim hN11 hR11 hok11 hokW hs11 hW11 hbW HM11 HS10 H10
  have e13 : ¬ (1 : Int) + (L3.length : Int) + (L4.length : Int) < 0 := by omega
  have ne13 : ((1 : Int) + (L3.length : Int) + (L4.length : Int) != 1 + (L3.length : Int) + (L4.length : Int)) = false := by simp
  go_wp2_with fail
  refine HH12.out.mono ?_
  rintro e w12 ⟨rfl, hb12⟩
  have hz12 := hb12.size
  have HB12 := Lib.hid hb12
  have hbw12 := below_step HS11.out.below HS11.out.below.size hb12
  have HBw := Lib.hid hbw12
  clear HH12 b0 b1 b2 b3 b4 b5 b6 hb12 hbw12
  go_wp2_with fail
  refine (HCp.out w12 HBw.out).mono ?_
  rintro e w13 ⟨rfl, hO13, hb13⟩
  have hz13 := hb13.size
  have HC14 : Hid (Calls Try.prog 16 #[.slice (some ⟨w12.heap.size, 0, none⟩) ln ln] w13 (EUPostI m l w13)) := HIm.out w13 _ _ (by rw [← HLn.out] at hO13; have := hO13.given; rw [HLn.out] at this; exact this)
  have HB13 := Lib.hid (below_step HB12.out hz12 hb13)
  clear hO13 hb13 HB12 HBw
  go_wp2_with fail
  refine HC14.out.mono ?_
  rintro e w14 ⟨hb14, ok2, x2, v2, t2, h0, h1, h2, h3, h4, rfl, hH14, -, hU14⟩
  have HUU := Lib.hid hU14
  obtain ⟨c0, c1, c2, ea, el, ec, ja, jl, jc, rfl, rfl, rfl, rfl, rfl⟩ := hH14.shape
  have hz14 := hb14.size
  obtain ⟨w15, hw15⟩ : ∃ w15, w15 = w14.alloc (.cells #[.string x2, .int .i64 v2, .int .i64 c0, .int .i64 c1, .string c2, .slice ea el ec, .slice ja jl jc] 35) := ⟨_, rfl⟩
  have hb15 : Below w14.heap.size w14 w15 := by rw [hw15]; exact (Below.refl _ _).alloc (Nat.le_refl _) _
  have hz150 : w15.heap.size = w14.heap.size + 1 := by rw [hw15]; simp
  have hz15 : w14.heap.size + 1 ≤ w15.heap.size := by omega
  clear hz150
  have hx15 : Box7 w15 w14.heap.size (.string x2) (.int .i64 v2) (.int .i64 c0) (.int .i64 c1) (.string c2) (.slice ea el ec) (.slice ja jl jc) := by rw [hw15]; exact Box7.new _ _ _ _ _ _ _ _ _
  have hb1115 := below_step (below_step HB13.out (by omega) hb14) (by omega) hb15
  have s15 := HS11.out.keep hb1115
  have hH15 := (hH14.step (fun b hb => hb.2) hb15).1
  obtain ⟨rfl, rfl, rfl, rfl⟩ := eunp_one HUU.out HU0.out
  have HE16 := Lib.hid (eqEvent_same (m + 1) _ _ x' v' t' _ _ _ _ _ _ _ _ _ _ w15 hH15 s15.ans (fun b hb => by omega) (fun b hb => by have := s15.gu; omega))
  obtain ⟨a0, a1, a2, a3, a4, a5, a6⟩ := id s15.ansBox
  obtain ⟨k0, k1, k2, k3, k4, k5, k6⟩ := id hx15
  have HB15 := Lib.hid hb1115
  have HW15 : Hid (w14.alloc (.cells #[.string x', .int .i64 v', .int .i64 c0, .int .i64 c1, .string c2, .slice ea el ec, .slice ja jl jc] 35) = w15) := hw15.symm
  clear HC14 hb14 hH14 hU14 HUU hb15 hx15 hb1115 s15 hH15 HB13 hw15
  go_upto_region 23 with fail
  rw [HW15.out]
  clear HW15
  go_wp2_with fail
  refine HE16.out.mono ?_
  rintro e w16 ⟨rfl, hb16⟩
  have hb1116 := below_step HB15.out (by have := HB15.out.size; omega) hb16
  have s16 := HS11.out.keep hb1116
  have HH17 := Lib.hid (heldEvent_any (m + 1 - 1) x' v' u0 u1 u2 ua qa ul uc ql qc L3 L4 1 w16 (H11.out.1.below hb1116) (H11.out.2.1.below hb1116) (H11.out.2.2.1.below H11.out.2.2.2 hb1116) (fun s hs => Spot.ok_same (H11.out.2.2.2 s hs) (hb1116.block _ (by have := HOw.out.1.1 s hs; have := HS11.out.gu; omega))) (by omega) (by omega))
  have HBF := Lib.hid s16.below
  obtain ⟨b0, b1, b2, b3, b4, b5, b6⟩ := id s16.gotBox
  clear HE16 a0 a1 a2 a3 a4 a5 a6 k0 k1 k2 k3 k4 k5 k6 hb16 hb1116 s16 HB15 H11 HS11
  go_wp2_with fail
  refine HH17.out.mono ?_
  rintro e w17 ⟨rfl, hb17⟩
  have hfin := below_step HBF.out HBF.out.size hb17
  clear HH17 b0 b1 b2 b3 b4 b5 b6 hb17 HBF
  go_wp2_with fail
  go_ret
  exact ⟨rfl, hfin⟩

end Go.Proofs.Ytpnnbdejneoccaa
