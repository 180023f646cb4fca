/-
  The law of TreeRead, walked: what the two readers answer is given as hypotheses here.
-/
import Derived.Test.YtjnhklacadbpoaaGreatDoorB16
import Derived.Test.YtjnhklacadbpoaaGreatDoorTOut0
import Derived.Test.YtjnhklacadbpoaaGreatDoorB5
import Derived.Test.YtjnhklacadbpoaaGreatDoorB7
import Derived.Test.YtjnhklacadbpoaaGreatDoorB8
namespace Go.Proofs.YtjnhklacadbpoaaGreatDoor
open Go.RowKit

theorem Box5.eqb {w w' : World} {N : Nat} {a b c d e : Value} (h : Box5 w N a b c d e) (hb : w'.heap[N]? = w.heap[N]?) : Box5 w' N a b c d e :=
  ⟨(World.cell?_of_block (w := w) (w' := w') (a := ⟨N, 0, none⟩) hb).trans h.c0, (World.cell?_of_block (w := w) (w' := w') (a := ⟨N, 1, none⟩) hb).trans h.c1, (World.cell?_of_block (w := w) (w' := w') (a := ⟨N, 2, none⟩) hb).trans h.c2,
    (World.cell?_of_block (w := w) (w' := w') (a := ⟨N, 3, none⟩) hb).trans h.c3, (World.cell?_of_block (w := w) (w' := w') (a := ⟨N, 4, none⟩) hb).trans h.c4⟩

/-- What the law holds from the first answer on: what is asked for, what was answered. -/
structure SitU (m : Nat) (k : T m) (P : Nat → Prop) (A G : Nat) (p0 p1 p2 p3 p4 g0 g1 g2 g3 g4 : Value) (w u : World) : Prop where
  below : Below w.heap.size w u
  ansBox : Box5 u A p0 p1 p2 p3 p4
  ans : TreeIn P u m k p0 p1 p2 p3 p4
  ansB : ∀ b, P b → b < A
  gotBox : Box5 u G g0 g1 g2 g3 g4
  ag : A < G
  gu : G < u.heap.size

theorem SitU.step {m : Nat} {k : T m} {P : Nat → Prop} {A G : Nat} {p0 p1 p2 p3 p4 g0 g1 g2 g3 g4 : Value} {w u u' : World} (h : SitU m k P A G p0 p1 p2 p3 p4 g0 g1 g2 g3 g4 w u) {Z : Nat → Prop} (hb : Below w.heap.size w u') (hz : u.heap.size ≤ u'.heap.size)
    (hs : ∀ b : Nat, b < u.heap.size → ¬ Z b → u'.heap[b]? = u.heap[b]?) (hZ : ∀ b, Z b → A < b ∧ b ≠ G) : SitU m k P A G p0 p1 p2 p3 p4 g0 g1 g2 g3 g4 w u' := by
  have ag := h.ag
  have gu := h.gu
  have q : ∀ b, b ≤ A → u'.heap[b]? = u.heap[b]? := fun b hb => hs b (by omega) (fun hz => by have := hZ b hz; omega)
  exact ⟨hb, h.ansBox.eqb (q A (Nat.le_refl _)), h.ans.keep (fun b hb => q b (by have := h.ansB b hb; omega)) (fun _ h => h), h.ansB,
    h.gotBox.eqb (hs G gu (fun hz => (hZ G hz).2 rfl)), ag, by omega⟩

theorem SitU.keep {m : Nat} {k : T m} {P : Nat → Prop} {A G : Nat} {p0 p1 p2 p3 p4 g0 g1 g2 g3 g4 : Value} {w u u' : World} (h : SitU m k P A G p0 p1 p2 p3 p4 g0 g1 g2 g3 g4 w u) (hw : w.heap.size ≤ u.heap.size) (hb : Below u.heap.size u u') :
    SitU m k P A G p0 p1 p2 p3 p4 g0 g1 g2 g3 g4 w u' := h.step (Z := fun _ => False) (below_step h.below hw hb) hb.size (fun b hb' _ => hb.block b hb') (fun _ h => h.elim)

/-- What the specification's reader answers. -/
def SpecTSaid (s : ByteArray) (m : Nat) (k : T m) (ok : Bool) : Prop := ∀ w, Calls Tryz.prog 15 #[.string s] w fun e w' => Below w.heap.size w w' ∧ ∃ c0 c1 c2 c3 c4, e = .returned (.tuple #[.agg #[c0, c1, c2, c3, c4], .bool ok]) ∧ TreeIn (fun b => w.heap.size ≤ b ∧ b < w'.heap.size) w' m k c0 c1 c2 c3 c4

/-- What the program's reader answers. -/
def ImplTSaid (B : Nat) (wb : World) (s : ByteArray) (m : Nat) (k : T m) (ok : Bool) : Prop := ∀ w, Below B wb w → Calls Tryz.prog 12 #[.string s] w fun e w' => Below w.heap.size w w' ∧ ∃ c0 c1 c2 c3 c4 L3 L4, e = .returned (.tuple #[.agg #[c0, c1, c2, c3, c4], .bool ok]) ∧ TreeIn (fun b => w.heap.size ≤ b ∧ b < w'.heap.size) w' m k c0 c1 c2 c3 c4 ∧
  SpN w' c3 L3 ∧ SpR w' (m - 1) c4 L4 ∧ Own (fun b => w.heap.size ≤ b ∧ b < w'.heap.size) (L3 ++ L4) ∧ (L3 ++ L4).length ≤ 1000

set_option maxRecDepth 20000 in
set_option maxHeartbeats 4000000 in
theorem lawTRead_of (s : ByteArray) (m : Nat) (k : T m) (ok : Bool) (hSp : SpecTSaid s m k ok) (w : World) (hIm : ImplTSaid w.heap.size w s m k ok) (hs : s.size ≤ 1048576) :
    Calls Tryz.prog 5 #[.string s] w fun e w' => e = .returned (.bool true) ∧ Below w.heap.size w w' := by
  have HSp : Hid (SpecTSaid s m k ok) := hSp
  have HIm : Hid (ImplTSaid w.heap.size w s m k ok) := hIm
  clear hSp hIm
  go_enter Tryz.func5, Tryz.ntmps5
  go_wp2_with fail
  refine (HSp.out w).mono ?_
  rintro e w3 ⟨hb3, p0, p1, p2, p3, p4, rfl, hP3⟩
  obtain ⟨s0, s1, s2, sa, sl, sc, ra, rl, rc, rfl, rfl, rfl, rfl, rfl⟩ := hP3.shape
  have hz3 := hb3.size
  -- kept in a variable
  have hbA := (Below.refl w3.heap.size w3).alloc (Nat.le_refl _) (.cells #[.int .i64 s0, .int .i64 s1, .string s2, .slice sa sl sc, .slice ra rl rc] 26)
  have hA := Box5.new w3 (.int .i64 s0) (.int .i64 s1) (.string s2) (.slice sa sl sc) (.slice ra rl rc) 26
  obtain ⟨hPA, hCA⟩ := hP3.step (fun b hb => hb.2) hbA
  have hbwA := below_step hb3 hz3 hbA
  have hzA : (w3.alloc (.cells #[.int .i64 s0, .int .i64 s1, .string s2, .slice sa sl sc, .slice ra rl rc] 26)).heap.size = w3.heap.size + 1 := by simp
  clear hbA hP3 hb3
  obtain ⟨WA, hWA⟩ : ∃ WA, WA = w3.alloc (.cells #[.int .i64 s0, .int .i64 s1, .string s2, .slice sa sl sc, .slice ra rl rc] 26) := ⟨_, rfl⟩
  rw [← hWA] at hA hPA hCA hbwA hzA
  have HbA : Hid (Below w.heap.size w WA) := hbwA
  go_wp2_with fail
  rw [← hWA]
  clear hWA
  refine (HIm.out WA HbA.out).mono ?_
  rintro e w6 ⟨hb6, g0, g1, g2, g3, g4, L3, L4, rfl, hG6, hN6, hR6, ho, hll⟩
  obtain ⟨u0, u1, u2, ua, ul, uc, qa, ql, qc, rfl, rfl, rfl, rfl, rfl⟩ := hG6.shape
  have hz6 := hb6.size
  have hb7 := (Below.refl w6.heap.size w6).alloc (Nat.le_refl _) (.cells #[.int .i64 u0, .int .i64 u1, .string u2, .slice ua ul uc, .slice qa ql qc] 26)
  have hg7 := Box5.new w6 (.int .i64 u0) (.int .i64 u1) (.string u2) (.slice ua ul uc) (.slice qa ql qc) 26
  obtain ⟨w7, hw7⟩ : ∃ w7, w7 = w6.alloc (.cells #[.int .i64 u0, .int .i64 u1, .string u2, .slice ua ul uc, .slice qa ql qc] 26) := ⟨_, rfl⟩
  have hz7 : w7.heap.size = w6.heap.size + 1 := by rw [hw7]; simp
  rw [← hw7] at hb7 hg7
  have sit7 : SitU m k (fun b => w.heap.size ≤ b ∧ b < w3.heap.size) w3.heap.size w6.heap.size (.int .i64 s0) (.int .i64 s1) (.string s2) (.slice sa sl sc) (.slice ra rl rc) (.int .i64 u0) (.int .i64 u1) (.string u2) (.slice ua ul uc) (.slice qa ql qc) w w7 :=
    ⟨below_step (below_step hbwA hbwA.size hb6) (by have := hbwA.size; omega) hb7, (hA.keep hb6).keep hb7, ((hPA.step hCA hb6).1.step (fun b hb => by omega) hb7).1, fun b hb => hb.2, hg7, by omega, by omega⟩
  have hG7 := (hG6.step (fun b hb => hb.2) hb7).1
  have hN7 := hN6.below hb7
  have hR7 := hR6.below hb7
  obtain ⟨a0, a1, a2, a3, a4⟩ := id sit7.ansBox
  obtain ⟨b0, b1, b2, b3, b4⟩ := id hg7
  have HE1 : Hid (Calls Tryz.prog 16 _ _ _) := eqTree_same m _ _ k _ _ _ _ _ _ _ _ _ _ w7 hG7 sit7.ans (fun b hb => by omega) (fun b hb => by have := hbwA.size; omega)
  have HSit : Hid (SitU m k (fun b => w.heap.size ≤ b ∧ b < w3.heap.size) w3.heap.size w6.heap.size (.int .i64 s0) (.int .i64 s1) (.string s2) (.slice sa sl sc) (.slice ra rl rc) (.int .i64 u0) (.int .i64 u1) (.string u2) (.slice ua ul uc) (.slice qa ql qc) w w7) := sit7
  have HG : Hid (SpN w7 (.slice ua ul uc) L3 ∧ SpR w7 (m - 1) (.slice qa ql qc) L4) := ⟨hN7, hR7⟩
  have HO : Hid (Own (fun b => WA.heap.size ≤ b ∧ b < w6.heap.size) (L3 ++ L4) ∧ (L3 ++ L4).length ≤ 1000) := ⟨ho, hll⟩
  have hww : w.heap.size ≤ w7.heap.size := by have := hbwA.size; omega
  have hbne : (ok != ok) = false := by simp
  rw [hw7] at a0 a1 a2 a3 a4 b0 b1 b2 b3 b4
  clear sit7 hG7 hN7 hR7 hG6 hN6 hR6 ho hll hb7 hg7 hA hPA hCA hbwA hb6
  go_wp2_with fail
  rw [← hw7]
  refine HE1.out.mono ?_
  rintro e w8 ⟨rfl, hb8⟩
  clear HE1 a0 a1 a2 a3 a4 b0 b1 b2 b3 b4 hw7
  have hz8 := hb8.size
  -- marks on the answer
  have s12 := HSit.out.keep hww hb8
  have hN12 := HG.out.1.below hb8
  have hR12 := HG.out.2.below hb8
  have hll := HO.out.2
  rw [List.length_append] at hll
  have hok12 : ∀ s, s ∈ L3 ++ L4 → s.ok w8 := fun s hs => (List.mem_append.1 hs).elim (hN12.ok s) (hR12.ok s)
  have HM13 : Hid (Calls Tryz.prog 17 _ _ _) := markTree_any (m - 1) u0 u1 u2 _ _ L3 L4 1 w8 hN12 hR12 (by omega) (by omega)
  have HS12 : Hid (SitU m k (fun b => w.heap.size ≤ b ∧ b < w3.heap.size) w3.heap.size w6.heap.size (.int .i64 s0) (.int .i64 s1) (.string s2) (.slice sa sl sc) (.slice ra rl rc) (.int .i64 u0) (.int .i64 u1) (.string u2) (.slice ua ul uc) (.slice qa ql qc) w w8) := s12
  have H12 : Hid (SpN w8 (.slice ua ul uc) L3 ∧ SpR w8 (m - 1) (.slice qa ql qc) L4 ∧ ∀ s, s ∈ L3 ++ L4 → s.ok w8) := ⟨hN12, hR12, hok12⟩
  obtain ⟨b0, b1, b2, b3, b4⟩ := id s12.gotBox
  clear s12 hN12 hR12 hok12 HSit HG hb8
  go_wp2_with fail
  refine HM13.out.mono ?_
  rintro e w13 ⟨rfl, hW13⟩
  have hz13 := hW13.size
  have hs13 : ∀ b : Nat, b < w8.heap.size → ¬ (WA.heap.size ≤ b ∧ b < w6.heap.size) → w13.heap[b]? = w8.heap[b]? := fun b hb hn => hW13.other hb (fun s hs e => hn (by rw [← e]; exact HO.out.1.1 s hs))
  have s13 := HS12.out.step (u' := w13) (Z := fun b => WA.heap.size ≤ b ∧ b < w6.heap.size) (Wrote.below_of HS12.out.below (by omega) hW13 (fun s hs => by have := HO.out.1.1 s hs; omega)) hz13 hs13 (fun b hb => by omega)
  have hh13 := hW13.holds H12.out.2.2 HO.out.1.2
  have hsim := hW13.sim H12.out.2.2
  have hN13 := H12.out.1.sim hsim
  have hR13 := SpR.sim hsim H12.out.2.1
  have HH14 : Hid (Calls Tryz.prog 18 _ _ _) := heldTree_any (m - 1) u0 u1 u2 _ _ L3 L4 1 w13 hN13 hR13 hh13 (by omega) (by omega)
  have HS13 : Hid (SitU m k (fun b => w.heap.size ≤ b ∧ b < w3.heap.size) w3.heap.size w6.heap.size (.int .i64 s0) (.int .i64 s1) (.string s2) (.slice sa sl sc) (.slice ra rl rc) (.int .i64 u0) (.int .i64 u1) (.string u2) (.slice ua ul uc) (.slice qa ql qc) w w13) := s13
  have H13 : Hid (SpN w13 (.slice ua ul uc) L3 ∧ SpR w13 (m - 1) (.slice qa ql qc) L4 ∧ Holds w13 (L3 ++ L4) 1 ∧ ∀ s, s ∈ L3 ++ L4 → s.ok w13) := ⟨hN13, hR13, hh13, fun s hs => Spot.ok_sim (H12.out.2.2 s hs) hsim⟩
  clear b0 b1 b2 b3 b4
  obtain ⟨b0, b1, b2, b3, b4⟩ := id s13.gotBox
  clear s13 hh13 hsim hN13 hR13 hs13 hW13 HM13 HS12 H12
  have e13 : ¬ (1 : Int) + (L3.length : Int) + (L4.length : Int) < 0 := by omega
  have ne13 : ((1 : Int) + (L3.length : Int) + (L4.length : Int) != 1 + (L3.length : Int) + (L4.length : Int)) = false := by simp
  go_wp2_with fail
  refine HH14.out.mono ?_
  rintro e w14 ⟨rfl, hb14⟩
  have hz14 := hb14.size
  have HB14 : Hid (Below w13.heap.size w13 w14) := hb14
  clear HH14 b0 b1 b2 b3 b4 hb14
  go_wp2_with fail
  refine (HIm.out w14 (below_step HS13.out.below (by omega) HB14.out)).mono ?_
  rintro e w16 ⟨hb16, h0, h1, h2, h3, h4, N3, N4, rfl, hH16, -, -, -, -⟩
  obtain ⟨v0, v1, v2, ea, el, ec, ja, jl, jc, rfl, rfl, rfl, rfl, rfl⟩ := hH16.shape
  have hz16 := hb16.size
  have hb17 := (Below.refl w16.heap.size w16).alloc (Nat.le_refl _) (.cells #[.int .i64 v0, .int .i64 v1, .string v2, .slice ea el ec, .slice ja jl jc] 26)
  have hb1317 := below_step (below_step HB14.out (by omega) hb16) (by omega) hb17
  have s17 := HS13.out.keep (by omega) hb1317
  obtain ⟨a0, a1, a2, a3, a4⟩ := id s17.ansBox
  have hH17 := (hH16.step (fun b hb => hb.2) hb17).1
  have HE18 : Hid (Calls Tryz.prog 16 _ _ _) := eqTree_same m _ _ k _ _ _ _ _ _ _ _ _ _ _ hH17 s17.ans (fun b hb => by simp; omega) (fun b hb => by simp; omega)
  have HB17 : Hid (Below w13.heap.size w13 _) := hb1317
  clear hb16 hH16 hb17 hb1317 s17 hH17 HB14
  go_wp2_with fail
  refine HE18.out.mono ?_
  rintro e w18 ⟨rfl, hb18⟩
  have hb1318 := below_step HB17.out (by simp; omega) hb18
  have hz18 := hb1318.size
  have s18 := HS13.out.keep (by omega) hb1318
  have HH19 : Hid (Calls Tryz.prog 18 _ _ _) := heldTree_any (m - 1) u0 u1 u2 _ _ L3 L4 1 w18 (H13.out.1.below hb1318) (H13.out.2.1.below hb1318) (H13.out.2.2.1.below H13.out.2.2.2 hb1318) (by omega) (by omega)
  have HBF : Hid (Below w.heap.size w w18) := s18.below
  obtain ⟨b0, b1, b2, b3, b4⟩ := id s18.gotBox
  clear HE18 a0 a1 a2 a3 a4 hb18 hb1318 s18 HB17 H13 HS13
  go_wp2_with fail
  refine HH19.out.mono ?_
  rintro e w19 ⟨rfl, hb19⟩
  have hfin := below_step HBF.out HBF.out.size hb19
  clear HH19 b0 b1 b2 b3 b4 hb19 HBF
  go_wp2_with fail
  go_ret
  exact ⟨rfl, hfin⟩

end Go.Proofs.YtjnhklacadbpoaaGreatDoor
