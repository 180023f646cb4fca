/-
 Several texts in one, in their order.
-/
import Derived.Test.YtpalkdcgbbbmeaaGreatDoorB25
import Derived.Test.YtpalkdcgbbbmeaaGreatDoorB7
import Derived.Test.YtpalkdcgbbbmeaaGreatDoorB3
import Derived.Test.YtpalkdcgbbbmeaaGreatDoorB1
import Derived.Test.YtpalkdcgbbbmeaaGreatDoorKMade
import Derived.Test.YtpalkdcgbbbmeaaGreatDoorB16
import Derived.Deep.Cut
import Derived.Deep.CutRange
import Derived.Deep.RegionHeldLaw
import Derived.Test.YtpalkdcgbbbmeaaGreatDoorB10

/-
 The specification's l3Widen: of leaves, and into a maybe.
-/
namespace Go.Proofs.YtpalkdcgbbbmeaaGreatDoor
open Go.RowKit

def WidSSaid (m : Nat) : Prop := ∀ (S : Nat → Prop) (n p : Nat) (a : K n) (b : K m) (t : T p) (a0 a1 a2 b0 b1 b2 e0 e1 e2 e3 e4 : Value) (d d' e : Int) (w : World), KindIn S w n a a0 a1 a2 → KindIn S w m b b0 b1 b2 → TreeIn S w p t e0 e1 e2 e3 e4 → (∀ b, S b → b < w.heap.size) →
 goodK n a d = true → goodK m b d' = true → cntK m b ≤ 40 → goodT p t e = true → fitsK m b n a = true → hasK n a p t = true →
 Calls Tryz.prog 30 #[.agg #[a0, a1, a2], .agg #[b0, b1, b2], .agg #[e0, e1, e2, e3, e4]] w fun en w' => ∃ g0 g1 g2 g3 g4, en = .returned (.agg #[g0, g1, g2, g3, g4]) ∧ TreeIn (fun b => w.heap.size ≤ b ∧ b < w'.heap.size) w' m (widT m b n a p t) g0 g1 g2 g3 g4 ∧ Below w.heap.size w w'

set_option maxRecDepth 100000 in
set_option maxHeartbeats 2000000 in
theorem l3Widen_leaf (m : Nat) (S : Nat → Prop) (n p : Nat) (a : K (n + 1)) (b : K (m + 1)) (t : T (p + 1)) (a0 a1 a2 b0 b1 b2 e0 e1 e2 e3 e4 : Value) (w : World) (ha : KindIn S w (n + 1) a a0 a1 a2) (hb : KindIn S w (m + 1) b b0 b1 b2) (ht : TreeIn S w (p + 1) t e0 e1 e2 e3 e4) (sb : Kd.sort b = 1 ∨ Kd.sort b = 2 ∨ Kd.sort b = 3) (st : Nd.sort t = Kd.sort b) :
  Calls Tryz.prog 30 #[.agg #[a0, a1, a2], .agg #[b0, b1, b2], .agg #[e0, e1, e2, e3, e4]] w fun en w' => ∃ g0 g1 g2 g3 g4, en = .returned (.agg #[g0, g1, g2, g3, g4]) ∧ TreeIn (fun b => w.heap.size ≤ b ∧ b < w'.heap.size) w' (m + 1) (widT (m + 1) b (n + 1) a (p + 1) t) g0 g1 g2 g3 g4 ∧ Below w.heap.size w w' := by
 rw [widT_leaf sb]
 obtain ⟨x0, xa, xl, xc, ya, yl, yc, rfl, rfl, rfl⟩ := ha.shape
 obtain ⟨rfl, hwb, hb1, hb2⟩ := hb
 obtain ⟨bna, bnc, rfl, -⟩ := hb1
 obtain ⟨bka, bkc, rfl, -⟩ := hb2
 obtain ⟨rfl, rfl, rfl, htx, hws, hwn, ht3, ht4⟩ := ht
 obtain ⟨tna, tnc, rfl, -⟩ := ht3
 obtain ⟨tka, tkc, rfl, -⟩ := ht4
 rw [st] at hws ⊢
 have HT : Hid (∀ (W : World) (S' : Nat → Prop), TreeIn S' W (m + 1) (mkT m (Kd.sort b) (Nd.num t) (Nd.text t) [] []) (.int .i64 (Kd.sort b)) (.int .i64 (Nd.num t)) (.string (Nd.text t)) (.slice none 0 0) (.slice none 0 0)) := fun W S' =>
  ⟨rfl, rfl, rfl, htx, hws, hwn, ⟨none, 0, rfl, by simp [mkT, maxLen], fun s h => (by cases h), fun h => absurd rfl h⟩, ⟨none, 0, rfl, by simp [mkT, maxLen], fun h => absurd rfl h⟩⟩
 generalize Nd.num t = num at *
 generalize Nd.text t = tx at *
 clear htx hws hwn hwb
 generalize (Nd.names t).length = l1 at *
 generalize (Nd.kids t).length = l2 at *
 generalize (Kd.names b).length = l3 at *
 generalize (Kd.kids b).length = l4 at *
 rcases sb with sb | sb | sb
 ·
  rw [sb] at HT ⊢
  clear sb st
  go_enter Tryz.func30, Tryz.ntmps30
  go_wp2_with fail
  refine bodyPost_ret (v := .agg #[.int .i64 1, .int .i64 num, .string tx, .slice none 0 0, .slice none 0 0]) (by simp [results, Tryz.results30, go_sem]) rfl ?_
  exact ⟨_, _, _, _, _, rfl, HT.out _ _, (((((Below.refl _ _).alloc (Nat.le_refl _) _).alloc (by simp) _).alloc (by simp; omega) _).alloc (by simp; omega) _).alloc (by simp; omega) _⟩
 ·
  rw [sb] at HT ⊢
  clear sb st
  go_enter Tryz.func30, Tryz.ntmps30
  go_wp2_with fail
  refine bodyPost_ret (v := .agg #[.int .i64 2, .int .i64 num, .string tx, .slice none 0 0, .slice none 0 0]) (by simp [results, Tryz.results30, go_sem]) rfl ?_
  exact ⟨_, _, _, _, _, rfl, HT.out _ _, (((((Below.refl _ _).alloc (Nat.le_refl _) _).alloc (by simp) _).alloc (by simp; omega) _).alloc (by simp; omega) _).alloc (by simp; omega) _⟩
 ·
  rw [sb] at HT ⊢
  clear sb st
  go_enter Tryz.func30, Tryz.ntmps30
  go_wp2_with fail
  refine bodyPost_ret (v := .agg #[.int .i64 3, .int .i64 num, .string tx, .slice none 0 0, .slice none 0 0]) (by simp [results, Tryz.results30, go_sem]) rfl ?_
  exact ⟨_, _, _, _, _, rfl, HT.out _ _, (((((Below.refl _ _).alloc (Nat.le_refl _) _).alloc (by simp) _).alloc (by simp; omega) _).alloc (by simp; omega) _).alloc (by simp; omega) _⟩

theorem below_set5 {B N : Nat} {w V : World} (h : Below B w V) (hB : B ≤ N) (c0 c1 c2 c3 c4 : Value) : Below B w (((((V.setCell ⟨N, 0, none⟩ c0).setCell ⟨N, 1, none⟩ c1).setCell ⟨N, 2, none⟩ c2).setCell ⟨N, 3, none⟩ c3).setCell ⟨N, 4, none⟩ c4) :=
 ((((h.setCell hB _).setCell hB _).setCell hB _).setCell hB _).setCell hB _

theorem row5_one {m : Nat} {S : Nat → Prop} {W : World} {x : T m} {c0 c1 c2 c3 c4 : Value} {g : Nat} (hg : S g) (hc : Box5 W g c0 c1 c2 c3 c4) (ht : TreeIn S W m x c0 c1 c2 c3 c4) : RowIn S W (TreeIn S W m) [x] (.slice (some ⟨g, 0, none⟩) 1 1) := by
 refine ⟨_, _, rfl, by simp [maxLen], fun _ => ⟨g, 0, rfl, hg, fun i hi => ?_⟩⟩
 have : i = 0 := by simp at hi; exact hi
 subst this
 obtain ⟨k0, k1, k2, k3, k4⟩ := hc
 exact ⟨c0, c1, c2, c3, c4, by simpa using k0, by simpa using k1, by simpa using k2, by simpa using k3, by simpa using k4, ht⟩

set_option maxRecDepth 100000 in
set_option maxHeartbeats 2000000 in
theorem l3Widen_into (m : Nat) (hm : WidSSaid m) (S : Nat → Prop) (n p : Nat) (a : K (n + 1)) (b : K (m + 1)) (t : T (p + 1)) (y : K m) (a0 a1 a2 b0 b1 b2 e0 e1 e2 e3 e4 : Value) (d d' e : Int) (w : World) (ha : KindIn S w (n + 1) a a0 a1 a2) (hb : KindIn S w (m + 1) b b0 b1 b2) (ht : TreeIn S w (p + 1) t e0 e1 e2 e3 e4) (hB : ∀ b, S b → b < w.heap.size)
  (hga : goodK (n + 1) a d = true) (hgy : goodK m y d' = true) (hcy : cntK m y ≤ 40) (hgt : goodT (p + 1) t e = true) (hf : fitsK m y (n + 1) a = true) (hh : hasK (n + 1) a (p + 1) t = true) (sb : Kd.sort b = 6) (sa : Kd.sort a ≠ 6) (ky : Kd.kids b = [y]) :
  Calls Tryz.prog 30 #[.agg #[a0, a1, a2], .agg #[b0, b1, b2], .agg #[e0, e1, e2, e3, e4]] w fun en w' => ∃ g0 g1 g2 g3 g4, en = .returned (.agg #[g0, g1, g2, g3, g4]) ∧ TreeIn (fun b => w.heap.size ≤ b ∧ b < w'.heap.size) w' (m + 1) (widT (m + 1) b (n + 1) a (p + 1) t) g0 g1 g2 g3 g4 ∧ Below w.heap.size w w' := by
 rw [widT_xm sb sa ky]
 have ha' := ha
 have ht' := ht
 obtain ⟨rfl, hwa, ha1, ha2⟩ := ha
 obtain ⟨ana, anc, rfl, -⟩ := ha1
 obtain ⟨aka, akc, rfl, -⟩ := ha2
 obtain ⟨rfl, hwb, hb1, hb2⟩ := hb
 obtain ⟨bna, bnc, rfl, -⟩ := hb1
 rw [ky] at hb2
 obtain ⟨bka, bkc, rfl, -, hbk⟩ := hb2
 obtain ⟨kb, koff, rfl, hSk, hbk⟩ := hbk (by simp)
 obtain ⟨y0, y1, y2, k0, k1, k2, hyin⟩ := hbk 0 (by simp)
 obtain ⟨z0, za, zl, zc, ua, ul, uc, rfl, rfl, rfl⟩ := hyin.shape
 have hkb := hB kb hSk
 obtain ⟨q0, q1, q2, qa, ql, qc, ra, rl, rc, rfl, rfl, rfl, rfl, rfl⟩ := ht.shape
 rw [sb, show [y].length = 1 from rfl]
 have hsa : (Kd.sort a != 6) = true := by simp [sa]
 simp only [List.getElem_cons_zero] at hyin
 generalize Kd.sort a = so at *
 generalize (Kd.names a).length = la1 at *
 generalize (Kd.kids a).length = la2 at *
 generalize (Kd.names b).length = lb1 at *
 obtain ⟨W5, hW5⟩ : ∃ W5, W5 = ((((w.alloc (.cells #[.int .i64 so, .slice ana la1 anc, .slice aka la2 akc] 26)).alloc (.cells #[.int .i64 6, .slice bna lb1 bnc, .slice (some ⟨kb, koff, none⟩) 1 bkc] 26)).alloc (.cells #[.int .i64 q0, .int .i64 q1, .string q2, .slice qa ql qc, .slice ra rl rc] 29)).alloc (.cells #[.int .i64 0, .int .i64 0, .string ⟨#[]⟩, .slice none 0 0, .slice none 0 0] 29)).alloc (.cells #[.int .i64 6, .int .i64 q1, .string q2, .slice none 0 0, .slice none 0 0] 29) := ⟨_, rfl⟩
 have hb5 : Below w.heap.size w W5 := by rw [hW5]; exact (((((Below.refl _ _).alloc (Nat.le_refl _) _).alloc (by simp) _).alloc (by simp; omega) _).alloc (by simp; omega) _).alloc (by simp; omega) _
 have hz5 : W5.heap.size = w.heap.size + 1 + 1 + 1 + 1 + 1 := by rw [hW5]; simp
 have c : (W5.cell? ⟨w.heap.size, 0, none⟩ = some (.int .i64 so) ∧ W5.cell? ⟨w.heap.size, 1, none⟩ = some (.slice ana la1 anc) ∧ W5.cell? ⟨w.heap.size, 2, none⟩ = some (.slice aka la2 akc)) ∧ W5.cell? ⟨w.heap.size + 1, 2, none⟩ = some (.slice (some ⟨kb, koff, none⟩) 1 bkc) ∧
   (W5.cell? ⟨w.heap.size + 1 + 1, 0, none⟩ = some (.int .i64 q0) ∧ W5.cell? ⟨w.heap.size + 1 + 1, 1, none⟩ = some (.int .i64 q1) ∧ W5.cell? ⟨w.heap.size + 1 + 1, 2, none⟩ = some (.string q2) ∧ W5.cell? ⟨w.heap.size + 1 + 1, 3, none⟩ = some (.slice qa ql qc) ∧ W5.cell? ⟨w.heap.size + 1 + 1, 4, none⟩ = some (.slice ra rl rc)) := by
  rw [hW5]
  refine ⟨⟨?_, ?_, ?_⟩, ?_, ?_, ?_, ?_, ?_, ?_⟩ <;> simp [go_sem]
 have kz : W5.heap[w.heap.size + 1 + 1 + 1]? = some (.cells #[.int .i64 0, .int .i64 0, .string ⟨#[]⟩, .slice none 0 0, .slice none 0 0] 29 (0, 0)) := by
  rw [hW5, Below.heap_alloc _ _ _ (by simp)]
  have := heap_alloc_new (((w.alloc (.cells #[.int .i64 so, .slice ana la1 anc, .slice aka la2 akc] 26)).alloc (.cells #[.int .i64 6, .slice bna lb1 bnc, .slice (some ⟨kb, koff, none⟩) 1 bkc] 26)).alloc (.cells #[.int .i64 q0, .int .i64 q1, .string q2, .slice qa ql qc, .slice ra rl rc] 29)) (.cells #[.int .i64 0, .int .i64 0, .string ⟨#[]⟩, .slice none 0 0, .slice none 0 0] 29)
  simpa using this
 have kk : W5.cell? ⟨kb, koff, none⟩ = some (.int .i64 z0) ∧ W5.cell? ⟨kb, koff + 1, none⟩ = some (.slice za zl zc) ∧ W5.cell? ⟨kb, koff + 2, none⟩ = some (.slice ua ul uc) :=
  ⟨(hb5.cell (p := ⟨kb, koff, none⟩) hkb).trans (by simpa using k0), (hb5.cell (p := ⟨kb, koff + 1, none⟩) hkb).trans (by simpa using k1), (hb5.cell (p := ⟨kb, koff + 2, none⟩) hkb).trans (by simpa using k2)⟩
 have HK : Hid (∀ W, Below (w.heap.size + 1 + 1 + 1) W5 W → (W.cell? ⟨w.heap.size, 0, none⟩ = some (.int .i64 so) ∧ W.cell? ⟨w.heap.size, 1, none⟩ = some (.slice ana la1 anc) ∧ W.cell? ⟨w.heap.size, 2, none⟩ = some (.slice aka la2 akc)) ∧ W.cell? ⟨w.heap.size + 1, 2, none⟩ = some (.slice (some ⟨kb, koff, none⟩) 1 bkc) ∧
   (W.cell? ⟨w.heap.size + 1 + 1, 0, none⟩ = some (.int .i64 q0) ∧ W.cell? ⟨w.heap.size + 1 + 1, 1, none⟩ = some (.int .i64 q1) ∧ W.cell? ⟨w.heap.size + 1 + 1, 2, none⟩ = some (.string q2) ∧ W.cell? ⟨w.heap.size + 1 + 1, 3, none⟩ = some (.slice qa ql qc) ∧ W.cell? ⟨w.heap.size + 1 + 1, 4, none⟩ = some (.slice ra rl rc)) ∧
   (W.cell? ⟨kb, koff, none⟩ = some (.int .i64 z0) ∧ W.cell? ⟨kb, koff + 1, none⟩ = some (.slice za zl zc) ∧ W.cell? ⟨kb, koff + 2, none⟩ = some (.slice ua ul uc))) := fun W hW => by
  have g : ∀ (b o : Nat), b < w.heap.size + 1 + 1 + 1 → W.cell? ⟨b, o, none⟩ = W5.cell? ⟨b, o, none⟩ := fun b o h => hW.cell (p := ⟨b, o, none⟩) h
  rw [g _ _ (by omega), g _ _ (by omega), g _ _ (by omega), g _ _ (by omega), g _ _ (by omega), g _ _ (by omega), g _ _ (by omega), g _ _ (by omega), g _ _ (by omega), g _ _ (by omega), g _ _ (by omega), g _ _ (by omega)]
  exact ⟨c.1, c.2.1, c.2.2, kk⟩
 have HC : Hid (Calls Tryz.prog 30 #[.agg #[.int .i64 so, .slice ana la1 anc, .slice aka la2 akc], .agg #[.int .i64 z0, .slice za zl zc, .slice ua ul uc], .agg #[.int .i64 q0, .int .i64 q1, .string q2, .slice qa ql qc, .slice ra rl rc]] W5.drew fun en w' => Below W5.heap.size W5 w' ∧ ∃ u0 u1 u2 va vl vc pa pl pc, en = .returned (.agg #[.int .i64 u0, .int .i64 u1, .string u2, .slice va vl vc, .slice pa pl pc]) ∧ Hid (TreeIn (fun b => W5.heap.size ≤ b ∧ b < w'.heap.size) w' m (widT m y (n + 1) a (p + 1) t) (.int .i64 u0) (.int .i64 u1) (.string u2) (.slice va vl vc) (.slice pa pl pc))) := by
  obtain ⟨h1, h2⟩ := ha'.step hB hb5.drew
  obtain ⟨h3, -⟩ := hyin.step hB hb5.drew
  obtain ⟨h4, -⟩ := ht'.step hB hb5.drew
  refine (hm S (n + 1) (p + 1) a y t _ _ _ _ _ _ _ _ _ _ _ d d' e W5.drew h1 h3 h4 h2 hga hgy hcy hgt hf hh).mono ?_
  rintro en w' ⟨g0, g1, g2, g3, g4, rfl, hin, hbl⟩
  obtain ⟨u0, u1, u2, va, vl, vc, pa, pl, pc, rfl, rfl, rfl, rfl, rfl⟩ := hin.shape
  exact ⟨(Below.refl W5.heap.size W5).drew.trans hbl, _, _, _, _, _, _, _, _, _, rfl, hin⟩
 obtain ⟨c0', c1', c2', c3'⟩ := HK.out W5 (Below.refl _ _)
 have hd0 := (Below.refl (w.heap.size + 1 + 1 + 1) W5).drew
 clear hm ha' ht' ht hyin k0 k1 k2 hbk hga hgy hcy hgt hf hh c kk c0' c1' c2' c3' sa ky hwa hwb
 go_enter Tryz.func30, Tryz.ntmps30
 go_upto_region 5 with fail
 rw [← hW5]
 clear hW5
 go_region_held (fun W => (W.cell? ⟨w.heap.size, 0, none⟩ = some (.int .i64 so) ∧ W.cell? ⟨w.heap.size, 1, none⟩ = some (.slice ana la1 anc) ∧ W.cell? ⟨w.heap.size, 2, none⟩ = some (.slice aka la2 akc)) ∧ W.cell? ⟨w.heap.size + 1, 2, none⟩ = some (.slice (some ⟨kb, koff, none⟩) 1 bkc) ∧
   (W.cell? ⟨w.heap.size + 1 + 1, 0, none⟩ = some (.int .i64 q0) ∧ W.cell? ⟨w.heap.size + 1 + 1, 1, none⟩ = some (.int .i64 q1) ∧ W.cell? ⟨w.heap.size + 1 + 1, 2, none⟩ = some (.string q2) ∧ W.cell? ⟨w.heap.size + 1 + 1, 3, none⟩ = some (.slice qa ql qc) ∧ W.cell? ⟨w.heap.size + 1 + 1, 4, none⟩ = some (.slice ra rl rc)) ∧
   (W.cell? ⟨kb, koff, none⟩ = some (.int .i64 z0) ∧ W.cell? ⟨kb, koff + 1, none⟩ = some (.slice za zl zc) ∧ W.cell? ⟨kb, koff + 2, none⟩ = some (.slice ua ul uc))) (first | with_reducible assumption | (refine HK.out _ ?_; first | with_reducible assumption | with_reducible exact hb6a _ | with_reducible exact below_set5 (hb6a _) (Nat.le_refl _) _ _ _ _ _)) (first
  | (go_at_call 30; refine HC.out.mono ?_; rintro en w6 ⟨hb6', u0, u1, u2, va, vl, vc, pa, pl, pc, rfl, hin6⟩; have hz6 := hb6'.size; have hb6 : Below (w.heap.size + 1 + 1 + 1) W5 w6 := hb6'.mono (by omega); have hb6a : ∀ o, Below (w.heap.size + 1 + 1 + 1) W5 (w6.alloc o) := (fun o => hb6.alloc (by omega) o); obtain ⟨⟨r0, r1, r2, r3, r4⟩, f0, f1, f2, f3, f4⟩ := zeroT_cells (w := w6.alloc (.cells #[.int .i64 u0, .int .i64 u1, .string u2, .slice va vl vc, .slice pa pl pc] 29)) ((Below.heap_alloc _ _ _ (by omega)).trans ((hb6'.block (w.heap.size + 1 + 1 + 1) (by omega)).trans kz))))
 all_goals
  have hz6' : W5.heap.size ≤ w6.heap.size := hz6
  have HF : Hid (TreeIn (fun b => w.heap.size ≤ b ∧ b < (put5 (w6.alloc (.cells #[.int .i64 u0, .int .i64 u1, .string u2, .slice va vl vc, .slice pa pl pc] 29)) (w.heap.size + 1 + 1 + 1) 0 (.int .i64 6) (.int .i64 0) (.string ⟨#[]⟩) (.slice none 0 0) (.slice (some ⟨w6.heap.size, 0, none⟩) 1 1)).heap.size)
    (put5 (w6.alloc (.cells #[.int .i64 u0, .int .i64 u1, .string u2, .slice va vl vc, .slice pa pl pc] 29)) (w.heap.size + 1 + 1 + 1) 0 (.int .i64 6) (.int .i64 0) (.string ⟨#[]⟩) (.slice none 0 0) (.slice (some ⟨w6.heap.size, 0, none⟩) 1 1)) (m + 1) (mkT m 6 0 ByteArray.empty [] [widT m y (n + 1) a (p + 1) t]) (.int .i64 6) (.int .i64 0) (.string ⟨#[]⟩) (.slice none 0 0) (.slice (some ⟨w6.heap.size, 0, none⟩) 1 1) ∧
    Below w.heap.size w (put5 (w6.alloc (.cells #[.int .i64 u0, .int .i64 u1, .string u2, .slice va vl vc, .slice pa pl pc] 29)) (w.heap.size + 1 + 1 + 1) 0 (.int .i64 6) (.int .i64 0) (.string ⟨#[]⟩) (.slice none 0 0) (.slice (some ⟨w6.heap.size, 0, none⟩) 1 1))) := by
   have hb1 : Below w.heap.size w (w6.alloc (.cells #[.int .i64 u0, .int .i64 u1, .string u2, .slice va vl vc, .slice pa pl pc] 29)) := (hb5.trans (hb6a _ |>.mono (by omega)))
   have hx := Box5.new w6 (.int .i64 u0) (.int .i64 u1) (.string u2) (.slice va vl vc) (.slice pa pl pc) 29
   have q : ∀ b, b ≠ w.heap.size + 1 + 1 + 1 → (put5 (w6.alloc (.cells #[.int .i64 u0, .int .i64 u1, .string u2, .slice va vl vc, .slice pa pl pc] 29)) (w.heap.size + 1 + 1 + 1) 0 (.int .i64 6) (.int .i64 0) (.string ⟨#[]⟩) (.slice none 0 0) (.slice (some ⟨w6.heap.size, 0, none⟩) 1 1)).heap[b]? = (w6.alloc (.cells #[.int .i64 u0, .int .i64 u1, .string u2, .slice va vl vc, .slice pa pl pc] 29)).heap[b]? := fun b h => put5_other h
   have hsz : (put5 (w6.alloc (.cells #[.int .i64 u0, .int .i64 u1, .string u2, .slice va vl vc, .slice pa pl pc] 29)) (w.heap.size + 1 + 1 + 1) 0 (.int .i64 6) (.int .i64 0) (.string ⟨#[]⟩) (.slice none 0 0) (.slice (some ⟨w6.heap.size, 0, none⟩) 1 1)).heap.size = w6.heap.size + 1 := by rw [put5_size]; simp
   refine ⟨⟨rfl, rfl, rfl, by simp [mkT, maxLen], (by rfl : (Lit.int .i64 6).wf = true), (by rfl : (Lit.int .i64 0).wf = true), ⟨none, 0, rfl, by simp [mkT, maxLen], fun s h => (by cases h), fun h => absurd rfl h⟩, row5_one (c0 := .int .i64 u0) (c1 := .int .i64 u1) (c2 := .string u2) (c3 := .slice va vl vc) (c4 := .slice pa pl pc) ⟨by omega, by rw [hsz]; omega⟩ ?_ ?_⟩, put5_below hb1 (by omega)⟩
   ·
    have g : ∀ o, (put5 (w6.alloc (.cells #[.int .i64 u0, .int .i64 u1, .string u2, .slice va vl vc, .slice pa pl pc] 29)) (w.heap.size + 1 + 1 + 1) 0 (.int .i64 6) (.int .i64 0) (.string ⟨#[]⟩) (.slice none 0 0) (.slice (some ⟨w6.heap.size, 0, none⟩) 1 1)).cell? ⟨w6.heap.size, o, none⟩ = (w6.alloc (.cells #[.int .i64 u0, .int .i64 u1, .string u2, .slice va vl vc, .slice pa pl pc] 29)).cell? ⟨w6.heap.size, o, none⟩ := fun o => World.cell?_of_block (a := ⟨w6.heap.size, o, none⟩) (q w6.heap.size (by omega))
    exact ⟨(g 0).trans hx.c0, (g 1).trans hx.c1, (g 2).trans hx.c2, (g 3).trans hx.c3, (g 4).trans hx.c4⟩
   · exact hin6.out.keep (fun b hb => by rw [q b (by omega), Below.heap_alloc _ _ _ hb.2]) (fun b hb => ⟨by omega, by rw [hsz]; omega⟩)
  clear hin6 hb6 hb6a hb6' HC HK
  go_wp2_with fail
  refine bodyPost_ret (v := .agg #[.int .i64 6, .int .i64 0, .string ⟨#[]⟩, .slice none 0 0, .slice (some ⟨w6.heap.size, 0, none⟩) 1 1]) (by simp [results, Tryz.results30, go_sem, r0, r1, r2, r3, r4]) rfl ?_
  exact ⟨_, _, _, _, _, rfl, HF.out.1, HF.out.2⟩

end Go.Proofs.YtpalkdcgbbbmeaaGreatDoor

/-
 The specification's l3Widen: of lists.
-/
namespace Go.Proofs.YtpalkdcgbbbmeaaGreatDoor
open Go.RowKit

theorem Tryz.info_treeW : (Tryz.prog.info? 29).map (fun i => (i.zero, i.size, i.bytes)) = some (some (.agg #[.int .i64 0, .int .i64 0, .string ⟨#[]⟩, .slice none 0 0, .slice none 0 0]), 5, 80) := by kernel_rfl

set_option maxRecDepth 100000 in
set_option maxHeartbeats 8000000 in
theorem l3Widen_list (m : Nat) (hm : WidSSaid m) (S : Nat → Prop) (n p : Nat) (a : K (n + 1)) (b : K (m + 1)) (t : T (p + 1)) (y : K m) (x : K n) (a0 a1 a2 b0 b1 b2 e0 e1 e2 e3 e4 : Value) (d d' e : Int) (w : World) (ha : KindIn S w (n + 1) a a0 a1 a2) (hb : KindIn S w (m + 1) b b0 b1 b2) (ht : TreeIn S w (p + 1) t e0 e1 e2 e3 e4) (hB : ∀ b, S b → b < w.heap.size)
  (hgx : goodK n x d = true) (hgy : goodK m y d' = true) (hcy : cntK m y ≤ 40) (hgt : goodT (p + 1) t e = true) (hf : fitsK m y n x = true) (hh : ∀ u, u ∈ Nd.kids t → hasK n x p u = true) (sb : Kd.sort b = 4) (sa : Kd.sort a = 4) (st : Nd.sort t = 4) (ky : Kd.kids b = [y]) (kx : Kd.kids a = [x]) :
  Calls Tryz.prog 30 #[.agg #[a0, a1, a2], .agg #[b0, b1, b2], .agg #[e0, e1, e2, e3, e4]] w fun en w' => ∃ g0 g1 g2 g3 g4, en = .returned (.agg #[g0, g1, g2, g3, g4]) ∧ TreeIn (fun b => w.heap.size ≤ b ∧ b < w'.heap.size) w' (m + 1) (widT (m + 1) b (n + 1) a (p + 1) t) g0 g1 g2 g3 g4 ∧ Below w.heap.size w w' := by
 rw [widT_ll sb ky kx]
 have hgk := goodT_all hgt
 have h20 := good_20 hgt (by omega)
 obtain ⟨hn0, htx0⟩ := goodT_bare hgt (by omega)
 obtain ⟨rfl, hwa, ha1, ha2⟩ := ha
 obtain ⟨ana, anc, rfl, -⟩ := ha1
 rw [kx] at ha2
 obtain ⟨aka, akc, rfl, -, hak⟩ := ha2
 obtain ⟨ja, joff, rfl, hSj, hak⟩ := hak (by simp)
 obtain ⟨x0, x1, x2, l0, l1, l2, hxin⟩ := hak 0 (by simp)
 obtain ⟨i0, ia, il, ic, ha_, hl_, hc_, rfl, rfl, rfl⟩ := hxin.shape
 obtain ⟨rfl, hwb, hb1, hb2⟩ := hb
 obtain ⟨bna, bnc, rfl, -⟩ := hb1
 rw [ky] at hb2
 obtain ⟨bka, bkc, rfl, -, hbk⟩ := hb2
 obtain ⟨kb, koff, rfl, hSk, hbk⟩ := hbk (by simp)
 obtain ⟨y0, y1, y2, k0, k1, k2, hyin⟩ := hbk 0 (by simp)
 obtain ⟨z0, za, zl, zc, ua, ul, uc, rfl, rfl, rfl⟩ := hyin.shape
 have hkb := hB kb hSk
 have hja := hB ja hSj
 obtain ⟨rfl, rfl, rfl, -, -, -, ht3, ht4⟩ := ht
 obtain ⟨tna, tnc, rfl, -⟩ := ht3
 obtain ⟨tka, tkc, rfl, htl, htk⟩ := ht4
 rw [sb, sa, st, hn0, htx0, show [y].length = 1 from rfl, show [x].length = 1 from rfl]
 simp only [List.getElem_cons_zero] at hyin hxin
 obtain ⟨ks, hks⟩ : ∃ ks, ks = Nd.kids t := ⟨_, rfl⟩
 rw [← hks] at htl htk h20 hgk hh ⊢
 have HTK : Hid (∀ j (h : j < ks.length), ∃ tb toff, tka = some ⟨tb, toff, none⟩ ∧ tb < w.heap.size ∧ ∃ q0 q1 q2 qa ql qc ra rl rc, w.cell? ⟨tb, toff + j * 5, none⟩ = some (.int .i64 q0) ∧ w.cell? ⟨tb, toff + j * 5 + 1, none⟩ = some (.int .i64 q1) ∧ w.cell? ⟨tb, toff + j * 5 + 2, none⟩ = some (.string q2) ∧ w.cell? ⟨tb, toff + j * 5 + 3, none⟩ = some (.slice qa ql qc) ∧ w.cell? ⟨tb, toff + j * 5 + 4, none⟩ = some (.slice ra rl rc) ∧
   ∀ W, Below w.heap.size w W → Calls Tryz.prog 30 #[.agg #[.int .i64 i0, .slice ia il ic, .slice ha_ hl_ hc_], .agg #[.int .i64 z0, .slice za zl zc, .slice ua ul uc], .agg #[.int .i64 q0, .int .i64 q1, .string q2, .slice qa ql qc, .slice ra rl rc]] W fun en w' => Below W.heap.size W w' ∧ ∃ u0 u1 u2 va vl vc pa pl pc, en = .returned (.agg #[.int .i64 u0, .int .i64 u1, .string u2, .slice va vl vc, .slice pa pl pc]) ∧ Hid (TreeIn (fun b => W.heap.size ≤ b ∧ b < w'.heap.size) w' m (widT m y n x p ks[j]) (.int .i64 u0) (.int .i64 u1) (.string u2) (.slice va vl vc) (.slice pa pl pc))) := fun j hj => by
  obtain ⟨tb, toff, rfl, hSt, htk⟩ := htk (by intro h; rw [h] at hj; simp at hj)
  obtain ⟨v0, v1, v2, v3, v4, m0, m1, m2, m3, m4, hin⟩ := htk j hj
  obtain ⟨q0, q1, q2, qa, ql, qc, ra, rl, rc, rfl, rfl, rfl, rfl, rfl⟩ := hin.shape
  refine ⟨tb, toff, rfl, hB tb hSt, q0, q1, q2, qa, ql, qc, ra, rl, rc, m0, m1, m2, m3, m4, fun W hW => ?_⟩
  obtain ⟨h1, h2⟩ := hxin.step hB hW
  obtain ⟨h3, -⟩ := hyin.step hB hW
  obtain ⟨h4, -⟩ := hin.step hB hW
  refine (hm S n p x y ks[j] _ _ _ _ _ _ _ _ _ _ _ d d' _ W h1 h3 h4 h2 hgx hgy hcy (hgk _ (List.getElem_mem hj)) hf (hh _ (List.getElem_mem hj))).mono ?_
  rintro en w' ⟨g0, g1, g2, g3, g4, rfl, hin, hbl⟩
  obtain ⟨u0, u1, u2, va, vl, vc, pa, pl, pc, rfl, rfl, rfl, rfl, rfl⟩ := hin.shape
  exact ⟨hbl, _, _, _, _, _, _, _, _, _, rfl, hin⟩
 generalize (Kd.names a).length = la1 at *
 generalize (Kd.names b).length = lb1 at *
 generalize (Nd.names t).length = ln1 at *
 obtain ⟨W4, hW4⟩ : ∃ W4, W4 = (((w.alloc (.cells #[.int .i64 4, .slice ana la1 anc, .slice (some ⟨ja, joff, none⟩) 1 akc] 26)).alloc (.cells #[.int .i64 4, .slice bna lb1 bnc, .slice (some ⟨kb, koff, none⟩) 1 bkc] 26)).alloc (.cells #[.int .i64 4, .int .i64 0, .string ByteArray.empty, .slice tna ln1 tnc, .slice tka ks.length tkc] 29)).alloc (.cells #[.int .i64 0, .int .i64 0, .string ⟨#[]⟩, .slice none 0 0, .slice none 0 0] 29) := ⟨_, rfl⟩
 have hb4 : Below w.heap.size w W4 := by rw [hW4]; exact ((((Below.refl _ _).alloc (Nat.le_refl _) _).alloc (by simp) _).alloc (by simp; omega) _).alloc (by simp; omega) _
 have hz4 : W4.heap.size = w.heap.size + 1 + 1 + 1 + 1 := by rw [hW4]; simp
 have c : W4.cell? ⟨w.heap.size, 2, none⟩ = some (.slice (some ⟨ja, joff, none⟩) 1 akc) ∧ W4.cell? ⟨w.heap.size + 1, 2, none⟩ = some (.slice (some ⟨kb, koff, none⟩) 1 bkc) ∧ W4.cell? ⟨w.heap.size + 1 + 1, 4, none⟩ = some (.slice tka ks.length tkc) := by
  rw [hW4]
  refine ⟨?_, ?_, ?_⟩ <;> simp [go_sem]
 have kz : W4.heap[w.heap.size + 1 + 1 + 1]? = some (.cells #[.int .i64 0, .int .i64 0, .string ⟨#[]⟩, .slice none 0 0, .slice none 0 0] 29 (0, 0)) := by
  have := heap_alloc_new (((w.alloc (.cells #[.int .i64 4, .slice ana la1 anc, .slice (some ⟨ja, joff, none⟩) 1 akc] 26)).alloc (.cells #[.int .i64 4, .slice bna lb1 bnc, .slice (some ⟨kb, koff, none⟩) 1 bkc] 26)).alloc (.cells #[.int .i64 4, .int .i64 0, .string ByteArray.empty, .slice tna ln1 tnc, .slice tka ks.length tkc] 29)) (.cells #[.int .i64 0, .int .i64 0, .string ⟨#[]⟩, .slice none 0 0, .slice none 0 0] 29)
  rw [hW4]; simpa using this
 have HK : Hid (∀ W, Below (w.heap.size + 1 + 1 + 1 + 1) W4 W → (W.cell? ⟨w.heap.size, 2, none⟩ = some (.slice (some ⟨ja, joff, none⟩) 1 akc) ∧ W.cell? ⟨w.heap.size + 1, 2, none⟩ = some (.slice (some ⟨kb, koff, none⟩) 1 bkc) ∧ W.cell? ⟨w.heap.size + 1 + 1, 4, none⟩ = some (.slice tka ks.length tkc)) ∧
   (W.cell? ⟨ja, joff, none⟩ = some (.int .i64 i0) ∧ W.cell? ⟨ja, joff + 1, none⟩ = some (.slice ia il ic) ∧ W.cell? ⟨ja, joff + 2, none⟩ = some (.slice ha_ hl_ hc_)) ∧ (W.cell? ⟨kb, koff, none⟩ = some (.int .i64 z0) ∧ W.cell? ⟨kb, koff + 1, none⟩ = some (.slice za zl zc) ∧ W.cell? ⟨kb, koff + 2, none⟩ = some (.slice ua ul uc)) ∧
   Below w.heap.size w W ∧ W.heap[w.heap.size + 1 + 1 + 1]? = some (.cells #[.int .i64 0, .int .i64 0, .string ⟨#[]⟩, .slice none 0 0, .slice none 0 0] 29 (0, 0))) := fun W hW => by
  have hbW : Below w.heap.size w W := hb4.trans (hW.mono (by omega))
  exact ⟨⟨(hW.cell (p := ⟨w.heap.size, 2, none⟩) (by show w.heap.size < _; omega)).trans c.1, (hW.cell (p := ⟨w.heap.size + 1, 2, none⟩) (by show w.heap.size + 1 < _; omega)).trans c.2.1, (hW.cell (p := ⟨w.heap.size + 1 + 1, 4, none⟩) (by show w.heap.size + 1 + 1 < _; omega)).trans c.2.2⟩,
   ⟨(hbW.cell (p := ⟨ja, joff, none⟩) hja).trans (by simpa using l0), (hbW.cell (p := ⟨ja, joff + 1, none⟩) hja).trans (by simpa using l1), (hbW.cell (p := ⟨ja, joff + 2, none⟩) hja).trans (by simpa using l2)⟩,
   ⟨(hbW.cell (p := ⟨kb, koff, none⟩) hkb).trans (by simpa using k0), (hbW.cell (p := ⟨kb, koff + 1, none⟩) hkb).trans (by simpa using k1), (hbW.cell (p := ⟨kb, koff + 2, none⟩) hkb).trans (by simpa using k2)⟩,
   hbW, (hW.block (w.heap.size + 1 + 1 + 1) (by omega)).trans kz⟩
 clear hm hxin hyin k0 k1 k2 l0 l1 l2 hbk hak hgx hgy hcy hgt hf hh c kz sa ky kx hwa hwb hgk htk hks st sb hn0 htx0 hkb hja
 obtain ⟨it0, hi0, hy0, hy1, hyb⟩ := info_parts Tryz.info_treeW
 have HIT : Hid (_ ∧ _ ∧ _ ∧ _) := ⟨hi0, hy0, hy1, hyb⟩
 clear hi0 hy0 hy1 hyb
 unfold maxLen at htl
 go_enter Tryz.func30, Tryz.ntmps30
 go_wp2_with fail
 rw [← hW4]
 clear hW4
 go_loopw [9] (fun i wr => ∃ (j : Nat) (kv : Value), j ≤ ks.length ∧ i = .int .i64 j ∧ Many w.heap.size (w.heap.size + 1 + 1 + 1 + 1) m W4 wr 4 [] ((ks.map (fun u => widT m y n x p u)).take j) (.slice none 0 0) kv ∧ Below (w.heap.size + 1 + 1 + 1 + 1) W4 wr) (fun i _ => ks.length - (intOf i).toNat)
 case atStart =>
  refine ⟨0, .slice none 0 0, Nat.zero_le _, rfl, ⟨Near.alloc _ _ _, ?_, ⟨by simp, .inl ⟨rfl, by simp⟩⟩, by simp, ⟨[], ⟨by simp, .inl ⟨rfl, by simp⟩⟩, fun j hj => absurd hj (by simp)⟩, fun b hb => by cases hb⟩, (Below.refl _ _).alloc (by omega) _⟩
  rw [← hz4]; exact heap_alloc_new _ _
 case round =>
  obtain ⟨j, kv, hj, rfl, hM, hbel⟩ := hrel
  obtain ⟨xs, hxs, hkids⟩ := hM.kids
  obtain ⟨kva, kvc, rfl⟩ := owns_shape hxs
  have hX := hM.lt
  have hlK : ((ks.map (fun u => widT m y n x p u)).take j).length = j := by simp; omega
  rw [hlK] at hxs
  obtain ⟨⟨i1, i2, i3⟩, -, -, hbw, hres⟩ := HK.out wr hbel
  have hbox := hM.box
  rw [hlK] at hbox
  have HM : Hid (Many w.heap.size (w.heap.size + 1 + 1 + 1 + 1) m W4 wr 4 [] ((ks.map (fun u => widT m y n x p u)).take j) (.slice none 0 0) (.slice kva j kvc)) := by
   show Many _ _ _ _ _ _ _ _ _ _
   rw [hlK] at hM; exact hM
  clear hM
  by_cases hlt : j < ks.length
  ·
   have hlti : (j : Int) < (ks.length : Int) := by omega
   obtain ⟨tb, toff, rfl, htb, q0, q1, q2, qa, ql, qc, ra, rl, rc, m0, m1, m2, m3, m4, hcall⟩ := HTK.out j hlt
   have x4 : wr.cell? ⟨w.heap.size + 1 + 1 + 1 + 1, 4, none⟩ = some (.slice kva j kvc) := by simp [World.cell?, hbox]
   have HKS : Hid (∀ W, Below (w.heap.size + 1 + 1 + 1 + 1) W4 W → (W.cell? ⟨w.heap.size, 2, none⟩ = some (.slice (some ⟨ja, joff, none⟩) 1 akc) ∧ W.cell? ⟨w.heap.size + 1, 2, none⟩ = some (.slice (some ⟨kb, koff, none⟩) 1 bkc) ∧ W.cell? ⟨w.heap.size + 1 + 1, 4, none⟩ = some (.slice (some ⟨tb, toff, none⟩) ks.length tkc)) ∧
     (W.cell? ⟨ja, joff, none⟩ = some (.int .i64 i0) ∧ W.cell? ⟨ja, joff + 1, none⟩ = some (.slice ia il ic) ∧ W.cell? ⟨ja, joff + 2, none⟩ = some (.slice ha_ hl_ hc_)) ∧ (W.cell? ⟨kb, koff, none⟩ = some (.int .i64 z0) ∧ W.cell? ⟨kb, koff + 1, none⟩ = some (.slice za zl zc) ∧ W.cell? ⟨kb, koff + 2, none⟩ = some (.slice ua ul uc)) ∧
     (W.cell? ⟨tb, toff + j * 5, none⟩ = some (.int .i64 q0) ∧ W.cell? ⟨tb, toff + j * 5 + 1, none⟩ = some (.int .i64 q1) ∧ W.cell? ⟨tb, toff + j * 5 + 2, none⟩ = some (.string q2) ∧ W.cell? ⟨tb, toff + j * 5 + 3, none⟩ = some (.slice qa ql qc) ∧ W.cell? ⟨tb, toff + j * 5 + 4, none⟩ = some (.slice ra rl rc))) := fun W hW => by
    obtain ⟨g1, g2, g3, g4, -⟩ := HK.out W hW
    exact ⟨g1, g2, g3, (g4.cell (p := ⟨tb, toff + j * 5, none⟩) htb).trans m0, (g4.cell (p := ⟨tb, toff + j * 5 + 1, none⟩) htb).trans m1, (g4.cell (p := ⟨tb, toff + j * 5 + 2, none⟩) htb).trans m2, (g4.cell (p := ⟨tb, toff + j * 5 + 3, none⟩) htb).trans m3, (g4.cell (p := ⟨tb, toff + j * 5 + 4, none⟩) htb).trans m4⟩
   have HC : Hid (Calls Tryz.prog 30 _ wr.drew _) := hcall wr.drew hbw.drew
   have hbd : Below (w.heap.size + 1 + 1 + 1 + 1) W4 wr.drew := hbel.drew
   have HXK := hidF hxs
   have HKK := hidF hkids
   have HNT : Hid ((ks.map (fun u => widT m y n x p u)).take (j + 1) = (ks.map (fun u => widT m y n x p u)).take j ++ [widT m y n x p ks[j]]) := by
    show _ = _
    rw [List.take_succ_eq_append_getElem (by simpa using hlt)]; simp
   have HBel := hidF hbel
   have hXz : w.heap.size + 1 + 1 + 1 + 1 < wr.heap.size := hX
   clear hxs hkids hcall m0 m1 m2 m3 m4 hres hbel HTK hX
   generalize ks[j] = kj at *
   go_wp2_with fail
   refine wp_region_held_drew (S := (fun W => (W.cell? ⟨w.heap.size, 2, none⟩ = some (.slice (some ⟨ja, joff, none⟩) 1 akc) ∧ W.cell? ⟨w.heap.size + 1, 2, none⟩ = some (.slice (some ⟨kb, koff, none⟩) 1 bkc) ∧ W.cell? ⟨w.heap.size + 1 + 1, 4, none⟩ = some (.slice (some ⟨tb, toff, none⟩) ks.length tkc)) ∧
     (W.cell? ⟨ja, joff, none⟩ = some (.int .i64 i0) ∧ W.cell? ⟨ja, joff + 1, none⟩ = some (.slice ia il ic) ∧ W.cell? ⟨ja, joff + 2, none⟩ = some (.slice ha_ hl_ hc_)) ∧ (W.cell? ⟨kb, koff, none⟩ = some (.int .i64 z0) ∧ W.cell? ⟨kb, koff + 1, none⟩ = some (.slice za zl zc) ∧ W.cell? ⟨kb, koff + 2, none⟩ = some (.slice ua ul uc)) ∧
     (W.cell? ⟨tb, toff + j * 5, none⟩ = some (.int .i64 q0) ∧ W.cell? ⟨tb, toff + j * 5 + 1, none⟩ = some (.int .i64 q1) ∧ W.cell? ⟨tb, toff + j * 5 + 2, none⟩ = some (.string q2) ∧ W.cell? ⟨tb, toff + j * 5 + 3, none⟩ = some (.slice qa ql qc) ∧ W.cell? ⟨tb, toff + j * 5 + 4, none⟩ = some (.slice ra rl rc)))) (by kernel_rfl) (HKS.out _ hbd) (fun hHeld => ?_)
   refine wpAnyH_take (i := 0) (v := ?_) rfl (by kernel_rfl) (by kernel_rfl) (by kernel_rfl) (fun _ _ _ h => h) (Or.inl ⟨by rfl, ?_⟩) (by assumption) ?_
   rotate_left 1
   · (intro wq hSw; (try dsimp only at hSw); go_simp; first | done | with_reducible rfl)
   refine wpAnyH_take (i := 2) (v := ?_) rfl (by kernel_rfl) (by kernel_rfl) (by kernel_rfl) (fun _ _ _ h => h) (Or.inl ⟨by rfl, ?_⟩) (by assumption) ?_
   rotate_left 1
   · (intro wq hSw; (try dsimp only at hSw); go_simp; first | done | with_reducible rfl)
   refine wpAnyH_take (i := 3) (v := ?_) rfl (by kernel_rfl) (by kernel_rfl) (by kernel_rfl) (fun _ _ _ h => h) (Or.inl ⟨by rfl, ?_⟩) (by assumption) ?_
   rotate_left 1
   · (intro wq hSw; (try dsimp only at hSw); go_simp; first | done | with_reducible rfl)
   refine wpAnyH_take (i := 4) (v := ?_) rfl (by kernel_rfl) (by kernel_rfl) (by kernel_rfl) (fun _ _ _ h => h) (Or.inl ⟨by rfl, ?_⟩) (by assumption) ?_
   rotate_left 1
   · (intro wq hSw; (try dsimp only at hSw); go_simp; first | done | with_reducible rfl)
   refine wpAnyH_take (i := 5) (v := ?_) rfl (by kernel_rfl) (by kernel_rfl) (by kernel_rfl) (fun _ _ _ h => h) (Or.inl ⟨by rfl, ?_⟩) (by assumption) ?_
   rotate_left 1
   · (intro wq hSw; (try dsimp only at hSw); go_simp; first | done | with_reducible rfl)
   refine wpAnyH_take (i := 6) (v := ?_) rfl (by kernel_rfl) (by kernel_rfl) (by kernel_rfl) (fun _ _ _ h => h) (Or.inl ⟨by rfl, ?_⟩) (by assumption) ?_
   rotate_left 1
   · (intro wq hSw; (try dsimp only at hSw); go_simp; first | done | with_reducible rfl)
   refine wpAnyH_take (i := 7) (v := ?_) rfl (by kernel_rfl) (by kernel_rfl) (by kernel_rfl) (fun _ _ _ h => h) (Or.inl ⟨by rfl, ?_⟩) (by assumption) ?_
   rotate_left 1
   · (intro wq hSw; (try dsimp only at hSw); go_simp; first | done | with_reducible rfl)
   refine wpAnyH_take (i := 8) (v := ?_) rfl (by kernel_rfl) (by kernel_rfl) (by kernel_rfl) (fun _ _ _ h => h) (Or.inl ⟨by rfl, ?_⟩) (by assumption) ?_
   rotate_left 1
   · (intro wq hSw; (try dsimp only at hSw); go_simp; first | done | with_reducible rfl)
   refine wpAnyH_take (i := 9) (v := ?_) rfl (by kernel_rfl) (by kernel_rfl) (by kernel_rfl) (fun _ _ _ h => h) (Or.inl ⟨by rfl, ?_⟩) (by assumption) ?_
   rotate_left 1
   · (intro wq hSw; (try dsimp only at hSw); go_simp; first | done | with_reducible rfl)
   refine wpAnyH_take (i := 10) (v := ?_) rfl (by kernel_rfl) (by kernel_rfl) (by kernel_rfl) (fun _ _ _ h => h) (Or.inl ⟨by rfl, ?_⟩) (by assumption) ?_
   rotate_left 1
   · (intro wq hSw; (try dsimp only at hSw); go_simp; first | done | with_reducible rfl)
   refine wpAnyH_take (i := 11) (v := ?_) rfl (by kernel_rfl) (by kernel_rfl) (by kernel_rfl) (fun _ _ _ h => h) (Or.inl ⟨by rfl, ?_⟩) (by assumption) ?_
   rotate_left 1
   · (intro wq hSw; (try dsimp only at hSw); go_simp; first | done | with_reducible rfl)
   refine wpAnyH_take (i := 12) (v := ?_) rfl (by kernel_rfl) (by kernel_rfl) (by kernel_rfl) (fun _ _ _ h => h) (Or.inl ⟨by rfl, ?_⟩) (by assumption) ?_
   rotate_left 1
   · (intro wq hSw; (try dsimp only at hSw); go_simp; first | done | with_reducible rfl)
   refine wpAnyH_take (i := 13) (v := ?_) rfl (by kernel_rfl) (by kernel_rfl) (by kernel_rfl) (fun _ _ _ h => h) (Or.inl ⟨by rfl, ?_⟩) (by assumption) ?_
   rotate_left 1
   · (intro wq hSw; (try dsimp only at hSw); go_simp; first | done | with_reducible rfl)
   refine wpAnyH_take (i := 14) (v := ?_) rfl (by kernel_rfl) (by kernel_rfl) (by kernel_rfl) (fun _ _ _ h => h) (Or.inl ⟨by rfl, ?_⟩) (by assumption) ?_
   rotate_left 1
   · (intro wq hSw; (try dsimp only at hSw); go_simp; first | done | with_reducible rfl)
   refine wpAnyH_ready (rs := [1, 15]) (by kernel_rfl) (by simp) ?_
   refine AllReadyH.cons rfl (fun K hK => ?_) (AllReadyH.cons rfl (fun K hK => ?_) AllReadyH.nil)
   ·
    go_simp
    refine hK.out _ _ (HKS.out _ hbd) (fun hHeld => ?_)
    clear hK K
    refine wpAnyH_ready (rs := [15]) (by kernel_rfl) (by simp) ?_
    refine AllReadyH.cons rfl (fun K hK => ?_) AllReadyH.nil
    go_simp
    go_at_call 30
    refine HC.out.mono ?_
    rintro en w5 ⟨hb5', u0, u1, u2, va, vl, vc, pa, pl, pc, rfl, hin5⟩
    have hz5 : wr.heap.size ≤ w5.heap.size := hb5'.size
    have hb5 : Below (w.heap.size + 1 + 1 + 1 + 1) W4 w5 := hbd.trans (hb5'.mono (by show _ ≤ wr.heap.size; omega))
    have hb5a : ∀ o, Below (w.heap.size + 1 + 1 + 1 + 1) W4 (w5.alloc o) := (fun o => hb5.alloc (by omega) o)
    have hbx5 := (hb5'.block (w.heap.size + 1 + 1 + 1 + 1) hXz).trans hbox
    have hoxK : ∀ o, (w5.alloc o).ownsRow (w.heap.size + 1 + 1 + 1 + 1 + 1) 29 5 (.slice kva j kvc) j xs := (fun o => owns_keep HXK.out (fun g' hg' => by have := owns_lt HXK.out g' hg'; rw [Below.heap_alloc _ _ _ (by omega)]; exact hb5'.block g' this.2))
    have x4' : w5.cell? ⟨w.heap.size + 1 + 1 + 1 + 1, 4, none⟩ = some (.slice kva j kvc) := (by simp [World.cell?, hbx5])
    have x4a : (w5.alloc (.cells #[.int .i64 u0, .int .i64 u1, .string u2, .slice va vl vc, .slice pa pl pc] 29)).cell? ⟨w.heap.size + 1 + 1 + 1 + 1, 4, none⟩ = some (.slice kva j kvc) := (World.cell?_of_block (Below.heap_alloc _ _ _ (by show w.heap.size + 1 + 1 + 1 + 1 < _; omega))).trans x4'
    refine hK.out _ _ (HKS.out _ hb5) (fun hHeld => ?_)
    clear hK K
    refine wpAnyH_ready (rs := [16]) (by kernel_rfl) (by simp) ?_
    refine AllReadyH.cons rfl (fun K hK => ?_) AllReadyH.nil
    go_simp
    refine hK.out _ _ (HKS.out _ (hb5a _)) (fun hHeld => ?_)
    clear hK K
    refine wpAnyH_ready (rs := [17]) (by kernel_rfl) (by simp) ?_
    refine AllReadyH.cons rfl (fun K hK => ?_) AllReadyH.nil
    refine step_append_lies _ (by rfl) (.tmp 72) (.tmp 87) 27 (by rfl) (w.heap.size + 1 + 1 + 1 + 1 + 1) 29 it0 _ 5 80 Tryz.underlying27 HIT.out.1 HIT.out.2.1 HIT.out.2.2.1 HIT.out.2.2.2 rfl (by decide) (.slice kva j kvc) j xs (by rfl) (hoxK _) ⟨w5.heap.size, 0, none⟩ 1 1 [.int .i64 u0, .int .i64 u1, .string u2, .slice va vl vc, .slice pa pl pc] (by rfl) rfl (World.news_of_block (heap_alloc_new w5 _)) (by simp [Value.oneCell']) (by decide) (by unfold maxLen; omega) (by omega) (by simp; omega) (w5.heap.size + 1) (by simp) ?_
    intro g2 cap2 w6 hown6 hgrow6 hat6 hlt6
    have hbx6 := ((hgrow6.block (w.heap.size + 1 + 1 + 1 + 1) (by simp; omega) (fun e => by have := owns_lt HXK.out _ e.symm; omega)).trans (Below.heap_alloc _ _ _ (by omega))).trans hbx5
    have x4'' : w6.cell? ⟨w.heap.size + 1 + 1 + 1 + 1, 4, none⟩ = some (.slice kva j kvc) := (by simp [World.cell?, hbx6])
    have xf4 : w6.frozen? ⟨w.heap.size + 1 + 1 + 1 + 1, 4, none⟩ = false := (by simp [World.frozen?, hbx6])
    have hb6 : Below (w.heap.size + 1 + 1 + 1 + 1) W4 w6 := (hb5a (.cells #[.int .i64 u0, .int .i64 u1, .string u2, .slice va vl vc, .slice pa pl pc] 29)).grown hgrow6 (by simp; omega) (fun q hq => by have := owns_lt HXK.out q hq; omega)
    refine hK.out _ _ (HKS.out _ hb6) (fun hHeld => ?_)
    clear hK K
    refine wpAnyH_ready (rs := [18]) (by kernel_rfl) (by simp) ?_
    refine AllReadyH.cons rfl (fun K hK => ?_) AllReadyH.nil
    go_simp
    refine hK.out _ _ (HKS.out _ hb6) (fun hHeld => ?_)
    clear hK K
    refine wpAnyH_ready (rs := [19]) (by kernel_rfl) (by simp) ?_
    refine AllReadyH.cons rfl (fun K hK => ?_) AllReadyH.nil
    go_simp
    refine hK.out _ _ (HKS.out _ (hb6.setCell (Nat.le_refl _) _)) (fun hHeld => ?_)
    clear hK K
    refine wpAnyH_done (by kernel_rfl) ?_ _
    have hKd := Many.kid (W := wr.drew) (W1 := w5) (Wa := w5.alloc (.cells #[.int .i64 u0, .int .i64 u1, .string u2, .slice va vl vc, .slice pa pl pc] 29)) (one := .cells #[.int .i64 u0, .int .i64 u1, .string u2, .slice va vl vc, .slice pa pl pc] 29) (g := g2) (cap := cap2) (xs := xs)
     (HM.out.keep (by omega) (Near.drew (Near.refl _ wr))) (by omega) (by omega) (Near.of_below hb5') hin5.out rfl ⟨rfl, rfl, rfl⟩ (by rw [hlK]; exact HXK.out.drew)
     (fun q hq => by obtain ⟨d0, d1, d2, d3, d4, hd, hdt⟩ := HKK.out q hq; exact ⟨d0, d1, d2, d3, d4, hd, TreeIn.keep (w := wr) (w' := wr.drew) (fun _ _ => rfl) (fun b h => by rw [hlK] at h; exact h) hdt⟩) (by rw [hlK]; exact hown6) hgrow6 hat6
    rw [hlK] at hKd
    have HF : Hid (Many w.heap.size (w.heap.size + 1 + 1 + 1 + 1) m W4 (w6.setCell ⟨w.heap.size + 1 + 1 + 1 + 1, 4, none⟩ (.slice (some ⟨g2, 0, none⟩) (j + 1) cap2)) 4 [] ((ks.map (fun u => widT m y n x p u)).take (j + 1)) (.slice none 0 0) (.slice (some ⟨g2, 0, none⟩) (j + 1) cap2)) := by
     show Many _ _ _ _ _ _ _ _ _ _
     rw [HNT.out]; exact hKd
    have HB6 : Hid (Below (w.heap.size + 1 + 1 + 1 + 1) W4 (w6.setCell ⟨w.heap.size + 1 + 1 + 1 + 1, 4, none⟩ (.slice (some ⟨g2, 0, none⟩) (j + 1) cap2))) := hb6.setCell (Nat.le_refl _) _
    clear hKd hown6 hgrow6 hat6 hin5 hb5' hb5 hb5a hoxK x4' x4a x4'' xf4 hbx6 hbx5 hb6
    go_wp2_with fail
    go_roundw
    case rel => exact ⟨j + 1, _, by omega, by go_num, HF.out, HB6.out⟩
    case measure => simp [intOf]; omega
   ·
    go_simp
    go_at_call 30
    refine HC.out.mono ?_
    rintro en w5 ⟨hb5', u0, u1, u2, va, vl, vc, pa, pl, pc, rfl, hin5⟩
    have hz5 : wr.heap.size ≤ w5.heap.size := hb5'.size
    have hb5 : Below (w.heap.size + 1 + 1 + 1 + 1) W4 w5 := hbd.trans (hb5'.mono (by show _ ≤ wr.heap.size; omega))
    have hb5a : ∀ o, Below (w.heap.size + 1 + 1 + 1 + 1) W4 (w5.alloc o) := (fun o => hb5.alloc (by omega) o)
    have hbx5 := (hb5'.block (w.heap.size + 1 + 1 + 1 + 1) hXz).trans hbox
    have hoxK : ∀ o, (w5.alloc o).ownsRow (w.heap.size + 1 + 1 + 1 + 1 + 1) 29 5 (.slice kva j kvc) j xs := (fun o => owns_keep HXK.out (fun g' hg' => by have := owns_lt HXK.out g' hg'; rw [Below.heap_alloc _ _ _ (by omega)]; exact hb5'.block g' this.2))
    have x4' : w5.cell? ⟨w.heap.size + 1 + 1 + 1 + 1, 4, none⟩ = some (.slice kva j kvc) := (by simp [World.cell?, hbx5])
    have x4a : (w5.alloc (.cells #[.int .i64 u0, .int .i64 u1, .string u2, .slice va vl vc, .slice pa pl pc] 29)).cell? ⟨w.heap.size + 1 + 1 + 1 + 1, 4, none⟩ = some (.slice kva j kvc) := (World.cell?_of_block (Below.heap_alloc _ _ _ (by show w.heap.size + 1 + 1 + 1 + 1 < _; omega))).trans x4'
    refine hK.out _ _ (HKS.out _ hb5) (fun hHeld => ?_)
    clear hK K
    refine wpAnyH_ready (rs := [1, 16]) (by kernel_rfl) (by simp) ?_
    refine AllReadyH.cons rfl (fun K hK => ?_) (AllReadyH.cons rfl (fun K hK => ?_) AllReadyH.nil)
    ·
     go_simp
     refine hK.out _ _ (HKS.out _ hb5) (fun hHeld => ?_)
     clear hK K
     refine wpAnyH_ready (rs := [16]) (by kernel_rfl) (by simp) ?_
     refine AllReadyH.cons rfl (fun K hK => ?_) AllReadyH.nil
     go_simp
     refine hK.out _ _ (HKS.out _ (hb5a _)) (fun hHeld => ?_)
     clear hK K
     refine wpAnyH_ready (rs := [17]) (by kernel_rfl) (by simp) ?_
     refine AllReadyH.cons rfl (fun K hK => ?_) AllReadyH.nil
     refine step_append_lies _ (by rfl) (.tmp 72) (.tmp 87) 27 (by rfl) (w.heap.size + 1 + 1 + 1 + 1 + 1) 29 it0 _ 5 80 Tryz.underlying27 HIT.out.1 HIT.out.2.1 HIT.out.2.2.1 HIT.out.2.2.2 rfl (by decide) (.slice kva j kvc) j xs (by rfl) (hoxK _) ⟨w5.heap.size, 0, none⟩ 1 1 [.int .i64 u0, .int .i64 u1, .string u2, .slice va vl vc, .slice pa pl pc] (by rfl) rfl (World.news_of_block (heap_alloc_new w5 _)) (by simp [Value.oneCell']) (by decide) (by unfold maxLen; omega) (by omega) (by simp; omega) (w5.heap.size + 1) (by simp) ?_
     intro g2 cap2 w6 hown6 hgrow6 hat6 hlt6
     have hbx6 := ((hgrow6.block (w.heap.size + 1 + 1 + 1 + 1) (by simp; omega) (fun e => by have := owns_lt HXK.out _ e.symm; omega)).trans (Below.heap_alloc _ _ _ (by omega))).trans hbx5
     have x4'' : w6.cell? ⟨w.heap.size + 1 + 1 + 1 + 1, 4, none⟩ = some (.slice kva j kvc) := (by simp [World.cell?, hbx6])
     have xf4 : w6.frozen? ⟨w.heap.size + 1 + 1 + 1 + 1, 4, none⟩ = false := (by simp [World.frozen?, hbx6])
     have hb6 : Below (w.heap.size + 1 + 1 + 1 + 1) W4 w6 := (hb5a (.cells #[.int .i64 u0, .int .i64 u1, .string u2, .slice va vl vc, .slice pa pl pc] 29)).grown hgrow6 (by simp; omega) (fun q hq => by have := owns_lt HXK.out q hq; omega)
     refine hK.out _ _ (HKS.out _ hb6) (fun hHeld => ?_)
     clear hK K
     refine wpAnyH_ready (rs := [18]) (by kernel_rfl) (by simp) ?_
     refine AllReadyH.cons rfl (fun K hK => ?_) AllReadyH.nil
     go_simp
     refine hK.out _ _ (HKS.out _ hb6) (fun hHeld => ?_)
     clear hK K
     refine wpAnyH_ready (rs := [19]) (by kernel_rfl) (by simp) ?_
     refine AllReadyH.cons rfl (fun K hK => ?_) AllReadyH.nil
     go_simp
     refine hK.out _ _ (HKS.out _ (hb6.setCell (Nat.le_refl _) _)) (fun hHeld => ?_)
     clear hK K
     refine wpAnyH_done (by kernel_rfl) ?_ _
     have hKd := Many.kid (W := wr.drew) (W1 := w5) (Wa := w5.alloc (.cells #[.int .i64 u0, .int .i64 u1, .string u2, .slice va vl vc, .slice pa pl pc] 29)) (one := .cells #[.int .i64 u0, .int .i64 u1, .string u2, .slice va vl vc, .slice pa pl pc] 29) (g := g2) (cap := cap2) (xs := xs)
      (HM.out.keep (by omega) (Near.drew (Near.refl _ wr))) (by omega) (by omega) (Near.of_below hb5') hin5.out rfl ⟨rfl, rfl, rfl⟩ (by rw [hlK]; exact HXK.out.drew)
      (fun q hq => by obtain ⟨d0, d1, d2, d3, d4, hd, hdt⟩ := HKK.out q hq; exact ⟨d0, d1, d2, d3, d4, hd, TreeIn.keep (w := wr) (w' := wr.drew) (fun _ _ => rfl) (fun b h => by rw [hlK] at h; exact h) hdt⟩) (by rw [hlK]; exact hown6) hgrow6 hat6
     rw [hlK] at hKd
     have HF : Hid (Many w.heap.size (w.heap.size + 1 + 1 + 1 + 1) m W4 (w6.setCell ⟨w.heap.size + 1 + 1 + 1 + 1, 4, none⟩ (.slice (some ⟨g2, 0, none⟩) (j + 1) cap2)) 4 [] ((ks.map (fun u => widT m y n x p u)).take (j + 1)) (.slice none 0 0) (.slice (some ⟨g2, 0, none⟩) (j + 1) cap2)) := by
      show Many _ _ _ _ _ _ _ _ _ _
      rw [HNT.out]; exact hKd
     have HB6 : Hid (Below (w.heap.size + 1 + 1 + 1 + 1) W4 (w6.setCell ⟨w.heap.size + 1 + 1 + 1 + 1, 4, none⟩ (.slice (some ⟨g2, 0, none⟩) (j + 1) cap2))) := hb6.setCell (Nat.le_refl _) _
     clear hKd hown6 hgrow6 hat6 hin5 hb5' hb5 hb5a hoxK x4' x4a x4'' xf4 hbx6 hbx5 hb6
     go_wp2_with fail
     go_roundw
     case rel => exact ⟨j + 1, _, by omega, by go_num, HF.out, HB6.out⟩
     case measure => simp [intOf]; omega
    ·
     go_simp
     refine hK.out _ _ (HKS.out _ (hb5a _)) (fun hHeld => ?_)
     clear hK K
     refine wpAnyH_ready (rs := [1]) (by kernel_rfl) (by simp) ?_
     refine AllReadyH.cons rfl (fun K hK => ?_) AllReadyH.nil
     go_simp
     refine hK.out _ _ (HKS.out _ (hb5a _)) (fun hHeld => ?_)
     clear hK K
     refine wpAnyH_ready (rs := [17]) (by kernel_rfl) (by simp) ?_
     refine AllReadyH.cons rfl (fun K hK => ?_) AllReadyH.nil
     refine step_append_lies _ (by rfl) (.tmp 72) (.tmp 87) 27 (by rfl) (w.heap.size + 1 + 1 + 1 + 1 + 1) 29 it0 _ 5 80 Tryz.underlying27 HIT.out.1 HIT.out.2.1 HIT.out.2.2.1 HIT.out.2.2.2 rfl (by decide) (.slice kva j kvc) j xs (by rfl) (hoxK _) ⟨w5.heap.size, 0, none⟩ 1 1 [.int .i64 u0, .int .i64 u1, .string u2, .slice va vl vc, .slice pa pl pc] (by rfl) rfl (World.news_of_block (heap_alloc_new w5 _)) (by simp [Value.oneCell']) (by decide) (by unfold maxLen; omega) (by omega) (by simp; omega) (w5.heap.size + 1) (by simp) ?_
     intro g2 cap2 w6 hown6 hgrow6 hat6 hlt6
     have hbx6 := ((hgrow6.block (w.heap.size + 1 + 1 + 1 + 1) (by simp; omega) (fun e => by have := owns_lt HXK.out _ e.symm; omega)).trans (Below.heap_alloc _ _ _ (by omega))).trans hbx5
     have x4'' : w6.cell? ⟨w.heap.size + 1 + 1 + 1 + 1, 4, none⟩ = some (.slice kva j kvc) := (by simp [World.cell?, hbx6])
     have xf4 : w6.frozen? ⟨w.heap.size + 1 + 1 + 1 + 1, 4, none⟩ = false := (by simp [World.frozen?, hbx6])
     have hb6 : Below (w.heap.size + 1 + 1 + 1 + 1) W4 w6 := (hb5a (.cells #[.int .i64 u0, .int .i64 u1, .string u2, .slice va vl vc, .slice pa pl pc] 29)).grown hgrow6 (by simp; omega) (fun q hq => by have := owns_lt HXK.out q hq; omega)
     refine hK.out _ _ (HKS.out _ hb6) (fun hHeld => ?_)
     clear hK K
     refine wpAnyH_ready (rs := [18]) (by kernel_rfl) (by simp) ?_
     refine AllReadyH.cons rfl (fun K hK => ?_) AllReadyH.nil
     go_simp
     refine hK.out _ _ (HKS.out _ hb6) (fun hHeld => ?_)
     clear hK K
     refine wpAnyH_ready (rs := [19]) (by kernel_rfl) (by simp) ?_
     refine AllReadyH.cons rfl (fun K hK => ?_) AllReadyH.nil
     go_simp
     refine hK.out _ _ (HKS.out _ (hb6.setCell (Nat.le_refl _) _)) (fun hHeld => ?_)
     clear hK K
     refine wpAnyH_done (by kernel_rfl) ?_ _
     have hKd := Many.kid (W := wr.drew) (W1 := w5) (Wa := w5.alloc (.cells #[.int .i64 u0, .int .i64 u1, .string u2, .slice va vl vc, .slice pa pl pc] 29)) (one := .cells #[.int .i64 u0, .int .i64 u1, .string u2, .slice va vl vc, .slice pa pl pc] 29) (g := g2) (cap := cap2) (xs := xs)
      (HM.out.keep (by omega) (Near.drew (Near.refl _ wr))) (by omega) (by omega) (Near.of_below hb5') hin5.out rfl ⟨rfl, rfl, rfl⟩ (by rw [hlK]; exact HXK.out.drew)
      (fun q hq => by obtain ⟨d0, d1, d2, d3, d4, hd, hdt⟩ := HKK.out q hq; exact ⟨d0, d1, d2, d3, d4, hd, TreeIn.keep (w := wr) (w' := wr.drew) (fun _ _ => rfl) (fun b h => by rw [hlK] at h; exact h) hdt⟩) (by rw [hlK]; exact hown6) hgrow6 hat6
     rw [hlK] at hKd
     have HF : Hid (Many w.heap.size (w.heap.size + 1 + 1 + 1 + 1) m W4 (w6.setCell ⟨w.heap.size + 1 + 1 + 1 + 1, 4, none⟩ (.slice (some ⟨g2, 0, none⟩) (j + 1) cap2)) 4 [] ((ks.map (fun u => widT m y n x p u)).take (j + 1)) (.slice none 0 0) (.slice (some ⟨g2, 0, none⟩) (j + 1) cap2)) := by
      show Many _ _ _ _ _ _ _ _ _ _
      rw [HNT.out]; exact hKd
     have HB6 : Hid (Below (w.heap.size + 1 + 1 + 1 + 1) W4 (w6.setCell ⟨w.heap.size + 1 + 1 + 1 + 1, 4, none⟩ (.slice (some ⟨g2, 0, none⟩) (j + 1) cap2))) := hb6.setCell (Nat.le_refl _) _
     clear hKd hown6 hgrow6 hat6 hin5 hb5' hb5 hb5a hoxK x4' x4a x4'' xf4 hbx6 hbx5 hb6
     go_wp2_with fail
     go_roundw
     case rel => exact ⟨j + 1, _, by omega, by go_num, HF.out, HB6.out⟩
     case measure => simp [intOf]; omega
  ·
   have hjl : j = ks.length := by omega
   have hlti : ¬ (j : Int) < (ks.length : Int) := by omega
   obtain ⟨⟨r0, r1, r2, r3, r4⟩, f0, f1, f2, f3, f4⟩ := zeroT_cells hres
   have y0 : wr.cell? ⟨w.heap.size + 1 + 1 + 1 + 1, 0, none⟩ = some (.int .i64 4) := by simp [World.cell?, hbox]
   have y1 : wr.cell? ⟨w.heap.size + 1 + 1 + 1 + 1, 1, none⟩ = some (.int .i64 0) := by simp [World.cell?, hbox]
   have y2 : wr.cell? ⟨w.heap.size + 1 + 1 + 1 + 1, 2, none⟩ = some (.string ByteArray.empty) := by simp [World.cell?, hbox]
   have y3 : wr.cell? ⟨w.heap.size + 1 + 1 + 1 + 1, 3, none⟩ = some (.slice none 0 0) := by simp [World.cell?, hbox]
   have y4 : wr.cell? ⟨w.heap.size + 1 + 1 + 1 + 1, 4, none⟩ = some (.slice kva j kvc) := by simp [World.cell?, hbox]
   have HF : Hid (TreeIn (fun b => w.heap.size ≤ b ∧ b < (put5 wr (w.heap.size + 1 + 1 + 1) 0 (.int .i64 4) (.int .i64 0) (.string ByteArray.empty) (.slice none 0 0) (.slice kva j kvc)).heap.size) (put5 wr (w.heap.size + 1 + 1 + 1) 0 (.int .i64 4) (.int .i64 0) (.string ByteArray.empty) (.slice none 0 0) (.slice kva j kvc)) (m + 1) (mkT m 4 0 ByteArray.empty [] (ks.map (fun u => widT m y n x p u))) (.int .i64 4) (.int .i64 0) (.string ByteArray.empty) (.slice none 0 0) (.slice kva j kvc)) :=
    many_tree HM.out (t := mkT m 4 0 ByteArray.empty [] (ks.map (fun u => widT m y n x p u))) rfl rfl rfl rfl (by show ks.map _ = _; rw [hjl, ← List.length_map (f := fun u => widT m y n x p u), List.take_length]) (by rfl) (by simp) (by simp; omega) (by omega) (by omega)
   have HB : Hid (Below w.heap.size w (put5 wr (w.heap.size + 1 + 1 + 1) 0 (.int .i64 4) (.int .i64 0) (.string ByteArray.empty) (.slice none 0 0) (.slice kva j kvc))) := put5_below hbw (by omega)
   clear hjl hres hbox HM hlK hxs hkids HTK HK
   go_wp2_with fail
   refine bodyPost_ret (v := .agg #[.int .i64 4, .int .i64 0, .string ByteArray.empty, .slice none 0 0, .slice kva j kvc]) (by simp [results, Tryz.results30, go_sem, r0, r1, r2, r3, r4]) rfl ?_
   exact ⟨_, _, _, _, _, rfl, HF.out, HB.out⟩

end Go.Proofs.YtpalkdcgbbbmeaaGreatDoor

/-
 The specification's l3Widen: of maybes.
-/
namespace Go.Proofs.YtpalkdcgbbbmeaaGreatDoor
open Go.RowKit

set_option maxRecDepth 100000 in
set_option maxHeartbeats 8000000 in
theorem l3Widen_maybe (m : Nat) (hm : WidSSaid m) (S : Nat → Prop) (n p : Nat) (a : K (n + 1)) (b : K (m + 1)) (t : T (p + 1)) (y : K m) (x : K n) (a0 a1 a2 b0 b1 b2 e0 e1 e2 e3 e4 : Value) (d d' e : Int) (w : World) (ha : KindIn S w (n + 1) a a0 a1 a2) (hb : KindIn S w (m + 1) b b0 b1 b2) (ht : TreeIn S w (p + 1) t e0 e1 e2 e3 e4) (hB : ∀ b, S b → b < w.heap.size)
  (hgx : goodK n x d = true) (hgy : goodK m y d' = true) (hcy : cntK m y ≤ 40) (hgt : goodT (p + 1) t e = true) (hf : fitsK m y n x = true) (hh : ∀ u, u ∈ Nd.kids t → hasK n x p u = true) (sb : Kd.sort b = 6) (sa : Kd.sort a = 6) (st : Nd.sort t = 6) (ky : Kd.kids b = [y]) (kx : Kd.kids a = [x]) :
  Calls Tryz.prog 30 #[.agg #[a0, a1, a2], .agg #[b0, b1, b2], .agg #[e0, e1, e2, e3, e4]] w fun en w' => ∃ g0 g1 g2 g3 g4, en = .returned (.agg #[g0, g1, g2, g3, g4]) ∧ TreeIn (fun b => w.heap.size ≤ b ∧ b < w'.heap.size) w' (m + 1) (widT (m + 1) b (n + 1) a (p + 1) t) g0 g1 g2 g3 g4 ∧ Below w.heap.size w w' := by
 rw [widT_mm sb sa ky kx]
 have hgk := goodT_all hgt
 have h20 := good_20 hgt (by omega)
 obtain ⟨hn0, htx0⟩ := goodT_bare hgt (by omega)
 obtain ⟨rfl, hwa, ha1, ha2⟩ := ha
 obtain ⟨ana, anc, rfl, -⟩ := ha1
 rw [kx] at ha2
 obtain ⟨aka, akc, rfl, -, hak⟩ := ha2
 obtain ⟨ja, joff, rfl, hSj, hak⟩ := hak (by simp)
 obtain ⟨x0, x1, x2, l0, l1, l2, hxin⟩ := hak 0 (by simp)
 obtain ⟨i0, ia, il, ic, ha_, hl_, hc_, rfl, rfl, rfl⟩ := hxin.shape
 obtain ⟨rfl, hwb, hb1, hb2⟩ := hb
 obtain ⟨bna, bnc, rfl, -⟩ := hb1
 rw [ky] at hb2
 obtain ⟨bka, bkc, rfl, -, hbk⟩ := hb2
 obtain ⟨kb, koff, rfl, hSk, hbk⟩ := hbk (by simp)
 obtain ⟨y0, y1, y2, k0, k1, k2, hyin⟩ := hbk 0 (by simp)
 obtain ⟨z0, za, zl, zc, ua, ul, uc, rfl, rfl, rfl⟩ := hyin.shape
 have hkb := hB kb hSk
 have hja := hB ja hSj
 obtain ⟨rfl, rfl, rfl, -, -, -, ht3, ht4⟩ := ht
 obtain ⟨tna, tnc, rfl, -⟩ := ht3
 obtain ⟨tka, tkc, rfl, htl, htk⟩ := ht4
 rw [sb, sa, st, hn0, htx0, show [y].length = 1 from rfl, show [x].length = 1 from rfl]
 simp only [List.getElem_cons_zero] at hyin hxin
 obtain ⟨ks, hks⟩ : ∃ ks, ks = Nd.kids t := ⟨_, rfl⟩
 rw [← hks] at htl htk h20 hgk hh ⊢
 have HTK : Hid (∀ j (h : j < ks.length), ∃ tb toff, tka = some ⟨tb, toff, none⟩ ∧ tb < w.heap.size ∧ ∃ q0 q1 q2 qa ql qc ra rl rc, w.cell? ⟨tb, toff + j * 5, none⟩ = some (.int .i64 q0) ∧ w.cell? ⟨tb, toff + j * 5 + 1, none⟩ = some (.int .i64 q1) ∧ w.cell? ⟨tb, toff + j * 5 + 2, none⟩ = some (.string q2) ∧ w.cell? ⟨tb, toff + j * 5 + 3, none⟩ = some (.slice qa ql qc) ∧ w.cell? ⟨tb, toff + j * 5 + 4, none⟩ = some (.slice ra rl rc) ∧
   ∀ W, Below w.heap.size w W → Calls Tryz.prog 30 #[.agg #[.int .i64 i0, .slice ia il ic, .slice ha_ hl_ hc_], .agg #[.int .i64 z0, .slice za zl zc, .slice ua ul uc], .agg #[.int .i64 q0, .int .i64 q1, .string q2, .slice qa ql qc, .slice ra rl rc]] W fun en w' => Below W.heap.size W w' ∧ ∃ u0 u1 u2 va vl vc pa pl pc, en = .returned (.agg #[.int .i64 u0, .int .i64 u1, .string u2, .slice va vl vc, .slice pa pl pc]) ∧ Hid (TreeIn (fun b => W.heap.size ≤ b ∧ b < w'.heap.size) w' m (widT m y n x p ks[j]) (.int .i64 u0) (.int .i64 u1) (.string u2) (.slice va vl vc) (.slice pa pl pc))) := fun j hj => by
  obtain ⟨tb, toff, rfl, hSt, htk⟩ := htk (by intro h; rw [h] at hj; simp at hj)
  obtain ⟨v0, v1, v2, v3, v4, m0, m1, m2, m3, m4, hin⟩ := htk j hj
  obtain ⟨q0, q1, q2, qa, ql, qc, ra, rl, rc, rfl, rfl, rfl, rfl, rfl⟩ := hin.shape
  refine ⟨tb, toff, rfl, hB tb hSt, q0, q1, q2, qa, ql, qc, ra, rl, rc, m0, m1, m2, m3, m4, fun W hW => ?_⟩
  obtain ⟨h1, h2⟩ := hxin.step hB hW
  obtain ⟨h3, -⟩ := hyin.step hB hW
  obtain ⟨h4, -⟩ := hin.step hB hW
  refine (hm S n p x y ks[j] _ _ _ _ _ _ _ _ _ _ _ d d' _ W h1 h3 h4 h2 hgx hgy hcy (hgk _ (List.getElem_mem hj)) hf (hh _ (List.getElem_mem hj))).mono ?_
  rintro en w' ⟨g0, g1, g2, g3, g4, rfl, hin, hbl⟩
  obtain ⟨u0, u1, u2, va, vl, vc, pa, pl, pc, rfl, rfl, rfl, rfl, rfl⟩ := hin.shape
  exact ⟨hbl, _, _, _, _, _, _, _, _, _, rfl, hin⟩
 generalize (Kd.names a).length = la1 at *
 generalize (Kd.names b).length = lb1 at *
 generalize (Nd.names t).length = ln1 at *
 obtain ⟨W4, hW4⟩ : ∃ W4, W4 = (((w.alloc (.cells #[.int .i64 6, .slice ana la1 anc, .slice (some ⟨ja, joff, none⟩) 1 akc] 26)).alloc (.cells #[.int .i64 6, .slice bna lb1 bnc, .slice (some ⟨kb, koff, none⟩) 1 bkc] 26)).alloc (.cells #[.int .i64 6, .int .i64 0, .string ByteArray.empty, .slice tna ln1 tnc, .slice tka ks.length tkc] 29)).alloc (.cells #[.int .i64 0, .int .i64 0, .string ⟨#[]⟩, .slice none 0 0, .slice none 0 0] 29) := ⟨_, rfl⟩
 have hb4 : Below w.heap.size w W4 := by rw [hW4]; exact ((((Below.refl _ _).alloc (Nat.le_refl _) _).alloc (by simp) _).alloc (by simp; omega) _).alloc (by simp; omega) _
 have hz4 : W4.heap.size = w.heap.size + 1 + 1 + 1 + 1 := by rw [hW4]; simp
 have c : W4.cell? ⟨w.heap.size, 2, none⟩ = some (.slice (some ⟨ja, joff, none⟩) 1 akc) ∧ W4.cell? ⟨w.heap.size + 1, 2, none⟩ = some (.slice (some ⟨kb, koff, none⟩) 1 bkc) ∧ W4.cell? ⟨w.heap.size + 1 + 1, 4, none⟩ = some (.slice tka ks.length tkc) := by
  rw [hW4]
  refine ⟨?_, ?_, ?_⟩ <;> simp [go_sem]
 have kz : W4.heap[w.heap.size + 1 + 1 + 1]? = some (.cells #[.int .i64 0, .int .i64 0, .string ⟨#[]⟩, .slice none 0 0, .slice none 0 0] 29 (0, 0)) := by
  have := heap_alloc_new (((w.alloc (.cells #[.int .i64 6, .slice ana la1 anc, .slice (some ⟨ja, joff, none⟩) 1 akc] 26)).alloc (.cells #[.int .i64 6, .slice bna lb1 bnc, .slice (some ⟨kb, koff, none⟩) 1 bkc] 26)).alloc (.cells #[.int .i64 6, .int .i64 0, .string ByteArray.empty, .slice tna ln1 tnc, .slice tka ks.length tkc] 29)) (.cells #[.int .i64 0, .int .i64 0, .string ⟨#[]⟩, .slice none 0 0, .slice none 0 0] 29)
  rw [hW4]; simpa using this
 have HK : Hid (∀ W, Below (w.heap.size + 1 + 1 + 1 + 1) W4 W → (W.cell? ⟨w.heap.size, 2, none⟩ = some (.slice (some ⟨ja, joff, none⟩) 1 akc) ∧ W.cell? ⟨w.heap.size + 1, 2, none⟩ = some (.slice (some ⟨kb, koff, none⟩) 1 bkc) ∧ W.cell? ⟨w.heap.size + 1 + 1, 4, none⟩ = some (.slice tka ks.length tkc)) ∧
   (W.cell? ⟨ja, joff, none⟩ = some (.int .i64 i0) ∧ W.cell? ⟨ja, joff + 1, none⟩ = some (.slice ia il ic) ∧ W.cell? ⟨ja, joff + 2, none⟩ = some (.slice ha_ hl_ hc_)) ∧ (W.cell? ⟨kb, koff, none⟩ = some (.int .i64 z0) ∧ W.cell? ⟨kb, koff + 1, none⟩ = some (.slice za zl zc) ∧ W.cell? ⟨kb, koff + 2, none⟩ = some (.slice ua ul uc)) ∧
   Below w.heap.size w W ∧ W.heap[w.heap.size + 1 + 1 + 1]? = some (.cells #[.int .i64 0, .int .i64 0, .string ⟨#[]⟩, .slice none 0 0, .slice none 0 0] 29 (0, 0))) := fun W hW => by
  have hbW : Below w.heap.size w W := hb4.trans (hW.mono (by omega))
  exact ⟨⟨(hW.cell (p := ⟨w.heap.size, 2, none⟩) (by show w.heap.size < _; omega)).trans c.1, (hW.cell (p := ⟨w.heap.size + 1, 2, none⟩) (by show w.heap.size + 1 < _; omega)).trans c.2.1, (hW.cell (p := ⟨w.heap.size + 1 + 1, 4, none⟩) (by show w.heap.size + 1 + 1 < _; omega)).trans c.2.2⟩,
   ⟨(hbW.cell (p := ⟨ja, joff, none⟩) hja).trans (by simpa using l0), (hbW.cell (p := ⟨ja, joff + 1, none⟩) hja).trans (by simpa using l1), (hbW.cell (p := ⟨ja, joff + 2, none⟩) hja).trans (by simpa using l2)⟩,
   ⟨(hbW.cell (p := ⟨kb, koff, none⟩) hkb).trans (by simpa using k0), (hbW.cell (p := ⟨kb, koff + 1, none⟩) hkb).trans (by simpa using k1), (hbW.cell (p := ⟨kb, koff + 2, none⟩) hkb).trans (by simpa using k2)⟩,
   hbW, (hW.block (w.heap.size + 1 + 1 + 1) (by omega)).trans kz⟩
 clear hm hxin hyin k0 k1 k2 l0 l1 l2 hbk hak hgx hgy hcy hgt hf hh c kz sa ky kx hwa hwb hgk htk hks st sb hn0 htx0 hkb hja
 obtain ⟨it0, hi0, hy0, hy1, hyb⟩ := info_parts Tryz.info_treeW
 have HIT : Hid (_ ∧ _ ∧ _ ∧ _) := ⟨hi0, hy0, hy1, hyb⟩
 clear hi0 hy0 hy1 hyb
 unfold maxLen at htl
 go_enter Tryz.func30, Tryz.ntmps30
 go_wp2_with fail
 rw [← hW4]
 clear hW4
 go_loopw [8] (fun i wr => ∃ (j : Nat) (kv : Value), j ≤ ks.length ∧ i = .int .i64 j ∧ Many w.heap.size (w.heap.size + 1 + 1 + 1 + 1) m W4 wr 6 [] ((ks.map (fun u => widT m y n x p u)).take j) (.slice none 0 0) kv ∧ Below (w.heap.size + 1 + 1 + 1 + 1) W4 wr) (fun i _ => ks.length - (intOf i).toNat)
 case atStart =>
  refine ⟨0, .slice none 0 0, Nat.zero_le _, rfl, ⟨Near.alloc _ _ _, ?_, ⟨by simp, .inl ⟨rfl, by simp⟩⟩, by simp, ⟨[], ⟨by simp, .inl ⟨rfl, by simp⟩⟩, fun j hj => absurd hj (by simp)⟩, fun b hb => by cases hb⟩, (Below.refl _ _).alloc (by omega) _⟩
  rw [← hz4]; exact heap_alloc_new _ _
 case round =>
  obtain ⟨j, kv, hj, rfl, hM, hbel⟩ := hrel
  obtain ⟨xs, hxs, hkids⟩ := hM.kids
  obtain ⟨kva, kvc, rfl⟩ := owns_shape hxs
  have hX := hM.lt
  have hlK : ((ks.map (fun u => widT m y n x p u)).take j).length = j := by simp; omega
  rw [hlK] at hxs
  obtain ⟨⟨i1, i2, i3⟩, -, -, hbw, hres⟩ := HK.out wr hbel
  have hbox := hM.box
  rw [hlK] at hbox
  have HM : Hid (Many w.heap.size (w.heap.size + 1 + 1 + 1 + 1) m W4 wr 6 [] ((ks.map (fun u => widT m y n x p u)).take j) (.slice none 0 0) (.slice kva j kvc)) := by
   show Many _ _ _ _ _ _ _ _ _ _
   rw [hlK] at hM; exact hM
  clear hM
  by_cases hlt : j < ks.length
  ·
   have hlti : (j : Int) < (ks.length : Int) := by omega
   obtain ⟨tb, toff, rfl, htb, q0, q1, q2, qa, ql, qc, ra, rl, rc, m0, m1, m2, m3, m4, hcall⟩ := HTK.out j hlt
   have x4 : wr.cell? ⟨w.heap.size + 1 + 1 + 1 + 1, 4, none⟩ = some (.slice kva j kvc) := by simp [World.cell?, hbox]
   have HKS : Hid (∀ W, Below (w.heap.size + 1 + 1 + 1 + 1) W4 W → (W.cell? ⟨w.heap.size, 2, none⟩ = some (.slice (some ⟨ja, joff, none⟩) 1 akc) ∧ W.cell? ⟨w.heap.size + 1, 2, none⟩ = some (.slice (some ⟨kb, koff, none⟩) 1 bkc) ∧ W.cell? ⟨w.heap.size + 1 + 1, 4, none⟩ = some (.slice (some ⟨tb, toff, none⟩) ks.length tkc)) ∧
     (W.cell? ⟨ja, joff, none⟩ = some (.int .i64 i0) ∧ W.cell? ⟨ja, joff + 1, none⟩ = some (.slice ia il ic) ∧ W.cell? ⟨ja, joff + 2, none⟩ = some (.slice ha_ hl_ hc_)) ∧ (W.cell? ⟨kb, koff, none⟩ = some (.int .i64 z0) ∧ W.cell? ⟨kb, koff + 1, none⟩ = some (.slice za zl zc) ∧ W.cell? ⟨kb, koff + 2, none⟩ = some (.slice ua ul uc)) ∧
     (W.cell? ⟨tb, toff + j * 5, none⟩ = some (.int .i64 q0) ∧ W.cell? ⟨tb, toff + j * 5 + 1, none⟩ = some (.int .i64 q1) ∧ W.cell? ⟨tb, toff + j * 5 + 2, none⟩ = some (.string q2) ∧ W.cell? ⟨tb, toff + j * 5 + 3, none⟩ = some (.slice qa ql qc) ∧ W.cell? ⟨tb, toff + j * 5 + 4, none⟩ = some (.slice ra rl rc))) := fun W hW => by
    obtain ⟨g1, g2, g3, g4, -⟩ := HK.out W hW
    exact ⟨g1, g2, g3, (g4.cell (p := ⟨tb, toff + j * 5, none⟩) htb).trans m0, (g4.cell (p := ⟨tb, toff + j * 5 + 1, none⟩) htb).trans m1, (g4.cell (p := ⟨tb, toff + j * 5 + 2, none⟩) htb).trans m2, (g4.cell (p := ⟨tb, toff + j * 5 + 3, none⟩) htb).trans m3, (g4.cell (p := ⟨tb, toff + j * 5 + 4, none⟩) htb).trans m4⟩
   have HC : Hid (Calls Tryz.prog 30 _ wr.drew _) := hcall wr.drew hbw.drew
   have hbd : Below (w.heap.size + 1 + 1 + 1 + 1) W4 wr.drew := hbel.drew
   have HXK := hidF hxs
   have HKK := hidF hkids
   have HNT : Hid ((ks.map (fun u => widT m y n x p u)).take (j + 1) = (ks.map (fun u => widT m y n x p u)).take j ++ [widT m y n x p ks[j]]) := by
    show _ = _
    rw [List.take_succ_eq_append_getElem (by simpa using hlt)]; simp
   have HBel := hidF hbel
   have hXz : w.heap.size + 1 + 1 + 1 + 1 < wr.heap.size := hX
   clear hxs hkids hcall m0 m1 m2 m3 m4 hres hbel HTK hX
   generalize ks[j] = kj at *
   go_wp2_with fail
   refine wp_region_held_drew (S := (fun W => (W.cell? ⟨w.heap.size, 2, none⟩ = some (.slice (some ⟨ja, joff, none⟩) 1 akc) ∧ W.cell? ⟨w.heap.size + 1, 2, none⟩ = some (.slice (some ⟨kb, koff, none⟩) 1 bkc) ∧ W.cell? ⟨w.heap.size + 1 + 1, 4, none⟩ = some (.slice (some ⟨tb, toff, none⟩) ks.length tkc)) ∧
     (W.cell? ⟨ja, joff, none⟩ = some (.int .i64 i0) ∧ W.cell? ⟨ja, joff + 1, none⟩ = some (.slice ia il ic) ∧ W.cell? ⟨ja, joff + 2, none⟩ = some (.slice ha_ hl_ hc_)) ∧ (W.cell? ⟨kb, koff, none⟩ = some (.int .i64 z0) ∧ W.cell? ⟨kb, koff + 1, none⟩ = some (.slice za zl zc) ∧ W.cell? ⟨kb, koff + 2, none⟩ = some (.slice ua ul uc)) ∧
     (W.cell? ⟨tb, toff + j * 5, none⟩ = some (.int .i64 q0) ∧ W.cell? ⟨tb, toff + j * 5 + 1, none⟩ = some (.int .i64 q1) ∧ W.cell? ⟨tb, toff + j * 5 + 2, none⟩ = some (.string q2) ∧ W.cell? ⟨tb, toff + j * 5 + 3, none⟩ = some (.slice qa ql qc) ∧ W.cell? ⟨tb, toff + j * 5 + 4, none⟩ = some (.slice ra rl rc)))) (by kernel_rfl) (HKS.out _ hbd) (fun hHeld => ?_)
   refine wpAnyH_take (i := 0) (v := ?_) rfl (by kernel_rfl) (by kernel_rfl) (by kernel_rfl) (fun _ _ _ h => h) (Or.inl ⟨by rfl, ?_⟩) (by assumption) ?_
   rotate_left 1
   · (intro wq hSw; (try dsimp only at hSw); go_simp; first | done | with_reducible rfl)
   refine wpAnyH_take (i := 2) (v := ?_) rfl (by kernel_rfl) (by kernel_rfl) (by kernel_rfl) (fun _ _ _ h => h) (Or.inl ⟨by rfl, ?_⟩) (by assumption) ?_
   rotate_left 1
   · (intro wq hSw; (try dsimp only at hSw); go_simp; first | done | with_reducible rfl)
   refine wpAnyH_take (i := 3) (v := ?_) rfl (by kernel_rfl) (by kernel_rfl) (by kernel_rfl) (fun _ _ _ h => h) (Or.inl ⟨by rfl, ?_⟩) (by assumption) ?_
   rotate_left 1
   · (intro wq hSw; (try dsimp only at hSw); go_simp; first | done | with_reducible rfl)
   refine wpAnyH_take (i := 4) (v := ?_) rfl (by kernel_rfl) (by kernel_rfl) (by kernel_rfl) (fun _ _ _ h => h) (Or.inl ⟨by rfl, ?_⟩) (by assumption) ?_
   rotate_left 1
   · (intro wq hSw; (try dsimp only at hSw); go_simp; first | done | with_reducible rfl)
   refine wpAnyH_take (i := 5) (v := ?_) rfl (by kernel_rfl) (by kernel_rfl) (by kernel_rfl) (fun _ _ _ h => h) (Or.inl ⟨by rfl, ?_⟩) (by assumption) ?_
   rotate_left 1
   · (intro wq hSw; (try dsimp only at hSw); go_simp; first | done | with_reducible rfl)
   refine wpAnyH_take (i := 6) (v := ?_) rfl (by kernel_rfl) (by kernel_rfl) (by kernel_rfl) (fun _ _ _ h => h) (Or.inl ⟨by rfl, ?_⟩) (by assumption) ?_
   rotate_left 1
   · (intro wq hSw; (try dsimp only at hSw); go_simp; first | done | with_reducible rfl)
   refine wpAnyH_take (i := 7) (v := ?_) rfl (by kernel_rfl) (by kernel_rfl) (by kernel_rfl) (fun _ _ _ h => h) (Or.inl ⟨by rfl, ?_⟩) (by assumption) ?_
   rotate_left 1
   · (intro wq hSw; (try dsimp only at hSw); go_simp; first | done | with_reducible rfl)
   refine wpAnyH_take (i := 8) (v := ?_) rfl (by kernel_rfl) (by kernel_rfl) (by kernel_rfl) (fun _ _ _ h => h) (Or.inl ⟨by rfl, ?_⟩) (by assumption) ?_
   rotate_left 1
   · (intro wq hSw; (try dsimp only at hSw); go_simp; first | done | with_reducible rfl)
   refine wpAnyH_take (i := 9) (v := ?_) rfl (by kernel_rfl) (by kernel_rfl) (by kernel_rfl) (fun _ _ _ h => h) (Or.inl ⟨by rfl, ?_⟩) (by assumption) ?_
   rotate_left 1
   · (intro wq hSw; (try dsimp only at hSw); go_simp; first | done | with_reducible rfl)
   refine wpAnyH_take (i := 10) (v := ?_) rfl (by kernel_rfl) (by kernel_rfl) (by kernel_rfl) (fun _ _ _ h => h) (Or.inl ⟨by rfl, ?_⟩) (by assumption) ?_
   rotate_left 1
   · (intro wq hSw; (try dsimp only at hSw); go_simp; first | done | with_reducible rfl)
   refine wpAnyH_take (i := 11) (v := ?_) rfl (by kernel_rfl) (by kernel_rfl) (by kernel_rfl) (fun _ _ _ h => h) (Or.inl ⟨by rfl, ?_⟩) (by assumption) ?_
   rotate_left 1
   · (intro wq hSw; (try dsimp only at hSw); go_simp; first | done | with_reducible rfl)
   refine wpAnyH_take (i := 12) (v := ?_) rfl (by kernel_rfl) (by kernel_rfl) (by kernel_rfl) (fun _ _ _ h => h) (Or.inl ⟨by rfl, ?_⟩) (by assumption) ?_
   rotate_left 1
   · (intro wq hSw; (try dsimp only at hSw); go_simp; first | done | with_reducible rfl)
   refine wpAnyH_take (i := 13) (v := ?_) rfl (by kernel_rfl) (by kernel_rfl) (by kernel_rfl) (fun _ _ _ h => h) (Or.inl ⟨by rfl, ?_⟩) (by assumption) ?_
   rotate_left 1
   · (intro wq hSw; (try dsimp only at hSw); go_simp; first | done | with_reducible rfl)
   refine wpAnyH_take (i := 14) (v := ?_) rfl (by kernel_rfl) (by kernel_rfl) (by kernel_rfl) (fun _ _ _ h => h) (Or.inl ⟨by rfl, ?_⟩) (by assumption) ?_
   rotate_left 1
   · (intro wq hSw; (try dsimp only at hSw); go_simp; first | done | with_reducible rfl)
   refine wpAnyH_ready (rs := [1, 15]) (by kernel_rfl) (by simp) ?_
   refine AllReadyH.cons rfl (fun K hK => ?_) (AllReadyH.cons rfl (fun K hK => ?_) AllReadyH.nil)
   ·
    go_simp
    refine hK.out _ _ (HKS.out _ hbd) (fun hHeld => ?_)
    clear hK K
    refine wpAnyH_ready (rs := [15]) (by kernel_rfl) (by simp) ?_
    refine AllReadyH.cons rfl (fun K hK => ?_) AllReadyH.nil
    go_simp
    go_at_call 30
    refine HC.out.mono ?_
    rintro en w5 ⟨hb5', u0, u1, u2, va, vl, vc, pa, pl, pc, rfl, hin5⟩
    have hz5 : wr.heap.size ≤ w5.heap.size := hb5'.size
    have hb5 : Below (w.heap.size + 1 + 1 + 1 + 1) W4 w5 := hbd.trans (hb5'.mono (by show _ ≤ wr.heap.size; omega))
    have hb5a : ∀ o, Below (w.heap.size + 1 + 1 + 1 + 1) W4 (w5.alloc o) := (fun o => hb5.alloc (by omega) o)
    have hbx5 := (hb5'.block (w.heap.size + 1 + 1 + 1 + 1) hXz).trans hbox
    have hoxK : ∀ o, (w5.alloc o).ownsRow (w.heap.size + 1 + 1 + 1 + 1 + 1) 29 5 (.slice kva j kvc) j xs := (fun o => owns_keep HXK.out (fun g' hg' => by have := owns_lt HXK.out g' hg'; rw [Below.heap_alloc _ _ _ (by omega)]; exact hb5'.block g' this.2))
    have x4' : w5.cell? ⟨w.heap.size + 1 + 1 + 1 + 1, 4, none⟩ = some (.slice kva j kvc) := (by simp [World.cell?, hbx5])
    have x4a : (w5.alloc (.cells #[.int .i64 u0, .int .i64 u1, .string u2, .slice va vl vc, .slice pa pl pc] 29)).cell? ⟨w.heap.size + 1 + 1 + 1 + 1, 4, none⟩ = some (.slice kva j kvc) := (World.cell?_of_block (Below.heap_alloc _ _ _ (by show w.heap.size + 1 + 1 + 1 + 1 < _; omega))).trans x4'
    refine hK.out _ _ (HKS.out _ hb5) (fun hHeld => ?_)
    clear hK K
    refine wpAnyH_ready (rs := [16]) (by kernel_rfl) (by simp) ?_
    refine AllReadyH.cons rfl (fun K hK => ?_) AllReadyH.nil
    go_simp
    refine hK.out _ _ (HKS.out _ (hb5a _)) (fun hHeld => ?_)
    clear hK K
    refine wpAnyH_ready (rs := [17]) (by kernel_rfl) (by simp) ?_
    refine AllReadyH.cons rfl (fun K hK => ?_) AllReadyH.nil
    refine step_append_lies _ (by rfl) (.tmp 44) (.tmp 59) 27 (by rfl) (w.heap.size + 1 + 1 + 1 + 1 + 1) 29 it0 _ 5 80 Tryz.underlying27 HIT.out.1 HIT.out.2.1 HIT.out.2.2.1 HIT.out.2.2.2 rfl (by decide) (.slice kva j kvc) j xs (by rfl) (hoxK _) ⟨w5.heap.size, 0, none⟩ 1 1 [.int .i64 u0, .int .i64 u1, .string u2, .slice va vl vc, .slice pa pl pc] (by rfl) rfl (World.news_of_block (heap_alloc_new w5 _)) (by simp [Value.oneCell']) (by decide) (by unfold maxLen; omega) (by omega) (by simp; omega) (w5.heap.size + 1) (by simp) ?_
    intro g2 cap2 w6 hown6 hgrow6 hat6 hlt6
    have hbx6 := ((hgrow6.block (w.heap.size + 1 + 1 + 1 + 1) (by simp; omega) (fun e => by have := owns_lt HXK.out _ e.symm; omega)).trans (Below.heap_alloc _ _ _ (by omega))).trans hbx5
    have x4'' : w6.cell? ⟨w.heap.size + 1 + 1 + 1 + 1, 4, none⟩ = some (.slice kva j kvc) := (by simp [World.cell?, hbx6])
    have xf4 : w6.frozen? ⟨w.heap.size + 1 + 1 + 1 + 1, 4, none⟩ = false := (by simp [World.frozen?, hbx6])
    have hb6 : Below (w.heap.size + 1 + 1 + 1 + 1) W4 w6 := (hb5a (.cells #[.int .i64 u0, .int .i64 u1, .string u2, .slice va vl vc, .slice pa pl pc] 29)).grown hgrow6 (by simp; omega) (fun q hq => by have := owns_lt HXK.out q hq; omega)
    refine hK.out _ _ (HKS.out _ hb6) (fun hHeld => ?_)
    clear hK K
    refine wpAnyH_ready (rs := [18]) (by kernel_rfl) (by simp) ?_
    refine AllReadyH.cons rfl (fun K hK => ?_) AllReadyH.nil
    go_simp
    refine hK.out _ _ (HKS.out _ hb6) (fun hHeld => ?_)
    clear hK K
    refine wpAnyH_ready (rs := [19]) (by kernel_rfl) (by simp) ?_
    refine AllReadyH.cons rfl (fun K hK => ?_) AllReadyH.nil
    go_simp
    refine hK.out _ _ (HKS.out _ (hb6.setCell (Nat.le_refl _) _)) (fun hHeld => ?_)
    clear hK K
    refine wpAnyH_done (by kernel_rfl) ?_ _
    have hKd := Many.kid (W := wr.drew) (W1 := w5) (Wa := w5.alloc (.cells #[.int .i64 u0, .int .i64 u1, .string u2, .slice va vl vc, .slice pa pl pc] 29)) (one := .cells #[.int .i64 u0, .int .i64 u1, .string u2, .slice va vl vc, .slice pa pl pc] 29) (g := g2) (cap := cap2) (xs := xs)
     (HM.out.keep (by omega) (Near.drew (Near.refl _ wr))) (by omega) (by omega) (Near.of_below hb5') hin5.out rfl ⟨rfl, rfl, rfl⟩ (by rw [hlK]; exact HXK.out.drew)
     (fun q hq => by obtain ⟨d0, d1, d2, d3, d4, hd, hdt⟩ := HKK.out q hq; exact ⟨d0, d1, d2, d3, d4, hd, TreeIn.keep (w := wr) (w' := wr.drew) (fun _ _ => rfl) (fun b h => by rw [hlK] at h; exact h) hdt⟩) (by rw [hlK]; exact hown6) hgrow6 hat6
    rw [hlK] at hKd
    have HF : Hid (Many w.heap.size (w.heap.size + 1 + 1 + 1 + 1) m W4 (w6.setCell ⟨w.heap.size + 1 + 1 + 1 + 1, 4, none⟩ (.slice (some ⟨g2, 0, none⟩) (j + 1) cap2)) 6 [] ((ks.map (fun u => widT m y n x p u)).take (j + 1)) (.slice none 0 0) (.slice (some ⟨g2, 0, none⟩) (j + 1) cap2)) := by
     show Many _ _ _ _ _ _ _ _ _ _
     rw [HNT.out]; exact hKd
    have HB6 : Hid (Below (w.heap.size + 1 + 1 + 1 + 1) W4 (w6.setCell ⟨w.heap.size + 1 + 1 + 1 + 1, 4, none⟩ (.slice (some ⟨g2, 0, none⟩) (j + 1) cap2))) := hb6.setCell (Nat.le_refl _) _
    clear hKd hown6 hgrow6 hat6 hin5 hb5' hb5 hb5a hoxK x4' x4a x4'' xf4 hbx6 hbx5 hb6
    go_wp2_with fail
    go_roundw
    case rel => exact ⟨j + 1, _, by omega, by go_num, HF.out, HB6.out⟩
    case measure => simp [intOf]; omega
   ·
    go_simp
    go_at_call 30
    refine HC.out.mono ?_
    rintro en w5 ⟨hb5', u0, u1, u2, va, vl, vc, pa, pl, pc, rfl, hin5⟩
    have hz5 : wr.heap.size ≤ w5.heap.size := hb5'.size
    have hb5 : Below (w.heap.size + 1 + 1 + 1 + 1) W4 w5 := hbd.trans (hb5'.mono (by show _ ≤ wr.heap.size; omega))
    have hb5a : ∀ o, Below (w.heap.size + 1 + 1 + 1 + 1) W4 (w5.alloc o) := (fun o => hb5.alloc (by omega) o)
    have hbx5 := (hb5'.block (w.heap.size + 1 + 1 + 1 + 1) hXz).trans hbox
    have hoxK : ∀ o, (w5.alloc o).ownsRow (w.heap.size + 1 + 1 + 1 + 1 + 1) 29 5 (.slice kva j kvc) j xs := (fun o => owns_keep HXK.out (fun g' hg' => by have := owns_lt HXK.out g' hg'; rw [Below.heap_alloc _ _ _ (by omega)]; exact hb5'.block g' this.2))
    have x4' : w5.cell? ⟨w.heap.size + 1 + 1 + 1 + 1, 4, none⟩ = some (.slice kva j kvc) := (by simp [World.cell?, hbx5])
    have x4a : (w5.alloc (.cells #[.int .i64 u0, .int .i64 u1, .string u2, .slice va vl vc, .slice pa pl pc] 29)).cell? ⟨w.heap.size + 1 + 1 + 1 + 1, 4, none⟩ = some (.slice kva j kvc) := (World.cell?_of_block (Below.heap_alloc _ _ _ (by show w.heap.size + 1 + 1 + 1 + 1 < _; omega))).trans x4'
    refine hK.out _ _ (HKS.out _ hb5) (fun hHeld => ?_)
    clear hK K
    refine wpAnyH_ready (rs := [1, 16]) (by kernel_rfl) (by simp) ?_
    refine AllReadyH.cons rfl (fun K hK => ?_) (AllReadyH.cons rfl (fun K hK => ?_) AllReadyH.nil)
    ·
     go_simp
     refine hK.out _ _ (HKS.out _ hb5) (fun hHeld => ?_)
     clear hK K
     refine wpAnyH_ready (rs := [16]) (by kernel_rfl) (by simp) ?_
     refine AllReadyH.cons rfl (fun K hK => ?_) AllReadyH.nil
     go_simp
     refine hK.out _ _ (HKS.out _ (hb5a _)) (fun hHeld => ?_)
     clear hK K
     refine wpAnyH_ready (rs := [17]) (by kernel_rfl) (by simp) ?_
     refine AllReadyH.cons rfl (fun K hK => ?_) AllReadyH.nil
     refine step_append_lies _ (by rfl) (.tmp 44) (.tmp 59) 27 (by rfl) (w.heap.size + 1 + 1 + 1 + 1 + 1) 29 it0 _ 5 80 Tryz.underlying27 HIT.out.1 HIT.out.2.1 HIT.out.2.2.1 HIT.out.2.2.2 rfl (by decide) (.slice kva j kvc) j xs (by rfl) (hoxK _) ⟨w5.heap.size, 0, none⟩ 1 1 [.int .i64 u0, .int .i64 u1, .string u2, .slice va vl vc, .slice pa pl pc] (by rfl) rfl (World.news_of_block (heap_alloc_new w5 _)) (by simp [Value.oneCell']) (by decide) (by unfold maxLen; omega) (by omega) (by simp; omega) (w5.heap.size + 1) (by simp) ?_
     intro g2 cap2 w6 hown6 hgrow6 hat6 hlt6
     have hbx6 := ((hgrow6.block (w.heap.size + 1 + 1 + 1 + 1) (by simp; omega) (fun e => by have := owns_lt HXK.out _ e.symm; omega)).trans (Below.heap_alloc _ _ _ (by omega))).trans hbx5
     have x4'' : w6.cell? ⟨w.heap.size + 1 + 1 + 1 + 1, 4, none⟩ = some (.slice kva j kvc) := (by simp [World.cell?, hbx6])
     have xf4 : w6.frozen? ⟨w.heap.size + 1 + 1 + 1 + 1, 4, none⟩ = false := (by simp [World.frozen?, hbx6])
     have hb6 : Below (w.heap.size + 1 + 1 + 1 + 1) W4 w6 := (hb5a (.cells #[.int .i64 u0, .int .i64 u1, .string u2, .slice va vl vc, .slice pa pl pc] 29)).grown hgrow6 (by simp; omega) (fun q hq => by have := owns_lt HXK.out q hq; omega)
     refine hK.out _ _ (HKS.out _ hb6) (fun hHeld => ?_)
     clear hK K
     refine wpAnyH_ready (rs := [18]) (by kernel_rfl) (by simp) ?_
     refine AllReadyH.cons rfl (fun K hK => ?_) AllReadyH.nil
     go_simp
     refine hK.out _ _ (HKS.out _ hb6) (fun hHeld => ?_)
     clear hK K
     refine wpAnyH_ready (rs := [19]) (by kernel_rfl) (by simp) ?_
     refine AllReadyH.cons rfl (fun K hK => ?_) AllReadyH.nil
     go_simp
     refine hK.out _ _ (HKS.out _ (hb6.setCell (Nat.le_refl _) _)) (fun hHeld => ?_)
     clear hK K
     refine wpAnyH_done (by kernel_rfl) ?_ _
     have hKd := Many.kid (W := wr.drew) (W1 := w5) (Wa := w5.alloc (.cells #[.int .i64 u0, .int .i64 u1, .string u2, .slice va vl vc, .slice pa pl pc] 29)) (one := .cells #[.int .i64 u0, .int .i64 u1, .string u2, .slice va vl vc, .slice pa pl pc] 29) (g := g2) (cap := cap2) (xs := xs)
      (HM.out.keep (by omega) (Near.drew (Near.refl _ wr))) (by omega) (by omega) (Near.of_below hb5') hin5.out rfl ⟨rfl, rfl, rfl⟩ (by rw [hlK]; exact HXK.out.drew)
      (fun q hq => by obtain ⟨d0, d1, d2, d3, d4, hd, hdt⟩ := HKK.out q hq; exact ⟨d0, d1, d2, d3, d4, hd, TreeIn.keep (w := wr) (w' := wr.drew) (fun _ _ => rfl) (fun b h => by rw [hlK] at h; exact h) hdt⟩) (by rw [hlK]; exact hown6) hgrow6 hat6
     rw [hlK] at hKd
     have HF : Hid (Many w.heap.size (w.heap.size + 1 + 1 + 1 + 1) m W4 (w6.setCell ⟨w.heap.size + 1 + 1 + 1 + 1, 4, none⟩ (.slice (some ⟨g2, 0, none⟩) (j + 1) cap2)) 6 [] ((ks.map (fun u => widT m y n x p u)).take (j + 1)) (.slice none 0 0) (.slice (some ⟨g2, 0, none⟩) (j + 1) cap2)) := by
      show Many _ _ _ _ _ _ _ _ _ _
      rw [HNT.out]; exact hKd
     have HB6 : Hid (Below (w.heap.size + 1 + 1 + 1 + 1) W4 (w6.setCell ⟨w.heap.size + 1 + 1 + 1 + 1, 4, none⟩ (.slice (some ⟨g2, 0, none⟩) (j + 1) cap2))) := hb6.setCell (Nat.le_refl _) _
     clear hKd hown6 hgrow6 hat6 hin5 hb5' hb5 hb5a hoxK x4' x4a x4'' xf4 hbx6 hbx5 hb6
     go_wp2_with fail
     go_roundw
     case rel => exact ⟨j + 1, _, by omega, by go_num, HF.out, HB6.out⟩
     case measure => simp [intOf]; omega
    ·
     go_simp
     refine hK.out _ _ (HKS.out _ (hb5a _)) (fun hHeld => ?_)
     clear hK K
     refine wpAnyH_ready (rs := [1]) (by kernel_rfl) (by simp) ?_
     refine AllReadyH.cons rfl (fun K hK => ?_) AllReadyH.nil
     go_simp
     refine hK.out _ _ (HKS.out _ (hb5a _)) (fun hHeld => ?_)
     clear hK K
     refine wpAnyH_ready (rs := [17]) (by kernel_rfl) (by simp) ?_
     refine AllReadyH.cons rfl (fun K hK => ?_) AllReadyH.nil
     refine step_append_lies _ (by rfl) (.tmp 44) (.tmp 59) 27 (by rfl) (w.heap.size + 1 + 1 + 1 + 1 + 1) 29 it0 _ 5 80 Tryz.underlying27 HIT.out.1 HIT.out.2.1 HIT.out.2.2.1 HIT.out.2.2.2 rfl (by decide) (.slice kva j kvc) j xs (by rfl) (hoxK _) ⟨w5.heap.size, 0, none⟩ 1 1 [.int .i64 u0, .int .i64 u1, .string u2, .slice va vl vc, .slice pa pl pc] (by rfl) rfl (World.news_of_block (heap_alloc_new w5 _)) (by simp [Value.oneCell']) (by decide) (by unfold maxLen; omega) (by omega) (by simp; omega) (w5.heap.size + 1) (by simp) ?_
     intro g2 cap2 w6 hown6 hgrow6 hat6 hlt6
     have hbx6 := ((hgrow6.block (w.heap.size + 1 + 1 + 1 + 1) (by simp; omega) (fun e => by have := owns_lt HXK.out _ e.symm; omega)).trans (Below.heap_alloc _ _ _ (by omega))).trans hbx5
     have x4'' : w6.cell? ⟨w.heap.size + 1 + 1 + 1 + 1, 4, none⟩ = some (.slice kva j kvc) := (by simp [World.cell?, hbx6])
     have xf4 : w6.frozen? ⟨w.heap.size + 1 + 1 + 1 + 1, 4, none⟩ = false := (by simp [World.frozen?, hbx6])
     have hb6 : Below (w.heap.size + 1 + 1 + 1 + 1) W4 w6 := (hb5a (.cells #[.int .i64 u0, .int .i64 u1, .string u2, .slice va vl vc, .slice pa pl pc] 29)).grown hgrow6 (by simp; omega) (fun q hq => by have := owns_lt HXK.out q hq; omega)
     refine hK.out _ _ (HKS.out _ hb6) (fun hHeld => ?_)
     clear hK K
     refine wpAnyH_ready (rs := [18]) (by kernel_rfl) (by simp) ?_
     refine AllReadyH.cons rfl (fun K hK => ?_) AllReadyH.nil
     go_simp
     refine hK.out _ _ (HKS.out _ hb6) (fun hHeld => ?_)
     clear hK K
     refine wpAnyH_ready (rs := [19]) (by kernel_rfl) (by simp) ?_
     refine AllReadyH.cons rfl (fun K hK => ?_) AllReadyH.nil
     go_simp
     refine hK.out _ _ (HKS.out _ (hb6.setCell (Nat.le_refl _) _)) (fun hHeld => ?_)
     clear hK K
     refine wpAnyH_done (by kernel_rfl) ?_ _
     have hKd := Many.kid (W := wr.drew) (W1 := w5) (Wa := w5.alloc (.cells #[.int .i64 u0, .int .i64 u1, .string u2, .slice va vl vc, .slice pa pl pc] 29)) (one := .cells #[.int .i64 u0, .int .i64 u1, .string u2, .slice va vl vc, .slice pa pl pc] 29) (g := g2) (cap := cap2) (xs := xs)
      (HM.out.keep (by omega) (Near.drew (Near.refl _ wr))) (by omega) (by omega) (Near.of_below hb5') hin5.out rfl ⟨rfl, rfl, rfl⟩ (by rw [hlK]; exact HXK.out.drew)
      (fun q hq => by obtain ⟨d0, d1, d2, d3, d4, hd, hdt⟩ := HKK.out q hq; exact ⟨d0, d1, d2, d3, d4, hd, TreeIn.keep (w := wr) (w' := wr.drew) (fun _ _ => rfl) (fun b h => by rw [hlK] at h; exact h) hdt⟩) (by rw [hlK]; exact hown6) hgrow6 hat6
     rw [hlK] at hKd
     have HF : Hid (Many w.heap.size (w.heap.size + 1 + 1 + 1 + 1) m W4 (w6.setCell ⟨w.heap.size + 1 + 1 + 1 + 1, 4, none⟩ (.slice (some ⟨g2, 0, none⟩) (j + 1) cap2)) 6 [] ((ks.map (fun u => widT m y n x p u)).take (j + 1)) (.slice none 0 0) (.slice (some ⟨g2, 0, none⟩) (j + 1) cap2)) := by
      show Many _ _ _ _ _ _ _ _ _ _
      rw [HNT.out]; exact hKd
     have HB6 : Hid (Below (w.heap.size + 1 + 1 + 1 + 1) W4 (w6.setCell ⟨w.heap.size + 1 + 1 + 1 + 1, 4, none⟩ (.slice (some ⟨g2, 0, none⟩) (j + 1) cap2))) := hb6.setCell (Nat.le_refl _) _
     clear hKd hown6 hgrow6 hat6 hin5 hb5' hb5 hb5a hoxK x4' x4a x4'' xf4 hbx6 hbx5 hb6
     go_wp2_with fail
     go_roundw
     case rel => exact ⟨j + 1, _, by omega, by go_num, HF.out, HB6.out⟩
     case measure => simp [intOf]; omega
  ·
   have hjl : j = ks.length := by omega
   have hlti : ¬ (j : Int) < (ks.length : Int) := by omega
   obtain ⟨⟨r0, r1, r2, r3, r4⟩, f0, f1, f2, f3, f4⟩ := zeroT_cells hres
   have y0 : wr.cell? ⟨w.heap.size + 1 + 1 + 1 + 1, 0, none⟩ = some (.int .i64 6) := by simp [World.cell?, hbox]
   have y1 : wr.cell? ⟨w.heap.size + 1 + 1 + 1 + 1, 1, none⟩ = some (.int .i64 0) := by simp [World.cell?, hbox]
   have y2 : wr.cell? ⟨w.heap.size + 1 + 1 + 1 + 1, 2, none⟩ = some (.string ByteArray.empty) := by simp [World.cell?, hbox]
   have y3 : wr.cell? ⟨w.heap.size + 1 + 1 + 1 + 1, 3, none⟩ = some (.slice none 0 0) := by simp [World.cell?, hbox]
   have y4 : wr.cell? ⟨w.heap.size + 1 + 1 + 1 + 1, 4, none⟩ = some (.slice kva j kvc) := by simp [World.cell?, hbox]
   have HF : Hid (TreeIn (fun b => w.heap.size ≤ b ∧ b < (put5 wr (w.heap.size + 1 + 1 + 1) 0 (.int .i64 6) (.int .i64 0) (.string ByteArray.empty) (.slice none 0 0) (.slice kva j kvc)).heap.size) (put5 wr (w.heap.size + 1 + 1 + 1) 0 (.int .i64 6) (.int .i64 0) (.string ByteArray.empty) (.slice none 0 0) (.slice kva j kvc)) (m + 1) (mkT m 6 0 ByteArray.empty [] (ks.map (fun u => widT m y n x p u))) (.int .i64 6) (.int .i64 0) (.string ByteArray.empty) (.slice none 0 0) (.slice kva j kvc)) :=
    many_tree HM.out (t := mkT m 6 0 ByteArray.empty [] (ks.map (fun u => widT m y n x p u))) rfl rfl rfl rfl (by show ks.map _ = _; rw [hjl, ← List.length_map (f := fun u => widT m y n x p u), List.take_length]) (by rfl) (by simp) (by simp; omega) (by omega) (by omega)
   have HB : Hid (Below w.heap.size w (put5 wr (w.heap.size + 1 + 1 + 1) 0 (.int .i64 6) (.int .i64 0) (.string ByteArray.empty) (.slice none 0 0) (.slice kva j kvc))) := put5_below hbw (by omega)
   clear hjl hres hbox HM hlK hxs hkids HTK HK
   go_wp2_with fail
   refine bodyPost_ret (v := .agg #[.int .i64 6, .int .i64 0, .string ByteArray.empty, .slice none 0 0, .slice kva j kvc]) (by simp [results, Tryz.results30, go_sem, r0, r1, r2, r3, r4]) rfl ?_
   exact ⟨_, _, _, _, _, rfl, HF.out, HB.out⟩

end Go.Proofs.YtpalkdcgbbbmeaaGreatDoor

/-
 The specification's l3Widen: what the walk over forms leans on.
-/
namespace Go.Proofs.YtpalkdcgbbbmeaaGreatDoor
open Go.RowKit

theorem Many.kidF {R X n : Nat} {w W W1 Wa W2 : World} {so : Int} {ns : List ByteArray} {ks : List (T n)} {nv kv : Value} {t : T n} {c0 c1 c2 c3 c4 : Value} {one : Obj} {g cap : Nat} (h0 : Many R X n w W so ns ks nv kv) (hRX : R < X) (hw : w.heap.size ≤ X)
  (hn : Near R W W1) (ht : TreeIn (Far (X + 1) nv kv W1.heap.size) W1 n t c0 c1 c2 c3 c4)
  (ha : Wa.heap = W1.heap.push one) (ho : Wa.os = W1.os ∧ Wa.tape = W1.tape ∧ Wa.output = W1.output) {xs : List Value}
  (hxs : W.ownsRow (X + 1) 29 5 kv ks.length xs) (hk : ∀ j (h : j < ks.length), ∃ c0 c1 c2 c3 c4, (xs[j * 5]? = some c0 ∧ xs[j * 5 + 1]? = some c1 ∧ xs[j * 5 + 2]? = some c2 ∧ xs[j * 5 + 3]? = some c3 ∧ xs[j * 5 + 4]? = some c4) ∧ TreeIn (Far (X + 1) nv kv W.heap.size) W n ks[j] c0 c1 c2 c3 c4)
  (hown : W2.ownsRow (X + 1) 29 5 (.slice (some ⟨g, 0, none⟩) (ks.length + 1) cap) (ks.length + 1) (xs ++ [c0, c1, c2, c3, c4])) (hgrow : Wa.grownBy W2 kv.ownBlock) (hat : kv.ownBlock = some g ∨ g = W1.heap.size + 1) :
  Many R X n w (W2.setCell ⟨X, 4, none⟩ (.slice (some ⟨g, 0, none⟩) (ks.length + 1) cap)) so ns (ks ++ [t]) nv (.slice (some ⟨g, 0, none⟩) (ks.length + 1) cap) := by
 have hX := h0.lt
 have hz1 := hn.size
 have hz : W2.heap.size ≥ W1.heap.size + 1 := by have := hgrow.size; rw [ha] at this; simp at this; omega
 have hnl := owns_lt h0.names
 have hkl := owns_lt hxs
 have hgl := owns_lt hown g rfl
 have q1 : ∀ b, b < W1.heap.size → kv.ownBlock ≠ some b → W2.heap[b]? = W1.heap[b]? := fun b hb hne => by
  rw [hgrow.block b (by rw [ha]; simp; omega) (fun e => hne e.symm), ha, Array.getElem?_push_lt hb, Array.getElem?_eq_getElem hb]
 have q : ∀ b, b < W.heap.size → b ≠ R → kv.ownBlock ≠ some b → W2.heap[b]? = W.heap[b]? := fun b hb hR hne => by
  rw [q1 b (by omega) hne, hn.block b hb hR]
 have qs : ∀ b, b ≠ X → (W2.setCell ⟨X, 4, none⟩ (.slice (some ⟨g, 0, none⟩) (ks.length + 1) cap)).heap[b]? = W2.heap[b]? := fun b hb => Below.heap_setCell _ _ _ _ hb
 have hsz : (W2.setCell ⟨X, 4, none⟩ (.slice (some ⟨g, 0, none⟩) (ks.length + 1) cap)).heap.size = W2.heap.size := by simp
 have hXn : kv.ownBlock ≠ some X := fun e => by have := hkl X e; omega
 have hbox2 := (q X hX (by omega) hXn).trans h0.box
 have hxl : xs.length = ks.length * 5 := hxs.1
 refine ⟨⟨?_, ?_, ?_, by rw [hsz]; have := h0.near.size; omega, fun b hb hne => ?_⟩, ?_, owns_keep h0.names fun g' hg' => ?_, h0.short, ⟨xs ++ [c0, c1, c2, c3, c4], ?_, fun j hj => ?_⟩, fun b hb => ?_⟩
 ·
  show W2.os = w.os
  rw [hgrow.os, ho.1]; exact hn.os.trans h0.near.os
 ·
  show W2.tape = w.tape
  rw [hgrow.tape, ho.2.1]; exact hn.tape.trans h0.near.tape
 ·
  show W2.output = w.output
  rw [hgrow.output, ho.2.2]; exact hn.output.trans h0.near.output
 ·
  have hs := h0.near.size
  rw [qs b (by omega), q b (by omega) hne (fun e => by have := hkl b e; omega)]
  exact h0.near.block b hb hne
 · simp [World.setCell, Array.getElem?_modify, hbox2]
 ·
  have := hnl g' hg'
  rw [qs g' (by omega), q g' this.2 (by omega) (h0.apart g' hg')]
 ·
  rw [List.length_append, List.length_singleton]
  exact owns_keep hown fun g' hg' => qs g' (by have := owns_lt hown g' hg'; omega)
 ·
  have hfar : ∀ b, kv.ownBlock ≠ some b → b < W1.heap.size → (Value.slice (some ⟨g, 0, none⟩) (ks.length + 1) cap).ownBlock ≠ some b := by
   intro b h1 h2 e
   have e : g = b := by simpa [Value.ownBlock] using e
   rcases hat with h3 | h3
   · exact h1 (by rw [h3, e])
   · omega
  by_cases hjk : j < ks.length
  ·
   obtain ⟨d0, d1, d2, d3, d4, ⟨e0, e1, e2, e3, e4⟩, hd⟩ := hk j hjk
   have hlift : ∀ o v, o < 5 → xs[j * 5 + o]? = some v → (xs ++ [c0, c1, c2, c3, c4])[j * 5 + o]? = some v := fun o v ho h => by
    rw [List.getElem?_append_left (by omega)]; exact h
   refine ⟨d0, d1, d2, d3, d4, ⟨hlift 0 _ (by omega) e0, hlift 1 _ (by omega) e1, hlift 2 _ (by omega) e2, hlift 3 _ (by omega) e3, hlift 4 _ (by omega) e4⟩, ?_⟩
   rw [List.getElem_append_left hjk]
   refine hd.keep (fun b hb => ?_) (fun b hb => ⟨hb.1, by rw [hsz]; have := hb.2.1; omega, hb.2.2.1, hfar b hb.2.2.2 (by have := hb.2.1; omega)⟩)
   rw [qs b (by have := hb.1; omega), q b hb.2.1 (by have := hb.1; omega) hb.2.2.2]
  ·
   have hj' : j = ks.length := by simp at hj; omega
   subst hj'
   have hget : ∀ o v, o < 5 → [c0, c1, c2, c3, c4][o]? = some v → (xs ++ [c0, c1, c2, c3, c4])[ks.length * 5 + o]? = some v := fun o v ho h => by
    rw [List.getElem?_append_right (by omega), hxl, Nat.add_sub_cancel_left]; exact h
   refine ⟨c0, c1, c2, c3, c4, ⟨hget 0 _ (by omega) rfl, hget 1 _ (by omega) rfl, hget 2 _ (by omega) rfl, hget 3 _ (by omega) rfl, hget 4 _ (by omega) rfl⟩, ?_⟩
   have : (ks ++ [t])[ks.length] = t := by simp
   rw [this]
   refine ht.keep (fun b hb => ?_) (fun b hb => ⟨hb.1, by rw [hsz]; have := hb.2.1; omega, hb.2.2.1, hfar b hb.2.2.2 hb.2.1⟩)
   rw [qs b (by have := hb.1; omega), q1 b hb.2.1 hb.2.2.2]
 ·
  intro e
  have e : g = b := by simpa [Value.ownBlock] using e
  subst e
  rcases hat with h1 | h1
  · exact h0.apart g hb h1
  · have := hnl g hb; omega

theorem none_in (m : Nat) (y : K m) (S : Nat → Prop) (w : World) : TreeIn S w m (noneT m y) (.int .i64 6) (.int .i64 0) (.string ⟨#[]⟩) (.slice none 0 0) (.slice none 0 0) := by
 cases m with
 | zero => exact Empty.elim (show Empty from y)
 | succ m =>
  exact ⟨rfl, rfl, rfl, (by show (ByteArray.empty).size ≤ maxLen; simp [maxLen]), (by rfl : (Lit.int .i64 6).wf = true), (by rfl : (Lit.int .i64 0).wf = true), ⟨none, 0, rfl, (by show ([] : List ByteArray).length ≤ maxLen; simp), fun s h => (by cases h), fun h => absurd rfl h⟩, ⟨none, 0, rfl, (by show ([] : List (T m)).length ≤ maxLen; simp), fun h => absurd rfl h⟩⟩

theorem cells5 {w : World} {N : Nat} {c0 c1 c2 c3 c4 : Value} {ty : TypeId} (h : w.heap[N]? = some (.cells #[c0, c1, c2, c3, c4] ty (0, 0))) :
  (w.cell? ⟨N, 0, none⟩ = some c0 ∧ w.cell? ⟨N, 1, none⟩ = some c1 ∧ w.cell? ⟨N, 2, none⟩ = some c2 ∧ w.cell? ⟨N, 3, none⟩ = some c3 ∧ w.cell? ⟨N, 4, none⟩ = some c4) ∧
   w.frozen? ⟨N, 0, none⟩ = false ∧ w.frozen? ⟨N, 1, none⟩ = false ∧ w.frozen? ⟨N, 2, none⟩ = false ∧ w.frozen? ⟨N, 3, none⟩ = false ∧ w.frozen? ⟨N, 4, none⟩ = false := by
 refine ⟨⟨?_, ?_, ?_, ?_, ?_⟩, ?_, ?_, ?_, ?_, ?_⟩ <;> simp [World.cell?, World.frozen?, h]

theorem put5_block {w : World} {N : Nat} {c0 c1 c2 c3 c4 d0 d1 d2 d3 d4 : Value} {ty : TypeId} (h : w.heap[N]? = some (.cells #[c0, c1, c2, c3, c4] ty (0, 0))) : (put5 w N 0 d0 d1 d2 d3 d4).heap[N]? = some (.cells #[d0, d1, d2, d3, d4] ty (0, 0)) := by
 unfold put5
 simp [World.setCell, Array.getElem?_modify, h]

def KidIs (m n p : Nat) (la : List ByteArray) (ka : List (K n)) (kt : List (T p)) (s : ByteArray) (y : K m) (q : Nat) (tk : T m) : Prop :=
 ((∀ r (h : r < la.length), r < q → la[r] ≠ s) ∧ tk = noneT m y) ∨ ∃ r, ∃ (_ : r < q) (h1 : r < la.length) (h2 : r < ka.length) (h3 : r < kt.length), la[r] = s ∧ tk = widT m y n ka[r] p kt[r]

theorem KidIs.hit {m n p : Nat} {la : List ByteArray} {ka : List (K n)} {kt : List (T p)} {s : ByteArray} {y : K m} {q : Nat} (h1 : q < la.length) (h2 : q < ka.length) (h3 : q < kt.length) (e : la[q] = s) : KidIs m n p la ka kt s y (q + 1) (widT m y n ka[q] p kt[q]) :=
 .inr ⟨q, by omega, h1, h2, h3, e, rfl⟩

theorem KidIs.miss {m n p : Nat} {la : List ByteArray} {ka : List (K n)} {kt : List (T p)} {s : ByteArray} {y : K m} {q : Nat} {tk : T m} (h : KidIs m n p la ka kt s y q tk) (h1 : q < la.length) (e : la[q] ≠ s) : KidIs m n p la ka kt s y (q + 1) tk := by
 rcases h with ⟨h, rfl⟩ | ⟨r, hr, h1, h2, h3, e, rfl⟩
 ·
  refine .inl ⟨fun r hr hq => ?_, rfl⟩
  by_cases hrq : r < q
  · exact h r hr hrq
  ·
   have : r = q := by omega
   subst this; exact e
 · exact .inr ⟨r, by omega, h1, h2, h3, e, rfl⟩

end Go.Proofs.YtpalkdcgbbbmeaaGreatDoor
