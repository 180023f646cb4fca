/-
  The specification's l3Widen: of leaves, and into a maybe.
-/
import Derived.Test.YtpalkdcgbbbmeaaGreatDoorWD6
import Derived.Test.YtpalkdcgbbbmeaaGreatDoorKSpec
import Derived.Test.YtpalkdcgbbbmeaaGreatDoorManyS
import Derived.Test.YtpalkdcgbbbmeaaGreatDoorBox
import Derived.Test.YtpalkdcgbbbmeaaGreatDoorKMade
import Derived.Test.YtpalkdcgbbbmeaaGreatDoorTRd1
import Derived.Deep.Cut
import Derived.Deep.CutRange
import Derived.Deep.RegionHeldLaw
namespace Go.Proofs.YtpalkdcgbbbmeaaGreatDoor
open Go.RowKit

/-- l3Widen into schemas of at most m levels. -/
def WidSSaid (m : Nat) : Prop := ∀ (S : Nat → Prop) (n p : Nat) (a : K n) (b : K m) (t : T p) (a0 a1 a2 b0 b1 b2 e0 e1 e2 e3 e4 : Value) (d d' e : Int) (w : World), KindIn S w n a a0 a1 a2 → KindIn S w m b b0 b1 b2 → TreeIn S w p t e0 e1 e2 e3 e4 → (∀ b, S b → b < w.heap.size) →
  goodK n a d = true → goodK m b d' = true → cntK m b ≤ 40 → goodT p t e = true → fitsK m b n a = true → hasK n a p t = true →
  Calls Tryz.prog 30 #[.agg #[a0, a1, a2], .agg #[b0, b1, b2], .agg #[e0, e1, e2, e3, e4]] w fun en w' => ∃ g0 g1 g2 g3 g4, en = .returned (.agg #[g0, g1, g2, g3, g4]) ∧ TreeIn (fun b => w.heap.size ≤ b ∧ b < w'.heap.size) w' m (widT m b n a p t) g0 g1 g2 g3 g4 ∧ Below w.heap.size w w'

set_option maxRecDepth 100000 in
set_option maxHeartbeats 2000000 in
theorem l3Widen_leaf (m : Nat) (S : Nat → Prop) (n p : Nat) (a : K (n + 1)) (b : K (m + 1)) (t : T (p + 1)) (a0 a1 a2 b0 b1 b2 e0 e1 e2 e3 e4 : Value) (w : World) (ha : KindIn S w (n + 1) a a0 a1 a2) (hb : KindIn S w (m + 1) b b0 b1 b2) (ht : TreeIn S w (p + 1) t e0 e1 e2 e3 e4) (sb : Kd.sort b = 1 ∨ Kd.sort b = 2 ∨ Kd.sort b = 3) (st : Nd.sort t = Kd.sort b) :
    Calls Tryz.prog 30 #[.agg #[a0, a1, a2], .agg #[b0, b1, b2], .agg #[e0, e1, e2, e3, e4]] w fun en w' => ∃ g0 g1 g2 g3 g4, en = .returned (.agg #[g0, g1, g2, g3, g4]) ∧ TreeIn (fun b => w.heap.size ≤ b ∧ b < w'.heap.size) w' (m + 1) (widT (m + 1) b (n + 1) a (p + 1) t) g0 g1 g2 g3 g4 ∧ Below w.heap.size w w' := by
  rw [widT_leaf sb]
  obtain ⟨x0, xa, xl, xc, ya, yl, yc, rfl, rfl, rfl⟩ := ha.shape
  obtain ⟨rfl, hwb, hb1, hb2⟩ := hb
  obtain ⟨bna, bnc, rfl, -⟩ := hb1
  obtain ⟨bka, bkc, rfl, -⟩ := hb2
  obtain ⟨rfl, rfl, rfl, htx, hws, hwn, ht3, ht4⟩ := ht
  obtain ⟨tna, tnc, rfl, -⟩ := ht3
  obtain ⟨tka, tkc, rfl, -⟩ := ht4
  rw [st] at hws ⊢
  have HT : Hid (∀ (W : World) (S' : Nat → Prop), TreeIn S' W (m + 1) (mkT m (Kd.sort b) (Nd.num t) (Nd.text t) [] []) (.int .i64 (Kd.sort b)) (.int .i64 (Nd.num t)) (.string (Nd.text t)) (.slice none 0 0) (.slice none 0 0)) := fun W S' =>
    ⟨rfl, rfl, rfl, htx, hws, hwn, ⟨none, 0, rfl, by simp [mkT, maxLen], fun s h => (by cases h), fun h => absurd rfl h⟩, ⟨none, 0, rfl, by simp [mkT, maxLen], fun h => absurd rfl h⟩⟩
  generalize Nd.num t = num at *
  generalize Nd.text t = tx at *
  clear htx hws hwn hwb
  generalize (Nd.names t).length = l1 at *
  generalize (Nd.kids t).length = l2 at *
  generalize (Kd.names b).length = l3 at *
  generalize (Kd.kids b).length = l4 at *
  rcases sb with sb | sb | sb
  · rw [sb] at HT ⊢
    clear sb st
    go_enter Tryz.func30, Tryz.ntmps30
    go_wp2_with fail
    refine bodyPost_ret (v := .agg #[.int .i64 1, .int .i64 num, .string tx, .slice none 0 0, .slice none 0 0]) (by simp [results, Tryz.results30, go_sem]) rfl ?_
    exact ⟨_, _, _, _, _, rfl, HT.out _ _, (((((Below.refl _ _).alloc (Nat.le_refl _) _).alloc (by simp) _).alloc (by simp; omega) _).alloc (by simp; omega) _).alloc (by simp; omega) _⟩
  · rw [sb] at HT ⊢
    clear sb st
    go_enter Tryz.func30, Tryz.ntmps30
    go_wp2_with fail
    refine bodyPost_ret (v := .agg #[.int .i64 2, .int .i64 num, .string tx, .slice none 0 0, .slice none 0 0]) (by simp [results, Tryz.results30, go_sem]) rfl ?_
    exact ⟨_, _, _, _, _, rfl, HT.out _ _, (((((Below.refl _ _).alloc (Nat.le_refl _) _).alloc (by simp) _).alloc (by simp; omega) _).alloc (by simp; omega) _).alloc (by simp; omega) _⟩
  · rw [sb] at HT ⊢
    clear sb st
    go_enter Tryz.func30, Tryz.ntmps30
    go_wp2_with fail
    refine bodyPost_ret (v := .agg #[.int .i64 3, .int .i64 num, .string tx, .slice none 0 0, .slice none 0 0]) (by simp [results, Tryz.results30, go_sem]) rfl ?_
    exact ⟨_, _, _, _, _, rfl, HT.out _ _, (((((Below.refl _ _).alloc (Nat.le_refl _) _).alloc (by simp) _).alloc (by simp; omega) _).alloc (by simp; omega) _).alloc (by simp; omega) _⟩

theorem below_set5 {B N : Nat} {w V : World} (h : Below B w V) (hB : B ≤ N) (c0 c1 c2 c3 c4 : Value) : Below B w (((((V.setCell ⟨N, 0, none⟩ c0).setCell ⟨N, 1, none⟩ c1).setCell ⟨N, 2, none⟩ c2).setCell ⟨N, 3, none⟩ c3).setCell ⟨N, 4, none⟩ c4) :=
  ((((h.setCell hB _).setCell hB _).setCell hB _).setCell hB _).setCell hB _

/-- A row of one tree in a new block. -/
theorem row5_one {m : Nat} {S : Nat → Prop} {W : World} {x : T m} {c0 c1 c2 c3 c4 : Value} {g : Nat} (hg : S g) (hc : Box5 W g c0 c1 c2 c3 c4) (ht : TreeIn S W m x c0 c1 c2 c3 c4) : RowIn S W (TreeIn S W m) [x] (.slice (some ⟨g, 0, none⟩) 1 1) := by
  refine ⟨_, _, rfl, by simp [maxLen], fun _ => ⟨g, 0, rfl, hg, fun i hi => ?_⟩⟩
  have : i = 0 := by simp at hi; exact hi
  subst this
  obtain ⟨k0, k1, k2, k3, k4⟩ := hc
  exact ⟨c0, c1, c2, c3, c4, by simpa using k0, by simpa using k1, by simpa using k2, by simpa using k3, by simpa using k4, ht⟩

set_option maxRecDepth 100000 in
set_option maxHeartbeats 2000000 in
theorem l3Widen_into (m : Nat) (hm : WidSSaid m) (S : Nat → Prop) (n p : Nat) (a : K (n + 1)) (b : K (m + 1)) (t : T (p + 1)) (y : K m) (a0 a1 a2 b0 b1 b2 e0 e1 e2 e3 e4 : Value) (d d' e : Int) (w : World) (ha : KindIn S w (n + 1) a a0 a1 a2) (hb : KindIn S w (m + 1) b b0 b1 b2) (ht : TreeIn S w (p + 1) t e0 e1 e2 e3 e4) (hB : ∀ b, S b → b < w.heap.size)
    (hga : goodK (n + 1) a d = true) (hgy : goodK m y d' = true) (hcy : cntK m y ≤ 40) (hgt : goodT (p + 1) t e = true) (hf : fitsK m y (n + 1) a = true) (hh : hasK (n + 1) a (p + 1) t = true) (sb : Kd.sort b = 6) (sa : Kd.sort a ≠ 6) (ky : Kd.kids b = [y]) :
    Calls Tryz.prog 30 #[.agg #[a0, a1, a2], .agg #[b0, b1, b2], .agg #[e0, e1, e2, e3, e4]] w fun en w' => ∃ g0 g1 g2 g3 g4, en = .returned (.agg #[g0, g1, g2, g3, g4]) ∧ TreeIn (fun b => w.heap.size ≤ b ∧ b < w'.heap.size) w' (m + 1) (widT (m + 1) b (n + 1) a (p + 1) t) g0 g1 g2 g3 g4 ∧ Below w.heap.size w w' := by
  rw [widT_xm sb sa ky]
  have ha' := ha
  have ht' := ht
  obtain ⟨rfl, hwa, ha1, ha2⟩ := ha
  obtain ⟨ana, anc, rfl, -⟩ := ha1
  obtain ⟨aka, akc, rfl, -⟩ := ha2
  obtain ⟨rfl, hwb, hb1, hb2⟩ := hb
  obtain ⟨bna, bnc, rfl, -⟩ := hb1
  rw [ky] at hb2
  obtain ⟨bka, bkc, rfl, -, hbk⟩ := hb2
  obtain ⟨kb, koff, rfl, hSk, hbk⟩ := hbk (by simp)
  obtain ⟨y0, y1, y2, k0, k1, k2, hyin⟩ := hbk 0 (by simp)
  obtain ⟨z0, za, zl, zc, ua, ul, uc, rfl, rfl, rfl⟩ := hyin.shape
  have hkb := hB kb hSk
  obtain ⟨q0, q1, q2, qa, ql, qc, ra, rl, rc, rfl, rfl, rfl, rfl, rfl⟩ := ht.shape
  rw [sb, show [y].length = 1 from rfl]
  have hsa : (Kd.sort a != 6) = true := by simp [sa]
  simp only [List.getElem_cons_zero] at hyin
  generalize Kd.sort a = so at *
  generalize (Kd.names a).length = la1 at *
  generalize (Kd.kids a).length = la2 at *
  generalize (Kd.names b).length = lb1 at *
  obtain ⟨W5, hW5⟩ : ∃ W5, W5 = ((((w.alloc (.cells #[.int .i64 so, .slice ana la1 anc, .slice aka la2 akc] 26)).alloc (.cells #[.int .i64 6, .slice bna lb1 bnc, .slice (some ⟨kb, koff, none⟩) 1 bkc] 26)).alloc (.cells #[.int .i64 q0, .int .i64 q1, .string q2, .slice qa ql qc, .slice ra rl rc] 29)).alloc (.cells #[.int .i64 0, .int .i64 0, .string ⟨#[]⟩, .slice none 0 0, .slice none 0 0] 29)).alloc (.cells #[.int .i64 6, .int .i64 q1, .string q2, .slice none 0 0, .slice none 0 0] 29) := ⟨_, rfl⟩
  have hb5 : Below w.heap.size w W5 := by rw [hW5]; exact (((((Below.refl _ _).alloc (Nat.le_refl _) _).alloc (by simp) _).alloc (by simp; omega) _).alloc (by simp; omega) _).alloc (by simp; omega) _
  have hz5 : W5.heap.size = w.heap.size + 1 + 1 + 1 + 1 + 1 := by rw [hW5]; simp
  have c : (W5.cell? ⟨w.heap.size, 0, none⟩ = some (.int .i64 so) ∧ W5.cell? ⟨w.heap.size, 1, none⟩ = some (.slice ana la1 anc) ∧ W5.cell? ⟨w.heap.size, 2, none⟩ = some (.slice aka la2 akc)) ∧ W5.cell? ⟨w.heap.size + 1, 2, none⟩ = some (.slice (some ⟨kb, koff, none⟩) 1 bkc) ∧
      (W5.cell? ⟨w.heap.size + 1 + 1, 0, none⟩ = some (.int .i64 q0) ∧ W5.cell? ⟨w.heap.size + 1 + 1, 1, none⟩ = some (.int .i64 q1) ∧ W5.cell? ⟨w.heap.size + 1 + 1, 2, none⟩ = some (.string q2) ∧ W5.cell? ⟨w.heap.size + 1 + 1, 3, none⟩ = some (.slice qa ql qc) ∧ W5.cell? ⟨w.heap.size + 1 + 1, 4, none⟩ = some (.slice ra rl rc)) := by
    rw [hW5]
    refine ⟨⟨?_, ?_, ?_⟩, ?_, ?_, ?_, ?_, ?_, ?_⟩ <;> simp [go_sem]
  have kz : W5.heap[w.heap.size + 1 + 1 + 1]? = some (.cells #[.int .i64 0, .int .i64 0, .string ⟨#[]⟩, .slice none 0 0, .slice none 0 0] 29 (0, 0)) := by
    rw [hW5, Below.heap_alloc _ _ _ (by simp)]
    have := heap_alloc_new (((w.alloc (.cells #[.int .i64 so, .slice ana la1 anc, .slice aka la2 akc] 26)).alloc (.cells #[.int .i64 6, .slice bna lb1 bnc, .slice (some ⟨kb, koff, none⟩) 1 bkc] 26)).alloc (.cells #[.int .i64 q0, .int .i64 q1, .string q2, .slice qa ql qc, .slice ra rl rc] 29)) (.cells #[.int .i64 0, .int .i64 0, .string ⟨#[]⟩, .slice none 0 0, .slice none 0 0] 29)
    simpa using this
  have kk : W5.cell? ⟨kb, koff, none⟩ = some (.int .i64 z0) ∧ W5.cell? ⟨kb, koff + 1, none⟩ = some (.slice za zl zc) ∧ W5.cell? ⟨kb, koff + 2, none⟩ = some (.slice ua ul uc) :=
    ⟨(hb5.cell (p := ⟨kb, koff, none⟩) hkb).trans (by simpa using k0), (hb5.cell (p := ⟨kb, koff + 1, none⟩) hkb).trans (by simpa using k1), (hb5.cell (p := ⟨kb, koff + 2, none⟩) hkb).trans (by simpa using k2)⟩
  have HK : Hid (∀ W, Below (w.heap.size + 1 + 1 + 1) W5 W → (W.cell? ⟨w.heap.size, 0, none⟩ = some (.int .i64 so) ∧ W.cell? ⟨w.heap.size, 1, none⟩ = some (.slice ana la1 anc) ∧ W.cell? ⟨w.heap.size, 2, none⟩ = some (.slice aka la2 akc)) ∧ W.cell? ⟨w.heap.size + 1, 2, none⟩ = some (.slice (some ⟨kb, koff, none⟩) 1 bkc) ∧
      (W.cell? ⟨w.heap.size + 1 + 1, 0, none⟩ = some (.int .i64 q0) ∧ W.cell? ⟨w.heap.size + 1 + 1, 1, none⟩ = some (.int .i64 q1) ∧ W.cell? ⟨w.heap.size + 1 + 1, 2, none⟩ = some (.string q2) ∧ W.cell? ⟨w.heap.size + 1 + 1, 3, none⟩ = some (.slice qa ql qc) ∧ W.cell? ⟨w.heap.size + 1 + 1, 4, none⟩ = some (.slice ra rl rc)) ∧
      (W.cell? ⟨kb, koff, none⟩ = some (.int .i64 z0) ∧ W.cell? ⟨kb, koff + 1, none⟩ = some (.slice za zl zc) ∧ W.cell? ⟨kb, koff + 2, none⟩ = some (.slice ua ul uc))) := fun W hW => by
    have g : ∀ (b o : Nat), b < w.heap.size + 1 + 1 + 1 → W.cell? ⟨b, o, none⟩ = W5.cell? ⟨b, o, none⟩ := fun b o h => hW.cell (p := ⟨b, o, none⟩) h
    rw [g _ _ (by omega), g _ _ (by omega), g _ _ (by omega), g _ _ (by omega), g _ _ (by omega), g _ _ (by omega), g _ _ (by omega), g _ _ (by omega), g _ _ (by omega), g _ _ (by omega), g _ _ (by omega), g _ _ (by omega)]
    exact ⟨c.1, c.2.1, c.2.2, kk⟩
  have HC : Hid (Calls Tryz.prog 30 #[.agg #[.int .i64 so, .slice ana la1 anc, .slice aka la2 akc], .agg #[.int .i64 z0, .slice za zl zc, .slice ua ul uc], .agg #[.int .i64 q0, .int .i64 q1, .string q2, .slice qa ql qc, .slice ra rl rc]] W5.drew fun en w' => Below W5.heap.size W5 w' ∧ ∃ u0 u1 u2 va vl vc pa pl pc, en = .returned (.agg #[.int .i64 u0, .int .i64 u1, .string u2, .slice va vl vc, .slice pa pl pc]) ∧ Hid (TreeIn (fun b => W5.heap.size ≤ b ∧ b < w'.heap.size) w' m (widT m y (n + 1) a (p + 1) t) (.int .i64 u0) (.int .i64 u1) (.string u2) (.slice va vl vc) (.slice pa pl pc))) := by
    obtain ⟨h1, h2⟩ := ha'.step hB hb5.drew
    obtain ⟨h3, -⟩ := hyin.step hB hb5.drew
    obtain ⟨h4, -⟩ := ht'.step hB hb5.drew
    refine (hm S (n + 1) (p + 1) a y t _ _ _ _ _ _ _ _ _ _ _ d d' e W5.drew h1 h3 h4 h2 hga hgy hcy hgt hf hh).mono ?_
    rintro en w' ⟨g0, g1, g2, g3, g4, rfl, hin, hbl⟩
    obtain ⟨u0, u1, u2, va, vl, vc, pa, pl, pc, rfl, rfl, rfl, rfl, rfl⟩ := hin.shape
    exact ⟨(Below.refl W5.heap.size W5).drew.trans hbl, _, _, _, _, _, _, _, _, _, rfl, hin⟩
  obtain ⟨c0', c1', c2', c3'⟩ := HK.out W5 (Below.refl _ _)
  have hd0 := (Below.refl (w.heap.size + 1 + 1 + 1) W5).drew
  clear hm ha' ht' ht hyin k0 k1 k2 hbk hga hgy hcy hgt hf hh c kk c0' c1' c2' c3' sa ky hwa hwb
  go_enter Tryz.func30, Tryz.ntmps30
  go_upto_region 5 with fail
  rw [← hW5]
  clear hW5
  go_region_held (fun W => (W.cell? ⟨w.heap.size, 0, none⟩ = some (.int .i64 so) ∧ W.cell? ⟨w.heap.size, 1, none⟩ = some (.slice ana la1 anc) ∧ W.cell? ⟨w.heap.size, 2, none⟩ = some (.slice aka la2 akc)) ∧ W.cell? ⟨w.heap.size + 1, 2, none⟩ = some (.slice (some ⟨kb, koff, none⟩) 1 bkc) ∧
      (W.cell? ⟨w.heap.size + 1 + 1, 0, none⟩ = some (.int .i64 q0) ∧ W.cell? ⟨w.heap.size + 1 + 1, 1, none⟩ = some (.int .i64 q1) ∧ W.cell? ⟨w.heap.size + 1 + 1, 2, none⟩ = some (.string q2) ∧ W.cell? ⟨w.heap.size + 1 + 1, 3, none⟩ = some (.slice qa ql qc) ∧ W.cell? ⟨w.heap.size + 1 + 1, 4, none⟩ = some (.slice ra rl rc)) ∧
      (W.cell? ⟨kb, koff, none⟩ = some (.int .i64 z0) ∧ W.cell? ⟨kb, koff + 1, none⟩ = some (.slice za zl zc) ∧ W.cell? ⟨kb, koff + 2, none⟩ = some (.slice ua ul uc))) (first | with_reducible assumption | (refine HK.out _ ?_; first | with_reducible assumption | with_reducible exact hb6a _ | with_reducible exact below_set5 (hb6a _) (Nat.le_refl _) _ _ _ _ _)) (first
    | (go_at_call 30; refine HC.out.mono ?_; rintro en w6 ⟨hb6', u0, u1, u2, va, vl, vc, pa, pl, pc, rfl, hin6⟩; have hz6 := hb6'.size; have hb6 : Below (w.heap.size + 1 + 1 + 1) W5 w6 := hb6'.mono (by omega); have hb6a : ∀ o, Below (w.heap.size + 1 + 1 + 1) W5 (w6.alloc o) := (fun o => hb6.alloc (by omega) o); obtain ⟨⟨r0, r1, r2, r3, r4⟩, f0, f1, f2, f3, f4⟩ := zeroT_cells (w := w6.alloc (.cells #[.int .i64 u0, .int .i64 u1, .string u2, .slice va vl vc, .slice pa pl pc] 29)) ((Below.heap_alloc _ _ _ (by omega)).trans ((hb6'.block (w.heap.size + 1 + 1 + 1) (by omega)).trans kz))))
  all_goals
    have hz6' : W5.heap.size ≤ w6.heap.size := hz6
    have HF : Hid (TreeIn (fun b => w.heap.size ≤ b ∧ b < (put5 (w6.alloc (.cells #[.int .i64 u0, .int .i64 u1, .string u2, .slice va vl vc, .slice pa pl pc] 29)) (w.heap.size + 1 + 1 + 1) 0 (.int .i64 6) (.int .i64 0) (.string ⟨#[]⟩) (.slice none 0 0) (.slice (some ⟨w6.heap.size, 0, none⟩) 1 1)).heap.size)
        (put5 (w6.alloc (.cells #[.int .i64 u0, .int .i64 u1, .string u2, .slice va vl vc, .slice pa pl pc] 29)) (w.heap.size + 1 + 1 + 1) 0 (.int .i64 6) (.int .i64 0) (.string ⟨#[]⟩) (.slice none 0 0) (.slice (some ⟨w6.heap.size, 0, none⟩) 1 1)) (m + 1) (mkT m 6 0 ByteArray.empty [] [widT m y (n + 1) a (p + 1) t]) (.int .i64 6) (.int .i64 0) (.string ⟨#[]⟩) (.slice none 0 0) (.slice (some ⟨w6.heap.size, 0, none⟩) 1 1) ∧
        Below w.heap.size w (put5 (w6.alloc (.cells #[.int .i64 u0, .int .i64 u1, .string u2, .slice va vl vc, .slice pa pl pc] 29)) (w.heap.size + 1 + 1 + 1) 0 (.int .i64 6) (.int .i64 0) (.string ⟨#[]⟩) (.slice none 0 0) (.slice (some ⟨w6.heap.size, 0, none⟩) 1 1))) := by
      have hb1 : Below w.heap.size w (w6.alloc (.cells #[.int .i64 u0, .int .i64 u1, .string u2, .slice va vl vc, .slice pa pl pc] 29)) := (hb5.trans (hb6a _ |>.mono (by omega)))
      have hx := Box5.new w6 (.int .i64 u0) (.int .i64 u1) (.string u2) (.slice va vl vc) (.slice pa pl pc) 29
      have q : ∀ b, b ≠ w.heap.size + 1 + 1 + 1 → (put5 (w6.alloc (.cells #[.int .i64 u0, .int .i64 u1, .string u2, .slice va vl vc, .slice pa pl pc] 29)) (w.heap.size + 1 + 1 + 1) 0 (.int .i64 6) (.int .i64 0) (.string ⟨#[]⟩) (.slice none 0 0) (.slice (some ⟨w6.heap.size, 0, none⟩) 1 1)).heap[b]? = (w6.alloc (.cells #[.int .i64 u0, .int .i64 u1, .string u2, .slice va vl vc, .slice pa pl pc] 29)).heap[b]? := fun b h => put5_other h
      have hsz : (put5 (w6.alloc (.cells #[.int .i64 u0, .int .i64 u1, .string u2, .slice va vl vc, .slice pa pl pc] 29)) (w.heap.size + 1 + 1 + 1) 0 (.int .i64 6) (.int .i64 0) (.string ⟨#[]⟩) (.slice none 0 0) (.slice (some ⟨w6.heap.size, 0, none⟩) 1 1)).heap.size = w6.heap.size + 1 := by rw [put5_size]; simp
      refine ⟨⟨rfl, rfl, rfl, by simp [mkT, maxLen], (by rfl : (Lit.int .i64 6).wf = true), (by rfl : (Lit.int .i64 0).wf = true), ⟨none, 0, rfl, by simp [mkT, maxLen], fun s h => (by cases h), fun h => absurd rfl h⟩, row5_one (c0 := .int .i64 u0) (c1 := .int .i64 u1) (c2 := .string u2) (c3 := .slice va vl vc) (c4 := .slice pa pl pc) ⟨by omega, by rw [hsz]; omega⟩ ?_ ?_⟩, put5_below hb1 (by omega)⟩
      · have g : ∀ o, (put5 (w6.alloc (.cells #[.int .i64 u0, .int .i64 u1, .string u2, .slice va vl vc, .slice pa pl pc] 29)) (w.heap.size + 1 + 1 + 1) 0 (.int .i64 6) (.int .i64 0) (.string ⟨#[]⟩) (.slice none 0 0) (.slice (some ⟨w6.heap.size, 0, none⟩) 1 1)).cell? ⟨w6.heap.size, o, none⟩ = (w6.alloc (.cells #[.int .i64 u0, .int .i64 u1, .string u2, .slice va vl vc, .slice pa pl pc] 29)).cell? ⟨w6.heap.size, o, none⟩ := fun o => World.cell?_of_block (a := ⟨w6.heap.size, o, none⟩) (q w6.heap.size (by omega))
        exact ⟨(g 0).trans hx.c0, (g 1).trans hx.c1, (g 2).trans hx.c2, (g 3).trans hx.c3, (g 4).trans hx.c4⟩
      · exact hin6.out.keep (fun b hb => by rw [q b (by omega), Below.heap_alloc _ _ _ hb.2]) (fun b hb => ⟨by omega, by rw [hsz]; omega⟩)
    clear hin6 hb6 hb6a hb6' HC HK
    go_wp2_with fail
    refine bodyPost_ret (v := .agg #[.int .i64 6, .int .i64 0, .string ⟨#[]⟩, .slice none 0 0, .slice (some ⟨w6.heap.size, 0, none⟩) 1 1]) (by simp [results, Tryz.results30, go_sem, r0, r1, r2, r3, r4]) rfl ?_
    exact ⟨_, _, _, _, _, rfl, HF.out.1, HF.out.2⟩

end Go.Proofs.YtpalkdcgbbbmeaaGreatDoor
