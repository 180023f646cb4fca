/-
  What the specification draws: l5Wider.
-/
import Derived.Test.YthcdeahobjhkbaaGreatDoorB16
import Derived.Test.YthcdeahobjhkbaaGreatDoorB4
import Derived.Deep.RegionLaw
import Derived.Deep.Cut
import Derived.Deep.CutRange
import Derived.Lib.Hide
import Derived.WalkSmall
import Derived.LoopTactic
import Derived.BigQuiet
namespace Go.Proofs.YthcdeahobjhkbaaGreatDoor
open Go.RowKit

/-- What holds from the entry on. -/
structure WSit (R X : Nat) (S : Nat → Prop) (w W3 : World) (c0 c1 c2 : Value) : Prop where
  near : Near R w W3
  kbox : W3.heap[w.heap.size]? = some (.cells #[c0, c1, c2] 26 (0, 0))
  zero : W3.heap[w.heap.size + 1]? = some (.cells #[.int .i64 0, .slice none 0 0, .slice none 0 0] 26 (0, 0))
  out : W3.heap[X]? = some (.cells #[c0, .slice none 0 0, .slice none 0 0] 26 (0, 0))
  same : Same S w W3
  x : X = w.heap.size + 2
  size : W3.heap.size = w.heap.size + 3

/-- One kid more: a maybe of what was drawn. -/
theorem grow_maybe {R X n p5 : Nat} {d L cap0 : Nat} {ao : Option Addr} {w0 w u W v2 v3 : World} {ns : List ByteArray} {ks : List (K (n + 1))} {nv : Value} {ka : Option Addr} {ln kc g2 cap2 : Nat} {k5 : K n} {y0 : Int} {ya za : Option Addr} {yl yc zl zc : Nat} {xs : List Value} {p : Nat}
    (hM : GrowK R X (n + 1) w W 5 ns ks nv (.slice ka ln kc)) (hO : Old w.heap.size u W nv (.slice ka ln kc)) (hl : ks.length = ln) (hRX : R ≠ X) (hXw : X < w.heap.size) (hRw : R < w.heap.size) (hn5 : Near R W v2) (hk5 : KindIn (fun b => W.heap.size ≤ b ∧ b < v2.heap.size) v2 n k5 (.int .i64 y0) (.slice ya yl yc) (.slice za zl zc)) (hdk5 : depK n k5 2) (hD5 : Dr v2 R ao L cap0 p5)
    (hx : W.ownsRow w.heap.size 26 3 (.slice ka ln kc) ln xs) (hkk : ∀ j (h : j < ks.length), ∃ c0 c1 c2, (xs[j * 3]? = some c0 ∧ xs[j * 3 + 1]? = some c1 ∧ xs[j * 3 + 2]? = some c2) ∧ KindIn (Fr w.heap.size nv (.slice ka ln kc) W.heap.size) W (n + 1) ks[j] c0 c1 c2)
    (hown : v3.ownsRow w.heap.size 26 3 (.slice (some ⟨g2, 0, none⟩) (ln + 1) cap2) (ln + 1) (xs ++ [.int .i64 6, .slice none 0 0, .slice (some ⟨v2.heap.size, 0, none⟩) 1 1]))
    (hgrow : ((v2.alloc (.cells #[.int .i64 y0, .slice ya yl yc, .slice za zl zc] 26)).alloc (.cells #[.int .i64 6, .slice none 0 0, .slice (some ⟨v2.heap.size, 0, none⟩) 1 1] 26)).grownBy v3 (Value.slice ka ln kc).ownBlock) (hat : (Value.slice ka ln kc).ownBlock = some g2 ∨ g2 = v2.heap.size + 1 + 1) (hd : ∀ x, x ∈ ks → depK (n + 1) x d) (h3 : 3 ≤ d)
    (hD0 : Dr w0 R ao L cap0 p) (hw0 : Near R w0 w) (hX0 : w0.heap.size ≤ X) (hR0 : R < w0.heap.size) :
    ∃ t : K (n + 1), GrowK R X (n + 1) w (v3.setCell ⟨X, 2, none⟩ (.slice (some ⟨g2, 0, none⟩) (ln + 1) cap2)) 5 ns (ks ++ [t]) nv (.slice (some ⟨g2, 0, none⟩) (ln + 1) cap2) ∧ Old w.heap.size u (v3.setCell ⟨X, 2, none⟩ (.slice (some ⟨g2, 0, none⟩) (ln + 1) cap2)) nv (.slice (some ⟨g2, 0, none⟩) (ln + 1) cap2) ∧
      Dr (v3.setCell ⟨X, 2, none⟩ (.slice (some ⟨g2, 0, none⟩) (ln + 1) cap2)) R ao L cap0 p5 ∧ ∀ x, x ∈ ks ++ [t] → depK (n + 1) x d := by
  subst hl
  have hnA : Near R W (v2.alloc (.cells #[.int .i64 y0, .slice ya yl yc, .slice za zl zc] 26)) := hn5.trans (Near.alloc _ _ _)
  have hz5 := hn5.size
  have hzW := hM.near.size
  have hx3 := Box3.new v2 (.int .i64 y0) (.slice ya yl yc) (.slice za zl zc) 26
  have hsz : (v2.alloc (.cells #[.int .i64 y0, .slice ya yl yc, .slice za zl zc] 26)).heap.size = v2.heap.size + 1 := by simp
  have hkk5 : KindIn (fun b => W.heap.size ≤ b ∧ b < (v2.alloc (.cells #[.int .i64 y0, .slice ya yl yc, .slice za zl zc] 26)).heap.size) (v2.alloc (.cells #[.int .i64 y0, .slice ya yl yc, .slice za zl zc] 26)) (n + 1) (⟨6, [], [k5]⟩ : Kd (K n)) (.int .i64 6) (.slice none 0 0) (.slice (some ⟨v2.heap.size, 0, none⟩) 1 1) :=
    oneD_in rfl ⟨hz5, by rw [hsz]; omega⟩ hx3.c0 hx3.c1 hx3.c2 (hk5.keep (fun b hb => Below.heap_alloc _ _ _ hb.2) (fun b hb => ⟨hb.1, by rw [hsz]; omega⟩))
  have hat' : (Value.slice ka ks.length kc).ownBlock = some g2 ∨ g2 = (v2.alloc (.cells #[.int .i64 y0, .slice ya yl yc, .slice za zl zc] 26)).heap.size + 1 := by rw [hsz]; exact hat
  obtain ⟨t, hkt, hdt⟩ : ∃ t : K (n + 1), KindIn (fun b => W.heap.size ≤ b ∧ b < (v2.alloc (.cells #[.int .i64 y0, .slice ya yl yc, .slice za zl zc] 26)).heap.size) (v2.alloc (.cells #[.int .i64 y0, .slice ya yl yc, .slice za zl zc] 26)) (n + 1) t (.int .i64 6) (.slice none 0 0) (.slice (some ⟨v2.heap.size, 0, none⟩) 1 1) ∧ depK (n + 1) t d := ⟨_, hkk5, (depK.one hdk5).mono h3⟩
  have hF := GrowK.kid (Wa := (v2.alloc (.cells #[.int .i64 y0, .slice ya yl yc, .slice za zl zc] 26)).alloc (.cells #[.int .i64 6, .slice none 0 0, .slice (some ⟨v2.heap.size, 0, none⟩) 1 1] 26)) (one := .cells #[.int .i64 6, .slice none 0 0, .slice (some ⟨v2.heap.size, 0, none⟩) 1 1] 26) hM hRX hXw hRw hnA hkt rfl ⟨rfl, rfl, rfl⟩ hx hkk hown hgrow hat'
  refine ⟨t, hF, Old.kid (Wa := (v2.alloc (.cells #[.int .i64 y0, .slice ya yl yc, .slice za zl zc] 26)).alloc (.cells #[.int .i64 6, .slice none 0 0, .slice (some ⟨v2.heap.size, 0, none⟩) 1 1] 26)) hO hXw hRw hnA (one := .cells #[.int .i64 6, .slice none 0 0, .slice (some ⟨v2.heap.size, 0, none⟩) 1 1] 26) rfl hgrow hat', ?_, fun x hx => ?_⟩
  · refine hD0.keep (hF.near.out hw0 hX0) ?_
    have hb : R < v2.heap.size := by omega
    rw [Below.heap_setCell _ _ _ _ (by show R ≠ X; exact hRX), blk_afterG (b := R) hx (by rw [hsz]; omega) hRw hgrow, Below.heap_alloc _ _ _ hb]
    exact hD5.box
  · rcases List.mem_append.1 hx with h | h
    · exact hd x h
    · rw [List.mem_singleton] at h; subst h; exact hdt

/-- The two ways out. -/
theorem wd_end {m d R L cap p p5 q X : Nat} {ao : Option Addr} {S : Nat → Prop} {w W3 u w5 : World} {so : Int} {ns : List ByteArray} {ks : List (K m)} {nv kv c1 c2 : Value} (h : Dr w R ao L cap p) (hW : WSit R X S w W3 (.int .i64 so) c1 c2) (hG : GrowK R X m W3 u so ns ks nv kv) (hn : Near R u w5) (hD5 : Dr w5 R ao L cap p5) (hp : p5 ≤ p + q)
    (hwf : (Lit.int .i64 so).wf = true) (hl : ns.length ≤ 1000) (hkl : ks.length ≤ 1000) (hdep : ∀ x, x ∈ ks → depK m x d) :
    (w5.heap[X]? = some (.cells #[.int .i64 so, nv, kv] 26 (0, 0)) ∧ w5.heap[w.heap.size + 1]? = some (.cells #[.int .i64 0, .slice none 0 0, .slice none 0 0] 26 (0, 0)) ∧ w.heap.size + 3 ≤ w5.heap.size) ∧
    DKPost (m + 2) (d + 2) w R ao L cap p q (.returned (.agg #[.int .i64 so, nv, kv])) (put3 w5 (w.heap.size + 1) 0 (.int .i64 so) nv kv) ∧
    DKPost (m + 2) (d + 2) w R ao L cap p q (.returned (.agg #[.int .i64 6, .slice none 0 0, .slice (some ⟨w5.heap.size, 0, none⟩) 1 1])) (put3 (w5.alloc (.cells #[.int .i64 so, nv, kv] 26)) (w.heap.size + 1) 0 (.int .i64 6) (.slice none 0 0) (.slice (some ⟨w5.heap.size, 0, none⟩) 1 1)) := by
  have hR := h.lt
  have hX := hW.x
  have hz := hW.size
  have hG5 := hG.keep (by omega) (by omega) hn
  have hz5 := hG5.near.size
  have hnw : Near R w w5 := hG5.near.out hW.near (by omega)
  have hk := hG5.kind (B := w.heap.size + 2) (W := w5) hwf (fun _ _ => rfl) (Nat.le_refl _) (by omega) (by omega) (by omega)
  have hd : depK (m + 1) (⟨so, ns, ks⟩ : Kd (K m)) (d + 1) := ⟨by omega, hl, hG5.short, hkl, fun x hx => by simpa using hdep x hx⟩
  refine ⟨⟨hG5.box, (hG5.near.block _ (by omega) (by omega) (by omega)).trans hW.zero, by omega⟩, ?_, ?_⟩
  · exact wd_exit h hnw hD5.box hp hk.up (hd.up.mono (by omega))
  · have hx3 := Box3.new w5 (.int .i64 so) nv kv 26
    refine wd_exit h (hnw.trans (Near.alloc _ _ _)) ((Below.heap_alloc _ _ _ (by omega)).trans hD5.box) hp (oneD_in (m := m + 1) (t := (⟨so, ns, ks⟩ : Kd (K m))) rfl ⟨by omega, by simp⟩ hx3.c0 hx3.c1 hx3.c2 ?_) hd.one
    exact hk.keep (fun b hb => Below.heap_alloc _ _ _ hb.2) (fun b hb => ⟨hb.1, by simp; omega⟩)

set_option maxRecDepth 20000 in
set_option maxHeartbeats 8000000 in
theorem wider_step (d : Nat) (hn : WiderSaid d) : WiderSaid (d + 1) := by
  intro n m R ao L cap p S k g c0 c1 c2 w hm hdk hg hc40 hk hS h hp
  obtain ⟨m, rfl⟩ : ∃ m', m = m' + 2 := ⟨m - 2, by omega⟩
  obtain ⟨n, rfl⟩ : ∃ n', n = n' + 1 := by cases n with
    | zero => exact hdk.elim
    | succ n => exact ⟨n, rfl⟩
  have hfew := kids_few hg hc40
  have hnk : Kd.sort k = 5 → (Kd.names k).length = (Kd.kids k).length := fun h5 => by
    rcases goodK_kids hg with ⟨h, -⟩ | ⟨h, -⟩ | ⟨-, h, -⟩
    · omega
    · omega
    · exact h
  have hcnt : cntK (n + 1) k = 1 + sumL (fun x => cntK n x) (Kd.kids k) := rfl
  obtain ⟨-, hnl, hns, hkl, hdks⟩ := hdk
  obtain ⟨rfl, hwf, h3, h4⟩ := hk
  obtain ⟨na, nc, rfl, -, -, hnc⟩ := id h3
  obtain ⟨ka, kc, rfl, -, hkc⟩ := id h4
  have hR := h.lt
  have HD0 : Hid (Dr w R ao L cap p) := h
  have HNr : Hid (∀ i (hi : i < (Kd.names k).length), ∃ b off, na = some ⟨b, off, none⟩ ∧ S b ∧ w.cell? ⟨b, off + i, none⟩ = some (.string (Kd.names k)[i])) := fun i hi => by
    obtain ⟨b, off, e, hb, hcell⟩ := hnc (fun e => by rw [e] at hi; simp at hi)
    exact ⟨b, off, e, hb, hcell i hi⟩
  have HKr : Hid (∀ i (hi : i < (Kd.kids k).length), ∃ b off c0 c1 c2, ka = some ⟨b, off, none⟩ ∧ S b ∧ w.cell? ⟨b, off + i * 3, none⟩ = some c0 ∧ w.cell? ⟨b, off + i * 3 + 1, none⟩ = some c1 ∧ w.cell? ⟨b, off + i * 3 + 2, none⟩ = some c2 ∧ KindIn S w n (Kd.kids k)[i] c0 c1 c2) := fun i hi => by
    obtain ⟨b, off, e, hb, hcell⟩ := hkc (fun e => by rw [e] at hi; simp at hi)
    obtain ⟨c0, c1, c2, q0, q1, q2, hkin⟩ := hcell i hi
    exact ⟨b, off, c0, c1, c2, e, hb, q0, q1, q2, hkin⟩
  have HDk : Hid (∀ x, x ∈ Kd.kids k → depK n x d ∧ goodK n x (g + 1) = true ∧ cntK n x ≤ 40) := fun x hx => ⟨by simpa using hdks x hx, hfew.2 x hx⟩
  have HNs := hidF hns
  have HN : Hid (WiderSaid d) := hn
  have HSS := hidF hS
  have HWf := hidF hwf
  have HSum : Hid (∀ i, sumL (fun x => cntK n x) ((Kd.kids k).take i) ≤ sumL (fun x => cntK n x) (Kd.kids k)) := fun i => by
    have := sumL_append (fun x => cntK n x) ((Kd.kids k).take i) ((Kd.kids k).drop i)
    rw [List.take_append_drop] at this; omega
  have HStep : Hid (∀ i (hi : i < (Kd.kids k).length), sumL (fun x => cntK n x) ((Kd.kids k).take (i + 1)) = sumL (fun x => cntK n x) ((Kd.kids k).take i) + cntK n (Kd.kids k)[i]) := fun i hi => sumL_take_succ _ _ i hi
  generalize hs : Kd.sort k = so at *
  obtain ⟨kl, hkl0⟩ : ∃ kl, (Kd.kids k).length = kl := ⟨_, rfl⟩
  obtain ⟨nl, hnl0⟩ : ∃ nl, (Kd.names k).length = nl := ⟨_, rfl⟩
  rw [hkl0] at hkl hnk
  rw [hnl0] at hnl hnk
  rw [hkl0, hnl0]
  clear h3 h4
  obtain ⟨W3, hW3⟩ : ∃ W3, W3 = ((w.alloc (.cells #[.int .i64 so, .slice na nl nc, .slice ka kl kc] 26)).alloc (.cells #[.int .i64 0, .slice none 0 0, .slice none 0 0] 26)).alloc (.cells #[.int .i64 so, .slice none 0 0, .slice none 0 0] 26) := ⟨_, rfl⟩
  have hz3 : W3.heap.size = w.heap.size + 3 := by rw [hW3]; simp
  have hb3 : Below w.heap.size w W3 := by rw [hW3]; exact (((Below.refl _ _).alloc (Nat.le_refl _) _).alloc (by simp) _).alloc (by simp; omega) _
  obtain ⟨X, hX⟩ : ∃ X, X = w.heap.size + 1 + 1 := ⟨_, rfl⟩
  have HW : Hid (WSit R X S w W3 (.int .i64 so) (.slice na nl nc) (.slice ka kl kc)) := by
    refine ⟨Near.of_below hb3, ?_, ?_, ?_, fun b hb => hb3.block b (hS b hb).1, hX, hz3⟩
    · rw [hW3, Below.heap_alloc _ _ _ (by simp; omega), Below.heap_alloc _ _ _ (by simp)]; exact heap_alloc_new _ _
    · rw [hW3, Below.heap_alloc _ _ _ (by simp)]
      have := heap_alloc_new (w.alloc (.cells #[.int .i64 so, .slice na nl nc, .slice ka kl kc] 26)) (.cells #[.int .i64 0, .slice none 0 0, .slice none 0 0] 26)
      simpa using this
    · have := heap_alloc_new ((w.alloc (.cells #[.int .i64 so, .slice na nl nc, .slice ka kl kc] 26)).alloc (.cells #[.int .i64 0, .slice none 0 0, .slice none 0 0] 26)) (.cells #[.int .i64 so, .slice none 0 0, .slice none 0 0] 26)
      rw [hX, hW3]; simpa using this
  have hD3 : Dr W3 R ao L cap p := h.same hb3
  have HDr3 : Hid (Dr W3 R ao L cap p) := hD3
  have hmd : 2 * d + 3 ≤ m := by omega
  clear h hns hdks hn hb3 hfew hnc hkc hwf hD3 hg hc40 hS
  generalize hsum : sumL (fun x => cntK n x) (Kd.kids k) = sm at *
  rw [hcnt] at hp ⊢
  clear hcnt
  have x2w : W3.cell? ⟨w.heap.size, 2, none⟩ = some (.slice ka kl kc) := zeroD_W HW.out.kbox 2 _ rfl
  have x0w : W3.cell? ⟨w.heap.size, 0, none⟩ = some (.int .i64 so) := zeroD_W HW.out.kbox 0 _ rfl
  go_enter Tryz.func14, Tryz.ntmps14
  go_wp2_with fail
  rw [← hW3, ← hX]
  clear hW3 hX
  go_loopw [6] (fun iv wr => ∃ (i p' : Nat) (ks : List (K m)) (a : Option Addr) (c : Nat), i ≤ kl ∧ iv = .int .i64 i ∧ ks.length = i ∧ GrowK R X m W3 wr so [] ks (.slice none 0 0) (.slice a i c) ∧ Dr wr R ao L cap p' ∧ p' ≤ p + 700 * sumL (fun x => cntK n x) ((Kd.kids k).take i) ∧ ∀ x, x ∈ ks → depK m x (2 * d + 3)) (fun iv _ => kl - (intOf iv).toNat)
  case atStart => exact ⟨0, p, [], none, 0, by omega, rfl, rfl, GrowK.start HW.out.out, HDr3.out, by omega, fun x hx => by cases hx⟩
  case round =>
    obtain ⟨i, p', ks, a, c, hi, rfl, hksl, hG, hD, hp', hdep⟩ := hrel
    have hzr := hG.near.size
    have hXr := hG.lt
    have hw3 := HW.out.size
    have hXge : w.heap.size + 2 ≤ X := Nat.le_of_eq HW.out.x.symm
    have hXle : X ≤ w.heap.size + 2 := Nat.le_of_eq HW.out.x
    have HG := hidF hG
    have HDr : Hid (Dr wr R ao L cap p') := hD
    have HDep := hidF hdep
    have HKL : Hid (ks.length = i) := hksl
    have HBlk : Hid (∀ b, b < W3.heap.size → b ≠ R → b ≠ X → wr.heap[b]? = W3.heap[b]?) := hG.near.block
    have y2 : wr.cell? ⟨w.heap.size, 2, none⟩ = some (.slice ka kl kc) := zeroD_W ((HBlk.out _ (by omega) (by omega) (by omega)).trans HW.out.kbox) 2 _ rfl
    have hsml := HSum.out i
    clear hG hD hdep hksl
    by_cases hlt : i < kl
    case pos =>
      have hlti : (i : Int) < (kl : Int) := by omega
      have hik : i < (Kd.kids k).length := by omega
      obtain ⟨kb, koff, e0, e1, e2, hka, hSb, f0, f1, f2, hkin⟩ := HKr.out i hik
      have hSb' := HSS.out kb hSb
      have hsame : ∀ b, S b → wr.heap[b]? = w.heap[b]? := fun b hb => by
        have := HSS.out b hb
        exact (HBlk.out b (by omega) this.2 (by omega)).trans (HW.out.same b hb)
      have q0 := (World.cell?_of_block (a := ⟨kb, koff + i * 3, none⟩) (hsame kb hSb)).trans f0
      have q1 := (World.cell?_of_block (a := ⟨kb, koff + i * 3 + 1, none⟩) (hsame kb hSb)).trans f1
      have q2 := (World.cell?_of_block (a := ⟨kb, koff + i * 3 + 2, none⟩) (hsame kb hSb)).trans f2
      obtain ⟨u0, ua, ul, uc, ta, tl, tc, rfl, rfl, rfl⟩ := hkin.shape
      have hstep := HStep.out i hik
      have hsml2 := HSum.out (i + 1)
      obtain ⟨hdi, hgi, hci⟩ := HDk.out _ (List.getElem_mem hik)
      have HC : Hid (Calls Tryz.prog 14 #[.pointer (some ⟨R, 0, none⟩), .agg #[.int .i64 u0, .slice ua ul uc, .slice ta tl tc]] wr.drew (DKPost m (2 * d + 3) wr.drew R ao L cap p' (700 * cntK n (Kd.kids k)[i]))) :=
        HN.out n m R ao L cap p' S _ (g + 1) _ _ _ wr.drew hmd hdi hgi hci (KindIn.keep (w' := wr.drew) hsame (fun _ h => h) hkin) (fun b hb => by have := HSS.out b hb; exact ⟨by show b < wr.heap.size; omega, this.2⟩) (HDr.out.drewN 1) (by omega)
      obtain ⟨xs, hxs, hkk⟩ := HG.out.kids
      have HKK := hidF hkk
      have HX : Hid (wr.ownsRow W3.heap.size 26 3 (.slice a i c) i xs) := by
        rw [HKL.out] at hxs; exact hxs
      have x2 : wr.cell? ⟨X, 2, none⟩ = some (.slice a i c) := zeroD_W HG.out.box 2 _ rfl
      obtain ⟨ik0, hi0, hy0, hy1, hyb⟩ := info_parts Tryz.info_kindD
      have HIK : Hid (_ ∧ _ ∧ _ ∧ _) := ⟨hi0, hy0, hy1, hyb⟩
      generalize hck : cntK n (Kd.kids k)[i] = ck at *
      clear hi0 hy0 hy1 hyb hxs hkk hsame f0 f1 f2 hkin hdi hgi hci hck
      subst hka
      go_wp2_with fail
      go_region_law (first
          | (refine step_append_lies _ (by rfl) (.tmp 22) (.tmp 30) 24 (by rfl) W3.heap.size 26 ik0 _ 3 56 Tryz.underlying24 HIK.out.1 HIK.out.2.1 HIK.out.2.2.1 HIK.out.2.2.2 rfl (by decide) (.slice a i c) i xs (by rfl) (hox _) ⟨v2.heap.size, 0, none⟩ 1 1 [.int .i64 y0, .slice ya yl yc, .slice za zl zc] (by rfl) rfl (World.news_of_block (heap_alloc_new v2 _)) (by simp [Value.oneCell']) (by decide) (by unfold maxLen; omega) (by omega) (by simp; omega) (v2.heap.size + 1) (by simp) ?_; intro g2 cap2 v3 hown2 hgrow2 hat2 hlt2; have hb6 := (((hgrow2.block X (by simp; omega) (fun e => by have := r1_lt HX.out _ e.symm; omega)).trans (Below.heap_alloc _ _ _ (by omega))).trans (hn5.block X (by simpa using hXr) (by omega))).trans HG.out.box; have x2'' : v3.cell? ⟨X, 2, none⟩ = some (.slice a i c) := (by simp [World.cell?, hb6]); have xg'' : v3.frozen? ⟨X, 2, none⟩ = false := (by simp [World.frozen?, hb6]))
          | (go_simp; go_at_call 14; refine HC.out.mono ?_; rintro e v2 ⟨hn5, p5, k5, c0', c1', c2', hp5, hD5, rfl, hk5, hdk5⟩; obtain ⟨y0, ya, yl, yc, za, zl, zc, rfl, rfl, rfl⟩ := hk5.shape; have hsz2 : wr.heap.size ≤ v2.heap.size := hn5.size; have hox := fun o => owns_onG (R := R) (M := W3.heap.size) (W := wr.drew) HX.out.drew (by omega) hn5 o; have x2' : v2.cell? ⟨X, 2, none⟩ = some (.slice a i c) := (World.cell?_of_block (hn5.block X (by simpa using hXr) (by omega))).trans x2; have x2a : (v2.alloc (.cells #[.int .i64 y0, .slice ya yl yc, .slice za zl zc] 26)).cell? ⟨X, 2, none⟩ = some (.slice a i c) := (World.cell?_of_block (Below.heap_alloc _ _ _ (by show X < _; omega))).trans x2'))
      all_goals
        have hF := GrowK.kid (W := wr.drew) (W1 := v2) (Wa := v2.alloc (.cells #[.int .i64 y0, .slice ya yl yc, .slice za zl zc] 26)) (one := .cells #[.int .i64 y0, .slice ya yl yc, .slice za zl zc] 26) (g := g2) (cap := cap2) (xs := xs)
            (HG.out.keep (by omega) (by omega) ((Near.refl R wr).drew)) (by omega) (by omega) (by omega) hn5 hk5 rfl ⟨rfl, rfl, rfl⟩ (by rw [HKL.out]; exact HX.out.drew)
            (fun q hq => by obtain ⟨a0, a1, a2, hd, hdt⟩ := HKK.out q hq; exact ⟨a0, a1, a2, hd, KindIn.keep (w := wr) (w' := wr.drew) (fun _ _ => rfl) (fun _ h => h) hdt⟩) (by rw [HKL.out]; exact hown2) hgrow2 hat2
        rw [HKL.out] at hF
        have HF := hidF hF
        have HDn : Hid (Dr (v3.setCell ⟨X, 2, none⟩ (.slice (some ⟨g2, 0, none⟩) (i + 1) cap2)) R ao L cap p5) := by
            refine HD0.out.keep (hF.near.out HW.out.near (by omega)) ?_
            rw [Below.heap_setCell _ _ _ _ (by show R ≠ X; omega), blk_afterG (b := R) (W := wr.drew) (w2 := v2) (o := .cells #[.int .i64 y0, .slice ya yl yc, .slice za zl zc] 26) HX.out.drew (by omega) (by omega) hgrow2]
            exact hD5.box
        have HDep5 : Hid (∀ x, x ∈ ks ++ [k5] → depK m x (2 * d + 3)) := fun x hx => by
            rcases List.mem_append.1 hx with h | h
            · exact HDep.out x h
            · rw [List.mem_singleton] at h; subst h; exact hdk5
        clear hF hown2 hgrow2 hat2 hlt2 hk5 hdk5 hD5 hn5 hox x2' x2a x2'' xg'' hb6
        go_wp2_with fail
        go_roundw
        case rel => exact ⟨i + 1, p5, ks ++ [k5], some ⟨g2, 0, none⟩, cap2, by omega, by go_num, by simp [HKL.out], HF.out, HDn.out, by omega, HDep5.out⟩
        case measure => simp [intOf]; omega
    have hge : ¬ (i : Int) < (kl : Int) := by omega
    obtain rfl : i = kl := by omega
    have HNm : Hid (Calls Tryz.prog 27 #[] wr _) := l5Names_any wr
    have y0 : wr.cell? ⟨w.heap.size, 0, none⟩ = some (.int .i64 so) := zeroD_W ((HBlk.out _ (by omega) (by omega) (by omega)).trans HW.out.kbox) 0 _ rfl
    clear hi hlt
    go_wp2_with fail
    refine HNm.out.mono ?_
    rintro e w4 ⟨rfl, hz4, hb4, hnms⟩
    have hz4a : w4.heap.size ≤ wr.heap.size + 1 := Nat.le_of_eq hz4
    have hz4b : wr.heap.size + 1 ≤ w4.heap.size := Nat.le_of_eq hz4.symm
    clear hz4
    have HG4 : Hid (GrowK R X m W3 w4 so [] ks (.slice none 0 0) (.slice a i c)) := HG.out.keep (by omega) (by omega) (Near.of_below hb4)
    have HD4 : Hid (Dr w4 R ao L cap p') := HDr.out.same hb4
    have HB4 : Hid (Below wr.heap.size wr w4) := hb4
    have HNms := hidF hnms
    have z0 := (hb4.cell (p := ⟨w.heap.size, 0, none⟩) (by show w.heap.size < _; omega)).trans y0
    clear y0 y2 hnms hb4 HNm HG HDr HBlk
    by_cases h5 : so = 5
    case neg =>
      have h5b : (so == 5) = false := by simp [h5]
      have HPk : Hid (Calls Tryz.prog 13 #[.pointer (some ⟨R, 0, none⟩), .int .i64 6] w4 (PickPost w4 R ao L cap p' 6)) := pick_any w4 R ao L cap p' 6 HD4.out (by omega) (by omega) (by omega)
      go_wp2_with fail
      refine HPk.out.mono ?_
      rintro e U ⟨y, rfl, hy, hn6, hD6, -⟩
      have HE := wd_end (d := 2 * d + 3) (q := 700 * (1 + sm)) HD0.out HW.out HG4.out hn6 hD6 (by omega) HWf.out (by simp) (by rw [HKL.out]; omega) HDep.out
      have HE' : Hid _ := HE.2
      have hzU := HE.1.2.2
      have hzr1 := HE.1.2.1
      have hzr2 := (Below.heap_alloc U (.cells #[.int .i64 so, .slice none 0 0, .slice a i c] 26) (w.heap.size + 1) (by omega)).trans hzr1
      have t0 := zeroD_W HE.1.1 0 _ rfl
      have t1 := zeroD_W HE.1.1 1 _ rfl
      have t2 := zeroD_W HE.1.1 2 _ rfl
      clear HE HPk hn6 hD6 HG4 HD4 HDep HNms z0 HB4 h5 h5b
      by_cases hy0 : y = 0
      · subst hy0
        obtain ⟨⟨r0, r1, r2⟩, g0, g1, g2⟩ := zeroD_cells hzr2
        clear hzr1 hzr2
        go_wp2_with fail
        refine bodyPost_ret (v := .agg #[.int .i64 6, .slice none 0 0, .slice (some ⟨U.heap.size, 0, none⟩) 1 1]) (by simp [results, Tryz.results14, go_sem, r0, r1, r2]) rfl ?_
        exact HE'.out.2
      · have hyb : ((y : Int) == 0) = false := by simp; omega
        obtain ⟨⟨r0, r1, r2⟩, g0, g1, g2⟩ := zeroD_cells hzr1
        clear hy0 hzr1 hzr2
        go_wp2_with fail
        refine bodyPost_ret (v := .agg #[.int .i64 so, .slice none 0 0, .slice a i c]) (by simp [results, Tryz.results14, go_sem, r0, r1, r2]) rfl ?_
        exact HE'.out.1
    case pos =>
      subst h5
      obtain rfl : i = nl := (hnk rfl).symm
      have x2 : w4.cell? ⟨X, 2, none⟩ = some (.slice a i c) := zeroD_W HG4.out.box 2 _ rfl
      have xf : w4.frozen? ⟨X, 2, none⟩ = false := by simp [World.frozen?, HG4.out.box]
      have hX4 := HG4.out.lt
      have x2' : (w4.alloc (.cells #[] 26)).cell? ⟨X, 2, none⟩ = some (.slice a i c) := (World.cell?_of_block (Below.heap_alloc _ _ _ hX4)).trans x2
      have xf' : (w4.alloc (.cells #[] 26)).frozen? ⟨X, 2, none⟩ = false := (World.frozen?_of_block (Below.heap_alloc _ _ _ hX4)).trans xf
      obtain ⟨W5, hW5⟩ : ∃ W5, W5 = (w4.setCell ⟨X, 2, none⟩ (.slice (some ⟨w4.heap.size, 0, none⟩) 0 0)).alloc (.cells #[] 26) := ⟨_, rfl⟩
      have hz5 : W5.heap.size = w4.heap.size + 1 := by rw [hW5]; simp
      have hblk5 : ∀ b, b < w4.heap.size → b ≠ X → W5.heap[b]? = w4.heap[b]? := fun b hb hne => by
        rw [hW5, Below.heap_alloc _ _ _ (by simpa using hb), Below.heap_setCell _ _ _ _ hne]
      have hown : ∀ b, (Value.slice (some ⟨w4.heap.size, 0, none⟩) 0 0).ownBlock = some b → w4.heap.size = b := fun b hb => by simpa [Value.ownBlock] using hb
      have HOld : Hid (Old W3.heap.size w4 W5 (.slice none 0 0) (.slice (some ⟨w4.heap.size, 0, none⟩) 0 0)) :=
        ⟨fun b (hb : none = some b) => (by cases hb), fun b hb => Nat.le_of_eq (hown b hb), by omega, fun b h1 h2 => hblk5 b h2 (by omega)⟩
      have HG5 : Hid (GrowK R X m W3 W5 5 [] [] (.slice none 0 0) (.slice (some ⟨w4.heap.size, 0, none⟩) 0 0)) := by
        refine ⟨⟨?_, ?_, ?_, by have := HG4.out.near.size; omega, fun b hb h1 h2 => (hblk5 b (by have := HG4.out.near.size; omega) h2).trans (HG4.out.near.block b hb h1 h2)⟩, ?_, World.ownsRow_nil _ _ _ _, fun _ h => (by cases h), ⟨[], ?_, fun j h => absurd h (Nat.not_lt_zero _)⟩, fun b (hb : none = some b) => by cases hb⟩
        · rw [hW5]; exact HG4.out.near.os
        · rw [hW5]; exact HG4.out.near.tape
        · rw [hW5]; exact HG4.out.near.output
        · rw [hW5, Below.heap_alloc _ _ _ (by simpa using hX4)]
          simp [World.setCell, Array.getElem?_modify, HG4.out.box]
        · rw [hW5]
          have := World.ownsRow_made (base := W3.heap.size) (e := 26) (size := 3) (w4.setCell ⟨X, 2, none⟩ (.slice (some ⟨w4.heap.size, 0, none⟩) 0 0)) #[] 0 (by have := HG4.out.near.size; simp; omega) (by simp) rfl
          simpa using this
      have HD5 : Hid (Dr W5 R ao L cap p') := HD0.out.keep (HG5.out.near.out HW.out.near (by omega)) ((hblk5 R (by have := HG4.out.near.size; omega) (by omega)).trans HD4.out.box)
      have HRow : Hid (∀ j (hj : j < i), ∃ g1 c0 c1 c2 x, a = some ⟨g1, 0, none⟩ ∧ W3.heap.size ≤ g1 ∧ g1 < w4.heap.size ∧ w4.cell? ⟨g1, j * 3, none⟩ = some c0 ∧ w4.cell? ⟨g1, j * 3 + 1, none⟩ = some c1 ∧ w4.cell? ⟨g1, j * 3 + 2, none⟩ = some c2 ∧ KindIn (fun b => W3.heap.size ≤ b ∧ b < w4.heap.size) w4 m x c0 c1 c2 ∧ depK m x (2 * d + 3)) := fun j hj => by
        obtain ⟨xs, hxs, hkk⟩ := HG4.out.kids
        have hjk : j < ks.length := by rw [HKL.out]; exact hj
        obtain ⟨c0, c1, c2, ⟨e0, e1, e2⟩, hkin⟩ := hkk j hjk
        rcases hxs.2 with ⟨-, h0⟩ | ⟨g1, cap1, cur, hv, hb1, -⟩
        · omega
        · cases hv
          have hl := r1_lt hxs g1 rfl
          have hc : ∀ q x, xs[q]? = some x → w4.cell? ⟨g1, q, none⟩ = some x := fun q x hx => by
            have := hxs.cells (g := g1) rfl q x hx
            rw [Addr.add_lit] at this
            simpa using this
          exact ⟨g1, c0, c1, c2, ks[j], rfl, hl.1, hl.2, hc _ _ e0, hc _ _ e1, hc _ _ e2, hkin.keep (fun _ _ => rfl) (fun b hb => ⟨hb.1, hb.2.1⟩), HDep.out _ (List.getElem_mem hjk)⟩
      have HK4 : Hid (∀ b, b < W3.heap.size → b ≠ R → b ≠ X → w4.heap[b]? = W3.heap[b]?) := HG4.out.near.block
      have hs4 := HG4.out.near.size
      clear hblk5 hown HG4 HD4 HDep HKL hge
      go_wp2_with fail
      rw [← hW5]
      clear hW5 x2 xf x2' xf' z0
      have HNms : Hid (∀ j, j < 8 → ∃ s : ByteArray, s.size ≤ 100 ∧ w4.cell? ⟨wr.heap.size, j, none⟩ = some (.string s)) := HNms.out
      generalize hN0 : wr.heap.size = N0 at *
      clear hN0 HB4
      go_loopw [9, 10] (fun jv iv wr => ∃ (i2 j ln p2 : Nat) (ns : List ByteArray) (ks : List (K m)) (na2 : Option Addr) (nc2 : Nat) (ka2 : Option Addr) (kc2 : Nat), i2 ≤ 8 ∧ iv = .int .i64 i2 ∧ j ≤ i ∧ jv = .int .i64 j ∧ ln ≤ i2 ∧ ns.length = ln ∧ ks.length = ln ∧ GrowK R X m W3 wr 5 ns ks (.slice na2 ln nc2) (.slice ka2 ln kc2) ∧ Old W3.heap.size w4 wr (.slice na2 ln nc2) (.slice ka2 ln kc2) ∧ Dr wr R ao L cap p2 ∧ p2 ≤ p' + i2 * 82 ∧ ∀ x, x ∈ ks → depK m x (2 * d + 3)) (fun _ iv _ => 8 - (intOf iv).toNat)
      case atStart => exact ⟨0, 0, 0, p', [], [], none, 0, some ⟨w4.heap.size, 0, none⟩, 0, by omega, rfl, by omega, rfl, by omega, rfl, rfl, HG5.out, HOld.out, HD5.out, by omega, fun x hx => by cases hx⟩
      case round =>
        obtain ⟨i2, j, ln, p2, ns, ks2, na2, nc2, ka2, kc2, hi8, rfl, hj, rfl, hln, hnl2, hkl2, hG, hO, hD, hp2, hdep⟩ := hrel
        have HL : Hid (ns.length = ln ∧ ks2.length = ln) := ⟨hnl2, hkl2⟩
        have HG := hidF hG
        have HO := hidF hO
        have HDr : Hid (Dr wr R ao L cap p2) := hD
        have HDep := hidF hdep
        have hzr := hG.near.size
        have hzo := hO.size
        have hXr := hG.lt
        clear hG hO hD hdep hnl2 hkl2 HG5 HOld HD5
        by_cases h8 : i2 < 8
        case neg =>
          have h8i : ¬ (i2 : Int) < 8 := by omega
          have HPk : Hid (Calls Tryz.prog 13 #[.pointer (some ⟨R, 0, none⟩), .int .i64 6] wr (PickPost wr R ao L cap p2 6)) := pick_any wr R ao L cap p2 6 HDr.out (by omega) (by omega) (by omega)
          go_wp2_with fail
          refine HPk.out.mono ?_
          rintro e U ⟨y, rfl, hy, hn6, hD6, -⟩
          have HE := wd_end (d := 2 * d + 3) (q := 700 * (1 + sm)) HD0.out HW.out HG.out hn6 hD6 (by omega) HWf.out (by rw [HL.out.1]; omega) (by rw [HL.out.2]; omega) HDep.out
          have HE' : Hid _ := HE.2
          have hzU := HE.1.2.2
          have hzr1 := HE.1.2.1
          have hzr2 := (Below.heap_alloc U (.cells #[.int .i64 5, .slice na2 ln nc2, .slice ka2 ln kc2] 26) (w.heap.size + 1) (by omega)).trans hzr1
          have t0 := zeroD_W HE.1.1 0 _ rfl
          have t1 := zeroD_W HE.1.1 1 _ rfl
          have t2 := zeroD_W HE.1.1 2 _ rfl
          clear HE HPk hn6 hD6 HG HO HDr HDep HRow HNms
          by_cases hy0 : y = 0
          · subst hy0
            obtain ⟨⟨r0, r1, r2⟩, g0, g1, g2⟩ := zeroD_cells hzr2
            clear hzr1 hzr2
            go_wp2_with fail
            refine bodyPost_ret (v := .agg #[.int .i64 6, .slice none 0 0, .slice (some ⟨U.heap.size, 0, none⟩) 1 1]) (by simp [results, Tryz.results14, go_sem, r0, r1, r2]) rfl ?_
            exact HE'.out.2
          · have hyb : ((y : Int) == 0) = false := by simp; omega
            obtain ⟨⟨r0, r1, r2⟩, g0, g1, g2⟩ := zeroD_cells hzr1
            clear hy0 hzr1 hzr2
            go_wp2_with fail
            refine bodyPost_ret (v := .agg #[.int .i64 5, .slice na2 ln nc2, .slice ka2 ln kc2]) (by simp [results, Tryz.results14, go_sem, r0, r1, r2]) rfl ?_
            exact HE'.out.1
        have h8i : (i2 : Int) < 8 := by omega
        obtain ⟨nm, hnm, hcn⟩ := HNms.out i2 h8
        have hcn' : wr.cell? ⟨N0, i2, none⟩ = some (.string nm) := (World.cell?_of_block (a := ⟨N0, i2, none⟩) (HO.out.block N0 (by omega) (by omega))).trans hcn
        have hkb : wr.heap[w.heap.size]? = some (.cells #[.int .i64 5, .slice na i nc, .slice ka i kc] 26 (0, 0)) := (HG.out.near.block _ (by omega) (by omega) (by omega)).trans HW.out.kbox
        have y1 : wr.cell? ⟨w.heap.size, 1, none⟩ = some (.slice na i nc) := zeroD_W hkb 1 _ rfl
        have x1 : wr.cell? ⟨X, 1, none⟩ = some (.slice na2 ln nc2) := zeroD_W HG.out.box 1 _ rfl
        clear hkb
        have HCn := hidF hcn
        clear hcn
        by_cases hA : ∃ h : j < i, (Kd.names k)[j]'(by omega) = nm
        case pos =>
          obtain ⟨hji, hnmj⟩ := hA
          have hjd : (j : Int) < (i : Int) := by omega
          obtain ⟨nb, noff, hna, hSn, f1⟩ := HNr.out j (by omega)
          have hSn' := HSS.out nb hSn
          have q1 : wr.cell? ⟨nb, noff + j, none⟩ = some (.string nm) := ((World.cell?_of_block (a := ⟨nb, noff + j, none⟩) ((HG.out.near.block nb (by omega) hSn'.2 (by omega)).trans (HW.out.same nb hSn))).trans f1).trans (by rw [hnmj])
          have heq : (nm.toList == nm.toList) = true := by simp
          clear f1 hnmj
          subst hna
          go_upto_region 14 with fail
          go_quiet (fail)
          go_upto_region 15 with fail
          obtain ⟨U, hU⟩ : ∃ U, U = wr.drewN nq := ⟨_, rfl⟩
          have HGU : Hid (GrowK R X m W3 U 5 ns ks2 (.slice na2 ln nc2) (.slice ka2 ln kc2)) := by rw [hU]; exact HG.out.keep (by omega) (by omega) ((Near.refl R wr).drewN nq)
          have HOU : Hid (Old W3.heap.size w4 U (.slice na2 ln nc2) (.slice ka2 ln kc2)) := by rw [hU]; exact HO.out.near (R := R) (by omega) ((Near.refl R wr).drewN nq)
          have HDU : Hid (Dr U R ao L cap p2) := by rw [hU]; exact HDr.out.drewN nq
          rw [← hU]
          clear hU q1 heq x1 y1 hcn' HG HO HDr
          · have hzU := HGU.out.near.size
            have hXU := HGU.out.lt
            have hoU := HOU.out.size
            have x1 : U.cell? ⟨X, 1, none⟩ = some (.slice na2 ln nc2) := zeroD_W HGU.out.box 1 _ rfl
            have hcnU : U.cell? ⟨N0, i2, none⟩ = some (.string nm) := (World.cell?_of_block (a := ⟨N0, i2, none⟩) (HOU.out.block N0 (by omega) (by omega))).trans HCn.out
            have HO4 : Hid (U.ownsRow W3.heap.size 9 1 (.slice na2 ln nc2) ln (ns.map .string)) := by
              have := HGU.out.names
              rw [HL.out.1] at this; exact this
            have hoxN : ∀ o, (U.drew.alloc o).ownsRow W3.heap.size 9 1 (.slice na2 ln nc2) ln (ns.map .string) := fun o => HO4.out.drew.alloc o
            obtain ⟨is0, hi0, hy0, hy1, hyb⟩ := info_parts Tryz.info_strD
            have HIS : Hid (_ ∧ _ ∧ _ ∧ _) := ⟨hi0, hy0, hy1, hyb⟩
            clear hi0 hy0 hy1 hyb
            go_cut [9, 10] from 41 to 104 (fun jv iv wx => jv = .int .i64 j ∧ iv = .int .i64 i2 ∧ ∃ g cap', GrowK R X m W3 wx 5 (ns ++ [nm]) ks2 (.slice (some ⟨g, 0, none⟩) (ln + 1) cap') (.slice ka2 ln kc2) ∧ Old W3.heap.size w4 wx (.slice (some ⟨g, 0, none⟩) (ln + 1) cap') (.slice ka2 ln kc2) ∧ Dr wx R ao L cap p2)
            case first =>
              go_region_law (first
                | (refine step_append_lies _ (by rfl) (.tmp 65) (.tmp 70) 23 (by rfl) W3.heap.size 9 is0 _ 1 16 Tryz.underlying23 HIS.out.1 HIS.out.2.1 HIS.out.2.2.1 HIS.out.2.2.2 rfl (by decide) (.slice na2 ln nc2) ln (ns.map .string) (by rfl) (hoxN _) ⟨U.heap.size, 0, none⟩ 1 1 [.string nm] (by rfl) rfl (World.news_of_block (heap_alloc_new U.drew _)) (by simp [Value.oneCell']) (by decide) (by unfold maxLen; omega) (by omega) (by simp; omega) (U.heap.size + 1) (by simp) ?_; intro g cap' w5 hown hgrow hat hlt5; have hb5 := ((hgrow.block X (by simp; omega) (fun e => by have := r1_lt HO4.out _ e.symm; omega)).trans (Below.heap_alloc _ _ _ (by simpa using hXU))).trans HGU.out.box; have x1'' : w5.cell? ⟨X, 1, none⟩ = some (.slice na2 ln nc2) := (by simp [World.cell?, hb5]); have xf'' : w5.frozen? ⟨X, 1, none⟩ = false := (by simp [World.frozen?, hb5])))
              all_goals
                have hM := GrowK.name (W := U.drew) (Wa := U.drew.alloc (.cells #[.string nm] 9)) (one := .cells #[.string nm] 9) (x := nm) (g := g) (cap := cap') (HGU.out.keep (by omega) (by omega) ((Near.refl R U).drew)) (by omega) rfl ⟨rfl, rfl, rfl⟩ (by omega) (by rw [HL.out.1]; exact hown) hgrow hat
                have hO5 := Old.name (W := U.drew) (X := X) (ln := ln + 1) (cap := cap') (HOU.out.near (R := R) (by omega) ((Near.refl R U).drew)) (by omega) (one := .cells #[.string nm] 9) rfl hgrow hat
                rw [HL.out.1] at hM
                have HM := hidF hM
                have HO5 := hidF hO5
                have HDn : Hid (Dr (w5.setCell ⟨X, 1, none⟩ (.slice (some ⟨g, 0, none⟩) (ln + 1) cap')) R ao L cap p2) := by
                  refine HD0.out.keep (hM.near.out HW.out.near (by omega)) ?_
                  rw [Below.heap_setCell _ _ _ _ (by show R ≠ X; omega), blk_afterG (b := R) (W := U.drew) (w2 := U.drew) (o := .cells #[.string nm] 9) HO4.out.drew (by simp; omega) (by omega) hgrow]
                  exact HDU.out.box
                clear hM hO5 hown hgrow hat hlt5 hb5 x1'' xf'' x1 hcnU
                go_wp2_with fail
                go_meet
                exact ⟨rfl, rfl, _, _, HM.out, HO5.out, HDn.out⟩
            case rest =>
              obtain ⟨rfl, rfl, g, cap', hM, hO5, hDc⟩ := hcut
              have hXc := hM.lt
              have hzc := hM.near.size
              have hoc := hO5.size
              have x2 : wc.cell? ⟨X, 2, none⟩ = some (.slice ka2 ln kc2) := zeroD_W hM.box 2 _ rfl
              obtain ⟨xs, hxs, hkk⟩ := hM.kids
              have HKK := hidF hkk
              have HX : Hid (wc.ownsRow W3.heap.size 26 3 (.slice ka2 ln kc2) ln xs) := by
                rw [HL.out.2] at hxs; exact hxs
              have HM := hidF hM
              have HO5 := hidF hO5
              have HDc : Hid (Dr wc R ao L cap p2) := hDc
              obtain ⟨g1, b0, b1, b2, xk, ha, hg1, hg2, e0, e1, e2, hxk, hdx⟩ := HRow.out j hji
              obtain ⟨y0, ya, yl, yc, za, zl, zc, rfl, rfl, rfl⟩ := hxk.shape
              have hbl := hO5.block g1 hg1 hg2
              have q0 : wc.cell? ⟨g1, j * 3, none⟩ = some (.int .i64 y0) := (World.cell?_of_block (a := ⟨g1, j * 3, none⟩) hbl).trans e0
              have q1 : wc.cell? ⟨g1, j * 3 + 1, none⟩ = some (.slice ya yl yc) := (World.cell?_of_block (a := ⟨g1, j * 3 + 1, none⟩) hbl).trans e1
              have q2 : wc.cell? ⟨g1, j * 3 + 2, none⟩ = some (.slice za zl zc) := (World.cell?_of_block (a := ⟨g1, j * 3 + 2, none⟩) hbl).trans e2
              have HKin : Hid (KindIn (Fr W3.heap.size (.slice (some ⟨g, 0, none⟩) (ln + 1) cap') (.slice ka2 ln kc2) wc.heap.size) wc.drew m xk (.int .i64 y0) (.slice ya yl yc) (.slice za zl zc)) :=
                KindIn.keep (w := w4) (w' := wc.drew) (fun b hb => hO5.block b hb.1 hb.2) (fun b hb => ⟨hb.1, by omega, fun e => by have := hO5.lo1 b e; omega, fun e => by have := hO5.lo2 b e; omega⟩) hxk
              have HDx : Hid (depK m xk (2 * d + 3)) := hdx
              have hox : ∀ o, (wc.drew.alloc o).ownsRow W3.heap.size 26 3 (.slice ka2 ln kc2) ln xs := fun o => HX.out.drew.alloc o
              obtain ⟨ik0, hi0, hy0, hy1, hyb⟩ := info_parts Tryz.info_kindD
              have HIK : Hid (_ ∧ _ ∧ _ ∧ _) := ⟨hi0, hy0, hy1, hyb⟩
              have hjd : (j : Int) < (i : Int) := by omega
              clear hi0 hy0 hy1 hyb hxs hkk hM hO5 hDc e0 e1 e2 hxk hdx hbl
              subst ha
              go_wp2_with fail
              go_region_law (first
                | (refine step_append_lies _ (by rfl) (.tmp 74) (.tmp 79) 24 (by rfl) W3.heap.size 26 ik0 _ 3 56 Tryz.underlying24 HIK.out.1 HIK.out.2.1 HIK.out.2.2.1 HIK.out.2.2.2 rfl (by decide) (.slice ka2 ln kc2) ln xs (by rfl) (hox _) ⟨wc.heap.size, 0, none⟩ 1 1 [.int .i64 y0, .slice ya yl yc, .slice za zl zc] (by rfl) rfl (World.news_of_block (heap_alloc_new wc.drew _)) (by simp [Value.oneCell']) (by decide) (by unfold maxLen; omega) (by omega) (by simp; omega) (wc.heap.size + 1) (by simp) ?_; intro g2 cap2 v3 hown2 hgrow2 hat2 hlt2; have hb6 := ((hgrow2.block X (by simp; omega) (fun e => by have := r1_lt HX.out _ e.symm; omega)).trans (Below.heap_alloc _ _ _ (by simpa using hXc))).trans HM.out.box; have x2'' : v3.cell? ⟨X, 2, none⟩ = some (.slice ka2 ln kc2) := (by simp [World.cell?, hb6]); have xg'' : v3.frozen? ⟨X, 2, none⟩ = false := (by simp [World.frozen?, hb6])))
              all_goals
                have hF := GrowK.kidF (W := wc.drew) (W1 := wc.drew) (Wa := wc.drew.alloc (.cells #[.int .i64 y0, .slice ya yl yc, .slice za zl zc] 26)) (one := .cells #[.int .i64 y0, .slice ya yl yc, .slice za zl zc] 26) (g := g2) (cap := cap2) (xs := xs)
                  (HM.out.keep (by omega) (by omega) ((Near.refl R wc).drew)) (by omega) (by omega) (by omega) (Near.refl R _) HKin.out rfl ⟨rfl, rfl, rfl⟩ (by rw [HL.out.2]; exact HX.out.drew)
                  (fun q hq => by obtain ⟨a0, a1, a2, hd, hdt⟩ := HKK.out q hq; exact ⟨a0, a1, a2, hd, KindIn.keep (w := wc) (w' := wc.drew) (fun _ _ => rfl) (fun _ h => h) hdt⟩) (by rw [HL.out.2]; exact hown2) hgrow2 hat2
                have hO6 := Old.kid (W := wc.drew) (W1 := wc.drew) (X := X) (R := R) (ln := ln + 1) (cap := cap2) (HO5.out.near (R := R) (by omega) ((Near.refl R wc).drew)) (by omega) (by omega) (Near.refl R _) (one := .cells #[.int .i64 y0, .slice ya yl yc, .slice za zl zc] 26) rfl hgrow2 hat2
                rw [HL.out.2] at hF
                have HF := hidF hF
                have HO6 := hidF hO6
                have HDn : Hid (Dr (v3.setCell ⟨X, 2, none⟩ (.slice (some ⟨g2, 0, none⟩) (ln + 1) cap2)) R ao L cap p2) := by
                  refine HD0.out.keep (hF.near.out HW.out.near (by omega)) ?_
                  rw [Below.heap_setCell _ _ _ _ (by show R ≠ X; omega), blk_afterG (b := R) (W := wc.drew) (w2 := wc.drew) (o := .cells #[.int .i64 y0, .slice ya yl yc, .slice za zl zc] 26) HX.out.drew (by simp; omega) (by omega) hgrow2]
                  exact HDc.out.box
                have HDep5 : Hid (∀ x, x ∈ ks2 ++ [xk] → depK m x (2 * d + 3)) := fun x hx => by
                  rcases List.mem_append.1 hx with h | h
                  · exact HDep.out x h
                  · rw [List.mem_singleton] at h; subst h; exact HDx.out
                clear hF hO6 hown2 hgrow2 hat2 hlt2 hox x2'' xg'' hb6 q0 q1 q2
                go_wp2_with fail
                go_roundw
                case rel => exact ⟨i2 + 1, j + 1, ln + 1, p2, ns ++ [nm], ks2 ++ [xk], some ⟨g, 0, none⟩, cap', some ⟨g2, 0, none⟩, cap2, by omega, by go_num, by omega, by go_num, by omega, by simp [HL.out.1], by simp [HL.out.2], HF.out, HO6.out, HDn.out, by omega, HDep5.out⟩
                case measure => simp [intOf]; omega

        case neg =>
          by_cases hji : j < i
          case' pos =>
            have hjd : (j : Int) < (i : Int) := by omega
            obtain ⟨nb, noff, hna, hSn, f1⟩ := HNr.out j (by omega)
            have hSn' := HSS.out nb hSn
            have q1 : wr.cell? ⟨nb, noff + j, none⟩ = some (.string ((Kd.names k)[j]'(by omega))) := (World.cell?_of_block (a := ⟨nb, noff + j, none⟩) ((HG.out.near.block nb (by omega) hSn'.2 (by omega)).trans (HW.out.same nb hSn))).trans f1
            have heq : (((Kd.names k)[j]'(by omega)).toList == nm.toList) = false := by
              rw [str_beq]
              simp only [decide_eq_false_iff_not]
              exact fun e => hA ⟨hji, e⟩
            clear f1 hA
            subst hna
            generalize ((Kd.names k)[j]'(by omega)) = s1 at *
            go_upto_region 14 with fail
            go_quiet (fail)
            clear q1 heq hjd
          case' neg =>
            have hjd : ¬ (j : Int) < (i : Int) := by omega
            clear hA
            go_upto_region 14 with fail
            go_quiet (fail)
            clear hjd
          all_goals
            go_upto_region 18 with fail
            obtain ⟨V, hV⟩ : ∃ V, V = wr.drewN nq := ⟨_, rfl⟩
            have HGV : Hid (GrowK R X m W3 V 5 ns ks2 (.slice na2 ln nc2) (.slice ka2 ln kc2)) := by rw [hV]; exact HG.out.keep (by omega) (by omega) ((Near.refl R wr).drewN nq)
            have HOV : Hid (Old W3.heap.size w4 V (.slice na2 ln nc2) (.slice ka2 ln kc2)) := by rw [hV]; exact HO.out.near (R := R) (by omega) ((Near.refl R wr).drewN nq)
            have HDV : Hid (Dr V R ao L cap p2) := by rw [hV]; exact HDr.out.drewN nq
            rw [← hV]
            clear hV x1 y1 hcn' HG HO HDr
            have HPk : Hid (Calls Tryz.prog 13 #[.pointer (some ⟨R, 0, none⟩), .int .i64 9] V (PickPost V R ao L cap p2 9)) := pick_any V R ao L cap p2 9 HDV.out (by omega) (by omega) (by omega)
            go_wp2_with fail
            refine HPk.out.mono ?_
            rintro e U ⟨y, rfl, hy, hn6, hD6, -⟩
            have HGU : Hid (GrowK R X m W3 U 5 ns ks2 (.slice na2 ln nc2) (.slice ka2 ln kc2)) := HGV.out.keep (by omega) (by omega) hn6
            have HOU : Hid (Old W3.heap.size w4 U (.slice na2 ln nc2) (.slice ka2 ln kc2)) := HOV.out.near (R := R) (by omega) hn6
            have HDU : Hid (Dr U R ao L cap (p2 + 1)) := hD6
            clear HPk HGV HOV HDV hn6 hD6
            by_cases hy0 : y = 0
            case neg =>
              have hyb : ((y : Int) == 0) = false := by simp; omega
              clear hy0
              go_wp2_with fail
              go_roundw
              case rel => exact ⟨i2 + 1, j, ln, p2 + 1, ns, ks2, na2, nc2, ka2, kc2, by omega, by go_num, by omega, rfl, by omega, HL.out.1, HL.out.2, HGU.out, HOU.out, HDU.out, by omega, HDep.out⟩
              case measure => simp [intOf]; omega
            subst hy0
            clear hy
            go_upto_region 19 with fail
            have hzU := HGU.out.near.size
            have hXU := HGU.out.lt
            have hoU := HOU.out.size
            have x1 : U.cell? ⟨X, 1, none⟩ = some (.slice na2 ln nc2) := zeroD_W HGU.out.box 1 _ rfl
            have hcnU : U.cell? ⟨N0, i2, none⟩ = some (.string nm) := (World.cell?_of_block (a := ⟨N0, i2, none⟩) (HOU.out.block N0 (by omega) (by omega))).trans HCn.out
            have HO4 : Hid (U.ownsRow W3.heap.size 9 1 (.slice na2 ln nc2) ln (ns.map .string)) := by
              have := HGU.out.names
              rw [HL.out.1] at this; exact this
            have hoxN : ∀ o, (U.drew.alloc o).ownsRow W3.heap.size 9 1 (.slice na2 ln nc2) ln (ns.map .string) := fun o => HO4.out.drew.alloc o
            obtain ⟨is0, hi0, hy0, hy1, hyb⟩ := info_parts Tryz.info_strD
            have HIS : Hid (_ ∧ _ ∧ _ ∧ _) := ⟨hi0, hy0, hy1, hyb⟩
            clear hi0 hy0 hy1 hyb
            go_cut [9, 10] from 41 to 104 (fun jv iv wx => jv = .int .i64 j ∧ iv = .int .i64 i2 ∧ ∃ g cap', GrowK R X m W3 wx 5 (ns ++ [nm]) ks2 (.slice (some ⟨g, 0, none⟩) (ln + 1) cap') (.slice ka2 ln kc2) ∧ Old W3.heap.size w4 wx (.slice (some ⟨g, 0, none⟩) (ln + 1) cap') (.slice ka2 ln kc2) ∧ Dr wx R ao L cap (p2 + 1))
            case first =>
              go_region_law (first
                | (refine step_append_lies _ (by rfl) (.tmp 88) (.tmp 93) 23 (by rfl) W3.heap.size 9 is0 _ 1 16 Tryz.underlying23 HIS.out.1 HIS.out.2.1 HIS.out.2.2.1 HIS.out.2.2.2 rfl (by decide) (.slice na2 ln nc2) ln (ns.map .string) (by rfl) (hoxN _) ⟨U.heap.size, 0, none⟩ 1 1 [.string nm] (by rfl) rfl (World.news_of_block (heap_alloc_new U.drew _)) (by simp [Value.oneCell']) (by decide) (by unfold maxLen; omega) (by omega) (by simp; omega) (U.heap.size + 1) (by simp) ?_; intro g cap' w5 hown hgrow hat hlt5; have hb5 := ((hgrow.block X (by simp; omega) (fun e => by have := r1_lt HO4.out _ e.symm; omega)).trans (Below.heap_alloc _ _ _ (by simpa using hXU))).trans HGU.out.box; have x1'' : w5.cell? ⟨X, 1, none⟩ = some (.slice na2 ln nc2) := (by simp [World.cell?, hb5]); have xf'' : w5.frozen? ⟨X, 1, none⟩ = false := (by simp [World.frozen?, hb5])))
              all_goals
                have hM := GrowK.name (W := U.drew) (Wa := U.drew.alloc (.cells #[.string nm] 9)) (one := .cells #[.string nm] 9) (x := nm) (g := g) (cap := cap') (HGU.out.keep (by omega) (by omega) ((Near.refl R U).drew)) (by omega) rfl ⟨rfl, rfl, rfl⟩ (by omega) (by rw [HL.out.1]; exact hown) hgrow hat
                have hO5 := Old.name (W := U.drew) (X := X) (ln := ln + 1) (cap := cap') (HOU.out.near (R := R) (by omega) ((Near.refl R U).drew)) (by omega) (one := .cells #[.string nm] 9) rfl hgrow hat
                rw [HL.out.1] at hM
                have HM := hidF hM
                have HO5 := hidF hO5
                have HDn : Hid (Dr (w5.setCell ⟨X, 1, none⟩ (.slice (some ⟨g, 0, none⟩) (ln + 1) cap')) R ao L cap (p2 + 1)) := by
                  refine HD0.out.keep (hM.near.out HW.out.near (by omega)) ?_
                  rw [Below.heap_setCell _ _ _ _ (by show R ≠ X; omega), blk_afterG (b := R) (W := U.drew) (w2 := U.drew) (o := .cells #[.string nm] 9) HO4.out.drew (by simp; omega) (by omega) hgrow]
                  exact HDU.out.box
                clear hM hO5 hown hgrow hat hlt5 hb5 x1'' xf'' x1 hcnU
                go_wp2_with fail
                go_meet
                exact ⟨rfl, rfl, _, _, HM.out, HO5.out, HDn.out⟩
            case rest =>
              obtain ⟨rfl, rfl, g, cap', hM, hO5, hDc⟩ := hcut
              have hXc := hM.lt
              have hzc := hM.near.size
              have hoc := hO5.size
              have x2 : wc.cell? ⟨X, 2, none⟩ = some (.slice ka2 ln kc2) := zeroD_W hM.box 2 _ rfl
              obtain ⟨xs, hxs, hkk⟩ := hM.kids
              have HKK := hidF hkk
              have HX : Hid (wc.ownsRow W3.heap.size 26 3 (.slice ka2 ln kc2) ln xs) := by
                rw [HL.out.2] at hxs; exact hxs
              have HM := hidF hM
              have HO5 := hidF hO5
              obtain ⟨m1, rfl⟩ : ∃ m1, m = m1 + 1 := ⟨m - 1, by omega⟩
              have HC : Hid (Calls Tryz.prog 26 #[.pointer (some ⟨R, 0, none⟩), .int .i64 2, .bool false] wc.drew (DKPost m1 2 wc.drew R ao L cap (p2 + 1) 81)) := l5Kind_any 2 m1 R ao L cap (p2 + 1) false wc.drew (by omega) (by omega) (hDc.drewN 1) (by show _ + 81 ≤ _; omega)
              obtain ⟨ik0, hi0, hy0, hy1, hyb⟩ := info_parts Tryz.info_kindD
              have HIK : Hid (_ ∧ _ ∧ _ ∧ _) := ⟨hi0, hy0, hy1, hyb⟩
              clear hi0 hy0 hy1 hyb hxs hkk hM hO5 hDc
              go_wp2_with fail
              go_region_law (first
                | (refine step_append_lies _ (by rfl) (.tmp 97) (.tmp 102) 24 (by rfl) W3.heap.size 26 ik0 _ 3 56 Tryz.underlying24 HIK.out.1 HIK.out.2.1 HIK.out.2.2.1 HIK.out.2.2.2 rfl (by decide) (.slice ka2 ln kc2) ln xs (by rfl) (hox _) ⟨v2.heap.size + 1, 0, none⟩ 1 1 [.int .i64 6, .slice none 0 0, .slice (some ⟨v2.heap.size, 0, none⟩) 1 1] (by rfl) rfl (World.news_of_block (by have := heap_alloc_new (v2.alloc (.cells #[.int .i64 y0, .slice ya yl yc, .slice za zl zc] 26)) (.cells #[.int .i64 6, .slice none 0 0, .slice (some ⟨v2.heap.size, 0, none⟩) 1 1] 26); simpa using this)) (by simp [Value.oneCell']) (by decide) (by unfold maxLen; omega) (by omega) (by simp; omega) (v2.heap.size + 1 + 1) (by simp) ?_; intro g2 cap2 v3 hown2 hgrow2 hat2 hlt2; have hb6 := (((hgrow2.block X (by simp; omega) (fun e => by have := r1_lt HX.out _ e.symm; omega)).trans ((Below.heap_alloc _ _ _ (by simp; omega)).trans (Below.heap_alloc _ _ _ (by omega)))).trans (hn5.block X (by simpa using hXc) (by omega))).trans HM.out.box; have x2'' : v3.cell? ⟨X, 2, none⟩ = some (.slice ka2 ln kc2) := (by simp [World.cell?, hb6]); have xg'' : v3.frozen? ⟨X, 2, none⟩ = false := (by simp [World.frozen?, hb6]))
                | (go_simp; go_at_call 26; refine HC.out.mono ?_; rintro e v2 ⟨hn5, p5, k5, c0', c1', c2', hp5, hD5, rfl, hk5, hdk5⟩; obtain ⟨y0, ya, yl, yc, za, zl, zc, rfl, rfl, rfl⟩ := hk5.shape; have hsz2 : wc.heap.size ≤ v2.heap.size := hn5.size; have hnA : Near R wc.drew (v2.alloc (.cells #[.int .i64 y0, .slice ya yl yc, .slice za zl zc] 26)) := hn5.trans (Near.alloc _ _ _); have hox := fun o => owns_onG (R := R) (M := W3.heap.size) (W := wc.drew) HX.out.drew (by omega) hnA o; have x2' : v2.cell? ⟨X, 2, none⟩ = some (.slice ka2 ln kc2) := (World.cell?_of_block (hn5.block X (by simpa using hXc) (by omega))).trans x2; have x2a : (v2.alloc (.cells #[.int .i64 y0, .slice ya yl yc, .slice za zl zc] 26)).cell? ⟨X, 2, none⟩ = some (.slice ka2 ln kc2) := (World.cell?_of_block (Below.heap_alloc _ _ _ (by show X < _; omega))).trans x2'; have x2b : ((v2.alloc (.cells #[.int .i64 y0, .slice ya yl yc, .slice za zl zc] 26)).alloc (.cells #[.int .i64 6, .slice none 0 0, .slice (some ⟨v2.heap.size, 0, none⟩) 1 1] 26)).cell? ⟨X, 2, none⟩ = some (.slice ka2 ln kc2) := (World.cell?_of_block (Below.heap_alloc _ _ _ (by show X < _; simp; omega))).trans x2a))
              all_goals
                have hall := grow_maybe (W := wc.drew) (u := w4) (d := 2 * d + 3) (HM.out.keep (by omega) (by omega) ((Near.refl R wc).drew)) (HO5.out.near (R := R) (by omega) ((Near.refl R wc).drew)) HL.out.2 (by omega) (by omega) (by omega) hn5 hk5 hdk5 hD5 HX.out.drew
                  (fun q hq => by obtain ⟨a0, a1, a2, hd, hdt⟩ := HKK.out q hq; exact ⟨a0, a1, a2, hd, KindIn.keep (w := wc) (w' := wc.drew) (fun _ _ => rfl) (fun _ h => h) hdt⟩) hown2 hgrow2 hat2 HDep.out (by omega) HD0.out HW.out.near (by omega) hR
                obtain ⟨t9, hF, hO6, hDn, hd9⟩ := hall
                have HF : Hid (_ ∧ _ ∧ _ ∧ _) := ⟨hF, hO6, hDn, hd9⟩
                clear hF hO6 hDn hd9 hown2 hgrow2 hat2 hlt2 hox x2'' xg'' hb6 x2' x2a x2b hk5 hdk5 hD5 hn5 hnA
                go_wp2_with fail
                go_roundw
                case rel => exact ⟨i2 + 1, j, ln + 1, p5, ns ++ [nm], ks2 ++ [t9], some ⟨g, 0, none⟩, cap', some ⟨g2, 0, none⟩, cap2, by omega, by go_num, by omega, rfl, by omega, by simp [HL.out.1], by simp [HL.out.2], HF.out.1, HF.out.2.1, HF.out.2.2.1, by omega, HF.out.2.2.2⟩
                case measure => simp [intOf]; omega

theorem wider_any : ∀ d, WiderSaid d := by
  intro d
  induction d with
  | zero =>
    intro n m R ao L cap p S k g c0 c1 c2 w hm hdk
    cases n with
    | zero => exact hdk.elim
    | succ n => exact absurd hdk.1 (by omega)
  | succ d ih => exact wider_step d ih

end Go.Proofs.YthcdeahobjhkbaaGreatDoor
