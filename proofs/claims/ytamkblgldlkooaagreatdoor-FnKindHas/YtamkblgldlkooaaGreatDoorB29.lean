/-
  Several texts in one, in their order.
-/
import Derived.Test.YtamkblgldlkooaaGreatDoorB28
import Derived.Test.YtamkblgldlkooaaGreatDoorB7
import Derived.Deep.RegionLaw
import Derived.Deep.Cut
import Derived.Deep.CutRange
import Derived.Lib.Hide
import Derived.WalkSmall
import Derived.LoopTactic
import Derived.BigQuiet
import Derived.Test.YtamkblgldlkooaaGreatDoorDec
import Derived.Test.YtamkblgldlkooaaGreatDoorB2

/-
  What the specification draws: l5Wider.
-/
namespace Go.Proofs.YtamkblgldlkooaaGreatDoor
open Go.RowKit

/-- What holds from the entry on. -/
structure WSit (R X : Nat) (S : Nat → Prop) (w W3 : World) (c0 c1 c2 : Value) : Prop where
  near : Near R w W3
  kbox : W3.heap[w.heap.size]? = some (.cells #[c0, c1, c2] 26 (0, 0))
  zero : W3.heap[w.heap.size + 1]? = some (.cells #[.int .i64 0, .slice none 0 0, .slice none 0 0] 26 (0, 0))
  out : W3.heap[X]? = some (.cells #[c0, .slice none 0 0, .slice none 0 0] 26 (0, 0))
  same : Same S w W3
  x : X = w.heap.size + 2
  size : W3.heap.size = w.heap.size + 3

/-- One kid more: a maybe of what was drawn. -/
theorem grow_maybe {R X n p5 : Nat} {d L cap0 : Nat} {ao : Option Addr} {w0 w u W v2 v3 : World} {ns : List ByteArray} {ks : List (K (n + 1))} {nv : Value} {ka : Option Addr} {ln kc g2 cap2 : Nat} {k5 : K n} {y0 : Int} {ya za : Option Addr} {yl yc zl zc : Nat} {xs : List Value} {p : Nat}
    (hM : GrowK R X (n + 1) w W 5 ns ks nv (.slice ka ln kc)) (hO : Old w.heap.size u W nv (.slice ka ln kc)) (hl : ks.length = ln) (hRX : R ≠ X) (hXw : X < w.heap.size) (hRw : R < w.heap.size) (hn5 : Near R W v2) (hk5 : KindIn (fun b => W.heap.size ≤ b ∧ b < v2.heap.size) v2 n k5 (.int .i64 y0) (.slice ya yl yc) (.slice za zl zc)) (hdk5 : depK n k5 2) (hD5 : Dr v2 R ao L cap0 p5)
    (hx : W.ownsRow w.heap.size 26 3 (.slice ka ln kc) ln xs) (hkk : ∀ j (h : j < ks.length), ∃ c0 c1 c2, (xs[j * 3]? = some c0 ∧ xs[j * 3 + 1]? = some c1 ∧ xs[j * 3 + 2]? = some c2) ∧ KindIn (Fr w.heap.size nv (.slice ka ln kc) W.heap.size) W (n + 1) ks[j] c0 c1 c2)
    (hown : v3.ownsRow w.heap.size 26 3 (.slice (some ⟨g2, 0, none⟩) (ln + 1) cap2) (ln + 1) (xs ++ [.int .i64 6, .slice none 0 0, .slice (some ⟨v2.heap.size, 0, none⟩) 1 1]))
    (hgrow : ((v2.alloc (.cells #[.int .i64 y0, .slice ya yl yc, .slice za zl zc] 26)).alloc (.cells #[.int .i64 6, .slice none 0 0, .slice (some ⟨v2.heap.size, 0, none⟩) 1 1] 26)).grownBy v3 (Value.slice ka ln kc).ownBlock) (hat : (Value.slice ka ln kc).ownBlock = some g2 ∨ g2 = v2.heap.size + 1 + 1) (hd : ∀ x, x ∈ ks → depK (n + 1) x d) (h3 : 3 ≤ d)
    (hD0 : Dr w0 R ao L cap0 p) (hw0 : Near R w0 w) (hX0 : w0.heap.size ≤ X) (hR0 : R < w0.heap.size) :
    ∃ t : K (n + 1), GrowK R X (n + 1) w (v3.setCell ⟨X, 2, none⟩ (.slice (some ⟨g2, 0, none⟩) (ln + 1) cap2)) 5 ns (ks ++ [t]) nv (.slice (some ⟨g2, 0, none⟩) (ln + 1) cap2) ∧ Old w.heap.size u (v3.setCell ⟨X, 2, none⟩ (.slice (some ⟨g2, 0, none⟩) (ln + 1) cap2)) nv (.slice (some ⟨g2, 0, none⟩) (ln + 1) cap2) ∧
      Dr (v3.setCell ⟨X, 2, none⟩ (.slice (some ⟨g2, 0, none⟩) (ln + 1) cap2)) R ao L cap0 p5 ∧ ∀ x, x ∈ ks ++ [t] → depK (n + 1) x d := by
  subst hl
  have hnA : Near R W (v2.alloc (.cells #[.int .i64 y0, .slice ya yl yc, .slice za zl zc] 26)) := hn5.trans (Near.alloc _ _ _)
  have hz5 := hn5.size
  have hzW := hM.near.size
  have hx3 := Box3.new v2 (.int .i64 y0) (.slice ya yl yc) (.slice za zl zc) 26
  have hsz : (v2.alloc (.cells #[.int .i64 y0, .slice ya yl yc, .slice za zl zc] 26)).heap.size = v2.heap.size + 1 := by simp
  have hkk5 : KindIn (fun b => W.heap.size ≤ b ∧ b < (v2.alloc (.cells #[.int .i64 y0, .slice ya yl yc, .slice za zl zc] 26)).heap.size) (v2.alloc (.cells #[.int .i64 y0, .slice ya yl yc, .slice za zl zc] 26)) (n + 1) (⟨6, [], [k5]⟩ : Kd (K n)) (.int .i64 6) (.slice none 0 0) (.slice (some ⟨v2.heap.size, 0, none⟩) 1 1) :=
    oneD_in rfl ⟨hz5, by rw [hsz]; omega⟩ hx3.c0 hx3.c1 hx3.c2 (hk5.keep (fun b hb => Below.heap_alloc _ _ _ hb.2) (fun b hb => ⟨hb.1, by rw [hsz]; omega⟩))
  have hat' : (Value.slice ka ks.length kc).ownBlock = some g2 ∨ g2 = (v2.alloc (.cells #[.int .i64 y0, .slice ya yl yc, .slice za zl zc] 26)).heap.size + 1 := by rw [hsz]; exact hat
  obtain ⟨t, hkt, hdt⟩ : ∃ t : K (n + 1), KindIn (fun b => W.heap.size ≤ b ∧ b < (v2.alloc (.cells #[.int .i64 y0, .slice ya yl yc, .slice za zl zc] 26)).heap.size) (v2.alloc (.cells #[.int .i64 y0, .slice ya yl yc, .slice za zl zc] 26)) (n + 1) t (.int .i64 6) (.slice none 0 0) (.slice (some ⟨v2.heap.size, 0, none⟩) 1 1) ∧ depK (n + 1) t d := ⟨_, hkk5, (depK.one hdk5).mono h3⟩
  have hF := GrowK.kid (Wa := (v2.alloc (.cells #[.int .i64 y0, .slice ya yl yc, .slice za zl zc] 26)).alloc (.cells #[.int .i64 6, .slice none 0 0, .slice (some ⟨v2.heap.size, 0, none⟩) 1 1] 26)) (one := .cells #[.int .i64 6, .slice none 0 0, .slice (some ⟨v2.heap.size, 0, none⟩) 1 1] 26) hM hRX hXw hRw hnA hkt rfl ⟨rfl, rfl, rfl⟩ hx hkk hown hgrow hat'
  refine ⟨t, hF, Old.kid (Wa := (v2.alloc (.cells #[.int .i64 y0, .slice ya yl yc, .slice za zl zc] 26)).alloc (.cells #[.int .i64 6, .slice none 0 0, .slice (some ⟨v2.heap.size, 0, none⟩) 1 1] 26)) hO hXw hRw hnA (one := .cells #[.int .i64 6, .slice none 0 0, .slice (some ⟨v2.heap.size, 0, none⟩) 1 1] 26) rfl hgrow hat', ?_, fun x hx => ?_⟩
  · refine hD0.keep (hF.near.out hw0 hX0) ?_
    have hb : R < v2.heap.size := by omega
    rw [Below.heap_setCell _ _ _ _ (by show R ≠ X; exact hRX), blk_afterG (b := R) hx (by rw [hsz]; omega) hRw hgrow, Below.heap_alloc _ _ _ hb]
    exact hD5.box
  · rcases List.mem_append.1 hx with h | h
    · exact hd x h
    · rw [List.mem_singleton] at h; subst h; exact hdt

/-- The two ways out. -/
theorem wd_end {m d R L cap p p5 q X : Nat} {ao : Option Addr} {S : Nat → Prop} {w W3 u w5 : World} {so : Int} {ns : List ByteArray} {ks : List (K m)} {nv kv c1 c2 : Value} (h : Dr w R ao L cap p) (hW : WSit R X S w W3 (.int .i64 so) c1 c2) (hG : GrowK R X m W3 u so ns ks nv kv) (hn : Near R u w5) (hD5 : Dr w5 R ao L cap p5) (hp : p5 ≤ p + q)
    (hwf : (Lit.int .i64 so).wf = true) (hl : ns.length ≤ 1000) (hkl : ks.length ≤ 1000) (hdep : ∀ x, x ∈ ks → depK m x d) :
    (w5.heap[X]? = some (.cells #[.int .i64 so, nv, kv] 26 (0, 0)) ∧ w5.heap[w.heap.size + 1]? = some (.cells #[.int .i64 0, .slice none 0 0, .slice none 0 0] 26 (0, 0)) ∧ w.heap.size + 3 ≤ w5.heap.size) ∧
    DKPost (m + 2) (d + 2) w R ao L cap p q (.returned (.agg #[.int .i64 so, nv, kv])) (put3 w5 (w.heap.size + 1) 0 (.int .i64 so) nv kv) ∧
    DKPost (m + 2) (d + 2) w R ao L cap p q (.returned (.agg #[.int .i64 6, .slice none 0 0, .slice (some ⟨w5.heap.size, 0, none⟩) 1 1])) (put3 (w5.alloc (.cells #[.int .i64 so, nv, kv] 26)) (w.heap.size + 1) 0 (.int .i64 6) (.slice none 0 0) (.slice (some ⟨w5.heap.size, 0, none⟩) 1 1)) := by
  have hR := h.lt
  have hX := hW.x
  have hz := hW.size
  have hG5 := hG.keep (by omega) (by omega) hn
  have hz5 := hG5.near.size
  have hnw : Near R w w5 := hG5.near.out hW.near (by omega)
  have hk := hG5.kind (B := w.heap.size + 2) (W := w5) hwf (fun _ _ => rfl) (Nat.le_refl _) (by omega) (by omega) (by omega)
  have hd : depK (m + 1) (⟨so, ns, ks⟩ : Kd (K m)) (d + 1) := ⟨by omega, hl, hG5.short, hkl, fun x hx => by simpa using hdep x hx⟩
  refine ⟨⟨hG5.box, (hG5.near.block _ (by omega) (by omega) (by omega)).trans hW.zero, by omega⟩, ?_, ?_⟩
  · exact wd_exit h hnw hD5.box hp hk.up (hd.up.mono (by omega))
  · have hx3 := Box3.new w5 (.int .i64 so) nv kv 26
    refine wd_exit h (hnw.trans (Near.alloc _ _ _)) ((Below.heap_alloc _ _ _ (by omega)).trans hD5.box) hp (oneD_in (m := m + 1) (t := (⟨so, ns, ks⟩ : Kd (K m))) rfl ⟨by omega, by simp⟩ hx3.c0 hx3.c1 hx3.c2 ?_) hd.one
    exact hk.keep (fun b hb => Below.heap_alloc _ _ _ hb.2) (fun b hb => ⟨hb.1, by simp; omega⟩)

set_option maxRecDepth 20000 in
set_option maxHeartbeats 8000000 in
theorem wider_step (d : Nat) (hn : WiderSaid d) : WiderSaid (d + 1) := by
  intro n m R ao L cap p S k g c0 c1 c2 w hm hdk hg hc40 hk hS h hp
  obtain ⟨m, rfl⟩ : ∃ m', m = m' + 2 := ⟨m - 2, by omega⟩
  obtain ⟨n, rfl⟩ : ∃ n', n = n' + 1 := by cases n with
    | zero => exact hdk.elim
    | succ n => exact ⟨n, rfl⟩
  have hfew := kids_few hg hc40
  have hnk : Kd.sort k = 5 → (Kd.names k).length = (Kd.kids k).length := fun h5 => by
    rcases goodK_kids hg with ⟨h, -⟩ | ⟨h, -⟩ | ⟨-, h, -⟩
    · omega
    · omega
    · exact h
  have hcnt : cntK (n + 1) k = 1 + sumL (fun x => cntK n x) (Kd.kids k) := rfl
  obtain ⟨-, hnl, hns, hkl, hdks⟩ := hdk
  obtain ⟨rfl, hwf, h3, h4⟩ := hk
  obtain ⟨na, nc, rfl, -, -, hnc⟩ := id h3
  obtain ⟨ka, kc, rfl, -, hkc⟩ := id h4
  have hR := h.lt
  have HD0 : Hid (Dr w R ao L cap p) := h
  have HNr : Hid (∀ i (hi : i < (Kd.names k).length), ∃ b off, na = some ⟨b, off, none⟩ ∧ S b ∧ w.cell? ⟨b, off + i, none⟩ = some (.string (Kd.names k)[i])) := fun i hi => by
    obtain ⟨b, off, e, hb, hcell⟩ := hnc (fun e => by rw [e] at hi; simp at hi)
    exact ⟨b, off, e, hb, hcell i hi⟩
  have HKr : Hid (∀ i (hi : i < (Kd.kids k).length), ∃ b off c0 c1 c2, ka = some ⟨b, off, none⟩ ∧ S b ∧ w.cell? ⟨b, off + i * 3, none⟩ = some c0 ∧ w.cell? ⟨b, off + i * 3 + 1, none⟩ = some c1 ∧ w.cell? ⟨b, off + i * 3 + 2, none⟩ = some c2 ∧ KindIn S w n (Kd.kids k)[i] c0 c1 c2) := fun i hi => by
    obtain ⟨b, off, e, hb, hcell⟩ := hkc (fun e => by rw [e] at hi; simp at hi)
    obtain ⟨c0, c1, c2, q0, q1, q2, hkin⟩ := hcell i hi
    exact ⟨b, off, c0, c1, c2, e, hb, q0, q1, q2, hkin⟩
  have HDk : Hid (∀ x, x ∈ Kd.kids k → depK n x d ∧ goodK n x (g + 1) = true ∧ cntK n x ≤ 40) := fun x hx => ⟨by simpa using hdks x hx, hfew.2 x hx⟩
  have HNs : Hid (∀ x, x ∈ Kd.names k → x.size ≤ 10000) := hns
  have HN : Hid (WiderSaid d) := hn
  have HSS : Hid (∀ b, S b → b < w.heap.size ∧ b ≠ R) := hS
  have HWf : Hid ((Lit.int .i64 (Kd.sort k)).wf = true) := hwf
  have HSum : Hid (∀ i, sumL (fun x => cntK n x) ((Kd.kids k).take i) ≤ sumL (fun x => cntK n x) (Kd.kids k)) := fun i => by
    have := sumL_append (fun x => cntK n x) ((Kd.kids k).take i) ((Kd.kids k).drop i)
    rw [List.take_append_drop] at this; omega
  have HStep : Hid (∀ i (hi : i < (Kd.kids k).length), sumL (fun x => cntK n x) ((Kd.kids k).take (i + 1)) = sumL (fun x => cntK n x) ((Kd.kids k).take i) + cntK n (Kd.kids k)[i]) := fun i hi => sumL_take_succ _ _ i hi
  generalize hs : Kd.sort k = so at *
  obtain ⟨kl, hkl0⟩ : ∃ kl, (Kd.kids k).length = kl := ⟨_, rfl⟩
  obtain ⟨nl, hnl0⟩ : ∃ nl, (Kd.names k).length = nl := ⟨_, rfl⟩
  rw [hkl0] at hkl hnk
  rw [hnl0] at hnl hnk
  rw [hkl0, hnl0]
  clear h3 h4
  obtain ⟨W3, hW3⟩ : ∃ W3, W3 = ((w.alloc (.cells #[.int .i64 so, .slice na nl nc, .slice ka kl kc] 26)).alloc (.cells #[.int .i64 0, .slice none 0 0, .slice none 0 0] 26)).alloc (.cells #[.int .i64 so, .slice none 0 0, .slice none 0 0] 26) := ⟨_, rfl⟩
  have hz3 : W3.heap.size = w.heap.size + 3 := by rw [hW3]; simp
  have hb3 : Below w.heap.size w W3 := by rw [hW3]; exact (((Below.refl _ _).alloc (Nat.le_refl _) _).alloc (by simp) _).alloc (by simp; omega) _
  obtain ⟨X, hX⟩ : ∃ X, X = w.heap.size + 1 + 1 := ⟨_, rfl⟩
  have HW : Hid (WSit R X S w W3 (.int .i64 so) (.slice na nl nc) (.slice ka kl kc)) := by
    refine ⟨Near.of_below hb3, ?_, ?_, ?_, fun b hb => hb3.block b (hS b hb).1, hX, hz3⟩
    · rw [hW3, Below.heap_alloc _ _ _ (by simp; omega), Below.heap_alloc _ _ _ (by simp)]; exact heap_alloc_new _ _
    · rw [hW3, Below.heap_alloc _ _ _ (by simp)]
      have := heap_alloc_new (w.alloc (.cells #[.int .i64 so, .slice na nl nc, .slice ka kl kc] 26)) (.cells #[.int .i64 0, .slice none 0 0, .slice none 0 0] 26)
      simpa using this
    · have := heap_alloc_new ((w.alloc (.cells #[.int .i64 so, .slice na nl nc, .slice ka kl kc] 26)).alloc (.cells #[.int .i64 0, .slice none 0 0, .slice none 0 0] 26)) (.cells #[.int .i64 so, .slice none 0 0, .slice none 0 0] 26)
      rw [hX, hW3]; simpa using this
  have hD3 : Dr W3 R ao L cap p := h.same hb3
  have HDr3 : Hid (Dr W3 R ao L cap p) := hD3
  have hmd : 2 * d + 3 ≤ m := by omega
  clear h hns hdks hn hb3 hfew hnc hkc hwf hD3 hg hc40 hS
  generalize hsum : sumL (fun x => cntK n x) (Kd.kids k) = sm at *
  rw [hcnt] at hp ⊢
  clear hcnt
  have x2w : W3.cell? ⟨w.heap.size, 2, none⟩ = some (.slice ka kl kc) := zeroD_W HW.out.kbox 2 _ rfl
  have x0w : W3.cell? ⟨w.heap.size, 0, none⟩ = some (.int .i64 so) := zeroD_W HW.out.kbox 0 _ rfl
  go_enter Tryz.func18, Tryz.ntmps18
  go_wp2_with fail
  rw [← hW3, ← hX]
  clear hW3 hX
  go_loopw [6] (fun iv wr => ∃ (i p' : Nat) (ks : List (K m)) (a : Option Addr) (c : Nat), i ≤ kl ∧ iv = .int .i64 i ∧ ks.length = i ∧ GrowK R X m W3 wr so [] ks (.slice none 0 0) (.slice a i c) ∧ Dr wr R ao L cap p' ∧ p' ≤ p + 700 * sumL (fun x => cntK n x) ((Kd.kids k).take i) ∧ ∀ x, x ∈ ks → depK m x (2 * d + 3)) (fun iv _ => kl - (intOf iv).toNat)
  case atStart => exact ⟨0, p, [], none, 0, by omega, rfl, rfl, GrowK.start HW.out.out, HDr3.out, by omega, fun x hx => by cases hx⟩
  case round =>
    obtain ⟨i, p', ks, a, c, hi, rfl, hksl, hG, hD, hp', hdep⟩ := hrel
    have hzr := hG.near.size
    have hXr := hG.lt
    have hw3 := HW.out.size
    have hXge : w.heap.size + 2 ≤ X := Nat.le_of_eq HW.out.x.symm
    have hXle : X ≤ w.heap.size + 2 := Nat.le_of_eq HW.out.x
    have HG : Hid (GrowK R X m W3 wr so [] ks (.slice none 0 0) (.slice a i c)) := hG
    have HDr : Hid (Dr wr R ao L cap p') := hD
    have HDep : Hid (∀ x, x ∈ ks → depK m x (2 * d + 3)) := hdep
    have HKL : Hid (ks.length = i) := hksl
    have HBlk : Hid (∀ b, b < W3.heap.size → b ≠ R → b ≠ X → wr.heap[b]? = W3.heap[b]?) := hG.near.block
    have y2 : wr.cell? ⟨w.heap.size, 2, none⟩ = some (.slice ka kl kc) := zeroD_W ((HBlk.out _ (by omega) (by omega) (by omega)).trans HW.out.kbox) 2 _ rfl
    have hsml := HSum.out i
    clear hG hD hdep hksl
    by_cases hlt : i < kl
    case pos =>
      have hlti : (i : Int) < (kl : Int) := by omega
      have hik : i < (Kd.kids k).length := by omega
      obtain ⟨kb, koff, e0, e1, e2, hka, hSb, f0, f1, f2, hkin⟩ := HKr.out i hik
      have hSb' := HSS.out kb hSb
      have hsame : ∀ b, S b → wr.heap[b]? = w.heap[b]? := fun b hb => by
        have := HSS.out b hb
        exact (HBlk.out b (by omega) this.2 (by omega)).trans (HW.out.same b hb)
      have q0 := (World.cell?_of_block (a := ⟨kb, koff + i * 3, none⟩) (hsame kb hSb)).trans f0
      have q1 := (World.cell?_of_block (a := ⟨kb, koff + i * 3 + 1, none⟩) (hsame kb hSb)).trans f1
      have q2 := (World.cell?_of_block (a := ⟨kb, koff + i * 3 + 2, none⟩) (hsame kb hSb)).trans f2
      obtain ⟨u0, ua, ul, uc, ta, tl, tc, rfl, rfl, rfl⟩ := hkin.shape
      have hstep := HStep.out i hik
      have hsml2 := HSum.out (i + 1)
      obtain ⟨hdi, hgi, hci⟩ := HDk.out _ (List.getElem_mem hik)
      have HC : Hid (Calls Tryz.prog 18 #[.pointer (some ⟨R, 0, none⟩), .agg #[.int .i64 u0, .slice ua ul uc, .slice ta tl tc]] wr.drew (DKPost m (2 * d + 3) wr.drew R ao L cap p' (700 * cntK n (Kd.kids k)[i]))) :=
        HN.out n m R ao L cap p' S _ (g + 1) _ _ _ wr.drew hmd hdi hgi hci (KindIn.keep (w' := wr.drew) hsame (fun _ h => h) hkin) (fun b hb => by have := HSS.out b hb; exact ⟨by show b < wr.heap.size; omega, this.2⟩) (HDr.out.drewN 1) (by omega)
      obtain ⟨xs, hxs, hkk⟩ := HG.out.kids
      have HKK : Hid (∀ q (h : q < ks.length), _) := hkk
      have HX : Hid (wr.ownsRow W3.heap.size 26 3 (.slice a i c) i xs) := by
        rw [HKL.out] at hxs; exact hxs
      have x2 : wr.cell? ⟨X, 2, none⟩ = some (.slice a i c) := zeroD_W HG.out.box 2 _ rfl
      obtain ⟨ik0, hi0, hy0, hy1, hyb⟩ := info_parts Tryz.info_kindD
      have HIK : Hid (_ ∧ _ ∧ _ ∧ _) := ⟨hi0, hy0, hy1, hyb⟩
      generalize hck : cntK n (Kd.kids k)[i] = ck at *
      clear hi0 hy0 hy1 hyb hxs hkk hsame f0 f1 f2 hkin hdi hgi hci hck
      subst hka
      go_wp2_with fail
      go_region_law (first
          | (refine step_append_lies _ (by rfl) (.tmp 22) (.tmp 30) 24 (by rfl) W3.heap.size 26 ik0 _ 3 56 Tryz.underlying24 HIK.out.1 HIK.out.2.1 HIK.out.2.2.1 HIK.out.2.2.2 rfl (by decide) (.slice a i c) i xs (by rfl) (hox _) ⟨v2.heap.size, 0, none⟩ 1 1 [.int .i64 y0, .slice ya yl yc, .slice za zl zc] (by rfl) rfl (World.news_of_block (heap_alloc_new v2 _)) (by simp [Value.oneCell']) (by decide) (by unfold maxLen; omega) (by omega) (by simp; omega) (v2.heap.size + 1) (by simp) ?_; intro g2 cap2 v3 hown2 hgrow2 hat2 hlt2; have hb6 := (((hgrow2.block X (by simp; omega) (fun e => by have := r1_lt HX.out _ e.symm; omega)).trans (Below.heap_alloc _ _ _ (by omega))).trans (hn5.block X (by simpa using hXr) (by omega))).trans HG.out.box; have x2'' : v3.cell? ⟨X, 2, none⟩ = some (.slice a i c) := (by simp [World.cell?, hb6]); have xg'' : v3.frozen? ⟨X, 2, none⟩ = false := (by simp [World.frozen?, hb6]))
          | (go_simp; go_at_call 18; refine HC.out.mono ?_; rintro e v2 ⟨hn5, p5, k5, c0', c1', c2', hp5, hD5, rfl, hk5, hdk5⟩; obtain ⟨y0, ya, yl, yc, za, zl, zc, rfl, rfl, rfl⟩ := hk5.shape; have hsz2 : wr.heap.size ≤ v2.heap.size := hn5.size; have hox := fun o => owns_onG (R := R) (M := W3.heap.size) (W := wr.drew) HX.out.drew (by omega) hn5 o; have x2' : v2.cell? ⟨X, 2, none⟩ = some (.slice a i c) := (World.cell?_of_block (hn5.block X (by simpa using hXr) (by omega))).trans x2; have x2a : (v2.alloc (.cells #[.int .i64 y0, .slice ya yl yc, .slice za zl zc] 26)).cell? ⟨X, 2, none⟩ = some (.slice a i c) := (World.cell?_of_block (Below.heap_alloc _ _ _ (by show X < _; omega))).trans x2'))
      all_goals
        have hF := GrowK.kid (W := wr.drew) (W1 := v2) (Wa := v2.alloc (.cells #[.int .i64 y0, .slice ya yl yc, .slice za zl zc] 26)) (one := .cells #[.int .i64 y0, .slice ya yl yc, .slice za zl zc] 26) (g := g2) (cap := cap2) (xs := xs)
            (HG.out.keep (by omega) (by omega) ((Near.refl R wr).drew)) (by omega) (by omega) (by omega) hn5 hk5 rfl ⟨rfl, rfl, rfl⟩ (by rw [HKL.out]; exact HX.out.drew)
            (fun q hq => by obtain ⟨a0, a1, a2, hd, hdt⟩ := HKK.out q hq; exact ⟨a0, a1, a2, hd, KindIn.keep (w := wr) (w' := wr.drew) (fun _ _ => rfl) (fun _ h => h) hdt⟩) (by rw [HKL.out]; exact hown2) hgrow2 hat2
        rw [HKL.out] at hF
        have HF : Hid (GrowK R X m W3 (v3.setCell ⟨X, 2, none⟩ (.slice (some ⟨g2, 0, none⟩) (i + 1) cap2)) so [] (ks ++ [k5]) (.slice none 0 0) (.slice (some ⟨g2, 0, none⟩) (i + 1) cap2)) := hF
        have HDn : Hid (Dr (v3.setCell ⟨X, 2, none⟩ (.slice (some ⟨g2, 0, none⟩) (i + 1) cap2)) R ao L cap p5) := by
            refine HD0.out.keep (hF.near.out HW.out.near (by omega)) ?_
            rw [Below.heap_setCell _ _ _ _ (by show R ≠ X; omega), blk_afterG (b := R) (W := wr.drew) (w2 := v2) (o := .cells #[.int .i64 y0, .slice ya yl yc, .slice za zl zc] 26) HX.out.drew (by omega) (by omega) hgrow2]
            exact hD5.box
        have HDep5 : Hid (∀ x, x ∈ ks ++ [k5] → depK m x (2 * d + 3)) := fun x hx => by
            rcases List.mem_append.1 hx with h | h
            · exact HDep.out x h
            · rw [List.mem_singleton] at h; subst h; exact hdk5
        clear hF hown2 hgrow2 hat2 hlt2 hk5 hdk5 hD5 hn5 hox x2' x2a x2'' xg'' hb6
        go_wp2_with fail
        go_roundw
        case rel => exact ⟨i + 1, p5, ks ++ [k5], some ⟨g2, 0, none⟩, cap2, by omega, by go_num, by simp [HKL.out], HF.out, HDn.out, by omega, HDep5.out⟩
        case measure => simp [intOf]; omega
    have hge : ¬ (i : Int) < (kl : Int) := by omega
    obtain rfl : i = kl := by omega
    have HNm : Hid (Calls Tryz.prog 46 #[] wr _) := l5Names_any wr
    have y0 : wr.cell? ⟨w.heap.size, 0, none⟩ = some (.int .i64 so) := zeroD_W ((HBlk.out _ (by omega) (by omega) (by omega)).trans HW.out.kbox) 0 _ rfl
    clear hi hlt
    go_wp2_with fail
    refine HNm.out.mono ?_
    rintro e w4 ⟨rfl, hz4, hb4, hnms⟩
    have hz4a : w4.heap.size ≤ wr.heap.size + 1 := Nat.le_of_eq hz4
    have hz4b : wr.heap.size + 1 ≤ w4.heap.size := Nat.le_of_eq hz4.symm
    clear hz4
    have HG4 : Hid (GrowK R X m W3 w4 so [] ks (.slice none 0 0) (.slice a i c)) := HG.out.keep (by omega) (by omega) (Near.of_below hb4)
    have HD4 : Hid (Dr w4 R ao L cap p') := HDr.out.same hb4
    have HB4 : Hid (Below wr.heap.size wr w4) := hb4
    have HNms : Hid (∀ j, j < 8 → ∃ s : ByteArray, s.size ≤ 100 ∧ w4.cell? ⟨wr.heap.size, j, none⟩ = some (.string s)) := hnms
    have z0 := (hb4.cell (p := ⟨w.heap.size, 0, none⟩) (by show w.heap.size < _; omega)).trans y0
    clear y0 y2 hnms hb4 HNm HG HDr HBlk
    by_cases h5 : so = 5
    case neg =>
      have h5b : (so == 5) = false := by simp [h5]
      have HPk : Hid (Calls Tryz.prog 14 #[.pointer (some ⟨R, 0, none⟩), .int .i64 6] w4 (PickPost w4 R ao L cap p' 6)) := pick_any w4 R ao L cap p' 6 HD4.out (by omega) (by omega) (by omega)
      go_wp2_with fail
      refine HPk.out.mono ?_
      rintro e U ⟨y, rfl, hy, hn6, hD6, -⟩
      have HE := wd_end (d := 2 * d + 3) (q := 700 * (1 + sm)) HD0.out HW.out HG4.out hn6 hD6 (by omega) HWf.out (by simp) (by rw [HKL.out]; omega) HDep.out
      have HE' : Hid _ := HE.2
      have hzU := HE.1.2.2
      have hzr1 := HE.1.2.1
      have hzr2 := (Below.heap_alloc U (.cells #[.int .i64 so, .slice none 0 0, .slice a i c] 26) (w.heap.size + 1) (by omega)).trans hzr1
      have t0 := zeroD_W HE.1.1 0 _ rfl
      have t1 := zeroD_W HE.1.1 1 _ rfl
      have t2 := zeroD_W HE.1.1 2 _ rfl
      clear HE HPk hn6 hD6 HG4 HD4 HDep HNms z0 HB4 h5 h5b
      by_cases hy0 : y = 0
      · subst hy0
        obtain ⟨⟨r0, r1, r2⟩, g0, g1, g2⟩ := zeroD_cells hzr2
        clear hzr1 hzr2
        go_wp2_with fail
        refine bodyPost_ret (v := .agg #[.int .i64 6, .slice none 0 0, .slice (some ⟨U.heap.size, 0, none⟩) 1 1]) (by simp [results, Tryz.results18, go_sem, r0, r1, r2]) rfl ?_
        exact HE'.out.2
      · have hyb : ((y : Int) == 0) = false := by simp; omega
        obtain ⟨⟨r0, r1, r2⟩, g0, g1, g2⟩ := zeroD_cells hzr1
        clear hy0 hzr1 hzr2
        go_wp2_with fail
        refine bodyPost_ret (v := .agg #[.int .i64 so, .slice none 0 0, .slice a i c]) (by simp [results, Tryz.results18, go_sem, r0, r1, r2]) rfl ?_
        exact HE'.out.1
    case pos =>
      subst h5
      obtain rfl : i = nl := (hnk rfl).symm
      have x2 : w4.cell? ⟨X, 2, none⟩ = some (.slice a i c) := zeroD_W HG4.out.box 2 _ rfl
      have xf : w4.frozen? ⟨X, 2, none⟩ = false := by simp [World.frozen?, HG4.out.box]
      have hX4 := HG4.out.lt
      have x2' : (w4.alloc (.cells #[] 26)).cell? ⟨X, 2, none⟩ = some (.slice a i c) := (World.cell?_of_block (Below.heap_alloc _ _ _ hX4)).trans x2
      have xf' : (w4.alloc (.cells #[] 26)).frozen? ⟨X, 2, none⟩ = false := (World.frozen?_of_block (Below.heap_alloc _ _ _ hX4)).trans xf
      obtain ⟨W5, hW5⟩ : ∃ W5, W5 = (w4.setCell ⟨X, 2, none⟩ (.slice (some ⟨w4.heap.size, 0, none⟩) 0 0)).alloc (.cells #[] 26) := ⟨_, rfl⟩
      have hz5 : W5.heap.size = w4.heap.size + 1 := by rw [hW5]; simp
      have hblk5 : ∀ b, b < w4.heap.size → b ≠ X → W5.heap[b]? = w4.heap[b]? := fun b hb hne => by
        rw [hW5, Below.heap_alloc _ _ _ (by simpa using hb), Below.heap_setCell _ _ _ _ hne]
      have hown : ∀ b, (Value.slice (some ⟨w4.heap.size, 0, none⟩) 0 0).ownBlock = some b → w4.heap.size = b := fun b hb => by simpa [Value.ownBlock] using hb
      have HOld : Hid (Old W3.heap.size w4 W5 (.slice none 0 0) (.slice (some ⟨w4.heap.size, 0, none⟩) 0 0)) :=
        ⟨fun b (hb : none = some b) => (by cases hb), fun b hb => Nat.le_of_eq (hown b hb), by omega, fun b h1 h2 => hblk5 b h2 (by omega)⟩
      have HG5 : Hid (GrowK R X m W3 W5 5 [] [] (.slice none 0 0) (.slice (some ⟨w4.heap.size, 0, none⟩) 0 0)) := by
        refine ⟨⟨?_, ?_, ?_, by have := HG4.out.near.size; omega, fun b hb h1 h2 => (hblk5 b (by have := HG4.out.near.size; omega) h2).trans (HG4.out.near.block b hb h1 h2)⟩, ?_, World.ownsRow_nil _ _ _ _, fun _ h => (by cases h), ⟨[], ?_, fun j h => absurd h (Nat.not_lt_zero _)⟩, fun b (hb : none = some b) => by cases hb⟩
        · rw [hW5]; exact HG4.out.near.os
        · rw [hW5]; exact HG4.out.near.tape
        · rw [hW5]; exact HG4.out.near.output
        · rw [hW5, Below.heap_alloc _ _ _ (by simpa using hX4)]
          simp [World.setCell, Array.getElem?_modify, HG4.out.box]
        · rw [hW5]
          have := World.ownsRow_made (base := W3.heap.size) (e := 26) (size := 3) (w4.setCell ⟨X, 2, none⟩ (.slice (some ⟨w4.heap.size, 0, none⟩) 0 0)) #[] 0 (by have := HG4.out.near.size; simp; omega) (by simp) rfl
          simpa using this
      have HD5 : Hid (Dr W5 R ao L cap p') := HD0.out.keep (HG5.out.near.out HW.out.near (by omega)) ((hblk5 R (by have := HG4.out.near.size; omega) (by omega)).trans HD4.out.box)
      have HRow : Hid (∀ j (hj : j < i), ∃ g1 c0 c1 c2 x, a = some ⟨g1, 0, none⟩ ∧ W3.heap.size ≤ g1 ∧ g1 < w4.heap.size ∧ w4.cell? ⟨g1, j * 3, none⟩ = some c0 ∧ w4.cell? ⟨g1, j * 3 + 1, none⟩ = some c1 ∧ w4.cell? ⟨g1, j * 3 + 2, none⟩ = some c2 ∧ KindIn (fun b => W3.heap.size ≤ b ∧ b < w4.heap.size) w4 m x c0 c1 c2 ∧ depK m x (2 * d + 3)) := fun j hj => by
        obtain ⟨xs, hxs, hkk⟩ := HG4.out.kids
        have hjk : j < ks.length := by rw [HKL.out]; exact hj
        obtain ⟨c0, c1, c2, ⟨e0, e1, e2⟩, hkin⟩ := hkk j hjk
        rcases hxs.2 with ⟨-, h0⟩ | ⟨g1, cap1, cur, hv, hb1, -⟩
        · omega
        · cases hv
          have hl := r1_lt hxs g1 rfl
          have hc : ∀ q x, xs[q]? = some x → w4.cell? ⟨g1, q, none⟩ = some x := fun q x hx => by
            have := hxs.cells (g := g1) rfl q x hx
            rw [Addr.add_lit] at this
            simpa using this
          exact ⟨g1, c0, c1, c2, ks[j], rfl, hl.1, hl.2, hc _ _ e0, hc _ _ e1, hc _ _ e2, hkin.keep (fun _ _ => rfl) (fun b hb => ⟨hb.1, hb.2.1⟩), HDep.out _ (List.getElem_mem hjk)⟩
      have HK4 : Hid (∀ b, b < W3.heap.size → b ≠ R → b ≠ X → w4.heap[b]? = W3.heap[b]?) := HG4.out.near.block
      have hs4 := HG4.out.near.size
      clear hblk5 hown HG4 HD4 HDep HKL hge
      go_wp2_with fail
      rw [← hW5]
      clear hW5 x2 xf x2' xf' z0
      have HNms : Hid (∀ j, j < 8 → ∃ s : ByteArray, s.size ≤ 100 ∧ w4.cell? ⟨wr.heap.size, j, none⟩ = some (.string s)) := HNms.out
      generalize hN0 : wr.heap.size = N0 at *
      clear hN0 HB4
      go_loopw [9, 10] (fun jv iv wr => ∃ (i2 j ln p2 : Nat) (ns : List ByteArray) (ks : List (K m)) (na2 : Option Addr) (nc2 : Nat) (ka2 : Option Addr) (kc2 : Nat), i2 ≤ 8 ∧ iv = .int .i64 i2 ∧ j ≤ i ∧ jv = .int .i64 j ∧ ln ≤ i2 ∧ ns.length = ln ∧ ks.length = ln ∧ GrowK R X m W3 wr 5 ns ks (.slice na2 ln nc2) (.slice ka2 ln kc2) ∧ Old W3.heap.size w4 wr (.slice na2 ln nc2) (.slice ka2 ln kc2) ∧ Dr wr R ao L cap p2 ∧ p2 ≤ p' + i2 * 82 ∧ ∀ x, x ∈ ks → depK m x (2 * d + 3)) (fun _ iv _ => 8 - (intOf iv).toNat)
      case atStart => exact ⟨0, 0, 0, p', [], [], none, 0, some ⟨w4.heap.size, 0, none⟩, 0, by omega, rfl, by omega, rfl, by omega, rfl, rfl, HG5.out, HOld.out, HD5.out, by omega, fun x hx => by cases hx⟩
      case round =>
        obtain ⟨i2, j, ln, p2, ns, ks2, na2, nc2, ka2, kc2, hi8, rfl, hj, rfl, hln, hnl2, hkl2, hG, hO, hD, hp2, hdep⟩ := hrel
        have HL : Hid (ns.length = ln ∧ ks2.length = ln) := ⟨hnl2, hkl2⟩
        have HG : Hid (GrowK R X m W3 wr 5 ns ks2 (.slice na2 ln nc2) (.slice ka2 ln kc2)) := hG
        have HO : Hid (Old W3.heap.size w4 wr (.slice na2 ln nc2) (.slice ka2 ln kc2)) := hO
        have HDr : Hid (Dr wr R ao L cap p2) := hD
        have HDep : Hid (∀ x, x ∈ ks2 → depK m x (2 * d + 3)) := hdep
        have hzr := hG.near.size
        have hzo := hO.size
        have hXr := hG.lt
        clear hG hO hD hdep hnl2 hkl2 HG5 HOld HD5
        by_cases h8 : i2 < 8
        case neg =>
          have h8i : ¬ (i2 : Int) < 8 := by omega
          have HPk : Hid (Calls Tryz.prog 14 #[.pointer (some ⟨R, 0, none⟩), .int .i64 6] wr (PickPost wr R ao L cap p2 6)) := pick_any wr R ao L cap p2 6 HDr.out (by omega) (by omega) (by omega)
          go_wp2_with fail
          refine HPk.out.mono ?_
          rintro e U ⟨y, rfl, hy, hn6, hD6, -⟩
          have HE := wd_end (d := 2 * d + 3) (q := 700 * (1 + sm)) HD0.out HW.out HG.out hn6 hD6 (by omega) HWf.out (by rw [HL.out.1]; omega) (by rw [HL.out.2]; omega) HDep.out
          have HE' : Hid _ := HE.2
          have hzU := HE.1.2.2
          have hzr1 := HE.1.2.1
          have hzr2 := (Below.heap_alloc U (.cells #[.int .i64 5, .slice na2 ln nc2, .slice ka2 ln kc2] 26) (w.heap.size + 1) (by omega)).trans hzr1
          have t0 := zeroD_W HE.1.1 0 _ rfl
          have t1 := zeroD_W HE.1.1 1 _ rfl
          have t2 := zeroD_W HE.1.1 2 _ rfl
          clear HE HPk hn6 hD6 HG HO HDr HDep HRow HNms
          by_cases hy0 : y = 0
          · subst hy0
            obtain ⟨⟨r0, r1, r2⟩, g0, g1, g2⟩ := zeroD_cells hzr2
            clear hzr1 hzr2
            go_wp2_with fail
            refine bodyPost_ret (v := .agg #[.int .i64 6, .slice none 0 0, .slice (some ⟨U.heap.size, 0, none⟩) 1 1]) (by simp [results, Tryz.results18, go_sem, r0, r1, r2]) rfl ?_
            exact HE'.out.2
          · have hyb : ((y : Int) == 0) = false := by simp; omega
            obtain ⟨⟨r0, r1, r2⟩, g0, g1, g2⟩ := zeroD_cells hzr1
            clear hy0 hzr1 hzr2
            go_wp2_with fail
            refine bodyPost_ret (v := .agg #[.int .i64 5, .slice na2 ln nc2, .slice ka2 ln kc2]) (by simp [results, Tryz.results18, go_sem, r0, r1, r2]) rfl ?_
            exact HE'.out.1
        have h8i : (i2 : Int) < 8 := by omega
        obtain ⟨nm, hnm, hcn⟩ := HNms.out i2 h8
        have hcn' : wr.cell? ⟨N0, i2, none⟩ = some (.string nm) := (World.cell?_of_block (a := ⟨N0, i2, none⟩) (HO.out.block N0 (by omega) (by omega))).trans hcn
        have hkb : wr.heap[w.heap.size]? = some (.cells #[.int .i64 5, .slice na i nc, .slice ka i kc] 26 (0, 0)) := (HG.out.near.block _ (by omega) (by omega) (by omega)).trans HW.out.kbox
        have y1 : wr.cell? ⟨w.heap.size, 1, none⟩ = some (.slice na i nc) := zeroD_W hkb 1 _ rfl
        have x1 : wr.cell? ⟨X, 1, none⟩ = some (.slice na2 ln nc2) := zeroD_W HG.out.box 1 _ rfl
        clear hkb
        have HCn : Hid (w4.cell? ⟨N0, i2, none⟩ = some (.string nm)) := hcn
        clear hcn
        by_cases hA : ∃ h : j < i, (Kd.names k)[j]'(by omega) = nm
        case pos =>
          obtain ⟨hji, hnmj⟩ := hA
          have hjd : (j : Int) < (i : Int) := by omega
          obtain ⟨nb, noff, hna, hSn, f1⟩ := HNr.out j (by omega)
          have hSn' := HSS.out nb hSn
          have q1 : wr.cell? ⟨nb, noff + j, none⟩ = some (.string nm) := ((World.cell?_of_block (a := ⟨nb, noff + j, none⟩) ((HG.out.near.block nb (by omega) hSn'.2 (by omega)).trans (HW.out.same nb hSn))).trans f1).trans (by rw [hnmj])
          have heq : (nm.toList == nm.toList) = true := by simp
          clear f1 hnmj
          subst hna
          go_upto_region 14 with fail
          go_quiet (fail)
          go_upto_region 15 with fail
          obtain ⟨U, hU⟩ : ∃ U, U = wr.drewN nq := ⟨_, rfl⟩
          have HGU : Hid (GrowK R X m W3 U 5 ns ks2 (.slice na2 ln nc2) (.slice ka2 ln kc2)) := by rw [hU]; exact HG.out.keep (by omega) (by omega) ((Near.refl R wr).drewN nq)
          have HOU : Hid (Old W3.heap.size w4 U (.slice na2 ln nc2) (.slice ka2 ln kc2)) := by rw [hU]; exact HO.out.near (R := R) (by omega) ((Near.refl R wr).drewN nq)
          have HDU : Hid (Dr U R ao L cap p2) := by rw [hU]; exact HDr.out.drewN nq
          rw [← hU]
          clear hU q1 heq x1 y1 hcn' HG HO HDr
          · have hzU := HGU.out.near.size
            have hXU := HGU.out.lt
            have hoU := HOU.out.size
            have x1 : U.cell? ⟨X, 1, none⟩ = some (.slice na2 ln nc2) := zeroD_W HGU.out.box 1 _ rfl
            have hcnU : U.cell? ⟨N0, i2, none⟩ = some (.string nm) := (World.cell?_of_block (a := ⟨N0, i2, none⟩) (HOU.out.block N0 (by omega) (by omega))).trans HCn.out
            have HO4 : Hid (U.ownsRow W3.heap.size 9 1 (.slice na2 ln nc2) ln (ns.map .string)) := by
              have := HGU.out.names
              rw [HL.out.1] at this; exact this
            have hoxN : ∀ o, (U.drew.alloc o).ownsRow W3.heap.size 9 1 (.slice na2 ln nc2) ln (ns.map .string) := fun o => HO4.out.drew.alloc o
            obtain ⟨is0, hi0, hy0, hy1, hyb⟩ := info_parts Tryz.info_strD
            have HIS : Hid (_ ∧ _ ∧ _ ∧ _) := ⟨hi0, hy0, hy1, hyb⟩
            clear hi0 hy0 hy1 hyb
            go_cut [9, 10] from 41 to 104 (fun jv iv wx => jv = .int .i64 j ∧ iv = .int .i64 i2 ∧ ∃ g cap', GrowK R X m W3 wx 5 (ns ++ [nm]) ks2 (.slice (some ⟨g, 0, none⟩) (ln + 1) cap') (.slice ka2 ln kc2) ∧ Old W3.heap.size w4 wx (.slice (some ⟨g, 0, none⟩) (ln + 1) cap') (.slice ka2 ln kc2) ∧ Dr wx R ao L cap p2)
            case first =>
              go_region_law (first
                | (refine step_append_lies _ (by rfl) (.tmp 65) (.tmp 70) 23 (by rfl) W3.heap.size 9 is0 _ 1 16 Tryz.underlying23 HIS.out.1 HIS.out.2.1 HIS.out.2.2.1 HIS.out.2.2.2 rfl (by decide) (.slice na2 ln nc2) ln (ns.map .string) (by rfl) (hoxN _) ⟨U.heap.size, 0, none⟩ 1 1 [.string nm] (by rfl) rfl (World.news_of_block (heap_alloc_new U.drew _)) (by simp [Value.oneCell']) (by decide) (by unfold maxLen; omega) (by omega) (by simp; omega) (U.heap.size + 1) (by simp) ?_; intro g cap' w5 hown hgrow hat hlt5; have hb5 := ((hgrow.block X (by simp; omega) (fun e => by have := r1_lt HO4.out _ e.symm; omega)).trans (Below.heap_alloc _ _ _ (by simpa using hXU))).trans HGU.out.box; have x1'' : w5.cell? ⟨X, 1, none⟩ = some (.slice na2 ln nc2) := (by simp [World.cell?, hb5]); have xf'' : w5.frozen? ⟨X, 1, none⟩ = false := (by simp [World.frozen?, hb5])))
              all_goals
                have hM := GrowK.name (W := U.drew) (Wa := U.drew.alloc (.cells #[.string nm] 9)) (one := .cells #[.string nm] 9) (x := nm) (g := g) (cap := cap') (HGU.out.keep (by omega) (by omega) ((Near.refl R U).drew)) (by omega) rfl ⟨rfl, rfl, rfl⟩ (by omega) (by rw [HL.out.1]; exact hown) hgrow hat
                have hO5 := Old.name (W := U.drew) (X := X) (ln := ln + 1) (cap := cap') (HOU.out.near (R := R) (by omega) ((Near.refl R U).drew)) (by omega) (one := .cells #[.string nm] 9) rfl hgrow hat
                rw [HL.out.1] at hM
                have HM : Hid (GrowK R X m W3 (w5.setCell ⟨X, 1, none⟩ (.slice (some ⟨g, 0, none⟩) (ln + 1) cap')) 5 (ns ++ [nm]) ks2 (.slice (some ⟨g, 0, none⟩) (ln + 1) cap') (.slice ka2 ln kc2)) := hM
                have HO5 : Hid (Old W3.heap.size w4 (w5.setCell ⟨X, 1, none⟩ (.slice (some ⟨g, 0, none⟩) (ln + 1) cap')) (.slice (some ⟨g, 0, none⟩) (ln + 1) cap') (.slice ka2 ln kc2)) := hO5
                have HDn : Hid (Dr (w5.setCell ⟨X, 1, none⟩ (.slice (some ⟨g, 0, none⟩) (ln + 1) cap')) R ao L cap p2) := by
                  refine HD0.out.keep (hM.near.out HW.out.near (by omega)) ?_
                  rw [Below.heap_setCell _ _ _ _ (by show R ≠ X; omega), blk_afterG (b := R) (W := U.drew) (w2 := U.drew) (o := .cells #[.string nm] 9) HO4.out.drew (by simp; omega) (by omega) hgrow]
                  exact HDU.out.box
                clear hM hO5 hown hgrow hat hlt5 hb5 x1'' xf'' x1 hcnU
                go_wp2_with fail
                go_meet
                exact ⟨rfl, rfl, _, _, HM.out, HO5.out, HDn.out⟩
            case rest =>
              obtain ⟨rfl, rfl, g, cap', hM, hO5, hDc⟩ := hcut
              have hXc := hM.lt
              have hzc := hM.near.size
              have hoc := hO5.size
              have x2 : wc.cell? ⟨X, 2, none⟩ = some (.slice ka2 ln kc2) := zeroD_W hM.box 2 _ rfl
              obtain ⟨xs, hxs, hkk⟩ := hM.kids
              have HKK : Hid (∀ q (h : q < ks2.length), _) := hkk
              have HX : Hid (wc.ownsRow W3.heap.size 26 3 (.slice ka2 ln kc2) ln xs) := by
                rw [HL.out.2] at hxs; exact hxs
              have HM : Hid (GrowK R X m W3 wc 5 (ns ++ [nm]) ks2 (.slice (some ⟨g, 0, none⟩) (ln + 1) cap') (.slice ka2 ln kc2)) := hM
              have HO5 : Hid (Old W3.heap.size w4 wc (.slice (some ⟨g, 0, none⟩) (ln + 1) cap') (.slice ka2 ln kc2)) := hO5
              have HDc : Hid (Dr wc R ao L cap p2) := hDc
              obtain ⟨g1, b0, b1, b2, xk, ha, hg1, hg2, e0, e1, e2, hxk, hdx⟩ := HRow.out j hji
              obtain ⟨y0, ya, yl, yc, za, zl, zc, rfl, rfl, rfl⟩ := hxk.shape
              have hbl := hO5.block g1 hg1 hg2
              have q0 : wc.cell? ⟨g1, j * 3, none⟩ = some (.int .i64 y0) := (World.cell?_of_block (a := ⟨g1, j * 3, none⟩) hbl).trans e0
              have q1 : wc.cell? ⟨g1, j * 3 + 1, none⟩ = some (.slice ya yl yc) := (World.cell?_of_block (a := ⟨g1, j * 3 + 1, none⟩) hbl).trans e1
              have q2 : wc.cell? ⟨g1, j * 3 + 2, none⟩ = some (.slice za zl zc) := (World.cell?_of_block (a := ⟨g1, j * 3 + 2, none⟩) hbl).trans e2
              have HKin : Hid (KindIn (Fr W3.heap.size (.slice (some ⟨g, 0, none⟩) (ln + 1) cap') (.slice ka2 ln kc2) wc.heap.size) wc.drew m xk (.int .i64 y0) (.slice ya yl yc) (.slice za zl zc)) :=
                KindIn.keep (w := w4) (w' := wc.drew) (fun b hb => hO5.block b hb.1 hb.2) (fun b hb => ⟨hb.1, by omega, fun e => by have := hO5.lo1 b e; omega, fun e => by have := hO5.lo2 b e; omega⟩) hxk
              have HDx : Hid (depK m xk (2 * d + 3)) := hdx
              have hox : ∀ o, (wc.drew.alloc o).ownsRow W3.heap.size 26 3 (.slice ka2 ln kc2) ln xs := fun o => HX.out.drew.alloc o
              obtain ⟨ik0, hi0, hy0, hy1, hyb⟩ := info_parts Tryz.info_kindD
              have HIK : Hid (_ ∧ _ ∧ _ ∧ _) := ⟨hi0, hy0, hy1, hyb⟩
              have hjd : (j : Int) < (i : Int) := by omega
              clear hi0 hy0 hy1 hyb hxs hkk hM hO5 hDc e0 e1 e2 hxk hdx hbl
              subst ha
              go_wp2_with fail
              go_region_law (first
                | (refine step_append_lies _ (by rfl) (.tmp 74) (.tmp 79) 24 (by rfl) W3.heap.size 26 ik0 _ 3 56 Tryz.underlying24 HIK.out.1 HIK.out.2.1 HIK.out.2.2.1 HIK.out.2.2.2 rfl (by decide) (.slice ka2 ln kc2) ln xs (by rfl) (hox _) ⟨wc.heap.size, 0, none⟩ 1 1 [.int .i64 y0, .slice ya yl yc, .slice za zl zc] (by rfl) rfl (World.news_of_block (heap_alloc_new wc.drew _)) (by simp [Value.oneCell']) (by decide) (by unfold maxLen; omega) (by omega) (by simp; omega) (wc.heap.size + 1) (by simp) ?_; intro g2 cap2 v3 hown2 hgrow2 hat2 hlt2; have hb6 := ((hgrow2.block X (by simp; omega) (fun e => by have := r1_lt HX.out _ e.symm; omega)).trans (Below.heap_alloc _ _ _ (by simpa using hXc))).trans HM.out.box; have x2'' : v3.cell? ⟨X, 2, none⟩ = some (.slice ka2 ln kc2) := (by simp [World.cell?, hb6]); have xg'' : v3.frozen? ⟨X, 2, none⟩ = false := (by simp [World.frozen?, hb6])))
              all_goals
                have hF := GrowK.kidF (W := wc.drew) (W1 := wc.drew) (Wa := wc.drew.alloc (.cells #[.int .i64 y0, .slice ya yl yc, .slice za zl zc] 26)) (one := .cells #[.int .i64 y0, .slice ya yl yc, .slice za zl zc] 26) (g := g2) (cap := cap2) (xs := xs)
                  (HM.out.keep (by omega) (by omega) ((Near.refl R wc).drew)) (by omega) (by omega) (by omega) (Near.refl R _) HKin.out rfl ⟨rfl, rfl, rfl⟩ (by rw [HL.out.2]; exact HX.out.drew)
                  (fun q hq => by obtain ⟨a0, a1, a2, hd, hdt⟩ := HKK.out q hq; exact ⟨a0, a1, a2, hd, KindIn.keep (w := wc) (w' := wc.drew) (fun _ _ => rfl) (fun _ h => h) hdt⟩) (by rw [HL.out.2]; exact hown2) hgrow2 hat2
                have hO6 := Old.kid (W := wc.drew) (W1 := wc.drew) (X := X) (R := R) (ln := ln + 1) (cap := cap2) (HO5.out.near (R := R) (by omega) ((Near.refl R wc).drew)) (by omega) (by omega) (Near.refl R _) (one := .cells #[.int .i64 y0, .slice ya yl yc, .slice za zl zc] 26) rfl hgrow2 hat2
                rw [HL.out.2] at hF
                have HF : Hid (GrowK R X m W3 (v3.setCell ⟨X, 2, none⟩ (.slice (some ⟨g2, 0, none⟩) (ln + 1) cap2)) 5 (ns ++ [nm]) (ks2 ++ [xk]) (.slice (some ⟨g, 0, none⟩) (ln + 1) cap') (.slice (some ⟨g2, 0, none⟩) (ln + 1) cap2)) := hF
                have HO6 : Hid (Old W3.heap.size w4 (v3.setCell ⟨X, 2, none⟩ (.slice (some ⟨g2, 0, none⟩) (ln + 1) cap2)) (.slice (some ⟨g, 0, none⟩) (ln + 1) cap') (.slice (some ⟨g2, 0, none⟩) (ln + 1) cap2)) := hO6
                have HDn : Hid (Dr (v3.setCell ⟨X, 2, none⟩ (.slice (some ⟨g2, 0, none⟩) (ln + 1) cap2)) R ao L cap p2) := by
                  refine HD0.out.keep (hF.near.out HW.out.near (by omega)) ?_
                  rw [Below.heap_setCell _ _ _ _ (by show R ≠ X; omega), blk_afterG (b := R) (W := wc.drew) (w2 := wc.drew) (o := .cells #[.int .i64 y0, .slice ya yl yc, .slice za zl zc] 26) HX.out.drew (by simp; omega) (by omega) hgrow2]
                  exact HDc.out.box
                have HDep5 : Hid (∀ x, x ∈ ks2 ++ [xk] → depK m x (2 * d + 3)) := fun x hx => by
                  rcases List.mem_append.1 hx with h | h
                  · exact HDep.out x h
                  · rw [List.mem_singleton] at h; subst h; exact HDx.out
                clear hF hO6 hown2 hgrow2 hat2 hlt2 hox x2'' xg'' hb6 q0 q1 q2
                go_wp2_with fail
                go_roundw
                case rel => exact ⟨i2 + 1, j + 1, ln + 1, p2, ns ++ [nm], ks2 ++ [xk], some ⟨g, 0, none⟩, cap', some ⟨g2, 0, none⟩, cap2, by omega, by go_num, by omega, by go_num, by omega, by simp [HL.out.1], by simp [HL.out.2], HF.out, HO6.out, HDn.out, by omega, HDep5.out⟩
                case measure => simp [intOf]; omega

        case neg =>
          by_cases hji : j < i
          case' pos =>
            have hjd : (j : Int) < (i : Int) := by omega
            obtain ⟨nb, noff, hna, hSn, f1⟩ := HNr.out j (by omega)
            have hSn' := HSS.out nb hSn
            have q1 : wr.cell? ⟨nb, noff + j, none⟩ = some (.string ((Kd.names k)[j]'(by omega))) := (World.cell?_of_block (a := ⟨nb, noff + j, none⟩) ((HG.out.near.block nb (by omega) hSn'.2 (by omega)).trans (HW.out.same nb hSn))).trans f1
            have heq : (((Kd.names k)[j]'(by omega)).toList == nm.toList) = false := by
              rw [str_beq]
              simp only [decide_eq_false_iff_not]
              exact fun e => hA ⟨hji, e⟩
            clear f1 hA
            subst hna
            generalize ((Kd.names k)[j]'(by omega)) = s1 at *
            go_upto_region 14 with fail
            go_quiet (fail)
            clear q1 heq hjd
          case' neg =>
            have hjd : ¬ (j : Int) < (i : Int) := by omega
            clear hA
            go_upto_region 14 with fail
            go_quiet (fail)
            clear hjd
          all_goals
            go_upto_region 18 with fail
            obtain ⟨V, hV⟩ : ∃ V, V = wr.drewN nq := ⟨_, rfl⟩
            have HGV : Hid (GrowK R X m W3 V 5 ns ks2 (.slice na2 ln nc2) (.slice ka2 ln kc2)) := by rw [hV]; exact HG.out.keep (by omega) (by omega) ((Near.refl R wr).drewN nq)
            have HOV : Hid (Old W3.heap.size w4 V (.slice na2 ln nc2) (.slice ka2 ln kc2)) := by rw [hV]; exact HO.out.near (R := R) (by omega) ((Near.refl R wr).drewN nq)
            have HDV : Hid (Dr V R ao L cap p2) := by rw [hV]; exact HDr.out.drewN nq
            rw [← hV]
            clear hV x1 y1 hcn' HG HO HDr
            have HPk : Hid (Calls Tryz.prog 14 #[.pointer (some ⟨R, 0, none⟩), .int .i64 9] V (PickPost V R ao L cap p2 9)) := pick_any V R ao L cap p2 9 HDV.out (by omega) (by omega) (by omega)
            go_wp2_with fail
            refine HPk.out.mono ?_
            rintro e U ⟨y, rfl, hy, hn6, hD6, -⟩
            have HGU : Hid (GrowK R X m W3 U 5 ns ks2 (.slice na2 ln nc2) (.slice ka2 ln kc2)) := HGV.out.keep (by omega) (by omega) hn6
            have HOU : Hid (Old W3.heap.size w4 U (.slice na2 ln nc2) (.slice ka2 ln kc2)) := HOV.out.near (R := R) (by omega) hn6
            have HDU : Hid (Dr U R ao L cap (p2 + 1)) := hD6
            clear HPk HGV HOV HDV hn6 hD6
            by_cases hy0 : y = 0
            case neg =>
              have hyb : ((y : Int) == 0) = false := by simp; omega
              clear hy0
              go_wp2_with fail
              go_roundw
              case rel => exact ⟨i2 + 1, j, ln, p2 + 1, ns, ks2, na2, nc2, ka2, kc2, by omega, by go_num, by omega, rfl, by omega, HL.out.1, HL.out.2, HGU.out, HOU.out, HDU.out, by omega, HDep.out⟩
              case measure => simp [intOf]; omega
            subst hy0
            clear hy
            go_upto_region 19 with fail
            have hzU := HGU.out.near.size
            have hXU := HGU.out.lt
            have hoU := HOU.out.size
            have x1 : U.cell? ⟨X, 1, none⟩ = some (.slice na2 ln nc2) := zeroD_W HGU.out.box 1 _ rfl
            have hcnU : U.cell? ⟨N0, i2, none⟩ = some (.string nm) := (World.cell?_of_block (a := ⟨N0, i2, none⟩) (HOU.out.block N0 (by omega) (by omega))).trans HCn.out
            have HO4 : Hid (U.ownsRow W3.heap.size 9 1 (.slice na2 ln nc2) ln (ns.map .string)) := by
              have := HGU.out.names
              rw [HL.out.1] at this; exact this
            have hoxN : ∀ o, (U.drew.alloc o).ownsRow W3.heap.size 9 1 (.slice na2 ln nc2) ln (ns.map .string) := fun o => HO4.out.drew.alloc o
            obtain ⟨is0, hi0, hy0, hy1, hyb⟩ := info_parts Tryz.info_strD
            have HIS : Hid (_ ∧ _ ∧ _ ∧ _) := ⟨hi0, hy0, hy1, hyb⟩
            clear hi0 hy0 hy1 hyb
            go_cut [9, 10] from 41 to 104 (fun jv iv wx => jv = .int .i64 j ∧ iv = .int .i64 i2 ∧ ∃ g cap', GrowK R X m W3 wx 5 (ns ++ [nm]) ks2 (.slice (some ⟨g, 0, none⟩) (ln + 1) cap') (.slice ka2 ln kc2) ∧ Old W3.heap.size w4 wx (.slice (some ⟨g, 0, none⟩) (ln + 1) cap') (.slice ka2 ln kc2) ∧ Dr wx R ao L cap (p2 + 1))
            case first =>
              go_region_law (first
                | (refine step_append_lies _ (by rfl) (.tmp 88) (.tmp 93) 23 (by rfl) W3.heap.size 9 is0 _ 1 16 Tryz.underlying23 HIS.out.1 HIS.out.2.1 HIS.out.2.2.1 HIS.out.2.2.2 rfl (by decide) (.slice na2 ln nc2) ln (ns.map .string) (by rfl) (hoxN _) ⟨U.heap.size, 0, none⟩ 1 1 [.string nm] (by rfl) rfl (World.news_of_block (heap_alloc_new U.drew _)) (by simp [Value.oneCell']) (by decide) (by unfold maxLen; omega) (by omega) (by simp; omega) (U.heap.size + 1) (by simp) ?_; intro g cap' w5 hown hgrow hat hlt5; have hb5 := ((hgrow.block X (by simp; omega) (fun e => by have := r1_lt HO4.out _ e.symm; omega)).trans (Below.heap_alloc _ _ _ (by simpa using hXU))).trans HGU.out.box; have x1'' : w5.cell? ⟨X, 1, none⟩ = some (.slice na2 ln nc2) := (by simp [World.cell?, hb5]); have xf'' : w5.frozen? ⟨X, 1, none⟩ = false := (by simp [World.frozen?, hb5])))
              all_goals
                have hM := GrowK.name (W := U.drew) (Wa := U.drew.alloc (.cells #[.string nm] 9)) (one := .cells #[.string nm] 9) (x := nm) (g := g) (cap := cap') (HGU.out.keep (by omega) (by omega) ((Near.refl R U).drew)) (by omega) rfl ⟨rfl, rfl, rfl⟩ (by omega) (by rw [HL.out.1]; exact hown) hgrow hat
                have hO5 := Old.name (W := U.drew) (X := X) (ln := ln + 1) (cap := cap') (HOU.out.near (R := R) (by omega) ((Near.refl R U).drew)) (by omega) (one := .cells #[.string nm] 9) rfl hgrow hat
                rw [HL.out.1] at hM
                have HM : Hid (GrowK R X m W3 (w5.setCell ⟨X, 1, none⟩ (.slice (some ⟨g, 0, none⟩) (ln + 1) cap')) 5 (ns ++ [nm]) ks2 (.slice (some ⟨g, 0, none⟩) (ln + 1) cap') (.slice ka2 ln kc2)) := hM
                have HO5 : Hid (Old W3.heap.size w4 (w5.setCell ⟨X, 1, none⟩ (.slice (some ⟨g, 0, none⟩) (ln + 1) cap')) (.slice (some ⟨g, 0, none⟩) (ln + 1) cap') (.slice ka2 ln kc2)) := hO5
                have HDn : Hid (Dr (w5.setCell ⟨X, 1, none⟩ (.slice (some ⟨g, 0, none⟩) (ln + 1) cap')) R ao L cap (p2 + 1)) := by
                  refine HD0.out.keep (hM.near.out HW.out.near (by omega)) ?_
                  rw [Below.heap_setCell _ _ _ _ (by show R ≠ X; omega), blk_afterG (b := R) (W := U.drew) (w2 := U.drew) (o := .cells #[.string nm] 9) HO4.out.drew (by simp; omega) (by omega) hgrow]
                  exact HDU.out.box
                clear hM hO5 hown hgrow hat hlt5 hb5 x1'' xf'' x1 hcnU
                go_wp2_with fail
                go_meet
                exact ⟨rfl, rfl, _, _, HM.out, HO5.out, HDn.out⟩
            case rest =>
              obtain ⟨rfl, rfl, g, cap', hM, hO5, hDc⟩ := hcut
              have hXc := hM.lt
              have hzc := hM.near.size
              have hoc := hO5.size
              have x2 : wc.cell? ⟨X, 2, none⟩ = some (.slice ka2 ln kc2) := zeroD_W hM.box 2 _ rfl
              obtain ⟨xs, hxs, hkk⟩ := hM.kids
              have HKK : Hid (∀ q (h : q < ks2.length), _) := hkk
              have HX : Hid (wc.ownsRow W3.heap.size 26 3 (.slice ka2 ln kc2) ln xs) := by
                rw [HL.out.2] at hxs; exact hxs
              have HM : Hid (GrowK R X m W3 wc 5 (ns ++ [nm]) ks2 (.slice (some ⟨g, 0, none⟩) (ln + 1) cap') (.slice ka2 ln kc2)) := hM
              have HO5 : Hid (Old W3.heap.size w4 wc (.slice (some ⟨g, 0, none⟩) (ln + 1) cap') (.slice ka2 ln kc2)) := hO5
              obtain ⟨m1, rfl⟩ : ∃ m1, m = m1 + 1 := ⟨m - 1, by omega⟩
              have HC : Hid (Calls Tryz.prog 40 #[.pointer (some ⟨R, 0, none⟩), .int .i64 2, .bool false] wc.drew (DKPost m1 2 wc.drew R ao L cap (p2 + 1) 81)) := l5Kind_any 2 m1 R ao L cap (p2 + 1) false wc.drew (by omega) (by omega) (hDc.drewN 1) (by show _ + 81 ≤ _; omega)
              obtain ⟨ik0, hi0, hy0, hy1, hyb⟩ := info_parts Tryz.info_kindD
              have HIK : Hid (_ ∧ _ ∧ _ ∧ _) := ⟨hi0, hy0, hy1, hyb⟩
              clear hi0 hy0 hy1 hyb hxs hkk hM hO5 hDc
              go_wp2_with fail
              go_region_law (first
                | (refine step_append_lies _ (by rfl) (.tmp 97) (.tmp 102) 24 (by rfl) W3.heap.size 26 ik0 _ 3 56 Tryz.underlying24 HIK.out.1 HIK.out.2.1 HIK.out.2.2.1 HIK.out.2.2.2 rfl (by decide) (.slice ka2 ln kc2) ln xs (by rfl) (hox _) ⟨v2.heap.size + 1, 0, none⟩ 1 1 [.int .i64 6, .slice none 0 0, .slice (some ⟨v2.heap.size, 0, none⟩) 1 1] (by rfl) rfl (World.news_of_block (by have := heap_alloc_new (v2.alloc (.cells #[.int .i64 y0, .slice ya yl yc, .slice za zl zc] 26)) (.cells #[.int .i64 6, .slice none 0 0, .slice (some ⟨v2.heap.size, 0, none⟩) 1 1] 26); simpa using this)) (by simp [Value.oneCell']) (by decide) (by unfold maxLen; omega) (by omega) (by simp; omega) (v2.heap.size + 1 + 1) (by simp) ?_; intro g2 cap2 v3 hown2 hgrow2 hat2 hlt2; have hb6 := (((hgrow2.block X (by simp; omega) (fun e => by have := r1_lt HX.out _ e.symm; omega)).trans ((Below.heap_alloc _ _ _ (by simp; omega)).trans (Below.heap_alloc _ _ _ (by omega)))).trans (hn5.block X (by simpa using hXc) (by omega))).trans HM.out.box; have x2'' : v3.cell? ⟨X, 2, none⟩ = some (.slice ka2 ln kc2) := (by simp [World.cell?, hb6]); have xg'' : v3.frozen? ⟨X, 2, none⟩ = false := (by simp [World.frozen?, hb6]))
                | (go_simp; go_at_call 40; refine HC.out.mono ?_; rintro e v2 ⟨hn5, p5, k5, c0', c1', c2', hp5, hD5, rfl, hk5, hdk5⟩; obtain ⟨y0, ya, yl, yc, za, zl, zc, rfl, rfl, rfl⟩ := hk5.shape; have hsz2 : wc.heap.size ≤ v2.heap.size := hn5.size; have hnA : Near R wc.drew (v2.alloc (.cells #[.int .i64 y0, .slice ya yl yc, .slice za zl zc] 26)) := hn5.trans (Near.alloc _ _ _); have hox := fun o => owns_onG (R := R) (M := W3.heap.size) (W := wc.drew) HX.out.drew (by omega) hnA o; have x2' : v2.cell? ⟨X, 2, none⟩ = some (.slice ka2 ln kc2) := (World.cell?_of_block (hn5.block X (by simpa using hXc) (by omega))).trans x2; have x2a : (v2.alloc (.cells #[.int .i64 y0, .slice ya yl yc, .slice za zl zc] 26)).cell? ⟨X, 2, none⟩ = some (.slice ka2 ln kc2) := (World.cell?_of_block (Below.heap_alloc _ _ _ (by show X < _; omega))).trans x2'; have x2b : ((v2.alloc (.cells #[.int .i64 y0, .slice ya yl yc, .slice za zl zc] 26)).alloc (.cells #[.int .i64 6, .slice none 0 0, .slice (some ⟨v2.heap.size, 0, none⟩) 1 1] 26)).cell? ⟨X, 2, none⟩ = some (.slice ka2 ln kc2) := (World.cell?_of_block (Below.heap_alloc _ _ _ (by show X < _; simp; omega))).trans x2a))
              all_goals
                have hall := grow_maybe (W := wc.drew) (u := w4) (d := 2 * d + 3) (HM.out.keep (by omega) (by omega) ((Near.refl R wc).drew)) (HO5.out.near (R := R) (by omega) ((Near.refl R wc).drew)) HL.out.2 (by omega) (by omega) (by omega) hn5 hk5 hdk5 hD5 HX.out.drew
                  (fun q hq => by obtain ⟨a0, a1, a2, hd, hdt⟩ := HKK.out q hq; exact ⟨a0, a1, a2, hd, KindIn.keep (w := wc) (w' := wc.drew) (fun _ _ => rfl) (fun _ h => h) hdt⟩) hown2 hgrow2 hat2 HDep.out (by omega) HD0.out HW.out.near (by omega) hR
                obtain ⟨t9, hF, hO6, hDn, hd9⟩ := hall
                have HF : Hid (_ ∧ _ ∧ _ ∧ _) := ⟨hF, hO6, hDn, hd9⟩
                clear hF hO6 hDn hd9 hown2 hgrow2 hat2 hlt2 hox x2'' xg'' hb6 x2' x2a x2b hk5 hdk5 hD5 hn5 hnA
                go_wp2_with fail
                go_roundw
                case rel => exact ⟨i2 + 1, j, ln + 1, p5, ns ++ [nm], ks2 ++ [t9], some ⟨g, 0, none⟩, cap', some ⟨g2, 0, none⟩, cap2, by omega, by go_num, by omega, rfl, by omega, by simp [HL.out.1], by simp [HL.out.2], HF.out.1, HF.out.2.1, HF.out.2.2.1, by omega, HF.out.2.2.2⟩
                case measure => simp [intOf]; omega

theorem wider_any : ∀ d, WiderSaid d := by
  intro d
  induction d with
  | zero =>
    intro n m R ao L cap p S k g c0 c1 c2 w hm hdk
    cases n with
    | zero => exact hdk.elim
    | succ n => exact absurd hdk.1 (by omega)
  | succ d ih => exact wider_step d ih

end Go.Proofs.YtamkblgldlkooaaGreatDoor

/-
  What the specification draws: l5Full.
-/
namespace Go.Proofs.YtamkblgldlkooaaGreatDoor
open Go.RowKit

theorem five_cells {w : World} {N : Nat} {a b c d e : Value} (h : w.heap[N]? = some (.cells #[a, b, c, d, e] 29 (0, 0))) :
    (w.cell? ⟨N, 0, none⟩ = some a ∧ w.cell? ⟨N, 1, none⟩ = some b ∧ w.cell? ⟨N, 2, none⟩ = some c ∧ w.cell? ⟨N, 3, none⟩ = some d ∧ w.cell? ⟨N, 4, none⟩ = some e) ∧
      w.frozen? ⟨N, 0, none⟩ = false ∧ w.frozen? ⟨N, 1, none⟩ = false ∧ w.frozen? ⟨N, 2, none⟩ = false ∧ w.frozen? ⟨N, 3, none⟩ = false ∧ w.frozen? ⟨N, 4, none⟩ = false := by
  refine ⟨⟨?_, ?_, ?_, ?_, ?_⟩, ?_, ?_, ?_, ?_, ?_⟩ <;> simp [World.cell?, World.frozen?, h]

end Go.Proofs.YtamkblgldlkooaaGreatDoor

/-
  What the specification draws: l5Spoil.
-/
namespace Go.Proofs.YtamkblgldlkooaaGreatDoor
open Go.RowKit

/-- What survives while a tree is spoilt. -/
structure SpB (S : Nat → Prop) (w : World) (R : Nat) (ao : Option Addr) (L cap : Nat) (b0 b1 b2 b3 b4 : Value) (p : Nat) (u : World) : Prop where
  near : Near R w u
  sz : w.heap.size + 2 ≤ u.heap.size
  box : u.heap[w.heap.size]? = some (.cells #[b0, b1, b2, b3, b4] 29 (0, 0))
  zero : u.heap[w.heap.size + 1]? = some (.cells #[.int .i64 0, .int .i64 0, .string ⟨#[]⟩, .slice none 0 0, .slice none 0 0] 29 (0, 0))
  same : Same S w u
  dr : Dr u R ao L cap p

theorem SpB.next {S : Nat → Prop} {w : World} {R : Nat} {ao : Option Addr} {L cap : Nat} {b0 b1 b2 b3 b4 : Value} {p p' : Nat} {u u' : World} (h : SpB S w R ao L cap b0 b1 b2 b3 b4 p u) (h0 : Dr w R ao L cap p') (hS : ∀ b, S b → b < w.heap.size ∧ b ≠ R) (ho : u'.os = u.os ∧ u'.tape = u.tape ∧ u'.output = u.output) (hz : u.heap.size ≤ u'.heap.size)
    (hb : ∀ b, b < u.heap.size → b ≠ R → u'.heap[b]? = u.heap[b]?) {q : Nat} (hd : u'.heap[R]? = some (.cells #[.slice ao L cap, .int .i64 (q : Int)] 90 (0, 0))) : SpB S w R ao L cap b0 b1 b2 b3 b4 q u' := by
  have hR := h0.lt
  have h2 := h.sz
  have hn : Near R w u' := ⟨ho.1.trans h.near.os, ho.2.1.trans h.near.tape, ho.2.2.trans h.near.output, by omega, fun b h1 hne => (hb b (by omega) hne).trans (h.near.block b h1 hne)⟩
  exact ⟨hn, by omega, (hb _ (by omega) (by omega)).trans h.box, (hb _ (by omega) (by omega)).trans h.zero, fun b hb' => (hb b (by have := (hS b hb').1; omega) (hS b hb').2).trans (h.same b hb'), h0.keep hn hd⟩

theorem SpB.keep {S : Nat → Prop} {w : World} {R : Nat} {ao : Option Addr} {L cap : Nat} {b0 b1 b2 b3 b4 : Value} {p p' q : Nat} {u u' : World} (h : SpB S w R ao L cap b0 b1 b2 b3 b4 p u) (h0 : Dr w R ao L cap p') (hS : ∀ b, S b → b < w.heap.size ∧ b ≠ R) (hn : Near R u u') (hd : Dr u' R ao L cap q) : SpB S w R ao L cap b0 b1 b2 b3 b4 q u' :=
  h.next h0 hS ⟨hn.os, hn.tape, hn.output⟩ hn.size hn.block hd.box

theorem SpB.set3 {S : Nat → Prop} {w : World} {R : Nat} {ao : Option Addr} {L cap : Nat} {b0 b1 b2 b3 b4 : Value} {p p' : Nat} {u : World} (h : SpB S w R ao L cap b0 b1 b2 b3 b4 p u) (h0 : Dr w R ao L cap p') (hS : ∀ b, S b → b < w.heap.size ∧ b ≠ R) (x : Value) : SpB S w R ao L cap b0 b1 b2 x b4 p (u.setCell ⟨w.heap.size, 3, none⟩ x) := by
  have hR := h0.lt
  have q : ∀ b, b ≠ w.heap.size → (u.setCell ⟨w.heap.size, 3, none⟩ x).heap[b]? = u.heap[b]? := fun b hb => Below.heap_setCell _ _ _ _ hb
  have hn : Near R w (u.setCell ⟨w.heap.size, 3, none⟩ x) := ⟨h.near.os, h.near.tape, h.near.output, by simpa using h.near.size, fun b h1 hne => (q b (by omega)).trans (h.near.block b h1 hne)⟩
  exact ⟨hn, by simpa using h.sz, by simp [World.setCell, Array.getElem?_modify, h.box], (q _ (by omega)).trans h.zero, fun b hb' => (q b (by have := (hS b hb').1; omega)).trans (h.same b hb'), h0.keep hn ((q R (by omega)).trans h.dr.box)⟩

theorem set_below (W : World) (X o : Nat) (x : Value) : Below X W (W.setCell ⟨X, o, none⟩ x) := by
  refine (Below.refl X W).setCell ?_ x
  exact Nat.le_refl X

def numT (m : Nat) : T (m + 1) := (⟨1, 0, ByteArray.empty, [], []⟩ : Nd (T m))

theorem numT_in (S : Nat → Prop) (w : World) (m : Nat) : TreeIn S w (m + 1) (numT m) (.int .i64 1) (.int .i64 0) (.string ⟨#[]⟩) (.slice none 0 0) (.slice none 0 0) := leafDT_in S w m 1 0 ByteArray.empty (by rfl) (by rfl) (by simp)

set_option maxRecDepth 20000 in
set_option maxHeartbeats 16000000 in
theorem spoilT_step (d : Nat) (hn : SpoilTSaid d) : SpoilTSaid (d + 1) := by
  intro m R ao L cap p S t c0 c1 c2 c3 c4 w hm hdt ht hS h hp
  obtain ⟨m, rfl⟩ : ∃ m', m = m' + 1 := ⟨m - 1, by omega⟩
  obtain ⟨-, hnl, hns, hkl, hdks⟩ := hdt
  obtain ⟨rfl, rfl, rfl, htx, hwf, hwn, h3, h4⟩ := ht
  obtain ⟨na, nc, rfl, -⟩ := id h3
  obtain ⟨ka, kc, rfl, -, -⟩ := id h4
  generalize hs : Nd.sort t = s at *
  generalize hs1 : Nd.num t = nu at *
  generalize hs2 : Nd.text t = tx at *
  clear hs hs1 hs2
  have hR := h.lt
  have HD0 : Hid (Dr w R ao L cap p) := h
  have HNm : Hid (StrsIn S w (Nd.names t) (.slice na (Nd.names t).length nc)) := h3
  have HKd : Hid (RowIn S w (TreeIn S w m) (Nd.kids t) (.slice ka (Nd.kids t).length kc)) := h4
  have HNs : Hid (∀ x, x ∈ Nd.names t → x.size ≤ 10000) := hns
  have HDk : Hid (∀ x, x ∈ Nd.kids t → depT m x d) := fun x hx => by simpa using hdks x hx
  have HN : Hid (SpoilTSaid d) := hn
  have HSS : Hid (∀ b, S b → b < w.heap.size ∧ b ≠ R) := hS
  have HSL : Hid (∀ b, S b → b < w.heap.size) := fun b hb => (hS b hb).1
  obtain ⟨W2, hW2⟩ : ∃ W2, W2 = (w.alloc (.cells #[.int .i64 s, .int .i64 nu, .string tx, .slice na (Nd.names t).length nc, .slice ka (Nd.kids t).length kc] 29)).alloc (.cells #[.int .i64 0, .int .i64 0, .string ⟨#[]⟩, .slice none 0 0, .slice none 0 0] 29) := ⟨_, rfl⟩
  have hz2 : W2.heap.size = w.heap.size + 2 := by rw [hW2]; simp
  have hb2 : Below w.heap.size w W2 := by rw [hW2]; exact ((Below.refl _ _).alloc (Nat.le_refl _) _).alloc (by simp) _
  have hboxX : W2.heap[w.heap.size]? = some (.cells #[.int .i64 s, .int .i64 nu, .string tx, .slice na (Nd.names t).length nc, .slice ka (Nd.kids t).length kc] 29 (0, 0)) := by rw [hW2, Below.heap_alloc _ _ _ (by simp)]; exact heap_alloc_new _ _
  have hzero : W2.heap[w.heap.size + 1]? = some (.cells #[.int .i64 0, .int .i64 0, .string ⟨#[]⟩, .slice none 0 0, .slice none 0 0] 29 (0, 0)) := by
    have := heap_alloc_new (w.alloc (.cells #[.int .i64 s, .int .i64 nu, .string tx, .slice na (Nd.names t).length nc, .slice ka (Nd.kids t).length kc] 29)) (.cells #[.int .i64 0, .int .i64 0, .string ⟨#[]⟩, .slice none 0 0, .slice none 0 0] 29)
    rw [hW2]; simpa using this
  have HB2 : Hid (SpB S w R ao L cap (.int .i64 s) (.int .i64 nu) (.string tx) (.slice na (Nd.names t).length nc) (.slice ka (Nd.kids t).length kc) p W2) :=
    ⟨Near.of_below hb2, by omega, hboxX, hzero, fun b hb => hb2.block b (hS b hb).1, h.same hb2⟩
  have x4 : W2.cell? ⟨w.heap.size, 4, none⟩ = some (.slice ka (Nd.kids t).length kc) := by simp [World.cell?, hboxX]
  clear h h3 h4 hns hdks hn hb2 hboxX hzero hS
  generalize hkl0 : (Nd.kids t).length = kl at *
  generalize hnl0 : (Nd.names t).length = nl at *
  have HLn : Hid ((Nd.kids t).length = kl ∧ (Nd.names t).length = nl) := ⟨hkl0, hnl0⟩
  clear hkl0 hnl0
  rw [hW2] at x4
  rcases Nat.eq_zero_or_pos kl with hk0 | hk0
  case' inl =>
    subst hk0
    obtain ⟨p1, hp1, HU⟩ : ∃ p1, p1 ≤ p + 1 ∧ Hid (SpB S w R ao L cap (.int .i64 s) (.int .i64 nu) (.string tx) (.slice na nl nc) (.slice ka 0 kc) p1 W2) := ⟨p, by omega, HB2⟩
    go_enter Tryz.func16, Tryz.ntmps16
    go_wp2_with fail
    rw [← hW2]
    obtain ⟨u, rfl⟩ : ∃ u, u = W2 := ⟨_, rfl⟩
    clear hW2 x4 HB2
    obtain ⟨kl, hkz⟩ : ∃ kl : Nat, kl = 0 := ⟨0, rfl⟩
    have HU : Hid (SpB S w R ao L cap (.int .i64 s) (.int .i64 nu) (.string tx) (.slice na nl nc) (.slice ka kl kc) p1 u) := by rw [hkz]; exact HU
    have HKd : Hid (RowIn S w (TreeIn S w m) (Nd.kids t) (.slice ka kl kc)) := by rw [hkz]; exact HKd
    have HLn : Hid ((Nd.kids t).length = kl ∧ (Nd.names t).length = nl) := by rw [hkz]; exact HLn
    have hkl : kl ≤ 1000 := by omega
    clear hkz hz2
  case' inr =>
    have hd0 : (0 : Int) < (kl : Int) := by omega
    have HPk : Hid (Calls Tryz.prog 14 #[.pointer (some ⟨R, 0, none⟩), .int .i64 3] W2 (PickPost W2 R ao L cap p 3)) := pick_any W2 R ao L cap p 3 HB2.out.dr (by omega) (by omega) (by omega)
    go_enter Tryz.func16, Tryz.ntmps16
    go_wp2_with fail
    rw [← hW2]
    refine HPk.out.mono ?_
    rintro e u ⟨y, rfl, hy, hnu, hDu, -⟩
    have HU : Hid (SpB S w R ao L cap (.int .i64 s) (.int .i64 nu) (.string tx) (.slice na nl nc) (.slice ka kl kc) (p + 1) u) := HB2.out.keep HD0.out HSS.out hnu hDu
    clear HPk hW2 x4 HB2 hnu hDu hz2
    by_cases hy0 : y = 0
    case neg =>
      have hy1 : (0 : Int) < (y : Int) := by omega
      have hzu := HU.out.sz
      obtain ⟨⟨y0, y1, y2, y3, y4⟩, -⟩ := five_cells HU.out.box
      have yE : (u.alloc (.cells #[] 29)).cell? ⟨w.heap.size, 4, none⟩ = some (.slice ka kl kc) := (World.cell?_of_block (Below.heap_alloc _ _ _ (by show w.heap.size < _; omega))).trans y4
      obtain ⟨xs, hxl, hx1, hxn, hxk⟩ := kids_newsT HLn.out.1 HKd.out
      have HXN : Hid (xs.length = kl * 5 ∧ (∀ u ∈ xs, u.oneCell' = true) ∧ (0 < kl → ∃ ad, ka = some ad ∧ ∀ j x, xs[j]? = some x → (u.alloc (.cells #[] 29)).cell? (ad.add j) = some x)) :=
        ⟨hxl, hx1, hxn _ (fun b hb => (Below.heap_alloc _ _ _ (by have := HSL.out b hb; omega)).trans (HU.out.same b hb))⟩
      have HXK : Hid (∀ j (h : j < (Nd.kids t).length), ∃ c0 c1 c2 c3 c4, (xs[j * 5]? = some c0 ∧ xs[j * 5 + 1]? = some c1 ∧ xs[j * 5 + 2]? = some c2 ∧ xs[j * 5 + 3]? = some c3 ∧ xs[j * 5 + 4]? = some c4) ∧ TreeIn S w m (Nd.kids t)[j] c0 c1 c2 c3 c4) := hxk
      obtain ⟨ik0, hi0, hz0, hz1, hzb⟩ := info_parts Tryz.info_treeR
      have HIK : Hid (_ ∧ _ ∧ _ ∧ _) := ⟨hi0, hz0, hz1, hzb⟩
      clear hxl hx1 hxn hxk hi0 hz0 hz1 hzb y0 y1 y2 y3
      go_wp2_with (at_builtin; refine wpList_copy _ rfl (.tmp 17) (.tmp 19) 27 rfl u.heap.size 29 ik0 _ 5 80 Tryz.underlying27 HIK.out.1 HIK.out.2.1 HIK.out.2.2.1 HIK.out.2.2.2 rfl (by decide) u.heap.size rfl (heap_alloc_new u _) (Nat.le_refl _) ka kl kc xs rfl HXN.out.1 HXN.out.2.2 HXN.out.2.1 (by unfold maxLen; omega) (by omega) (u.heap.size + 1) (by simp) ?_)
      intro g1 cap1 w6 hown1 hgrow1 hat1 hlt1
      have hz6 := hgrow1.size
      rw [World.size_alloc] at hz6
      have hG1 : ∀ b, b < u.heap.size → w6.heap[b]? = u.heap[b]? := fun b hb => (hgrow1.block b (by simp; omega) (by simp; omega)).trans (Below.heap_alloc _ _ _ hb)
      have hQ6 := HU.out.next (u' := w6) HD0.out HSS.out ⟨hgrow1.os, hgrow1.tape, hgrow1.output⟩ (by omega) (fun b hb _ => hG1 b hb) ((hG1 R (by omega)).trans HU.out.dr.box)
      have HPk : Hid (Calls Tryz.prog 14 #[.pointer (some ⟨R, 0, none⟩), .int .i64 (kl : Int)] w6 (PickPost w6 R ao L cap (p + 1) kl)) := pick_any w6 R ao L cap (p + 1) kl hQ6.dr (by omega) (by omega) (by omega)
      have HO1 : Hid (w6.ownsRow u.heap.size 29 5 (.slice (some ⟨g1, 0, none⟩) kl cap1) kl xs) := hown1
      have HQ6 : Hid (SpB S w R ao L cap (.int .i64 s) (.int .i64 nu) (.string tx) (.slice na nl nc) (.slice ka kl kc) (p + 1) w6) := hQ6
      have hg1 : u.heap.size ≤ g1 := by omega
      clear hown1 hgrow1 hG1 hQ6 yE y4 HXN hat1
      go_wp2_with fail
      refine HPk.out.mono ?_
      rintro e w7 ⟨i, rfl, hi, hn7, hD7, -⟩
      have hz7 := hn7.size
      have hO7 : w7.ownsRow u.heap.size 29 5 (.slice (some ⟨g1, 0, none⟩) kl cap1) kl xs := owns_keep HO1.out fun g hg => by
        have := owns_lt HO1.out g hg
        exact hn7.block g (by omega) (by omega)
      have hik : i < (Nd.kids t).length := by rw [HLn.out.1]; exact hi
      obtain ⟨d0, d1, d2, d3, d4, ⟨e0, e1, e2, e3, e4⟩, hkd⟩ := HXK.out i hik
      obtain ⟨v0, v1, v2, va, vl, vc, ua, ul, uc, rfl, rfl, rfl, rfl, rfl⟩ := hkd.shape
      have hc7 : ∀ j x, xs[j]? = some x → w7.cell? ⟨g1, j, none⟩ = some x := fun j x hx => by
        have := hO7.cells (g := g1) rfl j x hx
        rw [Addr.add_lit] at this
        simpa using this
      have z0 := hc7 _ _ e0
      have z1 := hc7 _ _ e1
      have z2 := hc7 _ _ e2
      have z3 := hc7 _ _ e3
      have z4 := hc7 _ _ e4
      have HQ7 : Hid (SpB S w R ao L cap (.int .i64 s) (.int .i64 nu) (.string tx) (.slice na nl nc) (.slice ka kl kc) (p + 1 + 1) w7) := HQ6.out.keep HD0.out HSS.out hn7 hD7
      have HO7 : Hid (w7.ownsRow u.heap.size 29 5 (.slice (some ⟨g1, 0, none⟩) kl cap1) kl xs) := hO7
      have HC : Hid (Calls Tryz.prog 16 #[.pointer (some ⟨R, 0, none⟩), .agg #[.int .i64 v0, .int .i64 v1, .string v2, .slice va vl vc, .slice ua ul uc]] w7 (SpoilPostT m S w7 R ao L cap (p + 1 + 1) (10 * d))) :=
        HN.out m R ao L cap (p + 1 + 1) S ((Nd.kids t)[i]'hik) _ _ _ _ _ w7 (by omega) (HDk.out _ (List.getElem_mem hik)) (hkd.keep HQ7.out.same (fun _ h => h)) (fun b hb => ⟨by have := (HSS.out b hb).1; have := HQ7.out.sz; omega, (HSS.out b hb).2⟩) hD7 (by omega)
      have hii : (i : Int) < (kl : Int) := by omega
      clear HPk hn7 hD7 hO7 HO1 hc7 hkd HQ6
      go_wp2_with fail
      refine HC.out.mono ?_
      rintro e w8 ⟨hn8, p8, t8, f0, f1, f2, f3, f4, hp8, hD8, rfl, hk8⟩
      obtain ⟨n0, n1, n2, ya, yl, yc, za, zl, zc, rfl, rfl, rfl, rfl, rfl⟩ := hk8.shape
      have hz8 := hn8.size
      have hO8 : w8.ownsRow u.heap.size 29 5 (.slice (some ⟨g1, 0, none⟩) kl cap1) kl xs := owns_keep HO7.out fun g hg => by
        have := owns_lt HO7.out g hg
        exact hn8.block g (by omega) (by omega)
      have hc8 : ∀ j x, xs[j]? = some x → w8.cell? ⟨g1, j, none⟩ = some x := fun j x hx => by
        have := hO8.cells (g := g1) rfl j x hx
        rw [Addr.add_lit] at this
        simpa using this
      have t0 := hc8 _ _ e0
      have t1 := hc8 _ _ e1
      have t2 := hc8 _ _ e2
      have t3 := hc8 _ _ e3
      have t4 := hc8 _ _ e4
      have hfr : ∀ o, w8.frozen? ⟨g1, o, none⟩ = false := fun o => by
        rcases hO8.2 with ⟨hv, -⟩ | ⟨g, cap, cur, hv, -, hgc, -⟩
        · cases hv
        · cases hv; simp [World.frozen?, hgc]
      have tf0 := hfr (i * 5)
      have tf1 := hfr (i * 5 + 1)
      have tf2 := hfr (i * 5 + 2)
      have tf3 := hfr (i * 5 + 3)
      have tf4 := hfr (i * 5 + 4)
      have hQ8 := HQ7.out.keep HD0.out HSS.out hn8 hD8
      have hsz7 := HQ7.out.sz
      obtain ⟨⟨y0, y1, y2, y3, y4⟩, -, -, -, -, yf⟩ := five_cells hQ8.box
      obtain ⟨⟨r0, r1, r2, r3, r4⟩, g0', g1', g2', g3', g4'⟩ := five_cells hQ8.zero
      have HP : Hid (SpoilPostT (m + 1) S w R ao L cap p (10 * (d + 1)) (.returned (.agg #[.int .i64 s, .int .i64 nu, .string tx, .slice na nl nc, .slice (some ⟨g1, 0, none⟩) kl cap1])) (put5 ((put5 w8 g1 (i * 5) (.int .i64 n0) (.int .i64 n1) (.string n2) (.slice ya yl yc) (.slice za zl zc)).setCell ⟨w.heap.size, 4, none⟩ (.slice (some ⟨g1, 0, none⟩) kl cap1)) (w.heap.size + 1) 0 (.int .i64 s) (.int .i64 nu) (.string tx) (.slice na nl nc) (.slice (some ⟨g1, 0, none⟩) kl cap1))) := by
        have hg7 := (owns_lt HO7.out g1 rfl).2
        have qq : ∀ b, b ≠ g1 → (put5 w8 g1 (i * 5) (.int .i64 n0) (.int .i64 n1) (.string n2) (.slice ya yl yc) (.slice za zl zc)).heap[b]? = w8.heap[b]? := fun b hb => put5_other hb
        have hzp : (put5 w8 g1 (i * 5) (.int .i64 n0) (.int .i64 n1) (.string n2) (.slice ya yl yc) (.slice za zl zc)).heap.size = w8.heap.size := put5_size
        have hbp : Below w.heap.size w8 (put5 w8 g1 (i * 5) (.int .i64 n0) (.int .i64 n1) (.string n2) (.slice ya yl yc) (.slice za zl zc)) := put5_below (Below.refl _ _) (by omega)
        have hnw := hQ8.near
        refine spt_exit (m := m + 1) (t := (⟨s, nu, tx, Nd.names t, (Nd.kids t).set i t8⟩ : Nd (T m))) HD0.out HSL.out (W := put5 w8 g1 (i * 5) (.int .i64 n0) (.int .i64 n1) (.string n2) (.slice ya yl yc) (.slice za zl zc)) ⟨by rw [hbp.os]; exact hnw.os, by rw [hbp.tape]; exact hnw.tape, by rw [hbp.output]; exact hnw.output, by rw [hzp]; exact hnw.size, fun b hb hne => (qq b (by omega)).trans (hnw.block b hb hne)⟩ ((qq R (by omega)).trans hD8.box) (by omega) ⟨rfl, rfl, rfl, htx, hwf, hwn, ?_, ?_⟩ (set_below _ _ _ _) (fun b hb => Below.heap_setCell _ _ _ _ hb) (by simp)
        · exact HNm.out.keep (fun b hb => (qq b (by have := HSL.out b hb; omega)).trans (hQ8.same b hb)) (fun b hb => Or.inl hb)
        · exact kids_putT HLn.out.1 HXK.out hQ8.same (fun hb => by have := HSL.out _ hb; omega) (fun b hb => Or.inl hb) hk8 (fun hb => hb.elim (fun h => by have := HSL.out _ h; omega) (fun h => by omega)) (fun b hb => hb.imp id (fun h => ⟨by omega, by rw [hzp]; exact h.2⟩)) hO8 hkl (.inr ⟨by omega, by rw [hzp]; omega⟩) hi
      clear hQ8 hO8 hc8 hfr HQ7 HO7 HXK HIK HC hk8 hD8 hn8 HU z0 z1 z2 z3 z4
      go_wp2_with fail
      refine bodyPost_ret (v := .agg #[.int .i64 s, .int .i64 nu, .string tx, .slice na nl nc, .slice (some ⟨g1, 0, none⟩) kl cap1]) (by simp [results, Tryz.results16, go_sem, r0, r1, r2, r3, r4]) rfl ?_
      exact HP.out
    case' pos =>
      subst hy0
      obtain ⟨p1, hp1, HU⟩ : ∃ p1, p1 ≤ p + 1 ∧ Hid (SpB S w R ao L cap (.int .i64 s) (.int .i64 nu) (.string tx) (.slice na nl nc) (.slice ka kl kc) p1 u) := ⟨p + 1, by omega, HU⟩
      go_wp2_with fail
      clear hd0 hy hk0
  all_goals
    have HPk : Hid (Calls Tryz.prog 14 #[.pointer (some ⟨R, 0, none⟩), .int .i64 8] u (PickPost u R ao L cap p1 8)) := pick_any u R ao L cap p1 8 HU.out.dr (by omega) (by omega) (by omega)
    refine HPk.out.mono ?_
    rintro e w5 ⟨v, rfl, hv, hn5, hD5, -⟩
    have HQ : Hid (SpB S w R ao L cap (.int .i64 s) (.int .i64 nu) (.string tx) (.slice na nl nc) (.slice ka kl kc) (p1 + 1) w5) := HU.out.keep HD0.out HSS.out hn5 hD5
    have hz5 := HQ.out.sz
    clear HPk hn5 hD5 HU
    have hcase : v = 0 ∨ v = 1 ∨ v = 2 ∨ v = 3 ∨ v = 4 ∨ v = 5 ∨ v = 6 ∨ v = 7 := by omega
    clear hv
    rcases hcase with rfl | rfl | rfl | rfl | rfl | rfl | rfl | rfl
    · have HPk : Hid (Calls Tryz.prog 14 #[.pointer (some ⟨R, 0, none⟩), .int .i64 8] w5 (PickPost w5 R ao L cap (p1 + 1) 8)) := pick_any w5 R ao L cap (p1 + 1) 8 HQ.out.dr (by omega) (by omega) (by omega)
      go_wp2_with fail
      refine HPk.out.mono ?_
      rintro e w6 ⟨z, rfl, hz, hn6, hD6, -⟩
      have hQ := HQ.out.keep HD0.out HSS.out hn6 hD6
      obtain ⟨⟨y0, y1, y2, y3, y4⟩, e0, e1, e2, e3, e4⟩ := five_cells hQ.box
      obtain ⟨⟨r0, r1, r2, r3, r4⟩, f0, f1, f2, f3, f4⟩ := five_cells hQ.zero
      have HP : Hid (SpoilPostT (m + 1) S w R ao L cap p (10 * (d + 1)) (.returned (.agg #[.int .i64 (z : Int), .int .i64 nu, .string tx, .slice na nl nc, .slice ka kl kc])) (put5 (w6.setCell ⟨w.heap.size, 0, none⟩ (.int .i64 (z : Int))) (w.heap.size + 1) 0 (.int .i64 (z : Int)) (.int .i64 nu) (.string tx) (.slice na nl nc) (.slice ka kl kc))) :=
        spt_exit (m := m + 1) (t := (⟨(z : Int), nu, tx, Nd.names t, Nd.kids t⟩ : Nd (T m))) HD0.out HSL.out hQ.near hQ.dr.box (by omega) ⟨rfl, rfl, rfl, htx, wf_small z (by omega), hwn, (HNm.out.keep hQ.same (fun b hb => Or.inl hb)), (HKd.out.keepT hQ.same (fun b hb => Or.inl hb))⟩ (set_below _ _ _ _) (fun b hb => Below.heap_setCell _ _ _ _ hb) (by simp)
      clear HPk hn6 hD6 hQ HQ
      go_wp2_with fail
      refine bodyPost_ret (v := .agg #[.int .i64 (z : Int), .int .i64 nu, .string tx, .slice na nl nc, .slice ka kl kc]) (by simp [results, Tryz.results16, go_sem, r0, r1, r2, r3, r4]) rfl ?_
      exact HP.out
    · obtain ⟨W6, hW6⟩ : ∃ W6, W6 = w5.alloc (.cells #[.int .i64 1, .int .i64 2, .int .i64 (-1), .int .i64 1000000000, .int .i64 (-1000000000)] 3) := ⟨_, rfl⟩
      have hb6 : Below w5.heap.size w5 W6 := by rw [hW6]; exact (Below.refl _ _).alloc (Nat.le_refl _) _
      have hz6 : W6.heap.size = w5.heap.size + 1 := by rw [hW6]; simp
      have hi6 : W6.heap[w5.heap.size]? = some (.cells #[.int .i64 1, .int .i64 2, .int .i64 (-1), .int .i64 1000000000, .int .i64 (-1000000000)] 3 (0, 0)) := by rw [hW6]; exact heap_alloc_new _ _
      have hQ6 := HQ.out.keep HD0.out HSS.out (Near.of_below hb6) (HQ.out.dr.same hb6)
      have HPk : Hid (Calls Tryz.prog 14 #[.pointer (some ⟨R, 0, none⟩), .int .i64 5] W6 (PickPost W6 R ao L cap (p1 + 1) 5)) := pick_any W6 R ao L cap (p1 + 1) 5 hQ6.dr (by omega) (by omega) (by omega)
      have HQ6 : Hid (SpB S w R ao L cap (.int .i64 s) (.int .i64 nu) (.string tx) (.slice na nl nc) (.slice ka kl kc) (p1 + 1) W6 ∧ W6.heap[w5.heap.size]? = some (.cells #[.int .i64 1, .int .i64 2, .int .i64 (-1), .int .i64 1000000000, .int .i64 (-1000000000)] 3 (0, 0))) := ⟨hQ6, hi6⟩
      clear hb6 hi6 hQ6
      go_wp2_with fail
      rw [← hW6]
      clear hW6
      refine HPk.out.mono ?_
      rintro e w7 ⟨z, rfl, hz, hn7, hD7, -⟩
      have hQ := HQ6.out.1.keep HD0.out HSS.out hn7 hD7
      have hI := (hn7.block w5.heap.size (by omega) (by omega)).trans HQ6.out.2
      obtain ⟨x, hx, hxw⟩ : ∃ x : Int, w7.cell? ⟨w5.heap.size, z, none⟩ = some (.int .i64 x) ∧ (Lit.int .i64 x).wf = true := by
        have hz' : z = 0 ∨ z = 1 ∨ z = 2 ∨ z = 3 ∨ z = 4 := by omega
        rcases hz' with rfl | rfl | rfl | rfl | rfl
        · exact ⟨1, by simp [World.cell?, hI], by rfl⟩
        · exact ⟨2, by simp [World.cell?, hI], by rfl⟩
        · exact ⟨-1, by simp [World.cell?, hI], by rfl⟩
        · exact ⟨1000000000, by simp [World.cell?, hI], by rfl⟩
        · exact ⟨-1000000000, by simp [World.cell?, hI], by rfl⟩
      have hzi : (z : Int) < 5 := by omega
      obtain ⟨⟨y0, y1, y2, y3, y4⟩, e0, e1, e2, e3, e4⟩ := five_cells hQ.box
      obtain ⟨⟨r0, r1, r2, r3, r4⟩, f0, f1, f2, f3, f4⟩ := five_cells hQ.zero
      have HP : Hid (SpoilPostT (m + 1) S w R ao L cap p (10 * (d + 1)) (.returned (.agg #[.int .i64 s, .int .i64 x, .string tx, .slice na nl nc, .slice ka kl kc])) (put5 (w7.setCell ⟨w.heap.size, 1, none⟩ (.int .i64 x)) (w.heap.size + 1) 0 (.int .i64 s) (.int .i64 x) (.string tx) (.slice na nl nc) (.slice ka kl kc))) :=
        spt_exit (m := m + 1) (t := (⟨s, x, tx, Nd.names t, Nd.kids t⟩ : Nd (T m))) HD0.out HSL.out hQ.near hQ.dr.box (by omega) ⟨rfl, rfl, rfl, htx, hwf, hxw, (HNm.out.keep hQ.same (fun b hb => Or.inl hb)), (HKd.out.keepT hQ.same (fun b hb => Or.inl hb))⟩ (set_below _ _ _ _) (fun b hb => Below.heap_setCell _ _ _ _ hb) (by simp)
      clear HPk hn7 hD7 hQ HQ HQ6 hI
      go_wp2_with fail
      refine bodyPost_ret (v := .agg #[.int .i64 s, .int .i64 x, .string tx, .slice na nl nc, .slice ka kl kc]) (by simp [results, Tryz.results16, go_sem, r0, r1, r2, r3, r4]) rfl ?_
      exact HP.out
    · have HM : Hid (Calls Tryz.prog 44 #[.string ⟨#[120]⟩, .int .i64 61] w5 _) := l6Many_any ⟨#[120]⟩ 61 w5 (by decide) (by omega)
      go_wp2_with fail
      refine HM.out.mono ?_
      rintro e w6 ⟨sx, rfl, hsx, rfl⟩
      obtain ⟨W7, hW7⟩ : ∃ W7, W7 = w6.alloc (.cells #[.string ⟨#[120]⟩, .string ⟨#[34]⟩, .string ⟨#[10]⟩, .string sx, .string ⟨#[127]⟩] 9) := ⟨_, rfl⟩
      have hb7 : Below w6.heap.size w6 W7 := by rw [hW7]; exact (Below.refl _ _).alloc (Nat.le_refl _) _
      have hnew : W7.heap[w6.heap.size]? = some (.cells #[.string ⟨#[120]⟩, .string ⟨#[34]⟩, .string ⟨#[10]⟩, .string sx, .string ⟨#[127]⟩] 9 (0, 0)) := by rw [hW7]; exact heap_alloc_new _ _
      have hQ7 := HQ.out.keep HD0.out HSS.out (Near.of_below hb7) (HQ.out.dr.same hb7)
      have HOf : Hid (Calls Tryz.prog 43 #[.pointer (some ⟨R, 0, none⟩), .slice (some ⟨w6.heap.size, 0, none⟩) 5 5] W7 fun e w' => ∃ x : ByteArray, e = .returned (.string x) ∧ x.size ≤ 10000 ∧ Near R W7 w' ∧ Dr w' R ao L cap (p1 + 1 + 1)) := by
        refine of_any W7 R ao L cap (p1 + 1) hQ7.dr (by omega) w6.heap.size 0 5 5 (by omega) (by omega) (by omega) fun j hj => ?_
        have hj3 : j = 0 ∨ j = 1 ∨ j = 2 ∨ j = 3 ∨ j = 4 := by omega
        rcases hj3 with rfl | rfl | rfl | rfl | rfl
        · exact ⟨⟨#[120]⟩, by decide, by simp [World.cell?, hnew]⟩
        · exact ⟨⟨#[34]⟩, by decide, by simp [World.cell?, hnew]⟩
        · exact ⟨⟨#[10]⟩, by decide, by simp [World.cell?, hnew]⟩
        · exact ⟨sx, hsx, by simp [World.cell?, hnew]⟩
        · exact ⟨⟨#[127]⟩, by decide, by simp [World.cell?, hnew]⟩
      have HQ7 : Hid (SpB S w R ao L cap (.int .i64 s) (.int .i64 nu) (.string tx) (.slice na nl nc) (.slice ka kl kc) (p1 + 1) W7) := hQ7
      clear HM hb7 hnew hQ7
      go_wp2_with fail
      rw [← hW7]
      clear hW7
      refine HOf.out.mono ?_
      rintro e w8 ⟨x, rfl, hxs, hn8, hD8⟩
      have hQ := HQ7.out.keep HD0.out HSS.out hn8 hD8
      obtain ⟨⟨y0, y1, y2, y3, y4⟩, e0, e1, e2, e3, e4⟩ := five_cells hQ.box
      obtain ⟨⟨r0, r1, r2, r3, r4⟩, f0, f1, f2, f3, f4⟩ := five_cells hQ.zero
      have HP : Hid (SpoilPostT (m + 1) S w R ao L cap p (10 * (d + 1)) (.returned (.agg #[.int .i64 s, .int .i64 nu, .string x, .slice na nl nc, .slice ka kl kc])) (put5 (w8.setCell ⟨w.heap.size, 2, none⟩ (.string x)) (w.heap.size + 1) 0 (.int .i64 s) (.int .i64 nu) (.string x) (.slice na nl nc) (.slice ka kl kc))) :=
        spt_exit (m := m + 1) (t := (⟨s, nu, x, Nd.names t, Nd.kids t⟩ : Nd (T m))) HD0.out HSL.out hQ.near hQ.dr.box (by omega) ⟨rfl, rfl, rfl, by unfold maxLen; show x.size ≤ _; omega, hwf, hwn, (HNm.out.keep hQ.same (fun b hb => Or.inl hb)), (HKd.out.keepT hQ.same (fun b hb => Or.inl hb))⟩ (set_below _ _ _ _) (fun b hb => Below.heap_setCell _ _ _ _ hb) (by simp)
      clear HOf hn8 hD8 hQ HQ HQ7
      go_wp2_with fail
      refine bodyPost_ret (v := .agg #[.int .i64 s, .int .i64 nu, .string x, .slice na nl nc, .slice ka kl kc]) (by simp [results, Tryz.results16, go_sem, r0, r1, r2, r3, r4]) rfl ?_
      exact HP.out
    · have yE : (w5.alloc (.cells #[] 9)).cell? ⟨w.heap.size, 3, none⟩ = some (.slice na nl nc) := (World.cell?_of_block (Below.heap_alloc _ _ _ (by show w.heap.size < _; omega))).trans (five_cells HQ.out.box).1.2.2.2.1
      have HXN : Hid (_ ∧ _ ∧ _) := strs_news (w' := w5.alloc (.cells #[] 9)) HLn.out.2 HNm.out (fun b hb => (Below.heap_alloc _ _ _ (by have := HSL.out b hb; omega)).trans (HQ.out.same b hb))
      obtain ⟨is0, hi0, hy0, hy1, hyb⟩ := info_parts Tryz.info_strD
      have HIS : Hid (_ ∧ _ ∧ _ ∧ _) := ⟨hi0, hy0, hy1, hyb⟩
      clear hi0 hy0 hy1 hyb
      go_wp2_with (at_builtin; refine wpList_copy _ rfl (.tmp 63) (.tmp 65) 23 rfl w5.heap.size 9 is0 _ 1 16 Tryz.underlying23 HIS.out.1 HIS.out.2.1 HIS.out.2.2.1 HIS.out.2.2.2 rfl (by decide) w5.heap.size rfl (heap_alloc_new w5 _) (Nat.le_refl _) na nl nc ((Nd.names t).map .string) rfl HXN.out.1 HXN.out.2.2 HXN.out.2.1 (by unfold maxLen; omega) (by omega) (w5.heap.size + 1) (by simp) ?_)
      intro g1 cap1 w6 hown1 hgrow1 hat1 hlt1
      have hz6 := hgrow1.size
      rw [World.size_alloc] at hz6
      have hG1 : ∀ b, b < w5.heap.size → w6.heap[b]? = w5.heap[b]? := fun b hb => (hgrow1.block b (by simp; omega) (by simp; omega)).trans (Below.heap_alloc _ _ _ hb)
      have hQ6 := HQ.out.next (u' := w6) HD0.out HSS.out ⟨hgrow1.os, hgrow1.tape, hgrow1.output⟩ (by omega) (fun b hb _ => hG1 b hb) ((hG1 R (by omega)).trans HQ.out.dr.box)
      have HO1 : Hid (w6.ownsRow w5.heap.size 9 1 (.slice (some ⟨g1, 0, none⟩) nl cap1) nl ((Nd.names t).map .string)) := hown1
      have HQ6 : Hid (SpB S w R ao L cap (.int .i64 s) (.int .i64 nu) (.string tx) (.slice na nl nc) (.slice ka kl kc) (p1 + 1) w6) := hQ6
      have HOf : Hid (∀ (cs : Array Value), cs.size = 5 → cs.toList.all okLit = true → Calls Tryz.prog 43 #[.pointer (some ⟨R, 0, none⟩), .slice (some ⟨w6.heap.size, 0, none⟩) 5 5] (w6.alloc (.cells cs 9)) _) := fun cs h1 h2 => of_lit w6 R ao L cap (p1 + 1) HQ6.out.dr (by omega) cs 5 h1 (by omega) (by omega) h2
      have hg1 : w5.heap.size ≤ g1 := by omega
      clear hown1 hgrow1 hG1 hQ6 yE HXN hat1
      go_wp2_with fail
      refine (HOf.out _ rfl rfl).mono ?_
      rintro e w8 ⟨x, rfl, hxs, hn8, hD8⟩
      have hz8 := hn8.size
      have HO8 : Hid (w8.ownsRow w5.heap.size 9 1 (.slice (some ⟨g1, 0, none⟩) nl cap1) nl ((Nd.names t).map .string)) := owns_keep HO1.out fun g hg => by
        have := owns_lt HO1.out g hg
        exact hn8.block g (by omega) (by omega)
      have HQ8 : Hid (SpB S w R ao L cap (.int .i64 s) (.int .i64 nu) (.string tx) (.slice na nl nc) (.slice ka kl kc) (p1 + 1 + 1) w8) := HQ6.out.keep HD0.out HSS.out hn8 hD8
      clear HOf HO1 HQ6 hn8 hD8
      go_wp2_with (at_builtin; refine wpList_append_lies _ rfl (.tmp 66) (.tmp 70) 23 rfl w5.heap.size 9 is0 _ 1 16 Tryz.underlying23 HIS.out.1 HIS.out.2.1 HIS.out.2.2.1 HIS.out.2.2.2 rfl (by decide) (.slice (some ⟨g1, 0, none⟩) nl cap1) nl ((Nd.names t).map .string) rfl (HO8.out.alloc _) ⟨w8.heap.size, 0, none⟩ 1 1 [.string x] rfl rfl (World.news_of_block (heap_alloc_new w8 _)) (by simp [Value.oneCell']) (by decide) (by unfold maxLen; omega) (by omega) (by simp; omega) (w8.heap.size + 1) (by simp) ?_)
      intro g2 cap2 w9 hown2 hgrow2 hat2 hlt2
      have hz9 := hgrow2.size
      rw [World.size_alloc] at hz9
      have hg2 : w5.heap.size ≤ g2 := by
        simp only [Value.ownBlock, Option.some.injEq] at hat2
        omega
      have hG9 : ∀ b, b < w8.heap.size → b ≠ g1 → w9.heap[b]? = w8.heap[b]? := fun b hb hne => (hgrow2.block b (by simp; omega) (by simp [Value.ownBlock]; omega)).trans (Below.heap_alloc _ _ _ hb)
      have hsz8 := HQ8.out.sz
      have hQ9 : SpB S w R ao L cap (.int .i64 s) (.int .i64 nu) (.string tx) (.slice na nl nc) (.slice ka kl kc) (p1 + 1 + 1) w9 := by
        have hn8 := HQ8.out.near
        have hlow : ∀ b, b < w.heap.size + 2 → w9.heap[b]? = w8.heap[b]? := fun b hb => hG9 b (by omega) (by omega)
        have hn9 : Near R w w9 := ⟨hgrow2.os.trans hn8.os, hgrow2.tape.trans hn8.tape, hgrow2.output.trans hn8.output, by omega, fun b h1 hne => (hlow b (by omega)).trans (hn8.block b h1 hne)⟩
        exact ⟨hn9, by omega, (hlow _ (by omega)).trans HQ8.out.box, (hlow _ (by omega)).trans HQ8.out.zero, fun b hb => (hlow b (by have := HSL.out b hb; omega)).trans (HQ8.out.same b hb), HD0.out.keep hn9 ((hlow R (by omega)).trans HQ8.out.dr.box)⟩
      have hN9 : ∀ S8 : Nat → Prop, (∀ b, w5.heap.size ≤ b → b < w9.heap.size → S8 b) → StrsIn S8 w9 (Nd.names t ++ [x]) (.slice (some ⟨g2, 0, none⟩) (nl + 1) cap2) := fun S8 h8 => by
        refine strs_of_owns (M := w5.heap.size) (e := 9) (by simpa [HLn.out.2] using hown2) (by simp [HLn.out.2]; omega) (fun y hy => ?_) (fun g hg => ?_)
        · rcases List.mem_append.1 hy with hy | hy
          · exact HNs.out y hy
          · rw [List.mem_singleton] at hy; subst hy; exact hxs
        · have hg : g2 = g := by simpa [Value.ownBlock] using hg
          exact h8 g (by omega) (by omega)
      obtain ⟨⟨y0, y1, y2, y3, y4⟩, e0, e1, e2, e3, e4⟩ := five_cells hQ9.box
      obtain ⟨⟨r0, r1, r2, r3, r4⟩, f0, f1, f2, f3, f4⟩ := five_cells hQ9.zero
      have HP : Hid (SpoilPostT (m + 1) S w R ao L cap p (10 * (d + 1)) (.returned (.agg #[.int .i64 s, .int .i64 nu, .string tx, .slice (some ⟨g2, 0, none⟩) (nl + 1) cap2, .slice ka kl kc])) (put5 (w9.setCell ⟨w.heap.size, 3, none⟩ (.slice (some ⟨g2, 0, none⟩) (nl + 1) cap2)) (w.heap.size + 1) 0 (.int .i64 s) (.int .i64 nu) (.string tx) (.slice (some ⟨g2, 0, none⟩) (nl + 1) cap2) (.slice ka kl kc))) :=
        spt_exit (m := m + 1) (t := (⟨s, nu, tx, Nd.names t ++ [x], Nd.kids t⟩ : Nd (T m))) HD0.out HSL.out hQ9.near hQ9.dr.box (by omega) ⟨rfl, rfl, rfl, htx, hwf, hwn, hN9 _ (fun b h1 h2 => Or.inr ⟨by omega, h2⟩), (HKd.out.keepT hQ9.same (fun b hb => Or.inl hb))⟩ (set_below _ _ _ _) (fun b hb => Below.heap_setCell _ _ _ _ hb) (by simp)
      clear hown2 hgrow2 hat2 HO8 HQ8 HIS hQ9 hN9 hG9 HQ
      go_wp2_with fail
      refine bodyPost_ret (v := .agg #[.int .i64 s, .int .i64 nu, .string tx, .slice (some ⟨g2, 0, none⟩) (nl + 1) cap2, .slice ka kl kc]) (by simp [results, Tryz.results16, go_sem, r0, r1, r2, r3, r4]) rfl ?_
      exact HP.out
    · obtain ⟨m2, rfl⟩ : ∃ m2, m = m2 + 1 := ⟨m - 1, by omega⟩
      have yK : (w5.alloc (.cells #[] 29)).cell? ⟨w.heap.size, 4, none⟩ = some (.slice ka kl kc) := (World.cell?_of_block (Below.heap_alloc _ _ _ (by show w.heap.size < _; omega))).trans (five_cells HQ.out.box).1.2.2.2.2
      obtain ⟨xs, hxl, hx1, hxn, hxk⟩ := kids_newsT HLn.out.1 HKd.out
      have HXK : Hid ((xs.length = kl * 5 ∧ (∀ u ∈ xs, u.oneCell' = true) ∧ (0 < kl → ∃ ad, ka = some ad ∧ ∀ j u, xs[j]? = some u → (w5.alloc (.cells #[] 29)).cell? (ad.add j) = some u)) ∧ (∀ j (h : j < (Nd.kids t).length), ∃ c0 c1 c2 c3 c4, (xs[j * 5]? = some c0 ∧ xs[j * 5 + 1]? = some c1 ∧ xs[j * 5 + 2]? = some c2 ∧ xs[j * 5 + 3]? = some c3 ∧ xs[j * 5 + 4]? = some c4) ∧ TreeIn S w (m2 + 1) (Nd.kids t)[j] c0 c1 c2 c3 c4)) :=
        ⟨⟨hxl, hx1, hxn _ (fun b hb => (Below.heap_alloc _ _ _ (by have := HSL.out b hb; omega)).trans (HQ.out.same b hb))⟩, hxk⟩
      obtain ⟨ik0, hi0, hy0, hy1, hyb⟩ := info_parts Tryz.info_treeR
      have HIK : Hid (_ ∧ _ ∧ _ ∧ _) := ⟨hi0, hy0, hy1, hyb⟩
      clear hxl hx1 hxn hxk hi0 hy0 hy1 hyb
      go_wp2_with (at_builtin; refine wpList_copy _ rfl (.tmp 75) (.tmp 77) 27 rfl w5.heap.size 29 ik0 _ 5 80 Tryz.underlying27 HIK.out.1 HIK.out.2.1 HIK.out.2.2.1 HIK.out.2.2.2 rfl (by decide) w5.heap.size rfl (heap_alloc_new w5 _) (Nat.le_refl _) ka kl kc xs rfl HXK.out.1.1 HXK.out.1.2.2 HXK.out.1.2.1 (by unfold maxLen; omega) (by omega) (w5.heap.size + 1) (by simp) ?_)
      intro k1 kap1 v6 kown1 kgrow1 kat1 klt1
      have kz6 := kgrow1.size
      rw [World.size_alloc] at kz6
      have KO1 : Hid (v6.ownsRow w5.heap.size 29 5 (.slice (some ⟨k1, 0, none⟩) kl kap1) kl xs) := kown1
      have KG1 : Hid ((v6.os = w5.os ∧ v6.tape = w5.tape ∧ v6.output = w5.output) ∧ ∀ b, b < w5.heap.size → v6.heap[b]? = w5.heap[b]?) := ⟨⟨kgrow1.os, kgrow1.tape, kgrow1.output⟩, fun b hb => (kgrow1.block b (by simp; omega) (by simp; omega)).trans (Below.heap_alloc _ _ _ hb)⟩
      have kg1 : w5.heap.size ≤ k1 := by omega
      clear kown1 kgrow1 yK kat1
      go_wp2_with (at_builtin; refine wpList_append_lies _ rfl (.tmp 78) (.tmp 80) 27 rfl w5.heap.size 29 ik0 _ 5 80 Tryz.underlying27 HIK.out.1 HIK.out.2.1 HIK.out.2.2.1 HIK.out.2.2.2 rfl (by decide) (.slice (some ⟨k1, 0, none⟩) kl kap1) kl xs rfl (KO1.out.alloc _) ⟨v6.heap.size, 0, none⟩ 1 1 [.int .i64 1, .int .i64 0, .string ⟨#[]⟩, .slice none 0 0, .slice none 0 0] rfl rfl (World.news_of_block (heap_alloc_new v6 _)) (by simp [Value.oneCell']) (by decide) (by unfold maxLen; omega) (by omega) (by simp; omega) (v6.heap.size + 1) (by simp) ?_)
      intro k2 kap2 v8 kown2 kgrow2 kat2 klt2
      have kz8 := kgrow2.size
      rw [World.size_alloc] at kz8
      have kfar : ∀ b, b < w5.heap.size → v8.heap[b]? = w5.heap[b]? := fun b hb => ((kgrow2.block b (by simp; omega) (by simp [Value.ownBlock]; omega)).trans (Below.heap_alloc _ _ _ (by omega))).trans (KG1.out.2 b hb)
      have hQK := HQ.out.next (u' := v8) HD0.out HSS.out ⟨kgrow2.os.trans KG1.out.1.1, kgrow2.tape.trans KG1.out.1.2.1, kgrow2.output.trans KG1.out.1.2.2⟩ (by omega) (fun b hb _ => kfar b hb) ((kfar R (by omega)).trans HQ.out.dr.box)
      have hK8 : ∀ S8 : Nat → Prop, (∀ b, S b → S8 b) → (∀ b, w5.heap.size ≤ b → b < v8.heap.size → S8 b) → RowIn S8 v8 (TreeIn S8 v8 (m2 + 1)) (Nd.kids t ++ [numT m2]) (.slice (some ⟨k2, 0, none⟩) (kl + 1) kap2) := fun S8 h8 h9 =>
        kids_moreT (t := numT m2) HLn.out.1 HXK.out.1.1 HXK.out.2 hQK.same h8 (numT_in _ _ m2) kown2 hkl (fun g hg => by
          have hg : k2 = g := by simpa [Value.ownBlock] using hg
          simp only [Value.ownBlock, Option.some.injEq] at kat2
          exact h9 g (by omega) (by omega))
      obtain ⟨⟨y0, y1, y2, y3, y4⟩, e0, e1, e2, e3, e4⟩ := five_cells hQK.box
      obtain ⟨⟨r0, r1, r2, r3, r4⟩, f0, f1, f2, f3, f4⟩ := five_cells hQK.zero
      have HP : Hid (SpoilPostT (m2 + 1 + 1) S w R ao L cap p (10 * (d + 1)) (.returned (.agg #[.int .i64 s, .int .i64 nu, .string tx, .slice na nl nc, .slice (some ⟨k2, 0, none⟩) (kl + 1) kap2])) (put5 (v8.setCell ⟨w.heap.size, 4, none⟩ (.slice (some ⟨k2, 0, none⟩) (kl + 1) kap2)) (w.heap.size + 1) 0 (.int .i64 s) (.int .i64 nu) (.string tx) (.slice na nl nc) (.slice (some ⟨k2, 0, none⟩) (kl + 1) kap2))) :=
        spt_exit (m := m2 + 1 + 1) (t := (⟨s, nu, tx, Nd.names t, Nd.kids t ++ [numT m2]⟩ : Nd (T (m2 + 1)))) HD0.out HSL.out hQK.near hQK.dr.box (by omega) ⟨rfl, rfl, rfl, htx, hwf, hwn, (HNm.out.keep hQK.same (fun b hb => Or.inl hb)), hK8 _ (fun b hb => Or.inl hb) (fun b h1 h2 => Or.inr ⟨by omega, h2⟩)⟩ (set_below _ _ _ _) (fun b hb => Below.heap_setCell _ _ _ _ hb) (by simp)
      clear kown2 kgrow2 kat2 KO1 KG1 HIK HXK hQK hK8 kfar HQ
      go_wp2_with fail
      refine bodyPost_ret (v := .agg #[.int .i64 s, .int .i64 nu, .string tx, .slice na nl nc, .slice (some ⟨k2, 0, none⟩) (kl + 1) kap2]) (by simp [results, Tryz.results16, go_sem, r0, r1, r2, r3, r4]) rfl ?_
      exact HP.out
    · have yE : (w5.alloc (.cells #[] 9)).cell? ⟨w.heap.size, 3, none⟩ = some (.slice na nl nc) := (World.cell?_of_block (Below.heap_alloc _ _ _ (by show w.heap.size < _; omega))).trans (five_cells HQ.out.box).1.2.2.2.1
      have HXN : Hid (_ ∧ _ ∧ _) := strs_news (w' := w5.alloc (.cells #[] 9)) HLn.out.2 HNm.out (fun b hb => (Below.heap_alloc _ _ _ (by have := HSL.out b hb; omega)).trans (HQ.out.same b hb))
      obtain ⟨is0, hi0, hy0, hy1, hyb⟩ := info_parts Tryz.info_strD
      have HIS : Hid (_ ∧ _ ∧ _ ∧ _) := ⟨hi0, hy0, hy1, hyb⟩
      clear hi0 hy0 hy1 hyb
      go_wp2_with (at_builtin; refine wpList_copy _ rfl (.tmp 85) (.tmp 87) 23 rfl w5.heap.size 9 is0 _ 1 16 Tryz.underlying23 HIS.out.1 HIS.out.2.1 HIS.out.2.2.1 HIS.out.2.2.2 rfl (by decide) w5.heap.size rfl (heap_alloc_new w5 _) (Nat.le_refl _) na nl nc ((Nd.names t).map .string) rfl HXN.out.1 HXN.out.2.2 HXN.out.2.1 (by unfold maxLen; omega) (by omega) (w5.heap.size + 1) (by simp) ?_)
      intro g1 cap1 w6 hown1 hgrow1 hat1 hlt1
      have hz6 := hgrow1.size
      rw [World.size_alloc] at hz6
      have hG1 : ∀ b, b < w5.heap.size → w6.heap[b]? = w5.heap[b]? := fun b hb => (hgrow1.block b (by simp; omega) (by simp; omega)).trans (Below.heap_alloc _ _ _ hb)
      have hQ6 := HQ.out.next (u' := w6) HD0.out HSS.out ⟨hgrow1.os, hgrow1.tape, hgrow1.output⟩ (by omega) (fun b hb _ => hG1 b hb) ((hG1 R (by omega)).trans HQ.out.dr.box)
      have HO1 : Hid (w6.ownsRow w5.heap.size 9 1 (.slice (some ⟨g1, 0, none⟩) nl cap1) nl ((Nd.names t).map .string)) := hown1
      have HQ6 : Hid (SpB S w R ao L cap (.int .i64 s) (.int .i64 nu) (.string tx) (.slice na nl nc) (.slice ka kl kc) (p1 + 1) w6) := hQ6
      have HOf : Hid (∀ (cs : Array Value), cs.size = 3 → cs.toList.all okLit = true → Calls Tryz.prog 43 #[.pointer (some ⟨R, 0, none⟩), .slice (some ⟨w6.heap.size, 0, none⟩) 3 3] (w6.alloc (.cells cs 9)) _) := fun cs h1 h2 => of_lit w6 R ao L cap (p1 + 1) HQ6.out.dr (by omega) cs 3 h1 (by omega) (by omega) h2
      have hg1 : w5.heap.size ≤ g1 := by omega
      clear hown1 hgrow1 hG1 hQ6 yE HXN hat1
      go_wp2_with fail
      refine (HOf.out _ rfl rfl).mono ?_
      rintro e w8 ⟨x, rfl, hxs, hn8, hD8⟩
      have hz8 := hn8.size
      have HO8 : Hid (w8.ownsRow w5.heap.size 9 1 (.slice (some ⟨g1, 0, none⟩) nl cap1) nl ((Nd.names t).map .string)) := owns_keep HO1.out fun g hg => by
        have := owns_lt HO1.out g hg
        exact hn8.block g (by omega) (by omega)
      have HQ8 : Hid (SpB S w R ao L cap (.int .i64 s) (.int .i64 nu) (.string tx) (.slice na nl nc) (.slice ka kl kc) (p1 + 1 + 1) w8) := HQ6.out.keep HD0.out HSS.out hn8 hD8
      clear HOf HO1 HQ6 hn8 hD8
      go_wp2_with (at_builtin; refine wpList_append_lies _ rfl (.tmp 88) (.tmp 92) 23 rfl w5.heap.size 9 is0 _ 1 16 Tryz.underlying23 HIS.out.1 HIS.out.2.1 HIS.out.2.2.1 HIS.out.2.2.2 rfl (by decide) (.slice (some ⟨g1, 0, none⟩) nl cap1) nl ((Nd.names t).map .string) rfl (HO8.out.alloc _) ⟨w8.heap.size, 0, none⟩ 1 1 [.string x] rfl rfl (World.news_of_block (heap_alloc_new w8 _)) (by simp [Value.oneCell']) (by decide) (by unfold maxLen; omega) (by omega) (by simp; omega) (w8.heap.size + 1) (by simp) ?_)
      intro g2 cap2 w9 hown2 hgrow2 hat2 hlt2
      have hz9 := hgrow2.size
      rw [World.size_alloc] at hz9
      have hg2 : w5.heap.size ≤ g2 := by
        simp only [Value.ownBlock, Option.some.injEq] at hat2
        omega
      have hG9 : ∀ b, b < w8.heap.size → b ≠ g1 → w9.heap[b]? = w8.heap[b]? := fun b hb hne => (hgrow2.block b (by simp; omega) (by simp [Value.ownBlock]; omega)).trans (Below.heap_alloc _ _ _ hb)
      have hsz8 := HQ8.out.sz
      have hQ9 : SpB S w R ao L cap (.int .i64 s) (.int .i64 nu) (.string tx) (.slice na nl nc) (.slice ka kl kc) (p1 + 1 + 1) w9 := by
        have hn8 := HQ8.out.near
        have hlow : ∀ b, b < w.heap.size + 2 → w9.heap[b]? = w8.heap[b]? := fun b hb => hG9 b (by omega) (by omega)
        have hn9 : Near R w w9 := ⟨hgrow2.os.trans hn8.os, hgrow2.tape.trans hn8.tape, hgrow2.output.trans hn8.output, by omega, fun b h1 hne => (hlow b (by omega)).trans (hn8.block b h1 hne)⟩
        exact ⟨hn9, by omega, (hlow _ (by omega)).trans HQ8.out.box, (hlow _ (by omega)).trans HQ8.out.zero, fun b hb => (hlow b (by have := HSL.out b hb; omega)).trans (HQ8.out.same b hb), HD0.out.keep hn9 ((hlow R (by omega)).trans HQ8.out.dr.box)⟩
      have hN9 : ∀ S8 : Nat → Prop, (∀ b, w5.heap.size ≤ b → b < w9.heap.size → S8 b) → StrsIn S8 w9 (Nd.names t ++ [x]) (.slice (some ⟨g2, 0, none⟩) (nl + 1) cap2) := fun S8 h8 => by
        refine strs_of_owns (M := w5.heap.size) (e := 9) (by simpa [HLn.out.2] using hown2) (by simp [HLn.out.2]; omega) (fun y hy => ?_) (fun g hg => ?_)
        · rcases List.mem_append.1 hy with hy | hy
          · exact HNs.out y hy
          · rw [List.mem_singleton] at hy; subst hy; exact hxs
        · have hg : g2 = g := by simpa [Value.ownBlock] using hg
          exact h8 g (by omega) (by omega)
      obtain ⟨⟨y0, y1, y2, y3, y4⟩, e0, e1, e2, e3, e4⟩ := five_cells hQ9.box
      obtain ⟨⟨r0, r1, r2, r3, r4⟩, f0, f1, f2, f3, f4⟩ := five_cells hQ9.zero
      obtain ⟨B9, hB9⟩ : ∃ B9, B9 = w9.setCell ⟨w.heap.size, 3, none⟩ (.slice (some ⟨g2, 0, none⟩) (nl + 1) cap2) := ⟨_, rfl⟩
      have hzB : B9.heap.size = w9.heap.size := by rw [hB9]; simp
      have HQ9 : Hid (SpB S w R ao L cap (.int .i64 s) (.int .i64 nu) (.string tx) (.slice (some ⟨g2, 0, none⟩) (nl + 1) cap2) (.slice ka kl kc) (p1 + 1 + 1) B9) := by rw [hB9]; exact hQ9.set3 HD0.out HSS.out _
      have HN9 : Hid (StrsIn (fun b => w.heap.size + 2 ≤ b ∧ b < B9.heap.size) B9 (Nd.names t ++ [x]) (.slice (some ⟨g2, 0, none⟩) (nl + 1) cap2)) := by
        refine (hN9 (fun b => w.heap.size + 2 ≤ b ∧ b < B9.heap.size) (fun b h1 h2 => ⟨by omega, by omega⟩)).keep (fun b hb => ?_) (fun _ h => h)
        rw [hB9]; exact Below.heap_setCell _ _ _ _ (by show b ≠ w.heap.size; omega)
      have hszB : w.heap.size + 2 ≤ B9.heap.size := HQ9.out.sz
      clear hown2 hgrow2 hat2 HO8 HQ8 HIS hQ9 hN9 hG9 HQ r0 r1 r2 r3 r4 f0 f1 f2 f3 f4
      obtain ⟨m2, rfl⟩ : ∃ m2, m = m2 + 1 := ⟨m - 1, by omega⟩
      have yK : (B9.alloc (.cells #[] 29)).cell? ⟨w.heap.size, 4, none⟩ = some (.slice ka kl kc) := (World.cell?_of_block (Below.heap_alloc _ _ _ (by show w.heap.size < _; omega))).trans (five_cells HQ9.out.box).1.2.2.2.2
      have yK9 : ((w9.setCell ⟨w.heap.size, 3, none⟩ (.slice (some ⟨g2, 0, none⟩) (nl + 1) cap2)).alloc (.cells #[] 29)).cell? ⟨w.heap.size, 4, none⟩ = some (.slice ka kl kc) := by rw [← hB9]; exact yK
      obtain ⟨xs, hxl, hx1, hxn, hxk⟩ := kids_newsT HLn.out.1 HKd.out
      have HXK : Hid ((xs.length = kl * 5 ∧ (∀ u ∈ xs, u.oneCell' = true) ∧ (0 < kl → ∃ ad, ka = some ad ∧ ∀ j u, xs[j]? = some u → (B9.alloc (.cells #[] 29)).cell? (ad.add j) = some u)) ∧ (∀ j (h : j < (Nd.kids t).length), ∃ c0 c1 c2 c3 c4, (xs[j * 5]? = some c0 ∧ xs[j * 5 + 1]? = some c1 ∧ xs[j * 5 + 2]? = some c2 ∧ xs[j * 5 + 3]? = some c3 ∧ xs[j * 5 + 4]? = some c4) ∧ TreeIn S w (m2 + 1) (Nd.kids t)[j] c0 c1 c2 c3 c4)) :=
        ⟨⟨hxl, hx1, hxn _ (fun b hb => (Below.heap_alloc _ _ _ (by have := HSL.out b hb; omega)).trans (HQ9.out.same b hb))⟩, hxk⟩
      obtain ⟨ik0, hi0, hy0, hy1, hyb⟩ := info_parts Tryz.info_treeR
      have HIK : Hid (_ ∧ _ ∧ _ ∧ _) := ⟨hi0, hy0, hy1, hyb⟩
      clear hxl hx1 hxn hxk hi0 hy0 hy1 hyb
      go_wp2_with (at_builtin; rw [← hB9]; (try rw [← hzB]); refine wpList_copy _ rfl (.tmp 95) (.tmp 97) 27 rfl B9.heap.size 29 ik0 _ 5 80 Tryz.underlying27 HIK.out.1 HIK.out.2.1 HIK.out.2.2.1 HIK.out.2.2.2 rfl (by decide) B9.heap.size rfl (heap_alloc_new B9 _) (Nat.le_refl _) ka kl kc xs rfl HXK.out.1.1 HXK.out.1.2.2 HXK.out.1.2.1 (by unfold maxLen; omega) (by omega) (B9.heap.size + 1) (by simp) ?_)
      intro k1 kap1 v6 kown1 kgrow1 kat1 klt1
      rw [← hB9, ← hzB] at kgrow1
      rw [← hzB] at kown1 kat1
      clear hB9 hzB yK9
      have kz6 := kgrow1.size
      rw [World.size_alloc] at kz6
      have KO1 : Hid (v6.ownsRow B9.heap.size 29 5 (.slice (some ⟨k1, 0, none⟩) kl kap1) kl xs) := kown1
      have KG1 : Hid ((v6.os = B9.os ∧ v6.tape = B9.tape ∧ v6.output = B9.output) ∧ ∀ b, b < B9.heap.size → v6.heap[b]? = B9.heap[b]?) := ⟨⟨kgrow1.os, kgrow1.tape, kgrow1.output⟩, fun b hb => (kgrow1.block b (by simp; omega) (by simp; omega)).trans (Below.heap_alloc _ _ _ hb)⟩
      have kg1 : B9.heap.size ≤ k1 := by omega
      clear kown1 kgrow1 yK kat1
      go_wp2_with (at_builtin; refine wpList_append_lies _ rfl (.tmp 98) (.tmp 100) 27 rfl B9.heap.size 29 ik0 _ 5 80 Tryz.underlying27 HIK.out.1 HIK.out.2.1 HIK.out.2.2.1 HIK.out.2.2.2 rfl (by decide) (.slice (some ⟨k1, 0, none⟩) kl kap1) kl xs rfl (KO1.out.alloc _) ⟨v6.heap.size, 0, none⟩ 1 1 [.int .i64 1, .int .i64 0, .string ⟨#[]⟩, .slice none 0 0, .slice none 0 0] rfl rfl (World.news_of_block (heap_alloc_new v6 _)) (by simp [Value.oneCell']) (by decide) (by unfold maxLen; omega) (by omega) (by simp; omega) (v6.heap.size + 1) (by simp) ?_)
      intro k2 kap2 v8 kown2 kgrow2 kat2 klt2
      have kz8 := kgrow2.size
      rw [World.size_alloc] at kz8
      have kfar : ∀ b, b < B9.heap.size → v8.heap[b]? = B9.heap[b]? := fun b hb => ((kgrow2.block b (by simp; omega) (by simp [Value.ownBlock]; omega)).trans (Below.heap_alloc _ _ _ (by omega))).trans (KG1.out.2 b hb)
      have hQK := HQ9.out.next (u' := v8) HD0.out HSS.out ⟨kgrow2.os.trans KG1.out.1.1, kgrow2.tape.trans KG1.out.1.2.1, kgrow2.output.trans KG1.out.1.2.2⟩ (by omega) (fun b hb _ => kfar b hb) ((kfar R (by omega)).trans HQ9.out.dr.box)
      have hK8 : ∀ S8 : Nat → Prop, (∀ b, S b → S8 b) → (∀ b, B9.heap.size ≤ b → b < v8.heap.size → S8 b) → RowIn S8 v8 (TreeIn S8 v8 (m2 + 1)) (Nd.kids t ++ [numT m2]) (.slice (some ⟨k2, 0, none⟩) (kl + 1) kap2) := fun S8 h8 h9 =>
        kids_moreT (t := numT m2) HLn.out.1 HXK.out.1.1 HXK.out.2 hQK.same h8 (numT_in _ _ m2) kown2 hkl (fun g hg => by
          have hg : k2 = g := by simpa [Value.ownBlock] using hg
          simp only [Value.ownBlock, Option.some.injEq] at kat2
          exact h9 g (by omega) (by omega))
      obtain ⟨⟨y0, y1, y2, y3, y4⟩, e0, e1, e2, e3, e4⟩ := five_cells hQK.box
      obtain ⟨⟨r0, r1, r2, r3, r4⟩, f0, f1, f2, f3, f4⟩ := five_cells hQK.zero
      have HP : Hid (SpoilPostT (m2 + 1 + 1) S w R ao L cap p (10 * (d + 1)) (.returned (.agg #[.int .i64 s, .int .i64 nu, .string tx, .slice (some ⟨g2, 0, none⟩) (nl + 1) cap2, .slice (some ⟨k2, 0, none⟩) (kl + 1) kap2])) (put5 (v8.setCell ⟨w.heap.size, 4, none⟩ (.slice (some ⟨k2, 0, none⟩) (kl + 1) kap2)) (w.heap.size + 1) 0 (.int .i64 s) (.int .i64 nu) (.string tx) (.slice (some ⟨g2, 0, none⟩) (nl + 1) cap2) (.slice (some ⟨k2, 0, none⟩) (kl + 1) kap2))) :=
        spt_exit (m := m2 + 1 + 1) (t := (⟨s, nu, tx, Nd.names t ++ [x], Nd.kids t ++ [numT m2]⟩ : Nd (T (m2 + 1)))) HD0.out HSL.out hQK.near hQK.dr.box (by omega) ⟨rfl, rfl, rfl, htx, hwf, hwn, HN9.out.keep (fun b hb => kfar b hb.2) (fun b hb => Or.inr ⟨hb.1, by omega⟩), hK8 _ (fun b hb => Or.inl hb) (fun b h1 h2 => Or.inr ⟨by omega, h2⟩)⟩ (set_below _ _ _ _) (fun b hb => Below.heap_setCell _ _ _ _ hb) (by simp)
      clear kown2 kgrow2 kat2 KO1 KG1 HIK HXK hQK hK8 kfar HQ9 HN9
      go_wp2_with fail
      refine bodyPost_ret (v := .agg #[.int .i64 s, .int .i64 nu, .string tx, .slice (some ⟨g2, 0, none⟩) (nl + 1) cap2, .slice (some ⟨k2, 0, none⟩) (kl + 1) kap2]) (by simp [results, Tryz.results16, go_sem, r0, r1, r2, r3, r4]) rfl ?_
      exact HP.out
    · obtain ⟨m2, rfl⟩ : ∃ m2, m = m2 + 1 := ⟨m - 1, by omega⟩
      have hab : Below w5.heap.size w5 (w5.alloc (.cells #[] 29)) := (Below.refl _ _).alloc (Nat.le_refl _) _
      have hboxa := (hab.block w.heap.size (by omega)).trans HQ.out.box
      obtain ⟨⟨-, -, -, -, y4⟩, -, -, -, -, e4⟩ := five_cells hboxa
      obtain ⟨E6, hE6⟩ : ∃ E6, E6 = (w5.alloc (.cells #[] 29)).setCell ⟨w.heap.size, 4, none⟩ (.slice (some ⟨w5.heap.size, 0, none⟩) 0 0) := ⟨_, rfl⟩
      have HF0 : Hid (Fill w.heap.size w5 E6 (.int .i64 s) (.int .i64 nu) (.string tx) (.slice na nl nc) (.int .i64 1) (.int .i64 0) (.string ⟨#[]⟩) (.slice none 0 0) (.slice none 0 0) 0 (.slice (some ⟨w5.heap.size, 0, none⟩) 0 0)) := by
        rw [hE6]
        refine ⟨rfl, rfl, rfl, by simp, fun b hb hne => (Below.heap_setCell _ _ _ _ hne).trans (Below.heap_alloc _ _ _ hb), by simp [World.setCell, Array.getElem?_modify, hboxa], ?_, fun g hg => ?_⟩
        · refine owns_keep (owns_empty (heap_alloc_new w5 _) (by omega)) fun g hg => ?_
          have : w5.heap.size = g := by simpa [Value.ownBlock] using hg
          exact Below.heap_setCell _ _ _ _ (by show g ≠ w.heap.size; omega)
        · have : w5.heap.size = g := by simpa [Value.ownBlock] using hg
          omega
      clear hab hboxa
      go_wp2_with fail
      rw [← hE6]
      clear hE6 y4 e4
      obtain ⟨ik0, hi0, hy0, hy1, hyb⟩ := info_parts Tryz.info_treeR
      have HIK : Hid (_ ∧ _ ∧ _ ∧ _) := ⟨hi0, hy0, hy1, hyb⟩
      clear hi0 hy0 hy1 hyb
      go_loopw [7] (fun iv wr => ∃ (ln : Nat) (ka' : Option Addr) (kc' : Nat), ln ≤ 21 ∧ iv = .int .i64 ln ∧ Fill w.heap.size w5 wr (.int .i64 s) (.int .i64 nu) (.string tx) (.slice na nl nc) (.int .i64 1) (.int .i64 0) (.string ⟨#[]⟩) (.slice none 0 0) (.slice none 0 0) ln (.slice ka' ln kc')) (fun iv _ => 21 - (intOf iv).toNat)
      case atStart => exact ⟨0, _, _, by omega, rfl, HF0.out⟩
      case round =>
        obtain ⟨ln, ka', kc', hln, rfl, hF⟩ := hrel
        have hzr := hF.size
        have HF : Hid (Fill w.heap.size w5 wr (.int .i64 s) (.int .i64 nu) (.string tx) (.slice na nl nc) (.int .i64 1) (.int .i64 0) (.string ⟨#[]⟩) (.slice none 0 0) (.slice none 0 0) ln (.slice ka' ln kc')) := hF
        by_cases hlt : ln ≤ 20
        · have hlti : (ln : Int) ≤ 20 := by omega
          have x4 := hF.cells.1.2.2.2.2
          clear hF HF0
          go_wp2_with (at_builtin; refine wpList_append_lies _ rfl (.tmp 112) (.tmp 114) 27 rfl (w.heap.size + 1) 29 ik0 _ 5 80 Tryz.underlying27 HIK.out.1 HIK.out.2.1 HIK.out.2.2.1 HIK.out.2.2.2 rfl (by decide) (.slice ka' ln kc') ln _ rfl (HF.out.row.alloc _) ⟨wr.heap.size, 0, none⟩ 1 1 [.int .i64 1, .int .i64 0, .string ⟨#[]⟩, .slice none 0 0, .slice none 0 0] rfl rfl (World.news_of_block (heap_alloc_new wr _)) (by simp [Value.oneCell']) (by decide) (by unfold maxLen; omega) (by omega) (by simp; omega) (wr.heap.size + 1) (by simp) ?_; intro g2 cap2 w9 hown2 hgrow2 hat2 hlt2; refine Hid.out ?_)
          refine Lib.hid ?_
          have hF9 := HF.out.more (by omega) hown2 hgrow2 hat2
          have hb9 := ((hgrow2.block w.heap.size (by simp; omega) (fun e => by have := HF.out.new _ e.symm; omega)).trans (Below.heap_alloc _ _ _ (by omega))).trans HF.out.box
          have x4'' : w9.cell? ⟨w.heap.size, 4, none⟩ = some (.slice ka' ln kc') := (by simp [World.cell?, hb9])
          have xf'' : w9.frozen? ⟨w.heap.size, 4, none⟩ = false := (by simp [World.frozen?, hb9])
          have HF9 : Hid (Fill w.heap.size w5 (w9.setCell ⟨w.heap.size, 4, none⟩ (.slice (some ⟨g2, 0, none⟩) (ln + 1) cap2)) (.int .i64 s) (.int .i64 nu) (.string tx) (.slice na nl nc) (.int .i64 1) (.int .i64 0) (.string ⟨#[]⟩) (.slice none 0 0) (.slice none 0 0) (ln + 1) (.slice (some ⟨g2, 0, none⟩) (ln + 1) cap2)) := hF9
          clear hF9 hown2 hgrow2 hat2 hlt2 hb9 x4
          go_wp2_with fail
          go_roundw
          case rel => exact ⟨ln + 1, some ⟨g2, 0, none⟩, cap2, by omega, by go_num, HF9.out⟩
          case measure => simp [intOf]; omega
        · have hlti : ¬ (ln : Int) ≤ 20 := by omega
          obtain ⟨⟨y0, y1, y2, y3, y4⟩, -⟩ := hF.cells
          obtain ⟨⟨r0, r1, r2, r3, r4⟩, f0, f1, f2, f3, f4⟩ := five_cells ((hF.block (w.heap.size + 1) (by omega) (by omega)).trans HQ.out.zero)
          have HP : Hid (SpoilPostT (m2 + 1 + 1) S w R ao L cap p (10 * (d + 1)) (.returned (.agg #[.int .i64 s, .int .i64 nu, .string tx, .slice na nl nc, .slice ka' ln kc'])) (put5 (wr) (w.heap.size + 1) 0 (.int .i64 s) (.int .i64 nu) (.string tx) (.slice na nl nc) (.slice ka' ln kc'))) := by
            have hsame : Same S w wr := fun b hb => (hF.block b (by have := HSL.out b hb; omega) (by have := HSL.out b hb; omega)).trans (HQ.out.same b hb)
            have hn := HQ.out.near
            exact spt_exit (m := m2 + 1 + 1) (t := (⟨s, nu, tx, Nd.names t, List.replicate ln (numT m2)⟩ : Nd (T (m2 + 1)))) HD0.out HSL.out ⟨hF.os.trans hn.os, hF.tape.trans hn.tape, hF.output.trans hn.output, by omega, fun b hb hne => (hF.block b (by omega) (by omega)).trans (hn.block b hb hne)⟩ ((hF.block R (by omega) (by omega)).trans HQ.out.dr.box) (by omega) ⟨rfl, rfl, rfl, htx, hwf, hwn, HNm.out.keep hsame (fun b hb => Or.inl hb), hF.row_in (by omega) (fun b h1 h2 => Or.inr ⟨by omega, h2⟩) (numT_in _ _ m2)⟩ (Below.refl _ _) (fun _ _ => rfl) rfl
          clear hF HF HF0 HIK HQ
          go_wp2_with fail
          refine bodyPost_ret (v := .agg #[.int .i64 s, .int .i64 nu, .string tx, .slice na nl nc, .slice ka' ln kc']) (by simp [results, Tryz.results16, go_sem, r0, r1, r2, r3, r4]) rfl ?_
          exact HP.out
    · obtain ⟨W6, hW6⟩ : ∃ W6, W6 = w5.alloc (.cells #[] 9) := ⟨_, rfl⟩
      have hb6 : Below w5.heap.size w5 W6 := by rw [hW6]; exact (Below.refl _ _).alloc (Nat.le_refl _) _
      have hQ := HQ.out.keep HD0.out HSS.out (Near.of_below hb6) (HQ.out.dr.same hb6)
      obtain ⟨⟨y0, y1, y2, y3, y4⟩, e0, e1, e2, e3, e4⟩ := five_cells hQ.box
      obtain ⟨⟨r0, r1, r2, r3, r4⟩, f0, f1, f2, f3, f4⟩ := five_cells hQ.zero
      have HP : Hid (SpoilPostT (m + 1) S w R ao L cap p (10 * (d + 1)) (.returned (.agg #[.int .i64 s, .int .i64 nu, .string tx, .slice (some ⟨w5.heap.size, 0, none⟩) 0 0, .slice ka kl kc])) (put5 (W6.setCell ⟨w.heap.size, 3, none⟩ (.slice (some ⟨w5.heap.size, 0, none⟩) 0 0)) (w.heap.size + 1) 0 (.int .i64 s) (.int .i64 nu) (.string tx) (.slice (some ⟨w5.heap.size, 0, none⟩) 0 0) (.slice ka kl kc))) :=
        spt_exit (m := m + 1) (t := (⟨s, nu, tx, [], Nd.kids t⟩ : Nd (T m))) HD0.out HSL.out hQ.near hQ.dr.box (by omega) ⟨rfl, rfl, rfl, htx, hwf, hwn, ⟨some ⟨w5.heap.size, 0, none⟩, 0, rfl, by simp [maxLen], fun s h => (by cases h), fun h => absurd rfl h⟩, (HKd.out.keepT hQ.same (fun b hb => Or.inl hb))⟩ (set_below _ _ _ _) (fun b hb => Below.heap_setCell _ _ _ _ hb) (by simp)
      clear hQ HQ hb6
      subst hW6
      go_wp2_with fail
      refine bodyPost_ret (v := .agg #[.int .i64 s, .int .i64 nu, .string tx, .slice (some ⟨w5.heap.size, 0, none⟩) 0 0, .slice ka kl kc]) (by simp [results, Tryz.results16, go_sem, r0, r1, r2, r3, r4]) rfl ?_
      exact HP.out

end Go.Proofs.YtamkblgldlkooaaGreatDoor

/-
  What the specification draws: l5Any.
-/
namespace Go.Proofs.YtamkblgldlkooaaGreatDoor
open Go.RowKit

theorem spoilT_any : ∀ d, SpoilTSaid d := by
  intro d
  induction d with
  | zero =>
    intro m R ao L cap p S t c0 c1 c2 c3 c4 w hm hdt
    obtain ⟨m, rfl⟩ : ∃ m', m = m' + 1 := ⟨m - 1, by omega⟩
    exact absurd hdt.1 (by omega)
  | succ d ih => exact spoilT_step d ih

theorem pt4 : pt 4 = 262564 := by decide

end Go.Proofs.YtamkblgldlkooaaGreatDoor
