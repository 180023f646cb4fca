/-
  The program's joining: what is made, and what of it is the call's own.
-/
import Derived.Test.YthcdeahobjhkbaaGreatDoorB5
import Derived.Test.YthcdeahobjhkbaaGreatDoorB4
import Derived.Test.YthcdeahobjhkbaaGreatDoorJ00
import Derived.Test.YthcdeahobjhkbaaGreatDoorKOut2
import Derived.Test.YthcdeahobjhkbaaGreatDoorB10
namespace Go.Proofs.YthcdeahobjhkbaaGreatDoor
open Go.RowKit

/-- A schema in new blocks, each of its cells there once. -/
def OutAt (n : Nat) (t : K n) (w w' : World) (g0 g1 g2 : Value) : Prop :=
  KindIn (fun b => w.heap.size ≤ b ∧ b < w'.heap.size) w' n t g0 g1 g2 ∧ ∃ L3 L4, SpN w' g1 L3 ∧ SpK w' (n - 1) g2 L4 ∧ Own (fun b => w.heap.size ≤ b ∧ b < w'.heap.size) (L3 ++ L4) ∧ (L3 ++ L4).length = spKL n t

theorem OutAt.move {n : Nat} {t : K n} {w0 w W U : World} {g0 g1 g2 : Value} (h : OutAt n t w W g0 g1 g2) (hs : ∀ b, w.heap.size ≤ b → b < W.heap.size → U.heap[b]? = W.heap[b]?) (hz : W.heap.size ≤ U.heap.size) (hw : w0.heap.size ≤ w.heap.size) : OutAt n t w0 U g0 g1 g2 := by
  obtain ⟨hk, L3, L4, h3, h4, ho, hl⟩ := h
  refine ⟨hk.keep (fun b hb => hs b hb.1 hb.2) (fun b hb => ⟨by omega, by omega⟩), L3, L4, h3.same (fun s hs' => ?_), h4.same (fun s hs' => ?_), ho.mono (fun b hb => ⟨by omega, by omega⟩), hl⟩
  · have := ho.1 s (List.mem_append_left _ hs'); exact hs _ this.1 this.2
  · have := ho.1 s (List.mem_append_right _ hs'); exact hs _ this.1 this.2

theorem SpK.more {w : World} : ∀ {n m : Nat} {v : Value} {L : List Spot}, n ≤ m → SpK w n v L → SpK w m v L := by
  intro n
  induction n with
  | zero =>
    intro m v L _ h
    obtain ⟨ao, cap, rfl, rfl⟩ := h
    cases m with
    | zero => exact ⟨ao, cap, rfl, rfl⟩
    | succ m => exact ⟨ao, cap, [], rfl, by simp [maxLen], rfl, fun i h => absurd h (Nat.not_lt_zero _)⟩
  | succ n ih =>
    intro m v L hm h
    obtain ⟨m, rfl⟩ : ∃ m', m = m' + 1 := ⟨m - 1, by omega⟩
    obtain ⟨ao, cap, Ls, hv, hl, hL, hi⟩ := h
    refine ⟨ao, cap, Ls, hv, hl, hL, fun i h => ?_⟩
    obtain ⟨b, off, c3, c4, L3, L4, ha, hLi, hok, h3, h4, hn, hr⟩ := hi i h
    exact ⟨b, off, c3, c4, L3, L4, ha, hLi, hok, h3, h4, hn, ih (by omega) hr⟩

theorem sumL_map_eq {α β : Type} (f : β → Nat) (g : α → β) (h : α → Nat) : ∀ l : List α, (∀ x, x ∈ l → f (g x) = h x) → sumL f (l.map g) = sumL h l := by
  intro l
  induction l with
  | nil => intro _; rfl
  | cons a r ih =>
    intro hh
    simp only [List.map_cons, sumL]
    rw [hh a (List.mem_cons_self ..), ih (fun x hx => hh x (List.mem_cons_of_mem _ hx))]

theorem spKL_copy : ∀ (n L : Nat) (t : K n), n ≤ L + 1 → spKL (L + 1) (copyL L n t) = spKL n t := by
  intro n
  induction n with
  | zero => intro L t; exact Empty.elim (show Empty from t)
  | succ n ih =>
    intro L t hL
    cases L with
    | zero =>
      have hn : n = 0 := by omega
      subst hn
      have hk : Kd.kids t = [] := by
        cases hk : Kd.kids t with
        | nil => rfl
        | cons x r => exact Empty.elim (show Empty from x)
      show (Kd.names t).length + 0 = (Kd.names t).length + sumL _ (Kd.kids t)
      rw [hk]; rfl
    | succ L =>
      show (Kd.names t).length + sumL (fun k => 1 + spKL (L + 1) k) ((Kd.kids t).map (copyL L n)) = (Kd.names t).length + sumL (fun k => 1 + spKL n k) (Kd.kids t)
      rw [sumL_map_eq _ _ (fun k => 1 + spKL n k) _ (fun x _ => by rw [ih L x (by omega)])]

theorem OutAt.up {n L : Nat} {t : K n} {w W : World} {g0 g1 g2 : Value} (h : OutAt n t w W g0 g1 g2) (hL : n ≤ L + 1) : OutAt (L + 1) (copyL L n t) w W g0 g1 g2 := by
  obtain ⟨hk, L3, L4, h3, h4, ho, hl⟩ := h
  exact ⟨hk.cp hL, L3, L4, h3, h4.more (by omega), ho, hl.trans (spKL_copy n L t hL).symm⟩

/-- One schema within another. -/
theorem out_one {L : Nat} {r : K (L + 1)} {s : Int} {w w0 W U : World} {g0 : Int} {ga ea : Option Addr} {gl gc el ec : Nat} (hwf : (Lit.int .i64 s).wf = true) (h : OutAt (L + 1) r w0 W (.int .i64 g0) (.slice ga gl gc) (.slice ea el ec)) (hw : w.heap.size ≤ w0.heap.size) (hz0 : w0.heap.size ≤ W.heap.size) (hU : ∀ b, w0.heap.size ≤ b → b < W.heap.size + 1 → U.heap[b]? = (W.alloc (.cells #[.int .i64 g0, .slice ga gl gc, .slice ea el ec] 26)).heap[b]?) (hz : W.heap.size + 1 ≤ U.heap.size) :
    OutAt (L + 2) (oneK6 s r) w U (.int .i64 s) (.slice none 0 0) (.slice (some ⟨W.heap.size, 0, none⟩) 1 1) := by
  have hm := h.move (w0 := w0) (U := U) (fun b h1 h2 => (hU b h1 (by omega)).trans (Below.heap_alloc _ _ _ h2)) (by omega) (Nat.le_refl _)
  have hn : U.heap[W.heap.size]? = some (.cells #[.int .i64 g0, .slice ga gl gc, .slice ea el ec] 26 (0, 0)) := (hU _ hz0 (by omega)).trans (heap_alloc_new _ _)
  obtain ⟨L3, L4, h3, h4, ho, hl⟩ := h.2
  have h3' : SpN U (.slice ga gl gc) L3 := h3.same (fun s hs => by
    have := ho.1 s (List.mem_append_left _ hs)
    exact (hU _ this.1 (by omega)).trans (Below.heap_alloc _ _ _ this.2))
  have h4' : SpK U L (.slice ea el ec) L4 := h4.same (fun s hs => by
    have := ho.1 s (List.mem_append_right _ hs)
    exact (hU _ this.1 (by omega)).trans (Below.heap_alloc _ _ _ this.2))
  refine ⟨?_, [], [⟨W.heap.size, 0, false⟩] ++ (L3 ++ L4), SpN.no U, ?_, ?_, ?_⟩
  · refine ⟨rfl, hwf, ⟨none, 0, rfl, by simp [maxLen, oneK6], (fun s hs => (by cases hs)), fun h => absurd rfl h⟩, some ⟨W.heap.size, 0, none⟩, 1, rfl, by simp [maxLen, oneK6], fun _ => ⟨W.heap.size, 0, rfl, ⟨by omega, by omega⟩, fun i hi => ?_⟩⟩
    have : i = 0 := by simpa [oneK6] using hi
    subst this
    exact ⟨_, _, _, j3_at hn 0 _ rfl, j3_at hn 1 _ rfl, j3_at hn 2 _ rfl, hm.1.keep (fun _ _ => rfl) (fun b hb => ⟨by omega, hb.2⟩)⟩
  · show SpK U (L + 1) _ _
    refine ⟨some ⟨W.heap.size, 0, none⟩, 1, [[⟨W.heap.size, 0, false⟩] ++ (L3 ++ L4)], rfl, by simp [maxLen], by simp, fun i hi => ?_⟩
    have : i = 0 := by simpa using hi
    subst this
    refine ⟨W.heap.size, 0, .slice ga gl gc, .slice ea el ec, L3, L4, rfl, rfl, ⟨⟨g0, j3_at hn 0 _ rfl⟩, by simp [Spot.at, World.frozen?, hn]⟩, j3_at hn 1 _ rfl, j3_at hn 2 _ rfl, h3', h4'⟩
  · show Own _ ([] ++ ([⟨W.heap.size, 0, false⟩] ++ (L3 ++ L4)))
    refine ⟨fun s hs => ?_, ?_⟩
    · rcases List.mem_append.1 (show s ∈ [(⟨W.heap.size, 0, false⟩ : Spot)] ++ (L3 ++ L4) from hs) with h1 | h1
      · rw [List.mem_singleton] at h1; subst h1; exact ⟨by show w.heap.size ≤ W.heap.size; omega, by show W.heap.size < U.heap.size; omega⟩
      · have := ho.1 s h1; exact ⟨by omega, by omega⟩
    · show List.Pairwise _ ([(⟨W.heap.size, 0, false⟩ : Spot)] ++ (L3 ++ L4))
      refine List.pairwise_append.2 ⟨List.pairwise_singleton _ _, ho.2, fun a ha b hb => at_ne fun e => ?_⟩
      rw [List.mem_singleton] at ha
      subst ha
      have := ho.1 b hb
      have e : W.heap.size = b.b := e
      omega
  · show ([] ++ ([(⟨W.heap.size, 0, false⟩ : Spot)] ++ (L3 ++ L4))).length = 0 + (1 + spKL (L + 1) r + 0)
    rw [← hl]; simp; omega

/-- How the joining ends. -/
def EndJ (L : Nat) (o : Option (K (L + 1))) (w : World) (e : Ending) (w' : World) : Prop :=
  (∃ r d0 da dl dc ea el ec, o = some r ∧ e = .returned (.tuple #[.agg #[.int .i64 d0, .slice da dl dc, .slice ea el ec], .nilIface]) ∧ OutAt (L + 1) r w w' (.int .i64 d0) (.slice da dl dc) (.slice ea el ec)) ∨
  (o = none ∧ ∃ y : ByteArray, e = .returned (.tuple #[.agg #[.int .i64 0, .slice none 0 0, .slice none 0 0], .iface 87 (.agg #[.string y])]))

/-- The same, of the two results. -/
def EndQ (L : Nat) (o : Option (K (L + 1))) (w : World) (v0 : Int) (va : Option Addr) (vl vc : Nat) (xa : Option Addr) (xl xc : Nat) (u : Value) (w' : World) : Prop :=
  (∃ r, o = some r ∧ u = .nilIface ∧ OutAt (L + 1) r w w' (.int .i64 v0) (.slice va vl vc) (.slice xa xl xc)) ∨ (o = none ∧ (v0 = 0 ∧ (va = none ∧ vl = 0 ∧ vc = 0) ∧ xa = none ∧ xl = 0 ∧ xc = 0) ∧ ∃ y : ByteArray, u = .iface 87 (.agg #[.string y]))

theorem endQ_to {L : Nat} {o : Option (K (L + 1))} {w : World} {e : Ending} {w' : World} (h : EndJ L o w e w') : ∃ v0 va vl vc xa xl xc u, e = .returned (.tuple #[.agg #[.int .i64 v0, .slice va vl vc, .slice xa xl xc], u]) ∧ EndQ L o w v0 va vl vc xa xl xc u w' := by
  rcases h with ⟨r, d0, da, dl, dc, ea, el, ec, ho, rfl, hr⟩ | ⟨ho, y, rfl⟩
  · exact ⟨_, _, _, _, _, _, _, _, rfl, .inl ⟨r, ho, rfl, hr⟩⟩
  · exact ⟨0, none, 0, 0, none, 0, 0, _, rfl, .inr ⟨ho, ⟨rfl, ⟨rfl, rfl, rfl⟩, rfl, rfl, rfl⟩, y, rfl⟩⟩

theorem endQ_from {L : Nat} {o : Option (K (L + 1))} {w w0 W U : World} {v0 : Int} {va xa : Option Addr} {vl vc xl xc : Nat} {u : Value} (h : EndQ L o w0 v0 va vl vc xa xl xc u W) (hs : ∀ b, w0.heap.size ≤ b → b < W.heap.size → U.heap[b]? = W.heap[b]?) (hz : W.heap.size ≤ U.heap.size) (hw : w.heap.size ≤ w0.heap.size) : EndJ L o w (.returned (.tuple #[.agg #[.int .i64 v0, .slice va vl vc, .slice xa xl xc], u])) U := by
  rcases h with ⟨r, ho, rfl, hr⟩ | ⟨ho, ⟨rfl, ⟨rfl, rfl, rfl⟩, rfl, rfl, rfl⟩, y, rfl⟩
  · exact .inl ⟨r, v0, va, vl, vc, xa, xl, xc, ho, rfl, hr.move hs hz hw⟩
  · exact .inr ⟨ho, y, rfl⟩

/-- The joining in schemas of L + 1 levels. -/
def JoinISaid (L : Nat) : Prop := ∀ (S : Nat → Prop) (n m : Nat) (a : K n) (b : K m) (va vb : Value) (d d' : Int) (R : Nat) (x : ByteArray) (w : World), n + m ≤ L → InnerK S w n a va → InnerK S w m b vb → (∀ b, S b → b < w.heap.size) → TabJ w R → R < w.heap.size →
  goodK n a d = true → goodK m b d' = true → cntK n a ≤ 40 → cntK m b ≤ 40 → 1 ≤ d → 1 ≤ d' → (x.size : Int) ≤ 20 * (d + d') →
  Calls Tryz.prog 20 #[.pointer (some ⟨R, 0, none⟩), .agg #[va, vb, .string x]] w fun e w' => Below w.heap.size w w' ∧ EndJ L (jnL L n a m b) w e w'

theorem Tryz.jfunc_eq (fn : Fn) (first cap : Array Value) (w : World) : (binOp .eql 51 (.func fn first cap) .nilFunc).run Tryz.prog w = .ok (.bool false) w := by
  have : (Op.equal 51 (.func fn first cap) .nilFunc).run Tryz.prog w = .ok false w := wfuncIn_nil 9999 fn first cap w Tryz.underlying51
  simp only [binOp]
  simp [this]

theorem Tryz.jfunc_nil (w : World) : (binOp .eql 51 .nilFunc .nilFunc).run Tryz.prog w = .ok (.bool true) w := by
  have : (Op.equal 51 .nilFunc .nilFunc).run Tryz.prog w = .ok true w := wnilIn_nil 9999 w Tryz.underlying51
  simp only [binOp]
  simp [this]

set_option maxRecDepth 20000 in
set_option maxHeartbeats 2000000 in
theorem of_j (L : Nat) (o : Option (K (L + 1))) (R pa pb i j N : Nat) (x : ByteArray) (w : World) (h1 : 1 ≤ i) (h2 : i ≤ 6) (h3 : 1 ≤ j) (h4 : j ≤ 6) (eg : ∀ (args : Array Value) (W : World), (callFunc N args).run Tryz.prog W = .ok (.enter N args) W) (ha : w.cell? ⟨pa, 0, none⟩ = some (.int .i64 (i : Int))) (hb : w.cell? ⟨pb, 0, none⟩ = some (.int .i64 (j : Int))) (hT : w.cell? ⟨R, i * 7 + j, none⟩ = some (widF R N))
    (hla : pa < w.heap.size) (hlb : pb < w.heap.size) (hlR : R < w.heap.size)
    (hC : ∀ W, Below w.heap.size w W → Calls Tryz.prog N #[.pointer (some ⟨R, 0, none⟩), .agg #[.pointer (some ⟨pa, 0, none⟩), .pointer (some ⟨pb, 0, none⟩), .string x]] W fun e w' => Below W.heap.size W w' ∧ EndJ L o W e w') :
    Calls Tryz.prog 20 #[.pointer (some ⟨R, 0, none⟩), .agg #[.pointer (some ⟨pa, 0, none⟩), .pointer (some ⟨pb, 0, none⟩), .string x]] w fun e w' => Below w.heap.size w w' ∧ EndJ L o w e w' := by
  obtain ⟨W0, hW0⟩ : ∃ W0, W0 = (w.alloc (.cells #[.pointer (some ⟨pa, 0, none⟩), .pointer (some ⟨pb, 0, none⟩), .string x] 43)).alloc (.cells #[.int .i64 0, .slice none 0 0, .slice none 0 0] 26) := ⟨_, rfl⟩
  have hb0 : Below w.heap.size w W0 := by rw [hW0]; exact ((Below.refl _ _).alloc (Nat.le_refl _) _).alloc (by simp) _
  have hz0 : W0.heap.size = w.heap.size + 1 + 1 := by rw [hW0]; simp
  have hp0 : W0.cell? ⟨w.heap.size, 0, none⟩ = some (.pointer (some ⟨pa, 0, none⟩)) ∧ W0.cell? ⟨w.heap.size, 1, none⟩ = some (.pointer (some ⟨pb, 0, none⟩)) ∧ W0.cell? ⟨w.heap.size, 2, none⟩ = some (.string x) := by
    rw [hW0]; refine ⟨?_, ?_, ?_⟩ <;> simp [go_sem]
  have hr0 : W0.heap[w.heap.size + 1]? = some (.cells #[.int .i64 0, .slice none 0 0, .slice none 0 0] 26 (0, 0)) := by
    have := heap_alloc_new (w.alloc (.cells #[.pointer (some ⟨pa, 0, none⟩), .pointer (some ⟨pb, 0, none⟩), .string x] 43)) (.cells #[.int .i64 0, .slice none 0 0, .slice none 0 0] 26)
    rw [hW0]; simpa using this
  have ha' := (hb0.cell (p := ⟨pa, 0, none⟩) hla).trans ha
  have hb' := (hb0.cell (p := ⟨pb, 0, none⟩) hlb).trans hb
  have hT' := (hb0.cell (p := ⟨R, i * 7 + j, none⟩) hlR).trans hT
  have hq1 := Tryz.jfunc_nil
  have hq2 := Tryz.jfunc_eq
  have hi7 : (i : Int) < 7 := by omega
  have hj7 : (j : Int) < 7 := by omega
  have HC := Lib.hid hC
  have HB0 := Lib.hid hb0
  have HR0 := Lib.hid hr0
  have hza : w.heap.size + 2 ≤ W0.heap.size := by omega
  clear ha hb hT hC hb0 hr0 hz0
  unfold widF at hT'
  obtain ⟨p0, p1, p2⟩ := hp0
  go_enter Tryz.func20, Tryz.ntmps20
  go_wp2_with fail
  rw [← hW0]
  clear hW0
  go_quiet (fail)
  go_wp2_with fail
  have HCq := Lib.hid (HC.out _ (below_drewN HB0.out nq))
  refine HCq.out.mono ?_
  rintro e w2 ⟨hb2, hE⟩
  obtain ⟨v0, va, vl, vc, xa, xl, xc, u, rfl, hQ⟩ := endQ_to hE
  have hb02 : Below W0.heap.size W0 w2 := (below_drewN (Below.refl W0.heap.size W0) nq).trans hb2
  obtain ⟨⟨r0, r1, r2⟩, f0, f1, f2⟩ := j3_cells ((hb02.block _ (by omega)).trans HR0.out)
  have HF : Hid (Below w.heap.size w (((w2.setCell ⟨w.heap.size + 1, 0, none⟩ (.int .i64 v0)).setCell ⟨w.heap.size + 1, 1, none⟩ (.slice va vl vc)).setCell ⟨w.heap.size + 1, 2, none⟩ (.slice xa xl xc)) ∧ EndJ L o w (.returned (.tuple #[.agg #[.int .i64 v0, .slice va vl vc, .slice xa xl xc], u])) (((w2.setCell ⟨w.heap.size + 1, 0, none⟩ (.int .i64 v0)).setCell ⟨w.heap.size + 1, 1, none⟩ (.slice va vl vc)).setCell ⟨w.heap.size + 1, 2, none⟩ (.slice xa xl xc))) := by
    refine ⟨j3_below (below_step HB0.out HB0.out.size hb02) (by omega), endQ_from hQ (fun b h1 h2 => j3_other ?_) (by rw [j3_size]; exact Nat.le_refl _) ?_⟩
    · have h1 : W0.heap.size ≤ b := h1
      omega
    · show w.heap.size ≤ W0.heap.size; omega
  clear hE hQ hb2 hb02 HCq
  go_wp2_with fail
  refine bodyPost_ret (v := .tuple #[.agg #[.int .i64 v0, .slice va vl vc, .slice xa xl xc], u]) (by simp [results, Tryz.results20, go_sem, r0, r1, r2]) rfl ?_
  exact HF.out

end Go.Proofs.YthcdeahobjhkbaaGreatDoor
