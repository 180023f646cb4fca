/-
  Several texts in one, in their order.
-/
import Derived.Test.YtcpeajdjpecmkaaGreatDoorB1
import Derived.Laws.BitsAllLaws
import Derived.Deep.QuietTactic
import Derived.BigQuiet
import Derived.Test.YtcpeajdjpecmkaaGreatDoorB19

/-
  The reader of codes by which the specification draws: its block; pick.
-/
namespace Go.Proofs.YtcpeajdjpecmkaaGreatDoor
open Go.RowKit

/-- The block of the reader of codes, and the bytes that it reads. -/
structure Dr (w : World) (R : Nat) (ao : Option Addr) (L cap p : Nat) : Prop where
  box : w.heap[R]? = some (.cells #[.slice ao L cap, .int .i64 (p : Int)] 90 (0, 0))
  len : L ≤ 2000
  bytes : 0 < L → ∃ b off, ao = some ⟨b, off, none⟩ ∧ b ≠ R ∧ ∀ j, j < L → ∃ u : Nat, u ≤ 255 ∧ w.cell? ⟨b, off + j, none⟩ = some (.int .u8 (u : Int))

theorem Dr.lt {w : World} {R : Nat} {ao : Option Addr} {L cap p : Nat} (h : Dr w R ao L cap p) : R < w.heap.size := (Array.getElem?_eq_some_iff.1 h.box).1
theorem Dr.keep {w w' : World} {R : Nat} {ao : Option Addr} {L cap p q : Nat} (h : Dr w R ao L cap p) (hn : Near R w w') (hb : w'.heap[R]? = some (.cells #[.slice ao L cap, .int .i64 (q : Int)] 90 (0, 0))) : Dr w' R ao L cap q := by
  refine ⟨hb, h.len, fun hl => ?_⟩
  obtain ⟨b, off, ha, hne, hc⟩ := h.bytes hl
  refine ⟨b, off, ha, hne, fun j hj => ?_⟩
  obtain ⟨u, hu, hcell⟩ := hc j hj
  exact ⟨u, hu, hn.cell hcell hne⟩
theorem Dr.same {w w' : World} {R : Nat} {ao : Option Addr} {L cap p : Nat} (h : Dr w R ao L cap p) (hb : Below w.heap.size w w') : Dr w' R ao L cap p := h.keep (Near.of_below hb) ((hb.block R h.lt).trans h.box)
theorem Dr.drewN {w : World} {R : Nat} {ao : Option Addr} {L cap p : Nat} (h : Dr w R ao L cap p) (n : Nat) : Dr (w.drewN n) R ao L cap p := ⟨h.box, h.len, h.bytes⟩
theorem Dr.set {w : World} {R : Nat} {ao : Option Addr} {L cap p : Nat} (h : Dr w R ao L cap p) (q : Nat) : Dr (w.setCell ⟨R, 1, none⟩ (.int .i64 (q : Int))) R ao L cap q :=
  h.keep (Near.set R 1 w _) (by simp [World.setCell, Array.getElem?_modify, h.box])

/-- What pick makes. -/
def PickPost (w : World) (R : Nat) (ao : Option Addr) (L cap p n : Nat) (e : Ending) (w' : World) : Prop :=
  ∃ x : Nat, e = .returned (.int .i64 (x : Int)) ∧ x < n ∧ Near R w w' ∧ Dr w' R ao L cap (p + 1) ∧ w'.heap.size = w.heap.size

theorem xor_i64 (a b : Nat) (ha : a < 4611686018427387904) (hb : b < 4611686018427387904) : bits .xor .i64 (a : Int) (b : Int) = ((a ^^^ b : Nat) : Int) := by
  show IntKind.i64.wrap ((BitVec.ofInt 64 (a : Int) ^^^ BitVec.ofInt 64 (b : Int)).toNat : Int) = _
  have h1 : (BitVec.ofInt 64 (a : Int)).toNat = a := by rw [BitVec.toNat_ofInt]; omega
  have h2 : (BitVec.ofInt 64 (b : Int)).toNat = b := by rw [BitVec.toNat_ofInt]; omega
  rw [BitVec.toNat_xor, h1, h2, IntKind.wrap_i64]
  have h3 : a ^^^ b < 2 ^ 62 := Nat.xor_lt_two_pow (by omega) (by omega)
  omega

set_option maxRecDepth 20000 in
set_option maxHeartbeats 1000000 in
theorem pick_any (w : World) (R : Nat) (ao : Option Addr) (L cap p n : Nat) (h : Dr w R ao L cap p) (hp : p ≤ 1000000) (hn : 1 ≤ n) (hn2 : n ≤ 1000000) :
    Calls Tryz.prog 39 #[.pointer (some ⟨R, 0, none⟩), .int .i64 (n : Int)] w (PickPost w R ao L cap p n) := by
  have hR := h.lt
  obtain ⟨W, hW⟩ : ∃ W, W = w.setCell ⟨R, 1, none⟩ (.int .i64 ((p : Int) + 1)) := ⟨_, rfl⟩
  have hD : Dr W R ao L cap (p + 1) := by
    have := h.set (p + 1)
    rw [hW, show (p : Int) + 1 = ((p + 1 : Nat) : Int) by omega]; exact this
  have hNr : Near R w W := by rw [hW]; exact Near.set R 1 w _
  have hzW : W.heap.size = w.heap.size := by rw [hW]; simp
  have HF : Hid (∀ (v : Int) (x m : Nat), v = (x : Int) → x < n → PickPost w R ao L cap p n (.returned (.int .i64 v)) (W.drewN m)) := fun v x m hv hx => ⟨x, by rw [hv], hx, ⟨hNr.os, hNr.tape, hNr.output, hNr.size, hNr.block⟩, hD.drewN m, hzW⟩
  have c1 : w.cell? ⟨R, 1, none⟩ = some (.int .i64 (p : Int)) := by simp [World.cell?, h.box]
  have f1 : w.frozen? ⟨R, 1, none⟩ = false := by simp [World.frozen?, h.box]
  have d0 : W.cell? ⟨R, 0, none⟩ = some (.slice ao L cap) := by simp [World.cell?, hD.box]
  have d1 : W.cell? ⟨R, 1, none⟩ = some (.int .i64 ((p : Int) + 1)) := by simp [World.cell?, hD.box]
  have hw1 : IntKind.i64.wrap ((p : Int) + 1) = (p : Int) + 1 := by rw [IntKind.wrap_i64]; omega
  have hw2 : IntKind.i64.wrap ((p : Int) + 1 - 1) = (p : Int) := by rw [IntKind.wrap_i64]; omega
  have hn1 : ¬ (n : Int) < 1 := by omega
  have hbytes := hD.bytes
  have hL := h.len
  clear h hD hNr hzW
  rcases Nat.eq_zero_or_pos L with hL0 | hL0
  · subst hL0
    rw [hW] at d0 d1
    have HP : Hid _ := HF.out 0 0 0 rfl (by omega)
    go_enter Tryz.func39, Tryz.ntmps39
    go_wp2_with fail
    rw [← hW]
    go_ret
    exact HP.out
  obtain ⟨b, off, rfl, hbR, hcell⟩ := hbytes hL0
  have hl0 : ((L : Int) == 0) = false := by simp; omega
  by_cases hk : p < L
  · obtain ⟨u, hu, hc⟩ := hcell p hk
    have HP : Hid _ := HF.out ((u : Int) % (n : Int)) (u % n) 0 (by simp) (Nat.mod_lt _ (by omega))
    have hki : (p : Int) < (L : Int) := by omega
    rw [hW] at d0 d1 hc
    clear hcell hbytes
    go_enter Tryz.func39, Tryz.ntmps39
    go_wp2_with fail
    rw [← hW]
    go_ret
    exact HP.out
  · have hki : ¬ (p : Int) < (L : Int) := by omega
    obtain ⟨k1, hk1⟩ : ∃ k1, k1 = p % L := ⟨_, rfl⟩
    obtain ⟨k2, hk2⟩ : ∃ k2, k2 = (p * 7 + 3) % L := ⟨_, rfl⟩
    obtain ⟨k3, hk3⟩ : ∃ k3, k3 = p / L := ⟨_, rfl⟩
    have l1 : k1 < L := by rw [hk1]; exact Nat.mod_lt _ hL0
    have l2 : k2 < L := by rw [hk2]; exact Nat.mod_lt _ hL0
    have l3 : k3 ≤ 1000000 := by rw [hk3]; exact Nat.le_trans (Nat.div_le_self _ _) hp
    have q1 : (p : Int) % (L : Int) = (k1 : Int) := by rw [hk1]; simp
    have q2 : ((p : Int) * 7 + 3) % (L : Int) = (k2 : Int) := by rw [hk2]; simp
    have q3 : (p : Int) / (L : Int) = (k3 : Int) := by rw [hk3]; simp
    have q1' : (p : Int).tmod (L : Int) = (k1 : Int) := by rw [Int.tmod_eq_emod_of_nonneg (by omega)]; exact q1
    have q2' : ((p : Int) * 7 + 3).tmod (L : Int) = (k2 : Int) := by rw [Int.tmod_eq_emod_of_nonneg (by omega)]; exact q2
    have q3' : (p : Int).tdiv (L : Int) = (k3 : Int) := by rw [Int.tdiv_eq_ediv_of_nonneg (by omega)]; exact q3
    obtain ⟨u1, hu1, hc1⟩ := hcell k1 l1
    obtain ⟨u2, hu2, hc2⟩ := hcell k2 l2
    have li1 : (k1 : Int) < (L : Int) := by omega
    have li2 : (k2 : Int) < (L : Int) := by omega
    have hLn : ¬ (L : Int) = 0 := by omega
    rw [hW] at d0 d1 hc1 hc2
    have HV : Hid ((bits .xor .i64 ((u1 : Int) * 131 + (u2 : Int) * 1117 + (p : Int) * 29 + (k3 : Int) * 53) (((u1 : Int) * 131 + (u2 : Int) * 1117 + (p : Int) * 29 + (k3 : Int) * 53) / 64)).tmod (n : Int) = (((u1 * 131 + u2 * 1117 + p * 29 + k3 * 53) ^^^ (u1 * 131 + u2 * 1117 + p * 29 + k3 * 53) / 64) % n : Nat)) := by
      show _ = _
      have e1 : (u1 : Int) * 131 + (u2 : Int) * 1117 + (p : Int) * 29 + (k3 : Int) * 53 = ((u1 * 131 + u2 * 1117 + p * 29 + k3 * 53 : Nat) : Int) := by omega
      have hN : u1 * 131 + u2 * 1117 + p * 29 + k3 * 53 < 4611686018427387904 := by omega
      rw [e1]
      generalize u1 * 131 + u2 * 1117 + p * 29 + k3 * 53 = N at *
      have e2 : (N : Int) / 64 = ((N / 64 : Nat) : Int) := by omega
      rw [e2, xor_i64 N (N / 64) hN (by omega), Int.tmod_eq_emod_of_nonneg (by omega)]
      simp
    clear hcell hbytes hk1 hk2 hk3
    go_enter Tryz.func39, Tryz.ntmps39
    go_wp2_with fail
    go_quiet (fail)
    go_wp2_with fail
    rw [← hW]
    go_ret
    exact HF.out _ _ _ HV.out (Nat.mod_lt _ (by omega))

end Go.Proofs.YtcpeajdjpecmkaaGreatDoor

/-
  What the specification draws: schemas of so many levels; l5Names; ways out.
-/
namespace Go.Proofs.YtcpeajdjpecmkaaGreatDoor
open Go.RowKit

/-- A schema has at most d levels, and is not broad. -/
def depK : (m : Nat) → K m → Nat → Prop
  | 0, _, _ => False
  | m + 1, t, d => 1 ≤ d ∧ (Kd.names t).length ≤ 1000 ∧ (∀ s, s ∈ Kd.names t → s.size ≤ 10000) ∧ (Kd.kids t).length ≤ 1000 ∧ ∀ k, k ∈ Kd.kids t → depK m k (d - 1)

theorem depK.mono : ∀ {m : Nat} {k : K m} {d e : Nat}, depK m k d → d ≤ e → depK m k e := by
  intro m
  induction m with
  | zero => intro k d e h; exact h.elim
  | succ m ih =>
    intro k d e h hde
    exact ⟨Nat.le_trans h.1 hde, h.2.1, h.2.2.1, h.2.2.2.1, fun x hx => ih (h.2.2.2.2 x hx) (by omega)⟩

theorem depK.leaf (m : Nat) (x : Int) (d : Nat) : depK (m + 1) (⟨x, [], []⟩ : Kd (K m)) (d + 1) := ⟨by omega, by simp, fun s h => (by cases h), by simp, fun k h => (by cases h)⟩
theorem depK.one {m : Nat} {x : Int} {d : Nat} {k : K m} (h : depK m k d) : depK (m + 1) (⟨x, [], [k]⟩ : Kd (K m)) (d + 1) := ⟨by omega, by simp, fun s h => (by cases h), by simp, fun y hy => (by have e : y = k := (by simpa using hy); rw [e]; simpa using h)⟩

/-- How often l5Kind picks at most. -/
def pk : Nat → Nat
  | 0 => 0
  | d + 1 => 9 + 8 * pk d

/-- What drawing a schema makes. -/
def DKPost (m d : Nat) (w : World) (R : Nat) (ao : Option Addr) (L cap p q : Nat) (e : Ending) (w' : World) : Prop :=
  Near R w w' ∧ ∃ (p' : Nat) (k : K m) (c0 c1 c2 : Value), p' ≤ p + q ∧ Dr w' R ao L cap p' ∧ e = .returned (.agg #[c0, c1, c2]) ∧ KindIn (fun b => w.heap.size ≤ b ∧ b < w'.heap.size) w' m k c0 c1 c2 ∧ depK m k d

theorem dk_exit {m d R L cap p p' q : Nat} {ao : Option Addr} {w W : World} {k : K m} {g0 g1 g2 : Value} (h : Dr w R ao L cap p) (hn : Near R w W) (hb : W.heap[R]? = some (.cells #[.slice ao L cap, .int .i64 (p' : Int)] 90 (0, 0))) (hp : p' ≤ p + q) (hk : KindIn (fun b => w.heap.size + 1 ≤ b ∧ b < W.heap.size) W m k g0 g1 g2) (hd : depK m k d) :
    DKPost m d w R ao L cap p q (.returned (.agg #[g0, g1, g2])) (put3 W w.heap.size 0 g0 g1 g2) := by
  have hR := h.lt
  have qq : ∀ b, b ≠ w.heap.size → (put3 W w.heap.size 0 g0 g1 g2).heap[b]? = W.heap[b]? := fun b h => put3_other h
  have hz : (put3 W w.heap.size 0 g0 g1 g2).heap.size = W.heap.size := put3_size
  have hn' : Near R w (put3 W w.heap.size 0 g0 g1 g2) := ⟨hn.os, hn.tape, hn.output, by rw [hz]; exact hn.size, fun b hb hne => (qq b (by omega)).trans (hn.block b hb hne)⟩
  exact ⟨hn', p', k, _, _, _, hp, h.keep hn' ((qq R (by omega)).trans hb), rfl, hk.keep (fun b hb => qq b (by omega)) (fun b hb => ⟨by omega, by rw [hz]; exact hb.2⟩), hd⟩

theorem DKPost.alloc {m d R L cap p q : Nat} {ao : Option Addr} {w w' : World} {e : Ending} (h : DKPost m d w R ao L cap p q e w') (o : Obj) : DKPost m d w R ao L cap p q e (w'.alloc o) := by
  obtain ⟨hn, p', k, c0, c1, c2, hp, hD, he, hk, hd⟩ := h
  have hb : Below w'.heap.size w' (w'.alloc o) := (Below.refl _ _).alloc (Nat.le_refl _) _
  exact ⟨hn.trans (Near.of_below hb), p', k, c0, c1, c2, hp, hD.same hb, he, hk.keep (fun b hb' => hb.block b hb'.2) (fun b hb' => ⟨hb'.1, by simp; omega⟩), hd⟩

theorem zeroD_cells {w : World} {N : Nat} (h : w.heap[N]? = some (.cells #[.int .i64 0, .slice none 0 0, .slice none 0 0] 85 (0, 0))) :
    (w.cell? ⟨N, 0, none⟩ = some (.int .i64 0) ∧ w.cell? ⟨N, 1, none⟩ = some (.slice none 0 0) ∧ w.cell? ⟨N, 2, none⟩ = some (.slice none 0 0)) ∧
      w.frozen? ⟨N, 0, none⟩ = false ∧ w.frozen? ⟨N, 1, none⟩ = false ∧ w.frozen? ⟨N, 2, none⟩ = false := by
  refine ⟨⟨?_, ?_, ?_⟩, ?_, ?_, ?_⟩ <;> simp [World.cell?, World.frozen?, h]

theorem leafD_in (S : Nat → Prop) (w : World) (m : Nat) (x : Int) (hx : (Lit.int .i64 x).wf = true) : KindIn S w (m + 1) (⟨x, [], []⟩ : Kd (K m)) (.int .i64 x) (.slice none 0 0) (.slice none 0 0) :=
  ⟨rfl, hx, ⟨none, 0, rfl, by simp [maxLen], fun s h => (by cases h), fun h => absurd rfl h⟩, ⟨none, 0, rfl, by simp [maxLen], fun h => absurd rfl h⟩⟩

theorem oneD_in {S : Nat → Prop} {w : World} {m : Nat} {x : Int} {t : K m} {b c : Nat} {c0 c1 c2 : Value} (hx : (Lit.int .i64 x).wf = true) (hb : S b) (h0 : w.cell? ⟨b, 0, none⟩ = some c0) (h1 : w.cell? ⟨b, 1, none⟩ = some c1) (h2 : w.cell? ⟨b, 2, none⟩ = some c2) (ht : KindIn S w m t c0 c1 c2) :
    KindIn S w (m + 1) (⟨x, [], [t]⟩ : Kd (K m)) (.int .i64 x) (.slice none 0 0) (.slice (some ⟨b, 0, none⟩) 1 c) := by
  refine ⟨rfl, hx, ⟨none, 0, rfl, by simp [maxLen], fun s h => (by cases h), fun h => absurd rfl h⟩, ⟨some ⟨b, 0, none⟩, c, rfl, by simp [maxLen], fun _ => ⟨b, 0, rfl, hb, fun i hi => ?_⟩⟩⟩
  have : i = 0 := by simpa using hi
  subst this
  exact ⟨c0, c1, c2, by simpa using h0, by simpa using h1, by simpa using h2, ht⟩

set_option maxRecDepth 20000 in
set_option maxHeartbeats 400000 in
theorem l5Names_any (w : World) : Calls Tryz.prog 124 #[] w fun e w' => e = .returned (.slice (some ⟨w.heap.size, 0, none⟩) 8 8) ∧ w'.heap.size = w.heap.size + 1 ∧ Below w.heap.size w w' ∧
    ∀ j, j < 8 → ∃ s : ByteArray, s.size ≤ 100 ∧ w'.cell? ⟨w.heap.size, j, none⟩ = some (.string s) := by
  go_enter Tryz.func124, Tryz.ntmps124
  go_wp2_with fail
  go_ret
  refine ⟨rfl, by simp, (Below.refl _ _).alloc (Nat.le_refl _) _, fun j hj => ?_⟩
  have : j = 0 ∨ j = 1 ∨ j = 2 ∨ j = 3 ∨ j = 4 ∨ j = 5 ∨ j = 6 ∨ j = 7 := by omega
  rcases this with rfl | rfl | rfl | rfl | rfl | rfl | rfl | rfl
  · exact ⟨⟨#[97]⟩, by decide, by simp [go_sem]⟩
  · exact ⟨⟨#[98]⟩, by decide, by simp [go_sem]⟩
  · exact ⟨⟨#[105, 100]⟩, by decide, by simp [go_sem]⟩
  · exact ⟨⟨#[108, 105, 115, 116]⟩, by decide, by simp [go_sem]⟩
  · exact ⟨⟨#[110]⟩, by decide, by simp [go_sem]⟩
  · exact ⟨⟨#[115, 117, 109]⟩, by decide, by simp [go_sem]⟩
  · exact ⟨⟨#[116, 97, 103]⟩, by decide, by simp [go_sem]⟩
  · exact ⟨⟨#[119, 104, 111]⟩, by decide, by simp [go_sem]⟩

end Go.Proofs.YtcpeajdjpecmkaaGreatDoor

/-
  What the specification draws: of; of, of a row laid for it.
-/
namespace Go.Proofs.YtcpeajdjpecmkaaGreatDoor
open Go.RowKit

set_option maxRecDepth 20000 in
set_option maxHeartbeats 400000 in
theorem of_any (w : World) (R : Nat) (ao : Option Addr) (L cap p : Nat) (h : Dr w R ao L cap p) (hp : p ≤ 1000000) (b off n c : Nat) (hn : 1 ≤ n) (hn2 : n ≤ 1000000) (hbR : b ≠ R) (hc : ∀ j, j < n → ∃ s : ByteArray, s.size ≤ 10000 ∧ w.cell? ⟨b, off + j, none⟩ = some (.string s)) :
    Calls Tryz.prog 44 #[.pointer (some ⟨R, 0, none⟩), .slice (some ⟨b, off, none⟩) n c] w fun e w' => ∃ s : ByteArray, e = .returned (.string s) ∧ s.size ≤ 10000 ∧ Near R w w' ∧ Dr w' R ao L cap (p + 1) := by
  have HPk : Hid (Calls Tryz.prog 39 #[.pointer (some ⟨R, 0, none⟩), .int .i64 (n : Int)] w (PickPost w R ao L cap p n)) := pick_any w R ao L cap p n h hp hn hn2
  have HC := hidF hc
  clear h hc
  go_enter Tryz.func44, Tryz.ntmps44
  go_wp2_with fail
  refine HPk.out.mono ?_
  rintro e w1 ⟨x, rfl, hx, hn1, hD1, hz1⟩
  obtain ⟨s, hs, hcs⟩ := HC.out x hx
  have f0 := hn1.cell hcs hbR
  have HP : Hid (Near R w w1 ∧ Dr w1 R ao L cap (p + 1)) := ⟨hn1, hD1⟩
  have hxi : (x : Int) < (n : Int) := by omega
  clear HPk HC hcs hn1 hD1
  go_wp2_with fail
  go_ret
  exact ⟨s, rfl, hs, HP.out.1, HP.out.2⟩

/-- A short string. -/
def okLit : Value → Bool
  | .string s => decide (s.size ≤ 10000)
  | _ => false

theorem okLit_get {v : Value} (h : okLit v = true) : ∃ s, s.size ≤ 10000 ∧ v = .string s := by
  cases v <;> simp_all [okLit]

theorem of_lit (w : World) (R : Nat) (ao : Option Addr) (L cap p : Nat) (h : Dr w R ao L cap p) (hp : p ≤ 1000000) (cs : Array Value) (n : Nat) (hn : cs.size = n) (hn1 : 1 ≤ n) (hn2 : n ≤ 1000) (hc : cs.toList.all okLit = true) :
    Calls Tryz.prog 44 #[.pointer (some ⟨R, 0, none⟩), .slice (some ⟨w.heap.size, 0, none⟩) n n] (w.alloc (.cells cs 9)) fun e w' => ∃ s : ByteArray, e = .returned (.string s) ∧ s.size ≤ 10000 ∧ Near R w w' ∧ Dr w' R ao L cap (p + 1) := by
  have hb : Below w.heap.size w (w.alloc (.cells cs 9)) := (Below.refl _ _).alloc (Nat.le_refl _) _
  have hR := h.lt
  refine (of_any _ R ao L cap p (h.same hb) hp w.heap.size 0 n n hn1 (by omega) (by omega) fun j hj => ?_).mono ?_
  · have hj' : j < cs.size := by omega
    obtain ⟨s, hs, e⟩ := okLit_get (List.all_eq_true.1 hc cs[j] (by simp))
    refine ⟨s, hs, ?_⟩
    rw [Nat.zero_add, cell_of_row _ _ j cs 9 (0, 0) (heap_alloc_new _ _), Array.getElem?_eq_getElem hj', e]
  · rintro e w' ⟨s, rfl, hs, hn', hD'⟩
    exact ⟨s, rfl, hs, (Near.of_below hb).trans hn', hD'⟩

end Go.Proofs.YtcpeajdjpecmkaaGreatDoor

/-
  What the specification draws: l6Many.
-/
namespace Go.Proofs.YtcpeajdjpecmkaaGreatDoor
open Go.RowKit

set_option maxRecDepth 20000 in
set_option maxHeartbeats 4000000 in
theorem l6Many_any (s : ByteArray) (n : Nat) (w : World) (h : s.size * n ≤ 10000) (hn : n ≤ 10000) :
    Calls Tryz.prog 123 #[.string s, .int .i64 (n : Int)] w fun e w' => ∃ x : ByteArray, e = .returned (.string x) ∧ x.size ≤ 10000 ∧ w' = w := by
  go_enter Tryz.func123, Tryz.ntmps123
  go_wp2_with fail
  go_loopw [0, 1, 5] (fun sv nv ov wr => ∃ (s' : ByteArray) (n' : Nat) (o' : ByteArray), sv = .string s' ∧ nv = .int .i64 (n' : Int) ∧ ov = .string o' ∧ o'.size + s'.size * n' ≤ 10000 ∧ n' ≤ 10000 ∧ wr = w) (fun _ nv _ _ => (intOf nv).toNat)
  case atStart => exact ⟨s, n, ⟨#[]⟩, rfl, rfl, rfl, by show 0 + s.size * n ≤ 10000; rw [Nat.zero_add]; exact h, hn, rfl⟩
  case round =>
    obtain ⟨s', n', o', rfl, rfl, rfl, hle, hn', rfl⟩ := hrel
    clear h hn
    by_cases h0 : 0 < n'
    · have h0i : (0 : Int) < (n' : Int) := by omega
      have hs1 : s'.size ≤ 10000 := by have := Nat.le_mul_of_pos_right s'.size h0; omega
      have hc1 : ¬ 9223372036854775807 < s'.size + s'.size := by omega
      have hc2 : ¬ 9223372036854775807 < o'.size + s'.size := by omega
      have hq : n' = 2 * (n' / 2) + n' % 2 := by omega
      have hmul : s'.size * n' = 2 * (s'.size * (n' / 2)) + s'.size * (n' % 2) := by
        have : s'.size * n' = s'.size * (2 * (n' / 2) + n' % 2) := by rw [← hq]
        rw [this, Nat.mul_add, Nat.mul_left_comm]
      have hmul2 : (s'.size + s'.size) * (n' / 2) = 2 * (s'.size * (n' / 2)) := by rw [← Nat.two_mul, Nat.mul_assoc]
      have HM : Hid (s'.size * n' = 2 * (s'.size * (n' / 2)) + s'.size * (n' % 2) ∧ (s'.size + s'.size) * (n' / 2) = 2 * (s'.size * (n' / 2)) ∧ o'.size + s'.size * n' ≤ 10000) := ⟨hmul, hmul2, hle⟩
      clear hmul hmul2 hle hq
      have hr : n' % 2 = 0 ∨ n' % 2 = 1 := by omega
      rcases hr with hr | hr
      · have hri : ¬ (n' : Int) % 2 = 1 := by omega
        go_wp2_with fail
        go_roundw
        case rel => exact ⟨s' ++ s', n' / 2, o', rfl, by go_num, rfl, by rw [ByteArray.size_append, HM.out.2.1]; have := HM.out.1; rw [hr] at this; have := HM.out.2.2; omega, by omega, trivial⟩
        case measure => simp [intOf]; omega
      · have hri : (n' : Int) % 2 = 1 := by omega
        go_wp2_with fail
        go_roundw
        case rel => exact ⟨s' ++ s', n' / 2, o' ++ s', rfl, by go_num, rfl, by rw [ByteArray.size_append, ByteArray.size_append, HM.out.2.1]; have := HM.out.1; rw [hr] at this; have := HM.out.2.2; omega, by omega, trivial⟩
        case measure => simp [intOf]; omega
    · have h0i : ¬ (0 : Int) < (n' : Int) := by omega
      go_wp2_with fail
      go_ret
      exact ⟨o', rfl, by omega, rfl⟩

end Go.Proofs.YtcpeajdjpecmkaaGreatDoor
