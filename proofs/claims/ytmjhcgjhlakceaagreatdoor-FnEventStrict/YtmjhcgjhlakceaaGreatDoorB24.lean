/-
  Several texts in one, in their order.
-/
import Derived.Test.YtmjhcgjhlakceaaGreatDoorB1
import Derived.Laws.BitsAllLaws
import Derived.Deep.QuietTactic
import Derived.BigQuiet
import Derived.Test.YtmjhcgjhlakceaaGreatDoorB13
import Derived.Deep.RegionLaw
import Derived.Deep.Cut
import Derived.Deep.CutRange
import Derived.WalkSmall
import Derived.LoopTactic
import Derived.Deep.AppendLies

namespace Go.Proofs.YtmjhcgjhlakceaaGreatDoor
open Go.RowKit
structure Dr (w : World) (R : Nat) (ao : Option Addr) (L cap p : Nat) : Prop where
 box : w.heap[R]? = some (.cells #[.slice ao L cap, .int .i64 (p : Int)] 79 (0, 0))
 len : L <= 2000
 bytes : 0 < L -> ∃ b off, ao = some ⟨b, off, none⟩ /\ b ≠ R /\ ∀ j, j < L -> ∃ u : Nat, u <= 255 /\ w.cell? ⟨b, off + j, none⟩ = some (.int .u8 (u : Int))
theorem Dr.lt {w : World} {R : Nat} {ao : Option Addr} {L cap p : Nat} (h : Dr w R ao L cap p) : R < w.heap.size := (Array.getElem?_eq_some_iff.1 h.box).1
theorem Dr.keep {w w' : World} {R : Nat} {ao : Option Addr} {L cap p q : Nat} (h : Dr w R ao L cap p) (hn : Near R w w') (hb : w'.heap[R]? = some (.cells #[.slice ao L cap, .int .i64 (q : Int)] 79 (0, 0))) : Dr w' R ao L cap q := by
 refine ⟨hb, h.len, fun hl => ?_⟩
 obtain ⟨b, off, ha, hne, hc⟩ := h.bytes hl
 refine ⟨b, off, ha, hne, fun j hj => ?_⟩
 obtain ⟨u, hu, hcell⟩ := hc j hj
 exact ⟨u, hu, hn.cell hcell hne⟩
theorem Dr.same {w w' : World} {R : Nat} {ao : Option Addr} {L cap p : Nat} (h : Dr w R ao L cap p) (hb : Below w.heap.size w w') : Dr w' R ao L cap p := h.keep (Near.of_below hb) ((hb.block R h.lt).trans h.box)
theorem Dr.drewN {w : World} {R : Nat} {ao : Option Addr} {L cap p : Nat} (h : Dr w R ao L cap p) (n : Nat) : Dr (w.drewN n) R ao L cap p := ⟨h.box, h.len, h.bytes⟩
theorem Dr.set {w : World} {R : Nat} {ao : Option Addr} {L cap p : Nat} (h : Dr w R ao L cap p) (q : Nat) : Dr (w.setCell ⟨R, 1, none⟩ (.int .i64 (q : Int))) R ao L cap q :=
 h.keep (Near.set R 1 w _) (by simp [World.setCell, Array.getElem?_modify, h.box])
def PickPost (w : World) (R : Nat) (ao : Option Addr) (L cap p n : Nat) (e : Ending) (w' : World) : Prop :=
 ∃ x : Nat, e = .returned (.int .i64 (x : Int)) /\ x < n /\ Near R w w' /\ Dr w' R ao L cap (p + 1) /\ w'.heap.size = w.heap.size
theorem xor_i64 (a b : Nat) (ha : a < 4611686018427387904) (hb : b < 4611686018427387904) : bits .xor .i64 (a : Int) (b : Int) = ((a ^^^ b : Nat) : Int) := by
 show IntKind.i64.wrap ((BitVec.ofInt 64 (a : Int) ^^^ BitVec.ofInt 64 (b : Int)).toNat : Int) = _
 have h1 : (BitVec.ofInt 64 (a : Int)).toNat = a := by rw [BitVec.toNat_ofInt]; omega
 have h2 : (BitVec.ofInt 64 (b : Int)).toNat = b := by rw [BitVec.toNat_ofInt]; omega
 rw [BitVec.toNat_xor, h1, h2, IntKind.wrap_i64]
 have h3 : a ^^^ b < 2 ^ 62 := Nat.xor_lt_two_pow (by omega) (by omega)
 omega
set_option maxRecDepth 20000 in
set_option maxHeartbeats 1000000 in
theorem pick_any (w : World) (R : Nat) (ao : Option Addr) (L cap p n : Nat) (h : Dr w R ao L cap p) (hp : p <= 1000000) (hn : 1 <= n) (hn2 : n <= 1000000) :
  Calls Tryz.prog 17 #[.pointer (some ⟨R, 0, none⟩), .int .i64 (n : Int)] w (PickPost w R ao L cap p n) := by
 have hR := h.lt
 obtain ⟨W, hW⟩ : ∃ W, W = w.setCell ⟨R, 1, none⟩ (.int .i64 ((p : Int) + 1)) := ⟨_, rfl⟩
 have hD : Dr W R ao L cap (p + 1) := by
  have := h.set (p + 1)
  rw [hW, show (p : Int) + 1 = ((p + 1 : Nat) : Int) by omega]; exact this
 have hNr : Near R w W := by rw [hW]; exact Near.set R 1 w _
 have hzW : W.heap.size = w.heap.size := by rw [hW]; simp
 have HF : Hid (∀ (v : Int) (x m : Nat), v = (x : Int) -> x < n -> PickPost w R ao L cap p n (.returned (.int .i64 v)) (W.drewN m)) := fun v x m hv hx => ⟨x, by rw [hv], hx, ⟨hNr.os, hNr.tape, hNr.output, hNr.size, hNr.block⟩, hD.drewN m, hzW⟩
 have c1 : w.cell? ⟨R, 1, none⟩ = some (.int .i64 (p : Int)) := by simp [World.cell?, h.box]
 have f1 : w.frozen? ⟨R, 1, none⟩ = false := by simp [World.frozen?, h.box]
 have d0 : W.cell? ⟨R, 0, none⟩ = some (.slice ao L cap) := by simp [World.cell?, hD.box]
 have d1 : W.cell? ⟨R, 1, none⟩ = some (.int .i64 ((p : Int) + 1)) := by simp [World.cell?, hD.box]
 have hw1 : IntKind.i64.wrap ((p : Int) + 1) = (p : Int) + 1 := by rw [IntKind.wrap_i64]; omega
 have hw2 : IntKind.i64.wrap ((p : Int) + 1 - 1) = (p : Int) := by rw [IntKind.wrap_i64]; omega
 have hn1 : ¬ (n : Int) < 1 := by omega
 have hbytes := hD.bytes
 have hL := h.len
 clear h hD hNr hzW
 rcases Nat.eq_zero_or_pos L with hL0 | hL0
 ·subst hL0
  rw [hW] at d0 d1
  have HP : Hid _ := HF.out 0 0 0 rfl (by omega)
  go_enter Tryz.func17, Tryz.ntmps17
  go_wp2_with fail
  rw [<- hW]
  go_ret
  exact HP.out
 obtain ⟨b, off, rfl, hbR, hcell⟩ := hbytes hL0
 have hl0 : ((L : Int) == 0) = false := by simp; omega
 by_cases hk : p < L
 ·obtain ⟨u, hu, hc⟩ := hcell p hk
  have HP : Hid _ := HF.out ((u : Int) % (n : Int)) (u % n) 0 (by simp) (Nat.mod_lt _ (by omega))
  have hki : (p : Int) < (L : Int) := by omega
  rw [hW] at d0 d1 hc
  clear hcell hbytes
  go_enter Tryz.func17, Tryz.ntmps17
  go_wp2_with fail
  rw [<- hW]
  go_ret
  exact HP.out
 ·have hki : ¬ (p : Int) < (L : Int) := by omega
  obtain ⟨k1, hk1⟩ : ∃ k1, k1 = p % L := ⟨_, rfl⟩
  obtain ⟨k2, hk2⟩ : ∃ k2, k2 = (p * 7 + 3) % L := ⟨_, rfl⟩
  obtain ⟨k3, hk3⟩ : ∃ k3, k3 = p / L := ⟨_, rfl⟩
  have l1 : k1 < L := by rw [hk1]; exact Nat.mod_lt _ hL0
  have l2 : k2 < L := by rw [hk2]; exact Nat.mod_lt _ hL0
  have l3 : k3 <= 1000000 := by rw [hk3]; exact Nat.le_trans (Nat.div_le_self _ _) hp
  have q1 : (p : Int) % (L : Int) = (k1 : Int) := by rw [hk1]; simp
  have q2 : ((p : Int) * 7 + 3) % (L : Int) = (k2 : Int) := by rw [hk2]; simp
  have q3 : (p : Int) / (L : Int) = (k3 : Int) := by rw [hk3]; simp
  have q1' : (p : Int).tmod (L : Int) = (k1 : Int) := by rw [Int.tmod_eq_emod_of_nonneg (by omega)]; exact q1
  have q2' : ((p : Int) * 7 + 3).tmod (L : Int) = (k2 : Int) := by rw [Int.tmod_eq_emod_of_nonneg (by omega)]; exact q2
  have q3' : (p : Int).tdiv (L : Int) = (k3 : Int) := by rw [Int.tdiv_eq_ediv_of_nonneg (by omega)]; exact q3
  obtain ⟨u1, hu1, hc1⟩ := hcell k1 l1
  obtain ⟨u2, hu2, hc2⟩ := hcell k2 l2
  have li1 : (k1 : Int) < (L : Int) := by omega
  have li2 : (k2 : Int) < (L : Int) := by omega
  have hLn : ¬ (L : Int) = 0 := by omega
  rw [hW] at d0 d1 hc1 hc2
  have HV : Hid ((bits .xor .i64 ((u1 : Int) * 131 + (u2 : Int) * 1117 + (p : Int) * 29 + (k3 : Int) * 53) (((u1 : Int) * 131 + (u2 : Int) * 1117 + (p : Int) * 29 + (k3 : Int) * 53) / 64)).tmod (n : Int) = (((u1 * 131 + u2 * 1117 + p * 29 + k3 * 53) ^^^ (u1 * 131 + u2 * 1117 + p * 29 + k3 * 53) / 64) % n : Nat)) := by
   show _ = _
   have e1 : (u1 : Int) * 131 + (u2 : Int) * 1117 + (p : Int) * 29 + (k3 : Int) * 53 = ((u1 * 131 + u2 * 1117 + p * 29 + k3 * 53 : Nat) : Int) := by omega
   have hN : u1 * 131 + u2 * 1117 + p * 29 + k3 * 53 < 4611686018427387904 := by omega
   rw [e1]
   generalize u1 * 131 + u2 * 1117 + p * 29 + k3 * 53 = N at *
   have e2 : (N : Int) / 64 = ((N / 64 : Nat) : Int) := by omega
   rw [e2, xor_i64 N (N / 64) hN (by omega), Int.tmod_eq_emod_of_nonneg (by omega)]
   simp
  clear hcell hbytes hk1 hk2 hk3
  go_enter Tryz.func17, Tryz.ntmps17
  go_wp2_with fail
  go_quiet (fail)
  go_wp2_with fail
  rw [<- hW]
  go_ret
  exact HF.out _ _ _ HV.out (Nat.mod_lt _ (by omega))
end Go.Proofs.YtmjhcgjhlakceaaGreatDoor

namespace Go.Proofs.YtmjhcgjhlakceaaGreatDoor
open Go.RowKit
def depK : (m : Nat) -> K m -> Nat -> Prop
 | 0, _, _ => False
 | m + 1, t, d => 1 <= d /\ (Kd.names t).length <= 1000 /\ (∀ s, s ∈ Kd.names t -> s.size <= 10000) /\ (Kd.kids t).length <= 1000 /\ ∀ k, k ∈ Kd.kids t -> depK m k (d - 1)
theorem depK.mono : ∀ {m : Nat} {k : K m} {d e : Nat}, depK m k d -> d <= e -> depK m k e := by
 intro m
 induction m with
 | zero => intro k d e h; exact h.elim
 | succ m ih =>
  intro k d e h hde
  exact ⟨Nat.le_trans h.1 hde, h.2.1, h.2.2.1, h.2.2.2.1, fun x hx => ih (h.2.2.2.2 x hx) (by omega)⟩
theorem depK.leaf (m : Nat) (x : Int) (d : Nat) : depK (m + 1) (⟨x, [], []⟩ : Kd (K m)) (d + 1) := ⟨by omega, by simp, fun s h => (by cases h), by simp, fun k h => (by cases h)⟩
theorem depK.one {m : Nat} {x : Int} {d : Nat} {k : K m} (h : depK m k d) : depK (m + 1) (⟨x, [], [k]⟩ : Kd (K m)) (d + 1) := ⟨by omega, by simp, fun s h => (by cases h), by simp, fun y hy => (by have e : y = k := (by simpa using hy); rw [e]; simpa using h)⟩
def pk : Nat -> Nat
 | 0 => 0
 | d + 1 => 9 + 8 * pk d
def DKPost (m d : Nat) (w : World) (R : Nat) (ao : Option Addr) (L cap p q : Nat) (e : Ending) (w' : World) : Prop :=
 Near R w w' /\ ∃ (p' : Nat) (k : K m) (c0 c1 c2 : Value), p' <= p + q /\ Dr w' R ao L cap p' /\ e = .returned (.agg #[c0, c1, c2]) /\ KindIn (fun b => w.heap.size <= b /\ b < w'.heap.size) w' m k c0 c1 c2 /\ depK m k d
theorem dk_exit {m d R L cap p p' q : Nat} {ao : Option Addr} {w W : World} {k : K m} {g0 g1 g2 : Value} (h : Dr w R ao L cap p) (hn : Near R w W) (hb : W.heap[R]? = some (.cells #[.slice ao L cap, .int .i64 (p' : Int)] 79 (0, 0))) (hp : p' <= p + q) (hk : KindIn (fun b => w.heap.size + 1 <= b /\ b < W.heap.size) W m k g0 g1 g2) (hd : depK m k d) :
  DKPost m d w R ao L cap p q (.returned (.agg #[g0, g1, g2])) (put3 W w.heap.size 0 g0 g1 g2) := by
 have hR := h.lt
 have qq : ∀ b, b ≠ w.heap.size -> (put3 W w.heap.size 0 g0 g1 g2).heap[b]? = W.heap[b]? := fun b h => put3_other h
 have hz : (put3 W w.heap.size 0 g0 g1 g2).heap.size = W.heap.size := put3_size
 have hn' : Near R w (put3 W w.heap.size 0 g0 g1 g2) := ⟨hn.os, hn.tape, hn.output, by rw [hz]; exact hn.size, fun b hb hne => (qq b (by omega)).trans (hn.block b hb hne)⟩
 exact ⟨hn', p', k, _, _, _, hp, h.keep hn' ((qq R (by omega)).trans hb), rfl, hk.keep (fun b hb => qq b (by omega)) (fun b hb => ⟨by omega, by rw [hz]; exact hb.2⟩), hd⟩
theorem DKPost.alloc {m d R L cap p q : Nat} {ao : Option Addr} {w w' : World} {e : Ending} (h : DKPost m d w R ao L cap p q e w') (o : Obj) : DKPost m d w R ao L cap p q e (w'.alloc o) := by
 obtain ⟨hn, p', k, c0, c1, c2, hp, hD, he, hk, hd⟩ := h
 have hb : Below w'.heap.size w' (w'.alloc o) := (Below.refl _ _).alloc (Nat.le_refl _) _
 exact ⟨hn.trans (Near.of_below hb), p', k, c0, c1, c2, hp, hD.same hb, he, hk.keep (fun b hb' => hb.block b hb'.2) (fun b hb' => ⟨hb'.1, by simp; omega⟩), hd⟩
theorem zeroD_cells {w : World} {N : Nat} (h : w.heap[N]? = some (.cells #[.int .i64 0, .slice none 0 0, .slice none 0 0] 85 (0, 0))) :
  (w.cell? ⟨N, 0, none⟩ = some (.int .i64 0) /\ w.cell? ⟨N, 1, none⟩ = some (.slice none 0 0) /\ w.cell? ⟨N, 2, none⟩ = some (.slice none 0 0)) /\
   w.frozen? ⟨N, 0, none⟩ = false /\ w.frozen? ⟨N, 1, none⟩ = false /\ w.frozen? ⟨N, 2, none⟩ = false := by
 refine ⟨⟨?_, ?_, ?_⟩, ?_, ?_, ?_⟩ <;> simp [World.cell?, World.frozen?, h]
theorem leafD_in (S : Nat -> Prop) (w : World) (m : Nat) (x : Int) (hx : (Lit.int .i64 x).wf = true) : KindIn S w (m + 1) (⟨x, [], []⟩ : Kd (K m)) (.int .i64 x) (.slice none 0 0) (.slice none 0 0) :=
 ⟨rfl, hx, ⟨none, 0, rfl, by simp [maxLen], fun s h => (by cases h), fun h => absurd rfl h⟩, ⟨none, 0, rfl, by simp [maxLen], fun h => absurd rfl h⟩⟩
theorem oneD_in {S : Nat -> Prop} {w : World} {m : Nat} {x : Int} {t : K m} {b c : Nat} {c0 c1 c2 : Value} (hx : (Lit.int .i64 x).wf = true) (hb : S b) (h0 : w.cell? ⟨b, 0, none⟩ = some c0) (h1 : w.cell? ⟨b, 1, none⟩ = some c1) (h2 : w.cell? ⟨b, 2, none⟩ = some c2) (ht : KindIn S w m t c0 c1 c2) :
  KindIn S w (m + 1) (⟨x, [], [t]⟩ : Kd (K m)) (.int .i64 x) (.slice none 0 0) (.slice (some ⟨b, 0, none⟩) 1 c) := by
 refine ⟨rfl, hx, ⟨none, 0, rfl, by simp [maxLen], fun s h => (by cases h), fun h => absurd rfl h⟩, ⟨some ⟨b, 0, none⟩, c, rfl, by simp [maxLen], fun _ => ⟨b, 0, rfl, hb, fun i hi => ?_⟩⟩⟩
 have : i = 0 := by simpa using hi
 subst this
 exact ⟨c0, c1, c2, by simpa using h0, by simpa using h1, by simpa using h2, ht⟩
set_option maxRecDepth 20000 in
set_option maxHeartbeats 400000 in
theorem l5Names_any (w : World) : Calls Tryz.prog 121 #[] w fun e w' => e = .returned (.slice (some ⟨w.heap.size, 0, none⟩) 8 8) /\ w'.heap.size = w.heap.size + 1 /\ Below w.heap.size w w' /\
  ∀ j, j < 8 -> ∃ s : ByteArray, s.size <= 100 /\ w'.cell? ⟨w.heap.size, j, none⟩ = some (.string s) := by
 go_enter Tryz.func121, Tryz.ntmps121
 go_wp2_with fail
 go_ret
 refine ⟨rfl, by simp, (Below.refl _ _).alloc (Nat.le_refl _) _, fun j hj => ?_⟩
 have : j = 0 ∨ j = 1 ∨ j = 2 ∨ j = 3 ∨ j = 4 ∨ j = 5 ∨ j = 6 ∨ j = 7 := by omega
 rcases this with rfl | rfl | rfl | rfl | rfl | rfl | rfl | rfl
 ·exact ⟨⟨#[97]⟩, by decide, by simp [go_sem]⟩
 ·exact ⟨⟨#[98]⟩, by decide, by simp [go_sem]⟩
 ·exact ⟨⟨#[105, 100]⟩, by decide, by simp [go_sem]⟩
 ·exact ⟨⟨#[108, 105, 115, 116]⟩, by decide, by simp [go_sem]⟩
 ·exact ⟨⟨#[110]⟩, by decide, by simp [go_sem]⟩
 ·exact ⟨⟨#[115, 117, 109]⟩, by decide, by simp [go_sem]⟩
 ·exact ⟨⟨#[116, 97, 103]⟩, by decide, by simp [go_sem]⟩
 ·exact ⟨⟨#[119, 104, 111]⟩, by decide, by simp [go_sem]⟩
end Go.Proofs.YtmjhcgjhlakceaaGreatDoor

namespace Go.Proofs.YtmjhcgjhlakceaaGreatDoor
open Go.RowKit
theorem Tryz.info_strD : (Tryz.prog.info? 9).map (fun i => (i.zero, i.size, i.bytes)) = some (some (.string ⟨#[]⟩), 1, 16) := by kernel_rfl
theorem Tryz.info_kindD : (Tryz.prog.info? 85).map (fun i => (i.zero, i.size, i.bytes)) = some (some (.agg #[.int .i64 0, .slice none 0 0, .slice none 0 0]), 3, 56) := by kernel_rfl
def DrawKSaid (d : Nat) : Prop := ∀ (m R : Nat) (ao : Option Addr) (L cap p : Nat) (top : Bool) (w : World), d <= m -> 1 <= d -> Dr w R ao L cap p -> p + pk d <= 1000000 ->
 Calls Tryz.prog 87 #[.pointer (some ⟨R, 0, none⟩), .int .i64 (d : Int), .bool top] w (DKPost m d w R ao L cap p (pk d))
set_option maxRecDepth 20000 in
set_option maxHeartbeats 4000000 in
theorem l5Kind_step (d : Nat) (hn : DrawKSaid d) : DrawKSaid (d + 1) := by
 intro m R ao L cap p top w hm hd1 h hp
 obtain ⟨m, rfl⟩ : ∃ m', m = m' + 1 := ⟨m - 1, by omega⟩
 have hpk : pk (d + 1) = 9 + 8 * pk d := rfl
 rw [hpk] at hp ⊢
 have hR := h.lt
 have HD0 : Hid (Dr w R ao L cap p) := h
 obtain ⟨W1, hW1⟩ : ∃ W1, W1 = w.alloc (.cells #[.int .i64 0, .slice none 0 0, .slice none 0 0] 85) := ⟨_, rfl⟩
 have hz1 : W1.heap.size = w.heap.size + 1 := by rw [hW1]; simp
 have hb1 : Below w.heap.size w W1 := by rw [hW1]; exact (Below.refl _ _).alloc (Nat.le_refl _) _
 have hzero : W1.heap[w.heap.size]? = some (.cells #[.int .i64 0, .slice none 0 0, .slice none 0 0] 85 (0, 0)) := by rw [hW1]; exact heap_alloc_new _ _
 have HPk : Hid (Calls Tryz.prog 17 #[.pointer (some ⟨R, 0, none⟩), .int .i64 10] W1 (PickPost W1 R ao L cap p 10)) := pick_any W1 R ao L cap p 10 (h.same hb1) (by omega) (by omega) (by omega)
 have HN : Hid (DrawKSaid d) := hn
 have hdl : d <= 1000000 := by
  have : ∀ d, d <= pk d := by
   intro d
   induction d with
   | zero => exact Nat.le_refl _
   | succ d ih => simp only [pk]; omega
  have := this d; omega
 have hdd : IntKind.i64.wrap (((d + 1 : Nat) : Int) - 1) = (d : Int) := by rw [IntKind.wrap_i64]; omega
 have hdle : d = 0 -> ((d + 1 : Nat) : Int) = 1 := fun h => by omega
 have hdgt : 1 <= d -> (1 : Int) < ((d + 1 : Nat) : Int) := fun h => by omega
 clear h hn hd1 hpk
 generalize ((d + 1 : Nat) : Int) = D at *
 go_enter Tryz.func87, Tryz.ntmps87
 go_wp2_with fail
 rw [<- hW1]
 clear hW1
 refine HPk.out.mono ?_
 rintro e w2 ⟨x, rfl, hx, hn2, hD2, hz2⟩
 have hzero2 := (hn2.block w.heap.size (by omega) (by omega)).trans hzero
 have hnw2 : Near R w w2 := (Near.of_below hb1).trans hn2
 clear HPk hb1 hzero hn2
 have hcase : ((top = true /\ d = 0) ∨ (top = true /\ 1 <= d) ∨ (top = false /\ 1 <= d /\ 7 < x)) ∨ (top = false /\ 1 <= d /\ x = 7) ∨ (top = false /\ 1 <= d /\ (x = 5 ∨ x = 6)) ∨ (top = false /\ 1 <= d /\ x <= 4) ∨ (top = false /\ d = 0) := by
  cases top <;> simp <;> omega
 rcases hcase with hf | hf | hf | hf | hf
 case inr.inl =>
  obtain ⟨rfl, hd, rfl⟩ := hf
  have hgt := hdgt hd
  have hle : ¬ D <= 1 := by omega
  have HK : Hid (Calls Tryz.prog 87 #[.pointer (some ⟨R, 0, none⟩), .int .i64 (d : Int), .bool false] w2 (DKPost m d w2 R ao L cap (p + 1) (pk d))) := HN.out m R ao L cap (p + 1) false w2 (by omega) hd hD2 (by omega)
  clear hdle hdgt
  go_wp2_with fail
  refine HK.out.mono ?_
  rintro e w3 ⟨hn3, p', k, c0, c1, c2, hp', hD3, rfl, hk, hdk⟩
  obtain ⟨u0, ua, ul, uc, ya, yl, yc, rfl, rfl, rfl⟩ := hk.shape
  have hz3 := hn3.size
  obtain ⟨⟨r0, r1, r2⟩, f0, f1, f2⟩ := zeroD_cells ((Below.heap_alloc w3 (.cells #[.int .i64 u0, .slice ua ul uc, .slice ya yl yc] 85) w.heap.size (by omega)).trans ((hn3.block w.heap.size (by omega) (by omega)).trans hzero2))
  have hx3 := Box3.new w3 (.int .i64 u0) (.slice ua ul uc) (.slice ya yl yc) 85
  have HP : Hid (DKPost (m + 1) (d + 1) w R ao L cap p (9 + 8 * pk d) (.returned (.agg #[.int .i64 6, .slice none 0 0, .slice (some ⟨w3.heap.size, 0, none⟩) 1 1])) (put3 (w3.alloc (.cells #[.int .i64 u0, .slice ua ul uc, .slice ya yl yc] 85)) w.heap.size 0 (.int .i64 6) (.slice none 0 0) (.slice (some ⟨w3.heap.size, 0, none⟩) 1 1))) := by
   refine dk_exit HD0.out ((hnw2.trans hn3).trans (Near.alloc _ _ _)) ((Below.heap_alloc _ _ _ (by omega)).trans hD3.box) (by omega) (oneD_in (t := k) rfl ⟨by omega, by simp⟩ hx3.c0 hx3.c1 hx3.c2 ?_) hdk.one
   exact hk.keep (fun b hb => Below.heap_alloc _ _ _ hb.2) (fun b hb => ⟨by omega, by simp; omega⟩)
  clear HK hn3 hD3 hk hdk hx3 hnw2 hzero2
  go_wp2_with fail
  refine bodyPost_ret (v := .agg #[.int .i64 6, .slice none 0 0, .slice (some ⟨w3.heap.size, 0, none⟩) 1 1]) (by simp [results, Tryz.results87, go_sem, r0, r1, r2]) rfl ?_
  exact HP.out
 case inr.inr.inl =>
  obtain ⟨rfl, hd, h56⟩ := hf
  have hgt := hdgt hd
  have hle : ¬ D <= 1 := by omega
  have hx7 : ¬ (7 : Int) < (x : Int) := by omega
  have hx6 : ¬ (6 : Int) < (x : Int) := by omega
  have hx4 : (4 : Int) < (x : Int) := by omega
  have HK : Hid (Calls Tryz.prog 87 #[.pointer (some ⟨R, 0, none⟩), .int .i64 (d : Int), .bool false] w2 (DKPost m d w2 R ao L cap (p + 1) (pk d))) := HN.out m R ao L cap (p + 1) false w2 (by omega) hd hD2 (by omega)
  clear hdle hdgt h56
  go_wp2_with fail
  refine HK.out.mono ?_
  rintro e w3 ⟨hn3, p', k, c0, c1, c2, hp', hD3, rfl, hk, hdk⟩
  obtain ⟨u0, ua, ul, uc, ya, yl, yc, rfl, rfl, rfl⟩ := hk.shape
  have hz3 := hn3.size
  obtain ⟨⟨r0, r1, r2⟩, f0, f1, f2⟩ := zeroD_cells ((Below.heap_alloc w3 (.cells #[.int .i64 u0, .slice ua ul uc, .slice ya yl yc] 85) w.heap.size (by omega)).trans ((hn3.block w.heap.size (by omega) (by omega)).trans hzero2))
  have hx3 := Box3.new w3 (.int .i64 u0) (.slice ua ul uc) (.slice ya yl yc) 85
  have HP : Hid (DKPost (m + 1) (d + 1) w R ao L cap p (9 + 8 * pk d) (.returned (.agg #[.int .i64 4, .slice none 0 0, .slice (some ⟨w3.heap.size, 0, none⟩) 1 1])) (put3 (w3.alloc (.cells #[.int .i64 u0, .slice ua ul uc, .slice ya yl yc] 85)) w.heap.size 0 (.int .i64 4) (.slice none 0 0) (.slice (some ⟨w3.heap.size, 0, none⟩) 1 1))) := by
   refine dk_exit HD0.out ((hnw2.trans hn3).trans (Near.alloc _ _ _)) ((Below.heap_alloc _ _ _ (by omega)).trans hD3.box) (by omega) (oneD_in (t := k) rfl ⟨by omega, by simp⟩ hx3.c0 hx3.c1 hx3.c2 ?_) hdk.one
   exact hk.keep (fun b hb => Below.heap_alloc _ _ _ hb.2) (fun b hb => ⟨by omega, by simp; omega⟩)
  clear HK hn3 hD3 hk hdk hx3 hnw2 hzero2
  go_wp2_with fail
  refine bodyPost_ret (v := .agg #[.int .i64 4, .slice none 0 0, .slice (some ⟨w3.heap.size, 0, none⟩) 1 1]) (by simp [results, Tryz.results87, go_sem, r0, r1, r2]) rfl ?_
  exact HP.out
 case inr.inr.inr.inl =>
  obtain ⟨rfl, hd, h4⟩ := hf
  have hgt := hdgt hd
  have hle : ¬ D <= 1 := by omega
  have HP : Hid (∀ (y : Nat) (o : Obj), 1 <= y -> y <= 3 -> DKPost (m + 1) (d + 1) w R ao L cap p (9 + 8 * pk d) (.returned (.agg #[.int .i64 (y : Int), .slice none 0 0, .slice none 0 0])) ((put3 w2 w.heap.size 0 (.int .i64 (y : Int)) (.slice none 0 0) (.slice none 0 0)).alloc o)) := fun y o h1 h2 => by
   have : y = 1 ∨ y = 2 ∨ y = 3 := by omega
   rcases this with rfl | rfl | rfl <;> exact (dk_exit HD0.out hnw2 hD2.box (by omega) (leafD_in _ _ m _ rfl) (depK.leaf m _ d)).alloc o
  obtain ⟨⟨r0, r1, r2⟩, f0, f1, f2⟩ := zeroD_cells hzero2
  clear hdle hdgt hD2 hnw2 hzero2
  have h5 : x = 0 ∨ x = 1 ∨ x = 2 ∨ x = 3 ∨ x = 4 := by omega
  clear h4 hx
  rcases h5 with rfl | rfl | rfl | rfl | rfl
  ·have HQ : Hid _ := HP.out 1 (.cells #[.int .i64 1, .int .i64 1, .int .i64 2, .int .i64 2, .int .i64 3] 3) (by omega) (by omega)
   clear HP
   go_wp2_with fail
   refine bodyPost_ret (v := .agg #[.int .i64 1, .slice none 0 0, .slice none 0 0]) (by simp [results, Tryz.results87, go_sem, r0, r1, r2, hz2, hz1]) rfl ?_
   exact HQ.out
  ·have HQ : Hid _ := HP.out 1 (.cells #[.int .i64 1, .int .i64 1, .int .i64 2, .int .i64 2, .int .i64 3] 3) (by omega) (by omega)
   clear HP
   go_wp2_with fail
   refine bodyPost_ret (v := .agg #[.int .i64 1, .slice none 0 0, .slice none 0 0]) (by simp [results, Tryz.results87, go_sem, r0, r1, r2, hz2, hz1]) rfl ?_
   exact HQ.out
  ·have HQ : Hid _ := HP.out 2 (.cells #[.int .i64 1, .int .i64 1, .int .i64 2, .int .i64 2, .int .i64 3] 3) (by omega) (by omega)
   clear HP
   go_wp2_with fail
   refine bodyPost_ret (v := .agg #[.int .i64 2, .slice none 0 0, .slice none 0 0]) (by simp [results, Tryz.results87, go_sem, r0, r1, r2, hz2, hz1]) rfl ?_
   exact HQ.out
  ·have HQ : Hid _ := HP.out 2 (.cells #[.int .i64 1, .int .i64 1, .int .i64 2, .int .i64 2, .int .i64 3] 3) (by omega) (by omega)
   clear HP
   go_wp2_with fail
   refine bodyPost_ret (v := .agg #[.int .i64 2, .slice none 0 0, .slice none 0 0]) (by simp [results, Tryz.results87, go_sem, r0, r1, r2, hz2, hz1]) rfl ?_
   exact HQ.out
  ·have HQ : Hid _ := HP.out 3 (.cells #[.int .i64 1, .int .i64 1, .int .i64 2, .int .i64 2, .int .i64 3] 3) (by omega) (by omega)
   clear HP
   go_wp2_with fail
   refine bodyPost_ret (v := .agg #[.int .i64 3, .slice none 0 0, .slice none 0 0]) (by simp [results, Tryz.results87, go_sem, r0, r1, r2, hz2, hz1]) rfl ?_
   exact HQ.out
 case inr.inr.inr.inr =>
  obtain ⟨rfl, hd⟩ := hf
  have hle : D <= 1 := by have := hdle hd; omega
  have HP : Hid (∀ (y : Nat) (o : Obj), 1 <= y -> y <= 3 -> DKPost (m + 1) (d + 1) w R ao L cap p (9 + 8 * pk d) (.returned (.agg #[.int .i64 (y : Int), .slice none 0 0, .slice none 0 0])) ((put3 w2 w.heap.size 0 (.int .i64 (y : Int)) (.slice none 0 0) (.slice none 0 0)).alloc o)) := fun y o h1 h2 => by
   have : y = 1 ∨ y = 2 ∨ y = 3 := by omega
   rcases this with rfl | rfl | rfl <;> exact (dk_exit HD0.out hnw2 hD2.box (by omega) (leafD_in _ _ m _ rfl) (depK.leaf m _ d)).alloc o
  obtain ⟨⟨r0, r1, r2⟩, f0, f1, f2⟩ := zeroD_cells hzero2
  obtain ⟨x5, hx5⟩ : ∃ x5, x5 = x % 5 := ⟨_, rfl⟩
  have e5 : (x : Int) % 5 = (x5 : Int) := by rw [hx5]; simp
  have e5' : (x : Int).tmod 5 = (x5 : Int) := by rw [Int.tmod_eq_emod_of_nonneg (by omega)]; exact e5
  have h5 : x5 = 0 ∨ x5 = 1 ∨ x5 = 2 ∨ x5 = 3 ∨ x5 = 4 := by omega
  clear hdle hdgt hD2 hnw2 hzero2 hx5
  rcases h5 with rfl | rfl | rfl | rfl | rfl
  ·have HQ : Hid _ := HP.out 1 (.cells #[.int .i64 1, .int .i64 1, .int .i64 2, .int .i64 2, .int .i64 3] 3) (by omega) (by omega)
   clear HP
   go_wp2_with fail
   refine bodyPost_ret (v := .agg #[.int .i64 1, .slice none 0 0, .slice none 0 0]) (by simp [results, Tryz.results87, go_sem, r0, r1, r2, hz2, hz1]) rfl ?_
   exact HQ.out
  ·have HQ : Hid _ := HP.out 1 (.cells #[.int .i64 1, .int .i64 1, .int .i64 2, .int .i64 2, .int .i64 3] 3) (by omega) (by omega)
   clear HP
   go_wp2_with fail
   refine bodyPost_ret (v := .agg #[.int .i64 1, .slice none 0 0, .slice none 0 0]) (by simp [results, Tryz.results87, go_sem, r0, r1, r2, hz2, hz1]) rfl ?_
   exact HQ.out
  ·have HQ : Hid _ := HP.out 2 (.cells #[.int .i64 1, .int .i64 1, .int .i64 2, .int .i64 2, .int .i64 3] 3) (by omega) (by omega)
   clear HP
   go_wp2_with fail
   refine bodyPost_ret (v := .agg #[.int .i64 2, .slice none 0 0, .slice none 0 0]) (by simp [results, Tryz.results87, go_sem, r0, r1, r2, hz2, hz1]) rfl ?_
   exact HQ.out
  ·have HQ : Hid _ := HP.out 2 (.cells #[.int .i64 1, .int .i64 1, .int .i64 2, .int .i64 2, .int .i64 3] 3) (by omega) (by omega)
   clear HP
   go_wp2_with fail
   refine bodyPost_ret (v := .agg #[.int .i64 2, .slice none 0 0, .slice none 0 0]) (by simp [results, Tryz.results87, go_sem, r0, r1, r2, hz2, hz1]) rfl ?_
   exact HQ.out
  ·have HQ : Hid _ := HP.out 3 (.cells #[.int .i64 1, .int .i64 1, .int .i64 2, .int .i64 2, .int .i64 3] 3) (by omega) (by omega)
   clear HP
   go_wp2_with fail
   refine bodyPost_ret (v := .agg #[.int .i64 3, .slice none 0 0, .slice none 0 0]) (by simp [results, Tryz.results87, go_sem, r0, r1, r2, hz2, hz1]) rfl ?_
   exact HQ.out
 have hgt7 : top = true ∨ (top = false /\ ¬ D <= 1 /\ (7 : Int) < (x : Int)) := by
  rcases hf with ⟨h1, h2⟩ | ⟨h1, h2⟩ | ⟨h1, h2, h3⟩
  ·exact .inl h1
  ·exact .inl h1
  ·exact .inr ⟨h1, by have := hdgt h2; omega, by omega⟩
 have HDd : Hid ((1 <= d /\ (1 : Int) < D) ∨ (d = 0 /\ D = 1)) := by
  rcases Nat.eq_zero_or_pos d with h0 | h0
  ·exact .inr ⟨h0, hdle h0⟩
  ·exact .inl ⟨h0, hdgt h0⟩
 obtain ⟨Wb, hWb⟩ : ∃ Wb, Wb = w2.alloc (.cells #[.int .i64 5, .slice none 0 0, .slice none 0 0] 85) := ⟨_, rfl⟩
 have hzb : Wb.heap.size = w.heap.size + 2 := by rw [hWb]; simp; omega
 have hbb : Below w2.heap.size w2 Wb := by rw [hWb]; exact (Below.refl _ _).alloc (Nat.le_refl _) _
 have hboxb : Wb.heap[w.heap.size + 1]? = some (.cells #[.int .i64 5, .slice none 0 0, .slice none 0 0] 85 (0, 0)) := by
  rw [hWb, show w.heap.size + 1 = w2.heap.size by omega]; exact heap_alloc_new _ _
 have HNm : Hid (Calls Tryz.prog 121 #[] Wb _) := l5Names_any Wb
 clear hdle hdgt hf
 rcases hgt7 with rfl | ⟨rfl, hle, hx7⟩
 case' inl =>
  by_cases hle : D <= 1
  case' pos => go_wp2_with fail
  case' neg => go_wp2_with fail
 case' inr =>
  go_wp2_with fail
  clear hx7
 all_goals
  rw [<- hWb]
  clear hWb
  refine HNm.out.mono ?_
  rintro e w3 ⟨rfl, hz3, hb3, hnms⟩
  have hn3 : Near R w w3 := (hnw2.trans (Near.of_below hbb)).trans (Near.of_below hb3)
  have hzero3 : w3.heap[w.heap.size]? = some (.cells #[.int .i64 0, .slice none 0 0, .slice none 0 0] 85 (0, 0)) := (hb3.block _ (by omega)).trans ((hbb.block _ (by omega)).trans hzero2)
  have hbox3 := (hb3.block (w.heap.size + 1) (by omega)).trans hboxb
  have hD3 : Dr w3 R ao L cap (p + 1) := (hD2.same hbb).same hb3
  have HNms := hidF hnms
  have H3 : Hid (Near R w w3 /\ w3.heap[w.heap.size]? = some (.cells #[.int .i64 0, .slice none 0 0, .slice none 0 0] 85 (0, 0))) := ⟨hn3, hzero3⟩
  have hz3' : w3.heap.size = w.heap.size + 3 := by omega
  have hdlm : d <= m := by omega
  clear HNm hb3 hbb hboxb hzero2 hnw2 hD2 hnms hn3 hzero3 hm
  rw [hzb] at HNms ⊢
  generalize hXe : w.heap.size + 1 = X at *
  go_wp2_with fail
  go_loopw [10] (fun iv wr => ∃ (i ln p' : Nat) (ns : List ByteArray) (ks : List (K m)) (na : Option Addr) (nc : Nat) (ka : Option Addr) (kc : Nat), i <= 8 /\ iv = .int .i64 i /\ ln <= i /\ ns.length = ln /\ ks.length = ln /\ GrowK R X m w3 wr 5 ns ks (.slice na ln nc) (.slice ka ln kc) /\ Dr wr R ao L cap p' /\ p' <= p + 1 + i * (1 + pk d) /\ ∀ k, k ∈ ks -> depK m k d) (fun iv _ => 8 - (intOf iv).toNat)
  case atStart => exact ⟨0, 0, p + 1, [], [], none, 0, none, 0, by omega, rfl, by omega, rfl, rfl, GrowK.start hbox3, hD3, by omega, fun k hk => by cases hk⟩
  case round =>
   obtain ⟨i, ln, p', ns, ks, na, nc, ka, kc, hi8, rfl, hlni, hnl, hkl, hG, hD, hp', hdep⟩ := hrel
   have hmul : i * (1 + pk d) <= 8 * (1 + pk d) := Nat.mul_le_mul_right _ hi8
   have hzr := hG.near.size
   have hXr := hG.lt
   have x0 : wr.cell? ⟨X, 0, none⟩ = some (.int .i64 5) := by simp [World.cell?, hG.box]
   have x1 : wr.cell? ⟨X, 1, none⟩ = some (.slice na ln nc) := by simp [World.cell?, hG.box]
   have x2 : wr.cell? ⟨X, 2, none⟩ = some (.slice ka ln kc) := by simp [World.cell?, hG.box]
   have HG := hidF hG
   have HL : Hid (ns.length = ln /\ ks.length = ln) := ⟨hnl, hkl⟩
   have HDr : Hid (Dr wr R ao L cap p') := hD
   have HDep : Hid (∀ k, k ∈ ks -> depK m k d) := hdep
   clear hG hnl hkl hD hdep hD3 hbox3
   by_cases hgo : i < 8 /\ ln < 4
   case neg =>
    have hzw : wr.heap[w.heap.size]? = some (.cells #[.int .i64 0, .slice none 0 0, .slice none 0 0] 85 (0, 0)) := (HG.out.near.block _ (by omega) (by omega) (by omega)).trans H3.out.2
    obtain ⟨⟨r0, r1, r2⟩, f0, f1, f2⟩ := zeroD_cells hzw
    have HP : Hid (DKPost (m + 1) (d + 1) w R ao L cap p (9 + 8 * pk d) (.returned (.agg #[.int .i64 5, .slice na ln nc, .slice ka ln kc])) (put3 wr w.heap.size 0 (.int .i64 5) (.slice na ln nc) (.slice ka ln kc))) :=
     dk_exit HD0.out (HG.out.near.out H3.out.1 (by omega)) HDr.out.box (by omega) (HG.out.kind rfl (fun _ _ => rfl) (Nat.le_refl _) (by rw [HL.out.1]; omega) (by rw [HL.out.2]; omega) (by omega)) ⟨by omega, by show ns.length <= 1000; rw [HL.out.1]; omega, HG.out.short, by show ks.length <= 1000; rw [HL.out.2]; omega, fun k hk => by simpa using HDep.out k hk⟩
    clear HG HDr hzw H3
    by_cases h8 : i < 8
    ·have h4 : ¬ (ln : Int) < 4 := by omega
     have h8i : (i : Int) < 8 := by omega
     clear hgo
     go_wp2_with fail
     refine bodyPost_ret (v := .agg #[.int .i64 5, .slice na ln nc, .slice ka ln kc]) (by simp [results, Tryz.results87, go_sem, r0, r1, r2]) rfl ?_
     exact HP.out
    ·have h8i : ¬ (i : Int) < 8 := by omega
     clear hgo
     go_wp2_with fail
     refine bodyPost_ret (v := .agg #[.int .i64 5, .slice na ln nc, .slice ka ln kc]) (by simp [results, Tryz.results87, go_sem, r0, r1, r2]) rfl ?_
     exact HP.out
   obtain ⟨h8, h4⟩ := hgo
   have h8i : (i : Int) < 8 := by omega
   have h4i : (ln : Int) < 4 := by omega
   have hmul2 : (i + 1) * (1 + pk d) = i * (1 + pk d) + (1 + pk d) := Nat.succ_mul _ _
   have hmul3 : (i + 1) * (1 + pk d) <= 8 * (1 + pk d) := Nat.mul_le_mul_right _ (by omega)
   have HPk : Hid (Calls Tryz.prog 17 #[.pointer (some ⟨R, 0, none⟩), .int .i64 3] wr (PickPost wr R ao L cap p' 3)) := pick_any wr R ao L cap p' 3 HDr.out (by omega) (by omega) (by omega)
   generalize hip : i * (1 + pk d) = ip at *
   go_wp2_with fail
   refine HPk.out.mono ?_
   rintro e w4 ⟨y, rfl, hy, hn4, hD4, hz4⟩
   have HG4 : Hid (GrowK R X m w3 w4 5 ns ks (.slice na ln nc) (.slice ka ln kc)) := HG.out.keep (by omega) (by omega) hn4
   clear HPk HG x0 x1 x2 hz4
   by_cases hadd : y = 0 /\ 1 <= d
   case neg =>
    have hR4 : Hid (GrowK R X m w3 w4 5 ns ks (.slice na ln nc) (.slice ka ln kc) /\ Dr w4 R ao L cap (p' + 1)) := ⟨HG4.out, hD4⟩
    clear hn4 hD4 HG4
    by_cases hy0 : y = 0
    ·subst hy0
     obtain rfl : D = 1 := HDd.out.elim (fun h => absurd ⟨rfl, h.1⟩ hadd) (fun h => h.2)
     clear hadd HDd
     first
      | (exfalso; omega)
      | (go_wp2_with fail
         go_roundw
         case rel => exact ⟨i + 1, ln, p' + 1, ns, ks, na, nc, ka, kc, by omega, by go_num, by omega, HL.out.1, HL.out.2, hR4.out.1, hR4.out.2, by omega, HDep.out⟩
         case measure => simp [intOf]; omega)
    ·have hyb : ((y : Int) == 0) = false := by simp; omega
     clear hadd hy0
     go_wp2_with fail
     go_roundw
     case rel => exact ⟨i + 1, ln, p' + 1, ns, ks, na, nc, ka, kc, by omega, by go_num, by omega, HL.out.1, HL.out.2, hR4.out.1, hR4.out.2, by omega, HDep.out⟩
     case measure => simp [intOf]; omega
   obtain ⟨rfl, hd1⟩ := hadd
   have hD1 : (1 : Int) < D := HDd.out.elim (fun h => h.2) (fun h => absurd h.1 (by omega))
   obtain ⟨nm, hnm, hcn⟩ := HNms.out i h8
   have hzr4 := HG4.out.near.size
   have hXr4 := HG4.out.lt
   have x1 : w4.cell? ⟨X, 1, none⟩ = some (.slice na ln nc) := by simp [World.cell?, HG4.out.box]
   have f0 : w4.cell? ⟨w.heap.size + 2, i, none⟩ = some (.string nm) := (World.cell?_of_block (w := w3) (w' := w4) (a := ⟨w.heap.size + 2, i, none⟩) (HG4.out.near.block (w.heap.size + 2) (by omega) (by omega) (by omega))).trans hcn
   have HD4 := hidF hD4
   have HO4 : Hid (w4.ownsRow w3.heap.size 9 1 (.slice na ln nc) ln (ns.map .string)) := by
    have := HG4.out.names
    rw [HL.out.1] at this; exact this
   have hoxN : ∀ o, (w4.drew.alloc o).ownsRow w3.heap.size 9 1 (.slice na ln nc) ln (ns.map .string) := fun o => HO4.out.drew.alloc o
   obtain ⟨is0, hi0, hy0, hy1, hyb⟩ := info_parts Tryz.info_strD
   have HIS : Hid (_ /\ _ /\ _ /\ _) := ⟨hi0, hy0, hy1, hyb⟩
   clear hi0 hy0 hy1 hyb hn4 hD4 hcn hy
   go_upto_region 11 with fail
   go_cut [10] from 25 to 61 (fun iv wx => iv = .int .i64 i /\ ∃ g cap', GrowK R X m w3 wx 5 (ns ++ [nm]) ks (.slice (some ⟨g, 0, none⟩) (ln + 1) cap') (.slice ka ln kc) /\ Dr wx R ao L cap (p' + 1))
   case first =>
    go_region_law (first
     | (refine step_append_lies _ (by rfl) (.tmp 45) (.tmp 50) 24 (by rfl) w3.heap.size 9 is0 _ 1 16 Tryz.underlying24 HIS.out.1 HIS.out.2.1 HIS.out.2.2.1 HIS.out.2.2.2 rfl (by decide) (.slice na ln nc) ln (ns.map .string) (by rfl) (hoxN _) ⟨w4.heap.size, 0, none⟩ 1 1 [.string nm] (by rfl) rfl (World.news_of_block (heap_alloc_new w4.drew _)) (by simp [Value.oneCell']) (by decide) (by unfold maxLen; omega) (by omega) (by simp; omega) (w4.heap.size + 1) (by simp) ?_; intro g cap' w5 hown hgrow hat hlt5; have hb5 := ((hgrow.block X (by simp; omega) (fun e => by have := r1_lt HO4.out _ e.symm; omega)).trans (Below.heap_alloc _ _ _ (by simpa using hXr4))).trans HG4.out.box; have x1'' : w5.cell? ⟨X, 1, none⟩ = some (.slice na ln nc) := (by simp [World.cell?, hb5]); have xf'' : w5.frozen? ⟨X, 1, none⟩ = false := (by simp [World.frozen?, hb5])))
    all_goals
     have hM := GrowK.name (W := w4.drew) (Wa := w4.drew.alloc (.cells #[.string nm] 9)) (one := .cells #[.string nm] 9) (x := nm) (g := g) (cap := cap') (HG4.out.keep (by omega) (by omega) ((Near.refl R w4).drew)) (by omega) rfl ⟨rfl, rfl, rfl⟩ (by omega) (by rw [HL.out.1]; exact hown) hgrow hat
     rw [HL.out.1] at hM
     have HM := hidF hM
     have HDn : Hid (Dr (w5.setCell ⟨X, 1, none⟩ (.slice (some ⟨g, 0, none⟩) (ln + 1) cap')) R ao L cap (p' + 1)) := by
      refine HD0.out.keep (hM.near.out H3.out.1 (by omega)) ?_
      rw [Below.heap_setCell _ _ _ _ (by show R ≠ X; omega), blk_afterG (b := R) (W := w4.drew) (w2 := w4.drew) (o := .cells #[.string nm] 9) HO4.out.drew (by simp; omega) (by omega) hgrow]
      exact HD4.out.box
     clear hM hown hgrow hat hlt5 hb5 x1'' xf'' x1 f0
     go_wp2_with fail
     go_meet
     exact ⟨rfl, _, _, HM.out, HDn.out⟩
   case rest =>
    obtain ⟨rfl, g, cap', hM, hDc⟩ := hcut
    have hXc := hM.lt
    have hzc := hM.near.size
    have x2 : wc.cell? ⟨X, 2, none⟩ = some (.slice ka ln kc) := by simp [World.cell?, hM.box]
    obtain ⟨xs, hxs, hkk⟩ := hM.kids
    have HKK := hidF hkk
    have HX : Hid (wc.ownsRow w3.heap.size 85 3 (.slice ka ln kc) ln xs) := by
     rw [HL.out.2] at hxs; exact hxs
    have HM := hidF hM
    have HC : Hid (Calls Tryz.prog 87 #[.pointer (some ⟨R, 0, none⟩), .int .i64 (d : Int), .bool false] wc.drew (DKPost m d wc.drew R ao L cap (p' + 1) (pk d))) := HN.out m R ao L cap (p' + 1) false wc.drew hdlm hd1 (hDc.drewN 1) (by omega)
    obtain ⟨ik0, hi0, hy0, hy1, hyb⟩ := info_parts Tryz.info_kindD
    have HIK : Hid (_ /\ _ /\ _ /\ _) := ⟨hi0, hy0, hy1, hyb⟩
    clear hi0 hy0 hy1 hyb hxs hkk hM hDc x1 f0 HO4 HG4 HD4 hoxN
    go_wp2_with fail
    go_region_law (first
     | (refine step_append_lies _ (by rfl) (.tmp 54) (.tmp 59) 83 (by rfl) w3.heap.size 85 ik0 _ 3 56 Tryz.underlying83 HIK.out.1 HIK.out.2.1 HIK.out.2.2.1 HIK.out.2.2.2 rfl (by decide) (.slice ka ln kc) ln xs (by rfl) (hox _) ⟨v2.heap.size, 0, none⟩ 1 1 [.int .i64 y0, .slice ya yl yc, .slice za zl zc] (by rfl) rfl (World.news_of_block (heap_alloc_new v2 _)) (by simp [Value.oneCell']) (by decide) (by unfold maxLen; omega) (by omega) (by simp; omega) (v2.heap.size + 1) (by simp) ?_; intro g2 cap2 v3 hown2 hgrow2 hat2 hlt2; have hb6 := (((hgrow2.block X (by simp; omega) (fun e => by have := r1_lt HX.out _ e.symm; omega)).trans (Below.heap_alloc _ _ _ (by omega))).trans (hn5.block X (by simpa using hXc) (by omega))).trans HM.out.box; have x2'' : v3.cell? ⟨X, 2, none⟩ = some (.slice ka ln kc) := (by simp [World.cell?, hb6]); have xg'' : v3.frozen? ⟨X, 2, none⟩ = false := (by simp [World.frozen?, hb6]))
     | (go_simp; go_at_call 87; refine HC.out.mono ?_; rintro e v2 ⟨hn5, p5, k5, c0', c1', c2', hp5, hD5, rfl, hk5, hdk5⟩; obtain ⟨y0, ya, yl, yc, za, zl, zc, rfl, rfl, rfl⟩ := hk5.shape; have hsz2 : wc.heap.size <= v2.heap.size := hn5.size; have hox := fun o => owns_onG (R := R) (M := w3.heap.size) (W := wc.drew) HX.out.drew (by omega) hn5 o; have x2' : v2.cell? ⟨X, 2, none⟩ = some (.slice ka ln kc) := (World.cell?_of_block (hn5.block X (by simpa using hXc) (by omega))).trans x2; have x2a : (v2.alloc (.cells #[.int .i64 y0, .slice ya yl yc, .slice za zl zc] 85)).cell? ⟨X, 2, none⟩ = some (.slice ka ln kc) := (World.cell?_of_block (Below.heap_alloc _ _ _ (by show X < _; omega))).trans x2'))
    all_goals
     have hF := GrowK.kid (W := wc.drew) (W1 := v2) (Wa := v2.alloc (.cells #[.int .i64 y0, .slice ya yl yc, .slice za zl zc] 85)) (one := .cells #[.int .i64 y0, .slice ya yl yc, .slice za zl zc] 85) (g := g2) (cap := cap2) (xs := xs)
      (HM.out.keep (by omega) (by omega) ((Near.refl R wc).drew)) (by omega) (by omega) (by omega) hn5 hk5 rfl ⟨rfl, rfl, rfl⟩ (by rw [HL.out.2]; exact HX.out.drew)
      (fun q hq => by obtain ⟨a0, a1, a2, hd, hdt⟩ := HKK.out q hq; exact ⟨a0, a1, a2, hd, KindIn.keep (w := wc) (w' := wc.drew) (fun _ _ => rfl) (fun _ h => h) hdt⟩) (by rw [HL.out.2]; exact hown2) hgrow2 hat2
     rw [HL.out.2] at hF
     have HF := hidF hF
     have HDn : Hid (Dr (v3.setCell ⟨X, 2, none⟩ (.slice (some ⟨g2, 0, none⟩) (ln + 1) cap2)) R ao L cap p5) := by
      refine HD0.out.keep (hF.near.out H3.out.1 (by omega)) ?_
      rw [Below.heap_setCell _ _ _ _ (by show R ≠ X; omega), blk_afterG (b := R) (W := wc.drew) (w2 := v2) (o := .cells #[.int .i64 y0, .slice ya yl yc, .slice za zl zc] 85) HX.out.drew (by omega) (by omega) hgrow2]
      exact hD5.box
     have HDep5 : Hid (∀ k, k ∈ ks ++ [k5] -> depK m k d) := fun k hk => by
      rcases List.mem_append.1 hk with h | h
      ·exact HDep.out k h
      ·rw [List.mem_singleton] at h; subst h; exact hdk5
     clear hF hown2 hgrow2 hat2 hlt2 hk5 hdk5 hD5 hn5 hox x2' x2a x2'' xg'' hb6
     go_wp2_with fail
     go_roundw
     case rel => exact ⟨i + 1, ln + 1, p5, ns ++ [nm], ks ++ [k5], some ⟨g, 0, none⟩, cap', some ⟨g2, 0, none⟩, cap2, by omega, by go_num, by omega, by simp [HL.out.1], by simp [HL.out.2], HF.out, HDn.out, by omega, HDep5.out⟩
     case measure => simp [intOf]; omega
theorem l5Kind_any : ∀ d, DrawKSaid d := by
 intro d
 induction d with
 | zero => intro m R ao L cap p top w _ h; exact absurd h (by omega)
 | succ d ih => exact l5Kind_step d ih
end Go.Proofs.YtmjhcgjhlakceaaGreatDoor

namespace Go.Proofs.YtmjhcgjhlakceaaGreatDoor
open Go.RowKit
set_option maxRecDepth 20000 in
set_option maxHeartbeats 400000 in
theorem of_any (w : World) (R : Nat) (ao : Option Addr) (L cap p : Nat) (h : Dr w R ao L cap p) (hp : p <= 1000000) (b off n c : Nat) (hn : 1 <= n) (hn2 : n <= 1000000) (hbR : b ≠ R) (hc : ∀ j, j < n -> ∃ s : ByteArray, s.size <= 10000 /\ w.cell? ⟨b, off + j, none⟩ = some (.string s)) :
  Calls Tryz.prog 30 #[.pointer (some ⟨R, 0, none⟩), .slice (some ⟨b, off, none⟩) n c] w fun e w' => ∃ s : ByteArray, e = .returned (.string s) /\ s.size <= 10000 /\ Near R w w' /\ Dr w' R ao L cap (p + 1) := by
 have HPk : Hid (Calls Tryz.prog 17 #[.pointer (some ⟨R, 0, none⟩), .int .i64 (n : Int)] w (PickPost w R ao L cap p n)) := pick_any w R ao L cap p n h hp hn hn2
 have HC := hidF hc
 clear h hc
 go_enter Tryz.func30, Tryz.ntmps30
 go_wp2_with fail
 refine HPk.out.mono ?_
 rintro e w1 ⟨x, rfl, hx, hn1, hD1, hz1⟩
 obtain ⟨s, hs, hcs⟩ := HC.out x hx
 have f0 := hn1.cell hcs hbR
 have HP : Hid (Near R w w1 /\ Dr w1 R ao L cap (p + 1)) := ⟨hn1, hD1⟩
 have hxi : (x : Int) < (n : Int) := by omega
 clear HPk HC hcs hn1 hD1
 go_wp2_with fail
 go_ret
 exact ⟨s, rfl, hs, HP.out.1, HP.out.2⟩
def okLit : Value -> Bool
 | .string s => decide (s.size <= 10000)
 | _ => false
theorem okLit_get {v : Value} (h : okLit v = true) : ∃ s, s.size <= 10000 /\ v = .string s := by
 cases v <;> simp_all [okLit]
theorem of_lit (w : World) (R : Nat) (ao : Option Addr) (L cap p : Nat) (h : Dr w R ao L cap p) (hp : p <= 1000000) (cs : Array Value) (n : Nat) (hn : cs.size = n) (hn1 : 1 <= n) (hn2 : n <= 1000) (hc : cs.toList.all okLit = true) :
  Calls Tryz.prog 30 #[.pointer (some ⟨R, 0, none⟩), .slice (some ⟨w.heap.size, 0, none⟩) n n] (w.alloc (.cells cs 9)) fun e w' => ∃ s : ByteArray, e = .returned (.string s) /\ s.size <= 10000 /\ Near R w w' /\ Dr w' R ao L cap (p + 1) := by
 have hb : Below w.heap.size w (w.alloc (.cells cs 9)) := (Below.refl _ _).alloc (Nat.le_refl _) _
 have hR := h.lt
 refine (of_any _ R ao L cap p (h.same hb) hp w.heap.size 0 n n hn1 (by omega) (by omega) fun j hj => ?_).mono ?_
 ·have hj' : j < cs.size := by omega
  obtain ⟨s, hs, e⟩ := okLit_get (List.all_eq_true.1 hc cs[j] (by simp))
  refine ⟨s, hs, ?_⟩
  rw [Nat.zero_add, cell_of_row _ _ j cs 9 (0, 0) (heap_alloc_new _ _), Array.getElem?_eq_getElem hj', e]
 ·rintro e w' ⟨s, rfl, hs, hn', hD'⟩
  exact ⟨s, rfl, hs, (Near.of_below hb).trans hn', hD'⟩
end Go.Proofs.YtmjhcgjhlakceaaGreatDoor

namespace Go.Proofs.YtmjhcgjhlakceaaGreatDoor
open Go.RowKit
set_option maxRecDepth 20000 in
set_option maxHeartbeats 4000000 in
theorem l6Many_any (s : ByteArray) (n : Nat) (w : World) (h : s.size * n <= 10000) (hn : n <= 10000) :
  Calls Tryz.prog 120 #[.string s, .int .i64 (n : Int)] w fun e w' => ∃ x : ByteArray, e = .returned (.string x) /\ x.size <= 10000 /\ w' = w := by
 go_enter Tryz.func120, Tryz.ntmps120
 go_wp2_with fail
 go_loopw [0, 1, 5] (fun sv nv ov wr => ∃ (s' : ByteArray) (n' : Nat) (o' : ByteArray), sv = .string s' /\ nv = .int .i64 (n' : Int) /\ ov = .string o' /\ o'.size + s'.size * n' <= 10000 /\ n' <= 10000 /\ wr = w) (fun _ nv _ _ => (intOf nv).toNat)
 case atStart => exact ⟨s, n, ⟨#[]⟩, rfl, rfl, rfl, by show 0 + s.size * n <= 10000; rw [Nat.zero_add]; exact h, hn, rfl⟩
 case round =>
  obtain ⟨s', n', o', rfl, rfl, rfl, hle, hn', rfl⟩ := hrel
  clear h hn
  by_cases h0 : 0 < n'
  ·have h0i : (0 : Int) < (n' : Int) := by omega
   have hs1 : s'.size <= 10000 := by have := Nat.le_mul_of_pos_right s'.size h0; omega
   have hc1 : ¬ 9223372036854775807 < s'.size + s'.size := by omega
   have hc2 : ¬ 9223372036854775807 < o'.size + s'.size := by omega
   have hq : n' = 2 * (n' / 2) + n' % 2 := by omega
   have hmul : s'.size * n' = 2 * (s'.size * (n' / 2)) + s'.size * (n' % 2) := by
    have : s'.size * n' = s'.size * (2 * (n' / 2) + n' % 2) := by rw [<- hq]
    rw [this, Nat.mul_add, Nat.mul_left_comm]
   have hmul2 : (s'.size + s'.size) * (n' / 2) = 2 * (s'.size * (n' / 2)) := by rw [<- Nat.two_mul, Nat.mul_assoc]
   have HM : Hid (s'.size * n' = 2 * (s'.size * (n' / 2)) + s'.size * (n' % 2) /\ (s'.size + s'.size) * (n' / 2) = 2 * (s'.size * (n' / 2)) /\ o'.size + s'.size * n' <= 10000) := ⟨hmul, hmul2, hle⟩
   clear hmul hmul2 hle hq
   have hr : n' % 2 = 0 ∨ n' % 2 = 1 := by omega
   rcases hr with hr | hr
   ·have hri : ¬ (n' : Int) % 2 = 1 := by omega
    go_wp2_with fail
    go_roundw
    case rel => exact ⟨s' ++ s', n' / 2, o', rfl, by go_num, rfl, by rw [ByteArray.size_append, HM.out.2.1]; have := HM.out.1; rw [hr] at this; have := HM.out.2.2; omega, by omega, trivial⟩
    case measure => simp [intOf]; omega
   ·have hri : (n' : Int) % 2 = 1 := by omega
    go_wp2_with fail
    go_roundw
    case rel => exact ⟨s' ++ s', n' / 2, o' ++ s', rfl, by go_num, rfl, by rw [ByteArray.size_append, ByteArray.size_append, HM.out.2.1]; have := HM.out.1; rw [hr] at this; have := HM.out.2.2; omega, by omega, trivial⟩
    case measure => simp [intOf]; omega
  ·have h0i : ¬ (0 : Int) < (n' : Int) := by omega
   go_wp2_with fail
   go_ret
   exact ⟨o', rfl, by omega, rfl⟩
end Go.Proofs.YtmjhcgjhlakceaaGreatDoor

namespace Go.Proofs.YtmjhcgjhlakceaaGreatDoor
open Go.RowKit
theorem wf_small (x : Nat) (h : x <= 1000000) : (Lit.int .i64 (x : Int)).wf = true := by
 simp only [Lit.wf, Bool.and_eq_true, decide_eq_true_eq]
 have a : IntKind.i64.min = -9223372036854775808 := by rfl
 have b : IntKind.i64.max = 9223372036854775807 := by rfl
 rw [a, b]; omega
def ChainK (R X : Nat) (w wr : World) (j : Nat) : Prop :=
 ∃ (so : Int) (kv : Value), Near2 R X w wr /\ wr.heap[X]? = some (.cells #[.int .i64 so, .slice none 0 0, kv] 85 (0, 0)) /\ ∀ M, j + 1 <= M -> ∃ k : K M, KindIn (fun b => w.heap.size <= b /\ b < wr.heap.size) wr M k (.int .i64 so) (.slice none 0 0) kv
theorem ChainK.start {R X : Nat} {w : World} (h : w.heap[X]? = some (.cells #[.int .i64 3, .slice none 0 0, .slice none 0 0] 85 (0, 0))) : ChainK R X w w 0 :=
 ⟨3, _, Near2.refl _ _ _, h, fun M hM => by
  obtain ⟨M', rfl⟩ : ∃ M', M = M' + 1 := ⟨M - 1, by omega⟩
  exact ⟨(⟨3, [], []⟩ : Kd (K M')), leafD_in _ _ M' 3 rfl⟩⟩
theorem ChainK.drew {R X j : Nat} {w W : World} (h : ChainK R X w W j) : ChainK R X w W.drew j := by
 obtain ⟨so, kv, h1, h2, h3⟩ := h
 refine ⟨so, kv, ⟨h1.os, h1.tape, h1.output, h1.size, h1.block⟩, h2, fun M hM => ?_⟩
 obtain ⟨k, hk⟩ := h3 M hM
 exact ⟨k, KindIn.keep (w := W) (w' := W.drew) (fun _ _ => rfl) (fun _ h => h) hk⟩
end Go.Proofs.YtmjhcgjhlakceaaGreatDoor

namespace Go.Proofs.YtmjhcgjhlakceaaGreatDoor
open Go.RowKit
theorem owns_empty {w : World} {base E : Nat} {e : TypeId} {size : Nat} (hE : w.heap[E]? = some (.cells #[] e (0, 0))) (hb : base <= E) : w.ownsRow base e size (.slice (some ⟨E, 0, none⟩) 0 0) 0 [] :=
 ⟨by simp, .inr ⟨E, 0, #[], rfl, hb, hE, Nat.le_refl _, Nat.zero_le _, by simp, by simp⟩⟩
theorem run_copy {P : Program} (w : World) (t ty : TypeId) (base : Nat) (e : TypeId) (i : TypeInfo) (z : Value) (size bytes : Nat) (ht : P.underlying t = some (.slice e)) (hi : P.info? e = some i) (hz : i.zero = some z)
  (hsize : i.size = size) (hby : i.bytes = bytes) (hzs : z.cells.size = size) (hsz : 0 < size)
  (E : Nat) (hE : w.heap[E]? = some (.cells #[] e (0, 0))) (hb : base <= E) (ao : Option Addr) (m c : Nat) (news : List Value) (hl : news.length = m * size) (hnews : 0 < m -> ∃ ad, ao = some ad /\ ∀ j u, news[j]? = some u -> w.cell? (ad.add j) = some u) (h1 : ∀ u ∈ news, u.oneCell' = true)
  (h63 : m <= maxLen) (hbytes : m * bytes <= 140737488355328) :
  ∃ g cap w', (Builtin.append_ #[t, t] ty #[.slice (some ⟨E, 0, none⟩) 0 0, .slice ao m c]).run P w = .ok (.slice (some ⟨g, 0, none⟩) m cap) w' /\
   w'.ownsRow base e size (.slice (some ⟨g, 0, none⟩) m cap) m news /\ w.grownBy w' (some E) /\ (g = E ∨ g = w.heap.size) /\ g < w'.heap.size := by
 have hEl : E < w.heap.size := (Array.getElem?_eq_some_iff.1 hE).1
 rcases Nat.eq_zero_or_pos m with rfl | hm
 ·have hn : news = [] := List.eq_nil_of_length_eq_zero (by simpa using hl)
  subst hn
  refine ⟨E, 0, w, ?_, owns_empty hE hb, ⟨rfl, rfl, rfl, Nat.le_refl _, fun _ _ _ => rfl⟩, .inl rfl, hEl⟩
  cases ao <;> simp [Builtin.append_, run_underlying ht, sizeOf, typeInfo, hi, Builtin.lenOf, Builtin.firstCells, loadCells, loadCellsFrom, storeCells]
 ·obtain ⟨ad, rfl, hc⟩ := hnews hm
  obtain ⟨g, cap, w', hr, h2, h3, h4, h5⟩ := run_append_lies (P := P) w t ty base e i z size bytes ht hi hz hsize hby hzs hsz (.slice (some ⟨E, 0, none⟩) 0 0) 0 [] (owns_empty hE hb) ad m c news hl hc h1 hm (by omega) (by simpa using hbytes) (by omega) w.heap.size rfl
  rw [Nat.zero_add] at hr h2
  refine ⟨g, cap, w', hr, h2, h3, h4.imp (fun h => ?_) id, h5⟩
  simpa [Value.ownBlock] using h.symm
theorem wpList_copy {P : Program} (w : World) {ops : Array Oper} {rest : List Oper} {o : Oper} {a : Act} {Q : Exit -> Act -> World -> Prop} (hgd : o.guard = none) (s x : Operand) (t : TypeId)
  (ho : o.op = .call { callee := .builtin .append, args := #[s, x], argTypes := #[t, t] })
  (base : Nat) (e : TypeId) (i : TypeInfo) (z : Value) (size bytes : Nat) (ht : P.underlying t = some (.slice e)) (hi : P.info? e = some i) (hz : i.zero = some z)
  (hsize : i.size = size) (hby : i.bytes = bytes) (hzs : z.cells.size = size) (hsz : 0 < size)
  (E : Nat) (hs : a.eval s = .slice (some ⟨E, 0, none⟩) 0 0) (hE : w.heap[E]? = some (.cells #[] e (0, 0))) (hb : base <= E) (ao : Option Addr) (m c : Nat) (news : List Value) (hx : a.eval x = .slice ao m c) (hl : news.length = m * size) (hnews : 0 < m -> ∃ ad, ao = some ad /\ ∀ j u, news[j]? = some u -> w.cell? (ad.add j) = some u) (h1 : ∀ u ∈ news, u.oneCell' = true)
  (h63 : m <= maxLen) (hbytes : m * bytes <= 140737488355328) (H : Nat) (hH : w.heap.size = H)
  (h : ∀ g cap w', w'.ownsRow base e size (.slice (some ⟨g, 0, none⟩) m cap) m news -> w.grownBy w' (some E) -> (g = E ∨ g = H) -> g < w'.heap.size -> wpList P ops Q rest (a.put o.dst (.slice (some ⟨g, 0, none⟩) m cap)) w') : wpList P ops Q (o :: rest) a w := by
 obtain ⟨g, cap, w', hr, h2, h3, h4, h5⟩ := run_copy (P := P) w t o.type base e i z size bytes ht hi hz hsize hby hzs hsz E hE hb ao m c news hl hnews h1 h63 hbytes
 refine wpList_plain hgd fun K hK => ?_
 unfold Oper.wp execOp
 simp only [ho, resolve, invoke, builtin, Sem.run_bind, Sem.run_pure, Result.andThen_ok, List.map_toArray, List.map_cons, List.map_nil, hs, hx, hr]
 exact hK _ _ (h g cap w' h2 h3 (by rw [<- hH]; exact h4) h5)
theorem strs_news {S : Nat -> Prop} {w w' : World} {l : List ByteArray} {ao : Option Addr} {n c : Nat} (hl : l.length = n) (h : StrsIn S w l (.slice ao n c)) (hs : Same S w w') :
  (l.map Value.string).length = n * 1 /\ (∀ u ∈ l.map Value.string, u.oneCell' = true) /\ (0 < n -> ∃ ad, ao = some ad /\ ∀ j u, (l.map Value.string)[j]? = some u -> w'.cell? (ad.add j) = some u) := by
 subst hl
 obtain ⟨ao', cap', he, -, -, hc⟩ := h
 refine ⟨by simp, fun u hu => ?_, fun hp => ?_⟩
 ·obtain ⟨x, -, rfl⟩ := List.mem_map.1 hu; rfl
 ·obtain ⟨b, off, hb, hS, hcell⟩ := hc (fun e => by rw [e] at hp; simp at hp)
  have hao : ao = ao' := by simpa using congrArg (fun v => match v with | Value.slice a _ _ => a | _ => none) he
  refine ⟨⟨b, off, none⟩, hao.trans hb, fun j u hu => ?_⟩
  obtain ⟨hj, rfl⟩ : ∃ hj : j < l.length, Value.string l[j] = u := by
   rw [List.getElem?_map] at hu
   rcases hlj : l[j]? with _ | s
   ·rw [hlj] at hu; cases hu
   ·rw [hlj] at hu
    obtain ⟨hj, e⟩ := List.getElem?_eq_some_iff.1 hlj
    exact ⟨hj, by rw [e]; simpa using hu⟩
  rw [Addr.add_lit]
  exact (hs.cell (p := ⟨b, off + j, none⟩) hS).trans (hcell j hj)
end Go.Proofs.YtmjhcgjhlakceaaGreatDoor
