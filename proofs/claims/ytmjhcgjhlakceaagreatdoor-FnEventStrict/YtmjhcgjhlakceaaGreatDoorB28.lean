/-
  Several texts in one, in their order.
-/
import Derived.Test.YtmjhcgjhlakceaaGreatDoorB1
import Derived.Deep.RegionWith
import Derived.Lib.Hide
import Derived.Test.YtmjhcgjhlakceaaGreatDoorB27
import Derived.ProofKit
import Derived.OpenShut

namespace Go.Proofs.YtmjhcgjhlakceaaGreatDoor
open Go.RowKit
def TtTSaid (n : Nat) : Prop := ∀ (S S' : Nat -> Prop) (t : T n) (c0 c1 c2 c3 c4 d0 d1 d2 d3 d4 : Value) (w : World), TreeIn S w n t c0 c1 c2 c3 c4 -> TreeIn S' w n t d0 d1 d2 d3 d4 ->
 (∀ b, S b -> b < w.heap.size) -> (∀ b, S' b -> b < w.heap.size) ->
 Calls Tryz.prog 25 #[.agg #[c0, c1, c2, c3, c4], .agg #[d0, d1, d2, d3, d4]] w fun e w' => e = .returned (.bool true) /\ Below w.heap.size w w'
set_option maxRecDepth 20000 in
set_option maxHeartbeats 2000000 in
theorem ttTree_step (n : Nat) (hn : TtTSaid n) : TtTSaid (n + 1) := by
 intro S S' t c0 c1 c2 c3 c4 d0 d1 d2 d3 d4 w ht ht' hB hB'
 obtain ⟨rfl, rfl, rfl, htx, -, -, h3, h4⟩ := ht
 obtain ⟨rfl, rfl, rfl, -, -, -, h3', h4'⟩ := ht'
 obtain ⟨na, nc, rfl, hnl, hss, hc3⟩ := h3
 obtain ⟨na', nc', rfl, -, -, hc3'⟩ := h3'
 obtain ⟨ka, kc, rfl, hkl, hc4⟩ := h4
 obtain ⟨ka', kc', rfl, -, hc4'⟩ := h4'
 unfold maxLen at hnl hkl
 obtain ⟨W, hW⟩ : ∃ W, W = (w.alloc (.cells #[.int .i64 (Nd.sort t), .int .i64 (Nd.num t), .string (Nd.text t), .slice na (Nd.names t).length nc, .slice ka (Nd.kids t).length kc] 27)).alloc (.cells #[.int .i64 (Nd.sort t), .int .i64 (Nd.num t), .string (Nd.text t), .slice na' (Nd.names t).length nc', .slice ka' (Nd.kids t).length kc'] 27) := ⟨_, rfl⟩
 have hb2 : Below w.heap.size w W := by rw [hW]; exact ((Below.refl _ _).alloc (Nat.le_refl _) _).alloc (by simp) _
 have hz2 : W.heap.size = w.heap.size + 2 := by rw [hW]; simp
 have A3 : W.cell? ⟨w.heap.size, 3, none⟩ = some (.slice na (Nd.names t).length nc) := by rw [hW]; simp [go_sem]
 have A4 : W.cell? ⟨w.heap.size, 4, none⟩ = some (.slice ka (Nd.kids t).length kc) := by rw [hW]; simp [go_sem]
 have B3 : W.cell? ⟨w.heap.size + 1, 3, none⟩ = some (.slice na' (Nd.names t).length nc') := by rw [hW]; simp [go_sem]
 have B4 : W.cell? ⟨w.heap.size + 1, 4, none⟩ = some (.slice ka' (Nd.kids t).length kc') := by rw [hW]; simp [go_sem]
 have hn0 : (Nd.sort t != Nd.sort t) = false := by simp
 have hn1 : (Nd.num t != Nd.num t) = false := by simp
 have hn2 : (((Nd.names t).length : Int) != ((Nd.names t).length : Int)) = false := by simp
 have hn3 : (((Nd.kids t).length : Int) != ((Nd.kids t).length : Int)) = false := by simp
 go_enter Tryz.func25, Tryz.ntmps25
 go_wp2_with fail
 rw [<- hW]
 clear hW
 go_loopw [5] (fun i wr => ∃ k : Nat, k <= (Nd.names t).length /\ i = .int .i64 k /\ Below W.heap.size W wr) (fun i _ => (Nd.names t).length - (intOf i).toNat)
 case atStart => exact ⟨0, Nat.zero_le _, rfl, Below.refl _ _⟩
 case round =>
  obtain ⟨k, hk, rfl, hbel⟩ := hrel
  have q3 := (hbel.cell (p := ⟨w.heap.size, 3, none⟩) (by show w.heap.size < _; omega)).trans A3
  have q3' := (hbel.cell (p := ⟨w.heap.size + 1, 3, none⟩) (by show w.heap.size + 1 < _; omega)).trans B3
  by_cases hlt : k < (Nd.names t).length
  ·obtain ⟨b, off, rfl, hbB, hcell⟩ := hc3 (by intro h; rw [h] at hlt; simp at hlt)
   obtain ⟨b', off', rfl, hbB', hcell'⟩ := hc3' (by intro h; rw [h] at hlt; simp at hlt)
   have hbw := hb2.trans (hbel.mono (by omega))
   have f0 := (hbw.cell (p := ⟨b, off + k, none⟩) (hB b hbB)).trans (hcell k hlt)
   have f1 := (hbw.cell (p := ⟨b', off' + k, none⟩) (hB' b' hbB')).trans (hcell' k hlt)
   have hsk := hss (Nd.names t)[k] (List.getElem_mem hlt)
   clear hc3 hc3' hcell hcell' hss hc4 hc4' A3 A4 B3 B4 hbw
   generalize (Nd.names t)[k] = s at *
   go_wp2_with fail
   go_region
   all_goals go_wp2_with fail
   all_goals
    go_roundw
    case rel => exact ⟨k + 1, by omega, by go_num, hbel.drew⟩
    case measure => simp [intOf]; omega
  ·clear hc3 hc3' hss
   go_wp2_with fail
   go_loopw [6] (fun i wx => ∃ k : Nat, k <= (Nd.kids t).length /\ i = .int .i64 k /\ Below W.heap.size W wx) (fun i _ => (Nd.kids t).length - (intOf i).toNat)
   case atStart => exact ⟨0, Nat.zero_le _, rfl, hbel⟩
   case round =>
    clear hbel q3 q3' hlt hk
    obtain ⟨j, hk, rfl, hbel⟩ := hrel
    have q4 := (hbel.cell (p := ⟨w.heap.size, 4, none⟩) (by show w.heap.size < _; omega)).trans A4
    have q4' := (hbel.cell (p := ⟨w.heap.size + 1, 4, none⟩) (by show w.heap.size + 1 < _; omega)).trans B4
    by_cases hlt : j < (Nd.kids t).length
    ·obtain ⟨b, off, rfl, hbB, hcell⟩ := hc4 (by intro h; rw [h] at hlt; simp at hlt)
     obtain ⟨b', off', rfl, hbB', hcell'⟩ := hc4' (by intro h; rw [h] at hlt; simp at hlt)
     obtain ⟨x0, x1, x2, x3, x4, e0, e1, e2, e3, e4, hr⟩ := hcell j hlt
     obtain ⟨y0, y1, y2, y3, y4, e0', e1', e2', e3', e4', hr'⟩ := hcell' j hlt
     have hbw := hb2.trans (hbel.mono (by omega))
     have f0 := (hbw.cell (p := ⟨b, off + j * 5, none⟩) (hB b hbB)).trans e0
     have f1 := (hbw.cell (p := ⟨b, off + j * 5 + 1, none⟩) (hB b hbB)).trans e1
     have f2 := (hbw.cell (p := ⟨b, off + j * 5 + 2, none⟩) (hB b hbB)).trans e2
     have f3 := (hbw.cell (p := ⟨b, off + j * 5 + 3, none⟩) (hB b hbB)).trans e3
     have f4 := (hbw.cell (p := ⟨b, off + j * 5 + 4, none⟩) (hB b hbB)).trans e4
     have f8 := (hbw.cell (p := ⟨b', off' + j * 5 + 3, none⟩) (hB' b' hbB')).trans e3'
     have f9 := (hbw.cell (p := ⟨b', off' + j * 5 + 4, none⟩) (hB' b' hbB')).trans e4'
     have f5 := (hbw.cell (p := ⟨b', off' + j * 5, none⟩) (hB' b' hbB')).trans e0'
     have f6 := (hbw.cell (p := ⟨b', off' + j * 5 + 1, none⟩) (hB' b' hbB')).trans e1'
     have f7 := (hbw.cell (p := ⟨b', off' + j * 5 + 2, none⟩) (hB' b' hbB')).trans e2'
     have hsz := hbel.size
     have HC : Hid (Calls Tryz.prog 25 #[.agg #[x0, x1, x2, x3, x4], .agg #[y0, y1, y2, y3, y4]] wr.drew fun e w' => e = .returned (.bool true) /\ Below W.heap.size W w') := by
      refine (hn S S' (Nd.kids t)[j] _ _ _ _ _ _ _ _ _ _ wr.drew (hr.keep (same_below hbw.drew hB) (fun _ h => h)) (hr'.keep (same_below hbw.drew hB') (fun _ h => h))
       (fun b hb => by have := hB b hb; simp; omega) (fun b hb => by have := hB' b hb; simp; omega)).mono ?_
      rintro e w' ⟨rfl, h⟩
      exact ⟨rfl, below_step hbel.drew hsz h⟩
     clear hc4 hc4' hcell hcell' e0 e1 e2 e3 e4 e0' e1' e2' e3' e4' hr hr' hn A3 A4 B3 B4 hbw
     go_wp2_with fail
     go_region_with (go_at_call 25; refine HC.out.mono ?_; rintro e w' ⟨rfl, hb1⟩)
     all_goals go_wp2_with fail
     all_goals
      go_roundw
      case rel => exact ⟨j + 1, by omega, by go_num, by assumption⟩
      case measure => simp [intOf]; omega
    ·clear hc4 hc4'
     have hfin := hb2.trans (hbel.mono (by omega))
     go_wp2_with fail
     go_ret
     exact ⟨rfl, hfin⟩
theorem ttTree_same : ∀ n, TtTSaid n := by
 intro n
 induction n with
 | zero => intro S S' t c0 c1 c2 c3 c4 d0 d1 d2 d3 d4 w ht; exact ht.elim
 | succ n ih => exact ttTree_step n ih
end Go.Proofs.YtmjhcgjhlakceaaGreatDoor

namespace Go.Proofs.YtmjhcgjhlakceaaGreatDoor
open Go.ChangeShapes Go.WideShapes Go.ChangeAt Go.RowKit
theorem Tryz.ownc : ownKnob Tryz.prog.godebug = none := by kernel_rfl
theorem Tryz.laidOutc : laidOutB Tryz.prog = true := by kernel_rfl
theorem Tryz.cells_byte : Tryz.prog.cellsOf 5 = 1 := by kernel_rfl
set_option maxRecDepth 100000 in
theorem open_code {H : Type} {enc : TypeId × Value -> H} {W : World} {base fuel : Nat} {v : Value} {x : DataW H × List MemPlace} (hval : Value.okWide Tryz.prog W .any base 22 v)
  (hf : DataW.trod enc Tryz.prog W 0 (fun _ => true) true fuel 22 v.cells.toList = some x) :
  ∃ ao L cap, v = .slice ao L cap /\ CodeIn (fun b => b < W.heap.size) W ao L cap := by
 obtain ⟨a1, len, cap, rfl⟩ := okWide_slice Tryz.underlying22 hval
 refine ⟨a1, len, cap, rfl, ?_⟩
 rcases open_ints Tryz.underlying22 Tryz.underlying5 Tryz.cells_byte hf with ⟨hcs, hx⟩ | ⟨a, len', cap', zs, hcs, _, hl, hm, hz, hx, hcell, hwz⟩
 ·simp [Value.cells] at hcs
  obtain ⟨rfl, rfl, rfl⟩ := hcs
  exact ⟨Nat.le_refl _, Nat.zero_le _, fun h => absurd h (by omega)⟩
 ·simp [Value.cells] at hcs
  obtain ⟨rfl, rfl, rfl⟩ := hcs
  simp only [if_true] at hz
  refine ⟨hl, hm, fun h0 => ?_⟩
  obtain ⟨ab, ao, spot⟩ := a
  have hspot : spot = none := by simpa [Addr.add] using World.cell?_spot (hcell 0 (by omega))
  subst hspot
  have hb : ab < W.heap.size := World.block_lt_of_cell? W ⟨ab, ao, none⟩ (by have := hcell 0 (by omega); simpa [Addr.add] using this)
  refine ⟨ab, ao, rfl, hb, fun j hj => ⟨(zs.getD j 0).toNat, ?_, ?_⟩⟩
  ·have := range_u8 hwz j
   rw [List.getD_eq_getElem?_getD]
   omega
  ·have h1 := hcell j (by omega)
   rw [Addr.add_lit] at h1
   have := range_u8 hwz j
   rw [<- List.getD_eq_getElem?_getD] at this
   rw [h1, Int.toNat_of_nonneg this.1]
end Go.Proofs.YtmjhcgjhlakceaaGreatDoor
