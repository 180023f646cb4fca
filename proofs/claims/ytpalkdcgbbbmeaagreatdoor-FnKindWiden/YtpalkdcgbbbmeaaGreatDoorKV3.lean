/-
 The function values that widen: of lists and of maybes.
-/
import Derived.Test.YtpalkdcgbbbmeaaGreatDoorB19
import Derived.Deep.Cut
namespace Go.Proofs.YtpalkdcgbbbmeaaGreatDoor
open Go.RowKit

theorem good_len {p : Nat} {t : T (p + 1)} {e : Int} (h : goodT (p + 1) t e = true) (hs : Nd.sort t = 4 ∨ Nd.sort t = 6) : (Nd.kids t).length ≤ 20 := by
 simp only [goodT, Bool.and_eq_true] at h
 have ha : aloneF (Nd.sort t) (Nd.num t) (Nd.text t) (Nd.names t) (Nd.kids t).length = true := h.1.2
 unfold aloneF at ha
 rcases hs with hs | hs
 ·
  rw [hs] at ha
  simp at ha
  omega
 ·
  rw [hs] at ha
  simp at ha
  omega

theorem row_wid {S0 : Nat → Prop} {W V : World} {m n p : Nat} {y : K m} {x : K n} {ks : List (T p)} {rv : Value} {e : Int} (hr : Row1 S0 W (InnerT S0 W p) ks rv) (hV : Below W.heap.size W V) (hB : ∀ b, S0 b → b < W.heap.size) (hg : ∀ u, u ∈ ks → goodT p u e = true) (hh : ∀ u, u ∈ ks → hasK n x p u = true) :
  Row1 S0 V (fun t' c => (∃ u z, c = .iface u z) ∧ ∀ W', Below V.heap.size V W' → WidR m y n x S0 W' c t') (ks.map (fun u => widT m y n x p u)) rv := by
 obtain ⟨ao, cap, rfl, hl, hc⟩ := hr
 refine ⟨ao, cap, by simp, by simpa using hl, fun hne => ?_⟩
 obtain ⟨b, off, rfl, hS, hcell⟩ := hc (by intro h; rw [h] at hne; exact hne rfl)
 refine ⟨b, off, rfl, hS, fun i hi => ?_⟩
 have hi' : i < ks.length := by simpa using hi
 obtain ⟨c, e0, hin⟩ := hcell i hi'
 exact ⟨c, (hV.cell (p := ⟨b, off + i, none⟩) (hB b hS)).trans e0, hin.iface, fun W' hW' => ⟨p, ks[i], e, hin.keep (same_below (below_step hV hV.size hW') hB) (fun _ h => h), hg _ (List.getElem_mem hi'), hh _ (List.getElem_mem hi'), by simp⟩⟩

set_option maxRecDepth 20000 in
set_option maxHeartbeats 2000000 in
theorem fv_list (S : Nat → Prop) (m n g : Nat) (b : K (m + 1)) (a : K (n + 1)) (y : K m) (x : K n) (w : World) (kv : Value) (hk : Fv S m w kv (WidR m y n x)) (hc : w.cell? ⟨g, 0, none⟩ = some kv) (hg : S g) (sb : Kd.sort b = 4) (sa : Kd.sort a = 4) (ky : Kd.kids b = [y]) (kx : Kd.kids a = [x]) :
  Fv S (m + 1) w (.func (.func 99) #[] #[.pointer (some ⟨g, 0, none⟩)]) (WidR (m + 1) b (n + 1) a) := by
 refine ⟨_, _, rfl, Tryz.call99, fun S0 W h0 hB hs v t' hR args ha => ?_⟩
 obtain ⟨p, t, e, hin, hgt, hh, rfl⟩ := hR
 cases p with
 | zero => exact hin.elim
 | succ p =>
 obtain ⟨hst, -, -, hkk⟩ := hasK_get hh
 have hkk := hkk (by omega) x kx
 obtain ⟨rv, rfl, hr⟩ : ∃ rv, v = .iface 122 rv ∧ Row1 S0 W (InnerT S0 W p) (Nd.kids t) rv := by
  rcases hin with ⟨h, -⟩ | ⟨h, -⟩ | ⟨h, -⟩ | ⟨h, h'⟩ | ⟨h, -⟩ | ⟨h, h'⟩
  all_goals first | omega | exact h'
 have hlen : (Nd.kids t).length ≤ 1000 := by
  have := good_len hgt (.inl (by omega))
  omega
 have hc' := cell_same hs hg hc
 have hgW : g < W.heap.size := hB g (h0 g hg)
 have HA : Hid (∀ V, Below W.heap.size W V → Calls Tryz.prog 100 #[rv, kv] V fun e w' => (Below W.heap.size W w' ∧ w'.cell? ⟨g, 0, none⟩ = some kv) ∧ ∃ v', e = .returned v' ∧ (∃ va vl vc, v' = .slice va vl vc) ∧ Row1 (fun b => S0 b ∨ (W.heap.size ≤ b ∧ b < w'.heap.size)) w' (InnerT (fun b => S0 b ∨ (W.heap.size ≤ b ∧ b < w'.heap.size)) w' m) ((Nd.kids t).map (fun u => widT m y n x p u)) v') := fun V hV => by
  refine (widenAll_any m S S0 (WidR m y n x) ((Nd.kids t).map (fun u => widT m y n x p u)) rv kv V (hk.keep (fun b hb => (hV.block b (hB b (h0 b hb))).trans (hs b hb)) (fun _ h => h)) h0 (fun b hb => Nat.lt_of_lt_of_le (hB b hb) hV.size) (row_wid hr hV hB (goodT_all hgt) hkk) (by simpa using hlen)).mono ?_
  rintro e w' ⟨hb, v', he, hrow⟩
  have hz := hV.size
  have hW := below_step hV hV.size hb
  refine ⟨⟨hW, (hW.cell (p := ⟨g, 0, none⟩) hgW).trans hc'⟩, v', he, ?_, hrow.keep (fun _ _ => rfl) (fun b hb => ?_) (fun _ _ _ hx => hx.keep (fun _ _ => rfl) (fun b hb => ?_))⟩
  · obtain ⟨ao, cp, rfl, -⟩ := hrow; exact ⟨_, _, _, rfl⟩
  · exact hb.elim .inl (fun h => .inr ⟨by omega, h.2⟩)
  · exact hb.elim .inl (fun h => .inr ⟨by omega, h.2⟩)
 obtain ⟨ao, cp, rfl, -⟩ := id hr
 rw [show args = #[Value.iface 122 (.slice ao (Nd.kids t).length cp), .pointer (some ⟨g, 0, none⟩)] from ha, widT_ll sb ky kx]
 have hb0 := (Below.refl W.heap.size W).drew
 have hbr := Below.refl W.heap.size W
 clear hk hc hs hgt hh hin hr hkk hlen
 generalize (Nd.kids t).map (fun u => widT m y n x p u) = ts at *
 generalize (Nd.kids t).length = ln at *
 go_enter Tryz.func99, Tryz.ntmps99
 go_upto_region 1 with fail
 go_region_held (fun w' => w'.cell? ⟨g, 0, none⟩ = some kv) (first | with_reducible assumption | go_keep) (first
  | (go_at_call 153; refine (kids_list _ _ _ _).mono ?_; rintro e w7 ⟨rfl, rfl⟩)
  | (go_at_call 100; refine (HA.out _ (by with_reducible assumption)).mono ?_; rintro e w10 ⟨⟨hb10, hc10⟩, v', rfl, ⟨va, vl, vc, rfl⟩, hr10⟩))
 all_goals
  go_wp2_with fail
  go_ret
  exact ⟨hb10, _, rfl, .inr (.inr (.inr (.inl ⟨rfl, _, rfl, hr10⟩)))⟩

set_option maxRecDepth 20000 in
set_option maxHeartbeats 2000000 in
theorem fv_maybe (S : Nat → Prop) (m n g : Nat) (b : K (m + 1)) (a : K (n + 1)) (y : K m) (x : K n) (w : World) (kv : Value) (hk : Fv S m w kv (WidR m y n x)) (hc : w.cell? ⟨g, 0, none⟩ = some kv) (hg : S g) (sb : Kd.sort b = 6) (sa : Kd.sort a = 6) (ky : Kd.kids b = [y]) (kx : Kd.kids a = [x]) :
  Fv S (m + 1) w (.func (.func 105) #[] #[.pointer (some ⟨g, 0, none⟩)]) (WidR (m + 1) b (n + 1) a) := by
 refine ⟨_, _, rfl, Tryz.call105, fun S0 W h0 hB hs v t' hR args ha => ?_⟩
 obtain ⟨p, t, e, hin, hgt, hh, rfl⟩ := hR
 cases p with
 | zero => exact hin.elim
 | succ p =>
 obtain ⟨hst, -, -, hkk⟩ := hasK_get hh
 have hkk := hkk (by omega) x kx
 obtain ⟨rv, rfl, hr⟩ : ∃ rv, v = .iface 128 rv ∧ Row1 S0 W (InnerT S0 W p) (Nd.kids t) rv := by
  rcases hin with ⟨h, -⟩ | ⟨h, -⟩ | ⟨h, -⟩ | ⟨h, h'⟩ | ⟨h, -⟩ | ⟨h, h'⟩
  all_goals first | omega | exact h'
 have hlen : (Nd.kids t).length ≤ 1000 := by
  have := good_len hgt (.inr (by omega))
  omega
 have hc' := cell_same hs hg hc
 have hgW : g < W.heap.size := hB g (h0 g hg)
 have HA : Hid (∀ V, Below W.heap.size W V → Calls Tryz.prog 100 #[rv, kv] V fun e w' => (Below W.heap.size W w' ∧ w'.cell? ⟨g, 0, none⟩ = some kv) ∧ ∃ v', e = .returned v' ∧ (∃ va vl vc, v' = .slice va vl vc) ∧ Row1 (fun b => S0 b ∨ (W.heap.size ≤ b ∧ b < w'.heap.size)) w' (InnerT (fun b => S0 b ∨ (W.heap.size ≤ b ∧ b < w'.heap.size)) w' m) ((Nd.kids t).map (fun u => widT m y n x p u)) v') := fun V hV => by
  refine (widenAll_any m S S0 (WidR m y n x) ((Nd.kids t).map (fun u => widT m y n x p u)) rv kv V (hk.keep (fun b hb => (hV.block b (hB b (h0 b hb))).trans (hs b hb)) (fun _ h => h)) h0 (fun b hb => Nat.lt_of_lt_of_le (hB b hb) hV.size) (row_wid hr hV hB (goodT_all hgt) hkk) (by simpa using hlen)).mono ?_
  rintro e w' ⟨hb, v', he, hrow⟩
  have hz := hV.size
  have hW := below_step hV hV.size hb
  refine ⟨⟨hW, (hW.cell (p := ⟨g, 0, none⟩) hgW).trans hc'⟩, v', he, ?_, hrow.keep (fun _ _ => rfl) (fun b hb => ?_) (fun _ _ _ hx => hx.keep (fun _ _ => rfl) (fun b hb => ?_))⟩
  · obtain ⟨ao, cp, rfl, -⟩ := hrow; exact ⟨_, _, _, rfl⟩
  · exact hb.elim .inl (fun h => .inr ⟨by omega, h.2⟩)
  · exact hb.elim .inl (fun h => .inr ⟨by omega, h.2⟩)
 obtain ⟨ao, cp, rfl, -⟩ := id hr
 rw [show args = #[Value.iface 128 (.slice ao (Nd.kids t).length cp), .pointer (some ⟨g, 0, none⟩)] from ha, widT_mm sb sa ky kx]
 have hb0 := (Below.refl W.heap.size W).drew
 have hbr := Below.refl W.heap.size W
 clear hk hc hs hgt hh hin hr hkk hlen
 generalize (Nd.kids t).map (fun u => widT m y n x p u) = ts at *
 generalize (Nd.kids t).length = ln at *
 go_enter Tryz.func105, Tryz.ntmps105
 go_upto_region 1 with fail
 go_region_held (fun w' => w'.cell? ⟨g, 0, none⟩ = some kv) (first | with_reducible assumption | go_keep) (first
  | (go_at_call 155; refine (kids_maybe _ _ _ _).mono ?_; rintro e w7 ⟨rfl, rfl⟩)
  | (go_at_call 100; refine (HA.out _ (by with_reducible assumption)).mono ?_; rintro e w10 ⟨⟨hb10, hc10⟩, v', rfl, ⟨va, vl, vc, rfl⟩, hr10⟩))
 all_goals
  go_wp2_with fail
  go_ret
  exact ⟨hb10, _, rfl, .inr (.inr (.inr (.inr (.inr ⟨rfl, _, rfl, hr10⟩))))⟩

end Go.Proofs.YtpalkdcgbbbmeaaGreatDoor
