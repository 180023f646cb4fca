/-
  The function value that widens forms.
-/
import Derived.Test.YtpalkdcgbbbmeaaGreatDoorKV5
import Derived.Test.YtpalkdcgbbbmeaaGreatDoorKV3
import Derived.Test.YtpalkdcgbbbmeaaGreatDoorKW5
namespace Go.Proofs.YtpalkdcgbbbmeaaGreatDoor
open Go.RowKit

theorem Fv.sub {S : Nat → Prop} {m : Nat} {w : World} {fv : Value} {R R' : (Nat → Prop) → World → Value → T m → Prop} (h : Fv S m w fv R) (hR : ∀ S0 W v t', R' S0 W v t' → R S0 W v t') : Fv S m w fv R' := by
  obtain ⟨f, cap, rfl, eg, hc⟩ := h
  exact ⟨f, cap, rfl, eg, fun S0 W h0 hB hW v t' h args ha => hc S0 W h0 hB hW v t' (hR _ _ _ _ h) args ha⟩

/-- What the function value of a name does. -/
def FieldR (n : Nat) (na : List ByteArray) (ka : List (K n)) (m : Nat) (s : ByteArray) (y : K m) (S : Nat → Prop) (W : World) (v : Value) (t' : T m) : Prop :=
  match atName na ka s with | some x => WidR m y n x S W v t' | none => (v = .nilIface ∨ ∃ u z, v = .iface u z) ∧ NoneR m y S W v t'

/-- What the function value at a place does. -/
def FieldQ (n : Nat) (na : List ByteArray) (ka : List (K n)) (m : Nat) (nb : List ByteArray) (kb : List (K m)) (j : Nat) (S : Nat → Prop) (W : World) (v : Value) (t' : T m) : Prop :=
  ∀ (h : j < nb.length) (h' : j < kb.length), FieldR n na ka m nb[j] kb[j] S W v t'

theorem fv_no (S : Nat → Prop) (m : Nat) (b : K m) (w : World) :
    Fv S m w (.func (.func 121) #[] #[]) (fun S0 W v t' => (v = .nilIface ∨ ∃ u x, v = .iface u x) ∧ NoneR m b S0 W v t') := by
  cases m with
  | zero => exact Empty.elim (show Empty from b)
  | succ m => exact fv_none S m b w

/-- The function value at a place of a row. -/
def fvAt (w : World) (fo : Option Addr) (j : Nat) : Value := match fo with | some a => (w.cell? ⟨a.block, a.off + j, none⟩).getD .nilFunc | none => .nilFunc

set_option maxRecDepth 20000 in
set_option maxHeartbeats 2000000 in
theorem fv_form (S : Nat → Prop) (m n gp gw pa pb : Nat) (fo : Option Addr) (fc : Nat) (x : ByteArray) (b : K (m + 1)) (a : K (n + 1)) (d d' : Int) (w : World) (hina : InnerK S w (n + 1) a (.pointer (some ⟨pa, 0, none⟩))) (hinb : InnerK S w (m + 1) b (.pointer (some ⟨pb, 0, none⟩)))
    (hp : w.cell? ⟨gp, 0, none⟩ = some (.pointer (some ⟨pa, 0, none⟩)) ∧ w.cell? ⟨gp, 1, none⟩ = some (.pointer (some ⟨pb, 0, none⟩)) ∧ w.cell? ⟨gp, 2, none⟩ = some (.string x)) (hgp : S gp) (hw : w.cell? ⟨gw, 0, none⟩ = some (.slice fo (Kd.names b).length fc)) (hgw : S gw)
    (hf : ∀ j (_ : j < (Kd.names b).length), ∃ fb foff fv, fo = some ⟨fb, foff, none⟩ ∧ S fb ∧ w.cell? ⟨fb, foff + j, none⟩ = some fv ∧ Fv S m w fv (FieldQ n (Kd.names a) (Kd.kids a) m (Kd.names b) (Kd.kids b) j))
    (hga : goodK (n + 1) a d = true) (hgb : goodK (m + 1) b d' = true) (h39 : (Kd.names b).length ≤ 39) (sa : Kd.sort a = 5) (sb : Kd.sort b = 5) :
    Fv S (m + 1) w (.func (.func 102) #[] #[.pointer (some ⟨gp, 0, none⟩), .pointer (some ⟨gw, 0, none⟩)]) (WidR (m + 1) b (n + 1) a) := by
  have hka : (Kd.names a).length = (Kd.kids a).length ∧ riseB (Kd.names a) = true := by
    rcases goodK_kids hga with ⟨h, -⟩ | ⟨h, -⟩ | ⟨-, h⟩
    · omega
    · omega
    · exact h
  have hkb : (Kd.names b).length = (Kd.kids b).length ∧ riseB (Kd.names b) = true := by
    rcases goodK_kids hgb with ⟨h, -⟩ | ⟨h, -⟩ | ⟨-, h⟩
    · omega
    · omega
    · exact h
  refine ⟨_, _, rfl, Tryz.call102, fun S0 W h0 hB hs v t' hR args ha => ?_⟩
  obtain ⟨p, t, e, hin, hgt, hh, rfl⟩ := hR
  cases p with
  | zero => exact hin.elim
  | succ p =>
  obtain ⟨hst, hnm, hkk0, -⟩ := hasK_get hh
  have hkk := hkk0 sa
  clear hkk0
  obtain ⟨nv, rv, rfl, hnv, hr⟩ : ∃ nv rv, v = .iface 126 (.agg #[nv, rv]) ∧ StrsIn S0 W (Nd.names t) nv ∧ Row1 S0 W (InnerT S0 W p) (Nd.kids t) rv := by
    rcases hin with ⟨h, -⟩ | ⟨h, -⟩ | ⟨h, -⟩ | ⟨h, h'⟩ | ⟨h, h'⟩ | ⟨h, h'⟩
    all_goals first | omega | exact h'
  have hkt : (Nd.kids t).length = (Kd.kids a).length := by
    have := ((goodT_kids hgt).2.2 (by omega)).1
    rw [← hka.1, hnm]; exact this.symm
  have hgk := goodT_all hgt
  have hia := hina.keep hs h0
  have hib := hinb.keep hs h0
  obtain ⟨pa0, nva, pva, kva, e1, hSa, hca, hna, hpa, -⟩ := id hia
  cases e1
  obtain ⟨pb0, nvb, pvb, kvb, e1, hSb, hcb, hnb, -, -⟩ := id hib
  cases e1
  have hpa := hpa sa
  obtain ⟨nbo, nbc, rfl, hnbl, -, -⟩ := id hnb
  obtain ⟨nao, nac, rfl, -, -, -⟩ := id hnv
  obtain ⟨ko, kc, rfl, -, hkc⟩ := id hr
  have hwW := cell_same hs hgw hw
  have hgpW : gp < W.heap.size := hB gp (h0 gp hgp)
  have hgwW : gw < W.heap.size := hB gw (h0 gw hgw)
  have c0 : W.cell? ⟨gp, 0, none⟩ = some (.pointer (some ⟨pa, 0, none⟩)) := (World.cell?_of_block (a := ⟨gp, 0, none⟩) (hs gp hgp)).trans hp.1
  have c1 : W.cell? ⟨gp, 1, none⟩ = some (.pointer (some ⟨pb, 0, none⟩)) := (World.cell?_of_block (a := ⟨gp, 1, none⟩) (hs gp hgp)).trans hp.2.1
  have c2 : W.cell? ⟨gp, 2, none⟩ = some (.string x) := (World.cell?_of_block (a := ⟨gp, 2, none⟩) (hs gp hgp)).trans hp.2.2
  have HH : Hid (∀ V, Below W.heap.size W V → V.cell? ⟨gp, 0, none⟩ = some (.pointer (some ⟨pa, 0, none⟩)) ∧ V.cell? ⟨gp, 1, none⟩ = some (.pointer (some ⟨pb, 0, none⟩)) ∧ V.cell? ⟨gp, 2, none⟩ = some (.string x) ∧ V.cell? ⟨gw, 0, none⟩ = some (.slice fo (Kd.names b).length fc)) := fun V hV =>
    ⟨(hV.cell (p := ⟨gp, 0, none⟩) hgpW).trans c0, (hV.cell (p := ⟨gp, 1, none⟩) hgpW).trans c1, (hV.cell (p := ⟨gp, 2, none⟩) hgpW).trans c2, (hV.cell (p := ⟨gw, 0, none⟩) hgwW).trans hwW⟩
  obtain ⟨ts, hts⟩ : ∃ ts, ts = mapW (fun y x u => widT m y n x p u) (noneT m) (Kd.names a) (Kd.kids a) (Nd.kids t) (Kd.names b) (Kd.kids b) := ⟨_, rfl⟩
  have htl : ts.length = (Kd.names b).length := by rw [hts, mapW_length _ _ hkb.1, hkb.1]
  have hAa := asc_of _ hka.2
  have HA : Hid (∀ V, Below W.heap.size W V → Calls Tryz.prog 103 #[.slice ko (Nd.kids t).length kc, .agg #[.pointer (some ⟨pa, 0, none⟩), .pointer (some ⟨pb, 0, none⟩), .string x], .slice fo (Kd.names b).length fc] V fun e w' => (Below W.heap.size W w' ∧ (w'.cell? ⟨gp, 0, none⟩ = some (.pointer (some ⟨pa, 0, none⟩)) ∧ w'.cell? ⟨gp, 1, none⟩ = some (.pointer (some ⟨pb, 0, none⟩)) ∧ w'.cell? ⟨gp, 2, none⟩ = some (.string x) ∧ w'.cell? ⟨gw, 0, none⟩ = some (.slice fo (Kd.names b).length fc))) ∧ ∃ va vl vc, e = .returned (.iface 126 (.agg #[.slice nbo (Kd.names b).length nbc, .slice va vl vc])) ∧ Hid (InnerT (fun b => S0 b ∨ (W.heap.size ≤ b ∧ b < w'.heap.size)) w' (m + 1) (mkT m 5 0 ByteArray.empty (Kd.names b) ts) (.iface 126 (.agg #[.slice nbo (Kd.names b).length nbc, .slice va vl vc])))) := fun V hV => by
    have hVB : ∀ b, S0 b → b < V.heap.size := fun b hb => Nat.lt_of_lt_of_le (hB b hb) hV.size
    have hsV : Same S w V := fun b hb => (hV.block b (hB b (h0 b hb))).trans (hs b hb)
    refine (widenForm_any m S S0 (Kd.names a) (Kd.names b) ts (fvAt V fo) (fun j => FieldQ n (Kd.names a) (Kd.kids a) m (Kd.names b) (Kd.kids b) j) pa pb nbo ko fo nbc (Nd.kids t).length kc fc pva x V h0 hVB (hVB pa hSa) (hVB pb hSb) ((hV.cell (p := ⟨pa, 2, none⟩) (hB pa hSa)).trans (by simp [World.cell?, hca])) ((hV.cell (p := ⟨pb, 1, none⟩) (hB pb hSb)).trans (by simp [World.cell?, hcb])) (hpa.keep (same_below hV hB) (fun _ h => h)) hAa (hnb.keep (same_below hV hB) (fun _ h => h)) h39 htl (fun s hs => ?_) (fun j hj => ?_) (fun j hj hj' => ?_)).mono ?_
    · obtain ⟨i, hi, rfl⟩ := List.getElem_of_mem hs
      exact name_short hkb.2 i hi
    · obtain ⟨fb, foff, fv, hfo, hSf, hcf, hF⟩ := hf j hj
      have hfV : V.cell? ⟨fb, foff + j, none⟩ = some fv := (World.cell?_of_block (a := ⟨fb, foff + j, none⟩) (hsV fb hSf)).trans hcf
      have e : fvAt V fo j = fv := by rw [hfo]; simp only [fvAt]; rw [hfV]; rfl
      exact ⟨fb, foff, hfo, hVB fb (h0 fb hSf), by rw [e]; exact hfV, by rw [e]; exact hF.keep hsV (fun _ h => h)⟩
    · have hjk : j < (Kd.kids b).length := by rw [← hkb.1]; exact hj
      have etj0 := mapW_get (f := fun y x u => widT m y n x p u) (z := noneT m) (ns := Kd.names a) (xs := Kd.kids a) (us := Nd.kids t) (Kd.names b) (Kd.kids b) j hj hjk (by rw [← hts]; exact hj')
      have etj := Eq.trans (show ts[j] = (mapW (fun y x u => widT m y n x p u) (noneT m) (Kd.names a) (Kd.kids a) (Nd.kids t) (Kd.names b) (Kd.kids b))[j]'(by rw [← hts]; exact hj') by simp only [hts]) etj0
      by_cases hmem : (Kd.names b)[j] ∈ Kd.names a
      · obtain ⟨q, hq, heq⟩ := List.getElem_of_mem hmem
        have hqa : q < (Kd.kids a).length := by rw [← hka.1]; exact hq
        have hqt : q < (Nd.kids t).length := by rw [hkt]; exact hqa
        obtain ⟨kb, koff, hko, hSk, hkcell⟩ := hkc (by intro h; rw [h] at hqt; simp at hqt)
        obtain ⟨c, ec, hic⟩ := hkcell q hqt
        obtain ⟨u, z, rfl⟩ := hic.iface
        refine .inl ⟨q, hq, heq, hqt, kb, koff, u, z, hko, hVB kb hSk, (hV.cell (p := ⟨kb, koff + q, none⟩) (hB kb hSk)).trans ec, fun W' hW' h h' => ?_⟩
        rw [etj, ← heq, atName2_yes _ _ _ q hq hqa hqt hAa]
        unfold FieldR
        rw [atName_yes _ _ q hq hqa hAa]
        exact ⟨p, (Nd.kids t)[q], _, hic.keep (same_below (below_step hV hV.size hW') hB) (fun _ h => h), hgk _ (List.getElem_mem hqt), hkk q hqa hqt, rfl⟩
      · refine .inr ⟨hmem, fun W' h h' => ?_⟩
        rw [etj, atName2_no _ _ _ _ hmem]
        unfold FieldR
        rw [atName_no _ _ _ hmem]
        exact ⟨.inl rfl, rfl⟩
    · rintro e w' ⟨hb, kv, rfl, hrow⟩
      have hz := hV.size
      have hW := below_step hV hV.size hb
      obtain ⟨va, vc, rfl, -⟩ := id hrow
      refine ⟨⟨hW, HH.out w' hW⟩, va, _, vc, rfl, .inr (.inr (.inr (.inr (.inl ⟨rfl, _, _, rfl, hnb.keep (same_below hW hB) (fun _ h => .inl h), hrow.keep (fun _ _ => rfl) (fun b hb => ?_) (fun _ _ _ hx => hx.keep (fun _ _ => rfl) (fun b hb => ?_))⟩))))⟩
      · exact hb.elim .inl (fun h => .inr ⟨by omega, h.2⟩)
      · exact hb.elim .inl (fun h => .inr ⟨by omega, h.2⟩)
  rw [show args = #[Value.iface 126 (.agg #[.slice nao (Nd.names t).length nac, .slice ko (Nd.kids t).length kc]), .pointer (some ⟨gp, 0, none⟩), .pointer (some ⟨gw, 0, none⟩)] from ha, widT_ff sb, ← hts]
  have HK : Hid (∀ V, Below W.heap.size W V → Calls Tryz.prog 154 #[.agg #[.slice nao (Nd.names t).length nac, .slice ko (Nd.kids t).length kc]] V fun e w' => e = .returned (.slice ko (Nd.kids t).length kc) ∧ Below W.heap.size W w' ∧ (w'.cell? ⟨gp, 0, none⟩ = some (.pointer (some ⟨pa, 0, none⟩)) ∧ w'.cell? ⟨gp, 1, none⟩ = some (.pointer (some ⟨pb, 0, none⟩)) ∧ w'.cell? ⟨gp, 2, none⟩ = some (.string x) ∧ w'.cell? ⟨gw, 0, none⟩ = some (.slice fo (Kd.names b).length fc))) := fun V hV =>
    (kids_form nao ko _ _ _ _ V).mono fun e w' h => by
      obtain ⟨rfl, rfl⟩ := h
      have := hV.alloc hV.size (.cells #[.slice nao (Nd.names t).length nac, .slice ko (Nd.kids t).length kc] 126)
      exact ⟨rfl, this, HH.out _ this⟩
  have hb0 := (Below.refl W.heap.size W).drew
  have hbr := Below.refl W.heap.size W
  clear hs hgt hh hin hr hkk hf hina hinb hia hib hca hcb hna hnb hpa hkc hnv hts htl hp hw hgk hnm hAa hka hkb hkt HH
  generalize (Nd.kids t).length = lk at *
  generalize (Nd.names t).length = ln at *
  generalize (Kd.names b).length = lb at *
  go_enter Tryz.func102, Tryz.ntmps102
  go_upto_region 1 with fail
  go_region_held (fun w' => w'.cell? ⟨gp, 0, none⟩ = some (.pointer (some ⟨pa, 0, none⟩)) ∧ w'.cell? ⟨gp, 1, none⟩ = some (.pointer (some ⟨pb, 0, none⟩)) ∧ w'.cell? ⟨gp, 2, none⟩ = some (.string x) ∧ w'.cell? ⟨gw, 0, none⟩ = some (.slice fo lb fc)) (first | with_reducible assumption | (refine ⟨?_, ?_, ?_, ?_⟩ <;> go_keep)) (first
    | (go_at_call 154; refine (HK.out _ (by with_reducible assumption)).mono ?_; rintro e w7 ⟨rfl, hb7, hp7⟩)
    | (go_at_call 103; refine (HA.out _ (by with_reducible assumption)).mono ?_; rintro e w10 ⟨⟨hb10, hp10⟩, va, vl, vc, rfl, hr10⟩))
  all_goals
    go_wp2_with fail
    go_ret
    exact ⟨hb10, _, rfl, hr10.out⟩

end Go.Proofs.YtpalkdcgbbbmeaaGreatDoor
