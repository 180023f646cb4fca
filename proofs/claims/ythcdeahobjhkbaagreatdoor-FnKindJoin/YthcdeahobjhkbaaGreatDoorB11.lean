/-
  Several texts in one, in their order.
-/
import Derived.Test.YthcdeahobjhkbaaGreatDoorB10
import Derived.Deep.AppendLies
import Derived.Lib.Hide
import Derived.WalkSmall
import Derived.LoopTactic
import Derived.Test.YthcdeahobjhkbaaGreatDoorB1
import Derived.Deep.RegionLaw

/-
  The program's widenings: what is made of two forms.
-/
namespace Go.Proofs.YthcdeahobjhkbaaGreatDoor
open Go.RowKit

theorem Tryz.info_wd : (Tryz.prog.info? 59).map (fun i => (i.zero, i.size, i.bytes)) = some (some .nilFunc, 1, 8) := by kernel_rfl

set_option maxRecDepth 20000 in
set_option maxHeartbeats 4000000 in
theorem ofForms_any (m n : Nat) (hm : FitSaid m) (S : Nat → Prop) (a : K (n + 1)) (b : K (m + 1)) (va vb : Value) (d d' : Int) (R : Nat) (x : ByteArray) (w : World) (ha : InnerK S w (n + 1) a va) (hb : InnerK S w (m + 1) b vb) (hB : ∀ b, S b → b < w.heap.size) (hT : TabW w R) (hR : R < w.heap.size)
    (hga : goodK (n + 1) a d = true) (hgb : goodK (m + 1) b d' = true) (hc40 : cntK (m + 1) b ≤ 40) (hd : 1 ≤ d') (hx : (x.size : Int) ≤ 20 * d') (sa : Kd.sort a = 5) (sb : Kd.sort b = 5) :
    Calls Tryz.prog 45 #[.pointer (some ⟨R, 0, none⟩), .agg #[va, vb, .string x]] w fun e w' => Below w.heap.size w w' ∧ FitEnd (m + 1) b (n + 1) a e := by
  have hka : riseB (Kd.names a) = true := by
    rcases goodK_kids hga with ⟨h, -⟩ | ⟨h, -⟩ | ⟨-, -, h⟩
    · omega
    · omega
    · exact h
  have hkb : (Kd.names b).length = (Kd.kids b).length ∧ riseB (Kd.names b) = true := by
    rcases goodK_kids hgb with ⟨h, -⟩ | ⟨h, -⟩ | ⟨-, h⟩
    · omega
    · omega
    · exact h
  have h39 : (Kd.names b).length ≤ 39 := by rw [hkb.1]; exact kids_39 hgb hc40
  have hina := ha
  have hinb := hb
  obtain ⟨pa, nva, pva, kva, rfl, hSa, hca, hna, -, -⟩ := ha
  obtain ⟨pb, nvb, pvb, kvb, rfl, hSb, hcb, hnb, hpb, hrb⟩ := hb
  have hpb := hpb sb
  obtain ⟨nao, nac, rfl, hnal, -, hnac⟩ := hna
  obtain ⟨nbo, nbc, rfl, hnbl, -, hnbc⟩ := hnb
  obtain ⟨kbo, kbc, rfl, -, hkbc⟩ := hrb
  have hla := hB pa hSa
  have hlb := hB pb hSb
  have hst : ∀ (a : Addr) (md : Mode) (fn : Fn) (first cap : Array Value) (w : World), (store a (.func fn first cap) md).run Tryz.prog w = stored Tryz.prog w a (.func fn first cap) md := fun a md _ _ _ w => run_store _ w a _ md rfl
  have hmf : ∀ (fn : Fn) (first cap : Array Value) (w : World), (Instr.makeFunc fn first cap).run Tryz.prog w = .ok (.func fn first cap) w := fun _ _ _ _ => rfl
  have HFY : Hid (∀ W s, Below w.heap.size w W → s.size ≤ maxLen → s ∈ Kd.names b → ∃ qb, Calls Tryz.prog 69 #[.pointer (some ⟨pb, 0, none⟩), .string s] W fun e w' => e = .returned (.pointer (some ⟨qb, 0, none⟩)) ∧ w' = W) := fun W s hW hs hmem => by
    obtain ⟨q, hq, rfl⟩ := List.getElem_of_mem hmem
    have hqk : q < (Kd.kids b).length := by omega
    obtain ⟨g, o, rfl, hSg, hkids⟩ := hkbc (by intro h; rw [h] at hqk; simp at hqk)
    obtain ⟨c, ec, hic⟩ := hkids q hqk
    obtain ⟨qb, rfl, -⟩ := id hic.ptr
    exact ⟨qb, field_yes S W (Kd.names b) pvb pb g o (Kd.kids b).length kbc qb q ((hW.cell (p := ⟨pb, 2, none⟩) hlb).trans (by simp [World.cell?, hcb])) (hpb.keep (same_below hW hB) (fun _ h => h)) (asc_of _ hkb.2) hq hs ((hW.cell (p := ⟨pb, 3, none⟩) hlb).trans (by simp [World.cell?, hcb])) hqk ((hW.cell (p := ⟨g, o + q, none⟩) (hB g hSg)).trans ec)⟩
  have HFN : Hid (∀ W s, Below w.heap.size w W → s.size ≤ maxLen → s ∉ Kd.names b → Calls Tryz.prog 69 #[.pointer (some ⟨pb, 0, none⟩), .string s] W fun e w' => e = .returned (.pointer none) ∧ w' = W) := fun W s hW hs hmem =>
    field_no S W (Kd.names b) pvb pb s ((hW.cell (p := ⟨pb, 2, none⟩) hlb).trans (by simp [World.cell?, hcb])) (hpb.keep (same_below hW hB) (fun _ h => h)) hmem hs
  have HOF : Hid (∀ W, Below w.heap.size w W → ∀ j (hj : j < (Kd.names b).length) (hj' : j < (Kd.kids b).length), Calls Tryz.prog 70 #[.pointer (some ⟨R, 0, none⟩), .agg #[.pointer (some ⟨pa, 0, none⟩), .pointer (some ⟨pb, 0, none⟩), .string x], .string (Kd.names b)[j]] W fun e w' => Below W.heap.size W w' ∧ EndB (fieldFits n (Kd.names a) (Kd.kids a) m (Kd.names b)[j] (Kd.kids b)[j]) e) := fun W hW j hj hj' =>
    ofFields_any m n hm S a b _ _ d d' R x W (hina.keep (same_below hW hB) (fun _ h => h)) (hinb.keep (same_below hW hB) (fun _ h => h)) (fun b hb => Nat.lt_of_lt_of_le (hB b hb) hW.size) (hT.keep (hW.block R hR)) (Nat.lt_of_lt_of_le hR hW.size) hga hgb hc40 hd hx sa sb j hj hj'
  have HNA : Hid (∀ i (hi : i < (Kd.names a).length), ∃ g o, nao = some ⟨g, o, none⟩ ∧ g < w.heap.size ∧ w.cell? ⟨g, o + i, none⟩ = some (.string (Kd.names a)[i]) ∧ (Kd.names a)[i].size ≤ maxLen) := fun i hi => by
    obtain ⟨g, o, e, hSg, hc⟩ := hnac (by intro h; rw [h] at hi; simp at hi)
    exact ⟨g, o, e, hB g hSg, hc i hi, by have := name_short hka i hi; unfold maxLen; omega⟩
  have HNB : Hid (∀ i (hi : i < (Kd.names b).length), ∃ g o, nbo = some ⟨g, o, none⟩ ∧ g < w.heap.size ∧ w.cell? ⟨g, o + i, none⟩ = some (.string (Kd.names b)[i])) := fun i hi => by
    obtain ⟨g, o, e, hSg, hc⟩ := hnbc (by intro h; rw [h] at hi; simp at hi)
    exact ⟨g, o, e, hB g hSg, hc i hi⟩
  have HNo : Hid (∀ i (hi : i < (Kd.names a).length), (Kd.names a)[i] ∉ Kd.names b → fitsK (m + 1) b (n + 1) a = false) := fun i hi h => fitsK_form_no sb sa i hi h
  have HBad : Hid (∀ j (hj : j < (Kd.names b).length) (hk : j < (Kd.kids b).length), fieldFits n (Kd.names a) (Kd.kids a) m (Kd.names b)[j] (Kd.kids b)[j] = false → fitsK (m + 1) b (n + 1) a = false) := fun j hj hk h => fitsK_form_bad sb sa j hj hk h
  have HYes : Hid ((∀ i (h : i < (Kd.names a).length), (Kd.names a)[i] ∈ Kd.names b) → (∀ j (h : j < (Kd.names b).length) (h' : j < (Kd.kids b).length), fieldFits n (Kd.names a) (Kd.kids a) m (Kd.names b)[j] (Kd.kids b)[j] = true) → fitsK (m + 1) b (n + 1) a = true) := fitsK_form_yes sb sa
  have HLen : Hid ((Kd.names b).length = (Kd.kids b).length) := hkb.1
  have HMax : Hid ((Kd.names b).length ≤ 39) := h39
  have HA : Hid (w.heap[pa]? = some (.cells #[.int .i64 (Kd.sort a), .slice nao (Kd.names a).length nac, pva, kva] 85 (0, 0)) ∧ w.heap[pb]? = some (.cells #[.int .i64 (Kd.sort b), .slice nbo (Kd.names b).length nbc, pvb, .slice kbo (Kd.kids b).length kbc] 85 (0, 0))) := ⟨hca, hcb⟩
  obtain ⟨W0, hW0⟩ : ∃ W0, W0 = w.alloc (.cells #[.pointer (some ⟨pa, 0, none⟩), .pointer (some ⟨pb, 0, none⟩), .string x] 43) := ⟨_, rfl⟩
  have hb0 : Below w.heap.size w W0 := by rw [hW0]; exact (Below.refl _ _).alloc (Nat.le_refl _) _
  have hz0 : W0.heap.size = w.heap.size + 1 := by rw [hW0]; simp
  have hp0 : W0.heap[w.heap.size]? = some (.cells #[.pointer (some ⟨pa, 0, none⟩), .pointer (some ⟨pb, 0, none⟩), .string x] 43 (0, 0)) := by rw [hW0]; exact heap_alloc_new _ _
  have HP : Hid (∀ W, Below W0.heap.size W0 W → Below w.heap.size w W ∧ (W.cell? ⟨w.heap.size, 0, none⟩ = some (.pointer (some ⟨pa, 0, none⟩)) ∧ W.cell? ⟨w.heap.size, 1, none⟩ = some (.pointer (some ⟨pb, 0, none⟩)) ∧ W.cell? ⟨w.heap.size, 2, none⟩ = some (.string x)) ∧ W.cell? ⟨pa, 1, none⟩ = some (.slice nao (Kd.names a).length nac) ∧ W.cell? ⟨pb, 1, none⟩ = some (.slice nbo (Kd.names b).length nbc)) := fun W hW => by
    have hbW := below_step hb0 (by omega) hW
    have e := (hW.block w.heap.size (by omega)).trans hp0
    have ea := (hbW.block pa hla).trans HA.out.1
    have eb := (hbW.block pb hlb).trans HA.out.2
    exact ⟨hbW, ⟨by simp [World.cell?, e], by simp [World.cell?, e], by simp [World.cell?, e]⟩, by simp [World.cell?, ea], by simp [World.cell?, eb]⟩
  have hi0 := HP.out W0 (Below.refl _ _)
  obtain ⟨-, ⟨c0, c1, c2⟩, cA, cB⟩ := hi0
  clear hm hT hga hgb hka hkb hina hinb hca hcb hpb hnac hnbc hkbc hb0 hp0 hx
  unfold maxLen at hnal hnbl
  rw [hW0] at c0 c1 c2 cA cB
  go_enter Tryz.func45, Tryz.ntmps45
  go_wp2_with fail
  rw [← hW0]
  clear hW0 c0 c1 c2 cA cB
  go_loopw [19] (fun iv wr => ∃ j : Nat, j ≤ (Kd.names a).length ∧ iv = .int .i64 j ∧ Below W0.heap.size W0 wr ∧ ∀ q (h : q < (Kd.names a).length), q < j → (Kd.names a)[q] ∈ Kd.names b) (fun iv _ => (Kd.names a).length - (intOf iv).toNat)
  case atStart => exact ⟨0, Nat.zero_le _, rfl, Below.refl _ _, fun q _ h => absurd h (Nat.not_lt_zero _)⟩
  case round =>
    obtain ⟨j, hj, rfl, hbel, hmem⟩ := hrel
    obtain ⟨hbw, ⟨c0, c1, c2⟩, cA, cB⟩ := HP.out wr hbel
    have HM := hidF hmem
    have hzr := hbel.size
    clear hmem
    by_cases hlt : j < (Kd.names a).length
    · have hlti : (j : Int) < ((Kd.names a).length : Int) := by omega
      have HLT := hidF hlt
      obtain ⟨g, o, hno, hg, hcell, hsz⟩ := HNA.out j hlt
      have f1 := (hbw.cell (p := ⟨g, o + j, none⟩) hg).trans hcell
      clear hcell
      subst hno
      by_cases hin : (Kd.names a)[j] ∈ Kd.names b
      · obtain ⟨qb, hcall⟩ := HFY.out wr _ hbw hsz hin
        have HC := hidF hcall
        have HMN : Hid (∀ q (h : q < (Kd.names a).length), q < j + 1 → (Kd.names a)[q] ∈ Kd.names b) := by
          intro q h hq
          by_cases hqj : q < j
          · exact HM.out q h hqj
          · have e : q = j := by omega
            subst e; exact hin
        clear hcall hin
        generalize (Kd.names a)[j] = s at *
        go_wp2_with fail
        refine HC.out.mono ?_
        rintro e w2 ⟨rfl, rfl⟩
        go_wp2_with fail
        go_roundw
        case rel => exact ⟨j + 1, HLT.out, by go_num, hbel, HMN.out⟩
        case measure => have := HLT.out; simp [intOf]; omega
      · have HC : Hid (Calls Tryz.prog 69 _ _ _) := HFN.out wr _ hbw hsz hin
        have HF : Hid (fitsK (m + 1) b (n + 1) a = false) := HNo.out j hlt hin
        clear hin
        generalize (Kd.names a)[j] = s at *
        go_wp2_with fail
        refine HC.out.mono ?_
        rintro e w2 ⟨rfl, rfl⟩
        go_wp2_with fail
        go_quiet (fail)
        go_wp2_with fail
        go_ret2
        exact ⟨below_drewN hbw _, .inr ⟨HF.out, _, rfl⟩⟩
    · have hlti : ¬ (j : Int) < ((Kd.names a).length : Int) := by omega
      have HAll : Hid (∀ i (h : i < (Kd.names a).length), (Kd.names a)[i] ∈ Kd.names b) := fun i h => HM.out i h (by omega)
      have HBw : Hid (Below w.heap.size w wr ∧ Below W0.heap.size W0 wr) := ⟨hbw, hbel⟩
      obtain ⟨X, hX⟩ : ∃ X, X = wr.heap.size := ⟨_, rfl⟩
      obtain ⟨V, hV⟩ : ∃ V, V = wr.alloc (.cells #[.slice none 0 0] 125) := ⟨_, rfl⟩
      have hbV : Below X wr V := by rw [hV, hX]; exact (Below.refl _ _).alloc (Nat.le_refl _) _
      have hXV : V.heap[X]? = some (.cells #[.slice none 0 0] 125 (0, 0)) := by rw [hV, hX]; exact heap_alloc_new _ _
      have HV : Hid (Below X wr V ∧ V.heap[X]? = some (.cells #[.slice none 0 0] 125 (0, 0)) ∧ w.heap.size + 1 ≤ X ∧ V.heap.size = X + 1) := ⟨hbV, hXV, by omega, by rw [hV, hX]; simp⟩
      have HQ : Hid (∀ W, Below X wr W → Below w.heap.size w W ∧ (W.cell? ⟨w.heap.size, 0, none⟩ = some (.pointer (some ⟨pa, 0, none⟩)) ∧ W.cell? ⟨w.heap.size, 1, none⟩ = some (.pointer (some ⟨pb, 0, none⟩)) ∧ W.cell? ⟨w.heap.size, 2, none⟩ = some (.string x)) ∧ W.cell? ⟨pa, 1, none⟩ = some (.slice nao (Kd.names a).length nac) ∧ W.cell? ⟨pb, 1, none⟩ = some (.slice nbo (Kd.names b).length nbc)) := fun W hW => by
        have hW' : Below wr.heap.size wr W := by rw [← hX]; exact hW
        exact HP.out W (below_step hbel (by omega) hW')
      obtain ⟨-, ⟨d0, d1, d2⟩, dA, dB⟩ := HQ.out V hbV
      rw [hV] at d0 d1 d2 dA dB
      have hXs : wr.heap.size = X := hX.symm
      clear hX hbV hXV HM
      go_wp2_with fail
      rw [← hV]
      clear hV d0 d1 d2 dA dB hlti hlt cA cB c0 c1 c2 hbw hbel hzr
      clear hXs
      obtain ⟨wz, hwz⟩ : ∃ wz, wz = wr := ⟨_, rfl⟩
      rw [← hwz] at HV HQ
      clear hwz HBw
      go_loopw [39] (fun iv wq => ∃ (j va vc : Nat) (ao : Option Addr) (xs : List Value), j ≤ (Kd.names b).length ∧ iv = .int .i64 j ∧ Below X wz wq ∧ wq.heap[X]? = some (.cells #[.slice ao j vc] 125 (0, 0)) ∧ va = 0 ∧ wq.ownsRow (X + 1) 59 1 (.slice ao j vc) j xs ∧ ∀ q (h : q < (Kd.names b).length) (h' : q < (Kd.kids b).length), q < j → fieldFits n (Kd.names a) (Kd.kids a) m (Kd.names b)[q] (Kd.kids b)[q] = true) (fun iv _ => (Kd.names b).length - (intOf iv).toNat)
      case atStart => exact ⟨0, 0, 0, none, [], Nat.zero_le _, rfl, HV.out.1, HV.out.2.1, rfl, World.ownsRow_nil _ _ _ _, fun q _ _ h => absurd h (Nat.not_lt_zero _)⟩
      case round =>
        obtain ⟨j2, va, vc, ao, xs, hj2, rfl, hbq, hbox, -, hown, hall⟩ := hrel
        obtain ⟨hbw, ⟨c0, c1, c2⟩, cA, cB⟩ := HQ.out wr hbq
        have HBq : Hid (Below X wz wr) := hbq
        have HBx := hidF hbox
        have HO := hidF hown
        have HAl := hidF hall
        have hXr : X < wr.heap.size := (Array.getElem?_eq_some_iff.1 hbox).1
        clear hall hown hbox hbq
        by_cases hlt : j2 < (Kd.names b).length
        · have hlti : (j2 : Int) < ((Kd.names b).length : Int) := by omega
          have HLT := hidF hlt
          have hlt' : j2 < (Kd.kids b).length := by rw [← HLen.out]; exact hlt
          obtain ⟨g, o, hno, hg, hcell⟩ := HNB.out j2 hlt
          have f1 := (hbw.cell (p := ⟨g, o + j2, none⟩) hg).trans hcell
          have HC := HOF.out wr hbw j2 hlt hlt'
          have HMx : Hid (j2 + 1 ≤ 39) := Nat.le_trans hlt HMax.out
          clear hcell
          subst hno
          cases hfit : fieldFits n (Kd.names a) (Kd.kids a) m (Kd.names b)[j2] (Kd.kids b)[j2]
          · have HF : Hid (fitsK (m + 1) b (n + 1) a = false) := HBad.out j2 hlt hlt' hfit
            have HC' : Hid (Calls Tryz.prog 70 #[.pointer (some ⟨R, 0, none⟩), .agg #[.pointer (some ⟨pa, 0, none⟩), .pointer (some ⟨pb, 0, none⟩), .string x], .string (Kd.names b)[j2]] wr fun e w' => Below wr.heap.size wr w' ∧ ∃ z : ByteArray, e = .returned (.tuple #[.nilFunc, .iface 87 (.agg #[.string z])])) := HC.mono fun e w' h => ⟨h.1, h.2.elim (fun h => absurd (h.1.symm.trans hfit) (by simp)) (fun h => h.2)⟩
            clear HC hfit
            generalize (Kd.names b)[j2] = s at *
            go_wp2_with fail
            refine HC'.out.mono ?_
            rintro e w2 ⟨hb2, z, rfl⟩
            go_wp2_with fail
            go_ret2
            exact ⟨below_step hbw hbw.size hb2, .inr ⟨HF.out, _, rfl⟩⟩
          · have HC' : Hid (Calls Tryz.prog 70 #[.pointer (some ⟨R, 0, none⟩), .agg #[.pointer (some ⟨pa, 0, none⟩), .pointer (some ⟨pb, 0, none⟩), .string x], .string (Kd.names b)[j2]] wr fun e w' => Below wr.heap.size wr w' ∧ ∃ fn first cap, e = .returned (.tuple #[.func fn first cap, .nilIface])) := HC.mono fun e w' h => ⟨h.1, h.2.elim (fun h => h.2) (fun h => absurd (h.1.symm.trans hfit) (by simp))⟩
            have HAN : Hid (∀ q (h : q < (Kd.names b).length) (h' : q < (Kd.kids b).length), q < j2 + 1 → fieldFits n (Kd.names a) (Kd.kids a) m (Kd.names b)[q] (Kd.kids b)[q] = true) := by
              intro q h h' hq
              by_cases hqj : q < j2
              · exact HAl.out q h h' hqj
              · have e : q = j2 := by omega
                subst e; exact hfit
            clear HC hfit
            generalize (Kd.names b)[j2] = s at *
            go_wp2_with fail
            refine HC'.out.mono ?_
            rintro e w2 ⟨hb2, fn, first, cap, rfl⟩
            have hz2 := hb2.size
            have hbx2 := (hb2.block X hXr).trans HBx.out
            have x0 : w2.cell? ⟨X, 0, none⟩ = some (.slice ao j2 vc) := by simp [World.cell?, hbx2]
            have HO2 : Hid (w2.ownsRow (X + 1) 59 1 (.slice ao j2 vc) j2 xs) := r1_keep HO.out (fun g' hg' => hb2.block g' (r1_lt HO.out g' hg').2)
            have HB2 : Hid (Below X wz w2) := HBq.out.trans (hb2.mono (by omega))
            have HX2 := hidF hbx2
            obtain ⟨i0, hi0, hy0, hy1, hyb⟩ := info_parts Tryz.info_wd
            have HI : Hid (_ ∧ _ ∧ _ ∧ _) := ⟨hi0, hy0, hy1, hyb⟩
            have hmx := HMx.out
            clear hi0 hy0 hy1 hyb hb2 hbx2 HC' f1
            go_wp2_with (at_builtin; refine wpList_append_lies _ rfl (.tmp 53) (.tmp 55) 125 rfl (X + 1) 59 i0 _ 1 8 Tryz.underlying125 HI.out.1 HI.out.2.1 HI.out.2.2.1 HI.out.2.2.2 rfl (by decide) (.slice ao j2 vc) j2 xs rfl (HO2.out.alloc _) ⟨w2.heap.size, 0, none⟩ 1 1 [.func fn first cap] rfl rfl (World.news_of_block (heap_alloc_new w2 _)) (by simp [Value.oneCell']) (by decide) (by unfold maxLen; omega) (by omega) (by simp; omega) (w2.heap.size + 1) (by simp) ?_; intro g3 cap3 w3 hown3 hgrow3 hat3 hlt3; refine Hid.out ?_)
            refine Lib.hid ?_
            have hb6 := ((hgrow3.block X (by simp; omega) (fun e => by have := r1_lt HO2.out _ e.symm; omega)).trans (Below.heap_alloc _ _ _ (by omega))).trans HX2.out
            have x0'' : w3.cell? ⟨X, 0, none⟩ = some (.slice ao j2 vc) := by simp [World.cell?, hb6]
            have xf'' : w3.frozen? ⟨X, 0, none⟩ = false := by simp [World.frozen?, hb6]
            have HB3 : Hid (Below X wz w3) := (HB2.out.alloc (by omega) (.cells #[.func fn first cap] 59)).grown hgrow3 (by simp; omega) (fun q hq => by have := r1_lt HO2.out q hq; omega)
            have HF : Hid (Below X wz (w3.setCell ⟨X, 0, none⟩ (.slice (some ⟨g3, 0, none⟩) (j2 + 1) cap3)) ∧ (w3.setCell ⟨X, 0, none⟩ (.slice (some ⟨g3, 0, none⟩) (j2 + 1) cap3)).heap[X]? = some (.cells #[.slice (some ⟨g3, 0, none⟩) (j2 + 1) cap3] 125 (0, 0)) ∧ (w3.setCell ⟨X, 0, none⟩ (.slice (some ⟨g3, 0, none⟩) (j2 + 1) cap3)).ownsRow (X + 1) 59 1 (.slice (some ⟨g3, 0, none⟩) (j2 + 1) cap3) (j2 + 1) (xs ++ [.func fn first cap])) :=
              ⟨HB3.out.setCell (Nat.le_refl _) _, by simp [World.setCell, Array.getElem?_modify, hb6], r1_keep hown3 fun g' hg' => Below.heap_setCell _ _ _ _ (by have := r1_lt hown3 g' hg'; show g' ≠ X; omega)⟩
            clear hown3 hgrow3 hat3 hb6 HB3 HO2 HX2 HB2 x0
            go_wp2_with fail
            go_roundw
            case rel => exact ⟨j2 + 1, 0, cap3, some ⟨g3, 0, none⟩, _, HLT.out, by go_num, HF.out.1, HF.out.2.1, rfl, HF.out.2.2, HAN.out⟩
            case measure => have := HLT.out; simp [intOf]; omega
        · have hlti : ¬ (j2 : Int) < ((Kd.names b).length : Int) := by omega
          have HF : Hid (fitsK (m + 1) b (n + 1) a = true) := HYes.out HAll.out (fun q h h' => HAl.out q h h' (by omega))
          go_wp2_with fail
          go_ret2
          exact ⟨hbw, .inl ⟨HF.out, _, _, _, rfl⟩⟩

end Go.Proofs.YthcdeahobjhkbaaGreatDoor

/-
  The program's widenings: of two schemas that are ok a widening is made just if the first fits into the second.
-/
namespace Go.Proofs.YthcdeahobjhkbaaGreatDoor
open Go.RowKit

theorem end_to {r : Bool} {e : Ending} (h : EndB r e) : ∃ v u, e = .returned (.tuple #[v, u]) ∧ (r = true ∧ (∃ fn first cap, v = .func fn first cap) ∧ u = .nilIface ∨ r = false ∧ v = .nilFunc ∧ ∃ y : ByteArray, u = .iface 87 (.agg #[.string y])) := by
  rcases h with ⟨h, fn, first, cap, rfl⟩ | ⟨h, y, rfl⟩
  · exact ⟨_, _, rfl, .inl ⟨h, ⟨_, _, _, rfl⟩, rfl⟩⟩
  · exact ⟨_, _, rfl, .inr ⟨h, rfl, _, rfl⟩⟩

theorem end_from {r : Bool} {e : Ending} (h : ∃ v u, e = .returned (.tuple #[v, u]) ∧ (r = true ∧ (∃ fn first cap, v = .func fn first cap) ∧ u = .nilIface ∨ r = false ∧ v = .nilFunc ∧ ∃ y : ByteArray, u = .iface 87 (.agg #[.string y]))) : EndB r e := by
  obtain ⟨v, u, rfl, ⟨h, ⟨fn, first, cap, rfl⟩, rfl⟩ | ⟨h, rfl, y, rfl⟩⟩ := h
  · exact .inl ⟨h, _, _, _, rfl⟩
  · exact .inr ⟨h, _, rfl⟩

theorem sort_nat {n : Nat} {k : K (n + 1)} {d : Int} (h : goodK (n + 1) k d = true) : ∃ i : Nat, 1 ≤ i ∧ i ≤ 6 ∧ Kd.sort k = (i : Int) := by
  rcases goodK_kids h with ⟨h | h | h, -⟩ | ⟨h | h, -⟩ | ⟨h, -⟩
  · exact ⟨1, by omega, by omega, h⟩
  · exact ⟨2, by omega, by omega, h⟩
  · exact ⟨3, by omega, by omega, h⟩
  · exact ⟨4, by omega, by omega, h⟩
  · exact ⟨6, by omega, by omega, h⟩
  · exact ⟨5, by omega, by omega, h⟩

theorem fit_step (m : Nat) (hm : FitSaid m) : FitSaid (m + 1) := by
  intro S n a b va vb d d' R x w ha hb hB hT hR hga hgb hc40 hd hx
  cases n with
  | zero => exact ha.elim
  | succ n =>
    obtain ⟨i, hi1, hi6, hi⟩ := sort_nat hga
    obtain ⟨j, hj1, hj6, hj⟩ := sort_nat hgb
    have hina := ha
    have hinb := hb
    obtain ⟨pa, nva, pva, kva, rfl, hSa, hca, -⟩ := ha
    obtain ⟨pb, nvb, pvb, kvb, rfl, hSb, hcb, -⟩ := hb
    have hla := hB pa hSa
    have hlb := hB pb hSb
    have ea : w.cell? ⟨pa, 0, none⟩ = some (.int .i64 (i : Int)) := by rw [zeroD_W4 hca, hi]
    have eb : w.cell? ⟨pb, 0, none⟩ = some (.int .i64 (j : Int)) := by rw [zeroD_W4 hcb, hj]
    have eT := hT i j hi1 hi6 hj1 hj6
    have key : ∀ {W : World}, Below w.heap.size w W → InnerK S W (n + 1) a (.pointer (some ⟨pa, 0, none⟩)) ∧ InnerK S W (m + 1) b (.pointer (some ⟨pb, 0, none⟩)) ∧ (∀ b, S b → b < W.heap.size) ∧ TabW W R ∧ R < W.heap.size := fun hW =>
      ⟨hina.keep (same_below hW hB) (fun _ h => h), hinb.keep (same_below hW hB) (fun _ h => h), fun b hb => Nat.lt_of_lt_of_le (hB b hb) hW.size, hT.keep (hW.block R hR), Nat.lt_of_lt_of_le hR hW.size⟩
    by_cases hj' : j = 6
    · by_cases hi' : i = 6
      · have e : widV R i j = widF R 47 := by unfold widV; rw [if_pos hj', if_pos hi']
        rw [e] at eT
        refine (of_ofMaybes R pa pb i j (fitsK (m + 1) b (n + 1) a) x w hi1 hi6 hj1 hj6 ea eb eT hla hlb hR fun W hW => ?_).mono fun e w' h => ⟨h.1, end_from h.2⟩
        obtain ⟨k1, k2, k3, k4, k5⟩ := key hW
        exact (ofMaybes_any m n hm S a b _ _ d d' R x W k1 k2 k3 k4 k5 hga hgb hc40 hd hx (by omega) (by omega)).mono fun e w' h => ⟨h.1, end_to h.2⟩
      · have e : widV R i j = widF R 46 := by unfold widV; rw [if_pos hj', if_neg hi']
        rw [e] at eT
        refine (of_intoMaybe R pa pb i j (fitsK (m + 1) b (n + 1) a) x w hi1 hi6 hj1 hj6 ea eb eT hla hlb hR fun W hW => ?_).mono fun e w' h => ⟨h.1, end_from h.2⟩
        obtain ⟨k1, k2, k3, k4, k5⟩ := key hW
        exact (intoMaybe_any m n hm S a b _ _ d d' R x W k1 k2 k3 k4 k5 hga hgb hc40 hd hx (by omega) (by omega)).mono fun e w' h => ⟨h.1, end_to h.2⟩
    · by_cases hij : i = j
      · by_cases h4 : i = 4
        · have e : widV R i j = widF R 44 := by unfold widV; rw [if_neg hj', if_pos hij, if_pos h4]
          rw [e] at eT
          refine (of_ofLists R pa pb i j (fitsK (m + 1) b (n + 1) a) x w hi1 hi6 hj1 hj6 ea eb eT hla hlb hR fun W hW => ?_).mono fun e w' h => ⟨h.1, end_from h.2⟩
          obtain ⟨k1, k2, k3, k4, k5⟩ := key hW
          exact (ofLists_any m n hm S a b _ _ d d' R x W k1 k2 k3 k4 k5 hga hgb hc40 hd hx (by omega) (by omega)).mono fun e w' h => ⟨h.1, end_to h.2⟩
        · by_cases h5 : i = 5
          · have e : widV R i j = widF R 45 := by unfold widV; rw [if_neg hj', if_pos hij, if_neg h4, if_pos h5]
            rw [e] at eT
            refine (of_ofForms R pa pb i j (fitsK (m + 1) b (n + 1) a) x w hi1 hi6 hj1 hj6 ea eb eT hla hlb hR fun W hW => ?_).mono fun e w' h => ⟨h.1, end_from h.2⟩
            obtain ⟨k1, k2, k3, k4, k5⟩ := key hW
            exact (ofForms_any m n hm S a b _ _ d d' R x W k1 k2 k3 k4 k5 hga hgb hc40 hd hx (by omega) (by omega)).mono fun e w' h => ⟨h.1, end_to h.2⟩
          · have e : widV R i j = widF R 43 := by unfold widV; rw [if_neg hj', if_pos hij, if_neg h4, if_neg h5]
            rw [e] at eT
            have hna : Kd.names a = [] := by
              rcases goodK_kids hga with ⟨-, h, -⟩ | ⟨-, h, -⟩ | ⟨h, -⟩
              · exact h
              · exact h
              · omega
            have hnb : Kd.names b = [] := by
              rcases goodK_kids hgb with ⟨-, h, -⟩ | ⟨-, h, -⟩ | ⟨h, -⟩
              · exact h
              · exact h
              · omega
            have hf : fitsK (m + 1) b (n + 1) a = true := fitsK_leaf (by omega) (by omega) hna hnb
            refine (of_ofLeaves R pa pb i j (fitsK (m + 1) b (n + 1) a) x w hi1 hi6 hj1 hj6 ea eb eT hla hlb hR fun W hW => ?_).mono fun e w' h => ⟨h.1, end_from h.2⟩
            refine (ofLeaves_any R _ _ x W ⟨_, rfl⟩ ⟨_, rfl⟩).mono fun e w' h => ?_
            obtain ⟨⟨fn, first, cap, rfl⟩, hb⟩ := h
            exact ⟨hb, _, _, rfl, .inl ⟨hf, ⟨_, _, _, rfl⟩, rfl⟩⟩
      · have e : widV R i j = .nilFunc := by unfold widV; rw [if_neg hj', if_neg hij]
        rw [e] at eT
        have hf : fitsK (m + 1) b (n + 1) a = false := fitsK_no (by omega) (by omega)
        exact (of_nil R pa pb i j x w hi1 hi6 hj1 hj6 ea eb eT hla hlb hR).mono fun e w' h => ⟨h.1, .inr ⟨hf, h.2⟩⟩

theorem fit_any : ∀ m, FitSaid m := by
  intro m
  induction m with
  | zero => intro S n a b va vb d d' R x w _ hb; exact hb.elim
  | succ m ih => exact fit_step m ih

end Go.Proofs.YthcdeahobjhkbaaGreatDoor

/-
  KindFits of the program, where the first schema fits into the second.
-/
namespace Go.Proofs.YthcdeahobjhkbaaGreatDoor
open Go.RowKit

set_option maxRecDepth 20000 in
set_option maxHeartbeats 400000 in
theorem asNil_any (v : Value) (w : World) : Calls Tryz.prog 39 #[.nilIface, v] w fun e w' => e = .returned (.bool false) ∧ w' = w := by
  go_enter Tryz.func39, Tryz.ntmps39
  go_wp2_with fail
  go_ret
  exact ⟨rfl, rfl⟩

set_option maxRecDepth 20000 in
set_option maxHeartbeats 400000 in
theorem isMisfit_nil (w : World) : Calls Tryz.prog 21 #[.nilIface] w fun e w' => e = .returned (.bool false) ∧ Below w.heap.size w w' := by
  go_enter Tryz.func21, Tryz.ntmps21
  go_wp2_with fail
  refine (asNil_any _ _).mono ?_
  rintro e w1 ⟨rfl, rfl⟩
  go_wp2_with fail
  go_ret
  exact ⟨rfl, (Below.refl _ _).alloc (Nat.le_refl _) _⟩

set_option maxRecDepth 20000 in
set_option maxHeartbeats 1000000 in
theorem innerPair_yes (n m : Nat) (S : Nat → Prop) (a : K n) (b : K m) (x0 z0 : Int) (xa ya za ua : Option Addr) (xl xc yl yc zl zc ul uc : Nat) (w : World) (ha : KindIn S w n a (.int .i64 x0) (.slice xa xl xc) (.slice ya yl yc)) (hb : KindIn S w m b (.int .i64 z0) (.slice za zl zc) (.slice ua ul uc)) (hB : ∀ b, S b → b < w.heap.size) (hoa : okK n a = true) (hob : okK m b = true) :
    Calls Tryz.prog 18 #[.agg #[.int .i64 x0, .slice xa xl xc, .slice ya yl yc], .agg #[.int .i64 z0, .slice za zl zc, .slice ua ul uc]] w fun e w' => Below w.heap.size w w' ∧ ∃ pa pb, e = .returned (.tuple #[.agg #[.pointer (some ⟨pa, 0, none⟩), .pointer (some ⟨pb, 0, none⟩), .string ⟨#[]⟩], .bool true]) ∧
      InnerK (fun b => b < w'.heap.size) w' n a (.pointer (some ⟨pa, 0, none⟩)) ∧ InnerK (fun b => b < w'.heap.size) w' m b (.pointer (some ⟨pb, 0, none⟩)) := by
  obtain ⟨W1, hW1⟩ : ∃ W1, W1 = ((w.alloc (.cells #[.int .i64 x0, .slice xa xl xc, .slice ya yl yc] 26)).alloc (.cells #[.int .i64 z0, .slice za zl zc, .slice ua ul uc] 26)).alloc (.cells #[.pointer none, .pointer none, .string ⟨#[]⟩] 43) := ⟨_, rfl⟩
  have hb1 : Below w.heap.size w W1 := by rw [hW1]; exact (((Below.refl _ _).alloc (Nat.le_refl _) _).alloc (by simp) _).alloc (by simp; omega) _
  have hz1 : W1.heap.size = w.heap.size + 3 := by rw [hW1]; simp
  have kA : W1.heap[w.heap.size + 1]? = some (.cells #[.int .i64 z0, .slice za zl zc, .slice ua ul uc] 26 (0, 0)) := by
    rw [hW1, Below.heap_alloc _ _ _ (by simp)]
    have := heap_alloc_new (w.alloc (.cells #[.int .i64 x0, .slice xa xl xc, .slice ya yl yc] 26)) (.cells #[.int .i64 z0, .slice za zl zc, .slice ua ul uc] 26)
    simpa using this
  have kZ : W1.heap[w.heap.size + 2]? = some (.cells #[.pointer none, .pointer none, .string ⟨#[]⟩] 43 (0, 0)) := by
    have := heap_alloc_new ((w.alloc (.cells #[.int .i64 x0, .slice xa xl xc, .slice ya yl yc] 26)).alloc (.cells #[.int .i64 z0, .slice za zl zc, .slice ua ul uc] 26)) (.cells #[.pointer none, .pointer none, .string ⟨#[]⟩] 43)
    rw [hW1]; simpa using this
  obtain ⟨ha1, hB1⟩ := ha.step hB hb1
  obtain ⟨hb1', -⟩ := hb.step hB hb1
  have HA : Hid (Calls Tryz.prog 33 #[.agg #[.int .i64 x0, .slice xa xl xc, .slice ya yl yc]] W1 fun e w' => Below W1.heap.size W1 w' ∧ ∃ pa, e = .returned (.tuple #[.pointer (some ⟨pa, 0, none⟩), .bool true]) ∧ InnerK (fun b => b < w'.heap.size ∧ b ≠ w.heap.size + 2) w' n a (.pointer (some ⟨pa, 0, none⟩))) := (innerKind_any n S a _ _ _ W1 ha1 hB1).mono fun e w' h => by
    obtain ⟨h1, ⟨-, v, rfl, hin⟩ | ⟨h2, -⟩⟩ := h
    · obtain ⟨p, rfl, -⟩ := id hin.ptr
      exact ⟨h1, p, rfl, hin.keep (fun _ _ => rfl) (fun b hb => hb.elim (fun h => ⟨Nat.lt_of_lt_of_le (hB1 b h) h1.size, by have := hB b h; omega⟩) (fun h => ⟨h.2, by omega⟩))⟩
    · rw [hoa] at h2; cases h2
  have HBk : Hid (∀ W, Below W1.heap.size W1 W → Calls Tryz.prog 33 #[.agg #[.int .i64 z0, .slice za zl zc, .slice ua ul uc]] W fun e w' => Below W.heap.size W w' ∧ ∃ pb, e = .returned (.tuple #[.pointer (some ⟨pb, 0, none⟩), .bool true]) ∧ InnerK (fun b => b < w'.heap.size ∧ b ≠ w.heap.size + 2) w' m b (.pointer (some ⟨pb, 0, none⟩))) := fun W hW => by
    obtain ⟨hb2, hB2⟩ := hb1'.step hB1 hW
    refine (innerKind_any m S b _ _ _ W hb2 hB2).mono fun e w' h => ?_
    obtain ⟨h1, ⟨-, v, rfl, hin⟩ | ⟨h2, -⟩⟩ := h
    · obtain ⟨p, rfl, -⟩ := id hin.ptr
      exact ⟨h1, p, rfl, hin.keep (fun _ _ => rfl) (fun b hb => hb.elim (fun h => ⟨Nat.lt_of_lt_of_le (hB2 b h) h1.size, by have := hB b h; omega⟩) (fun h => ⟨h.2, by have := hW.size; omega⟩))⟩
    · rw [hob] at h2; cases h2
  have HB1 : Hid (Below w.heap.size w W1) := hb1
  clear ha hb ha1 hb1' hb1 hoa hob hB1
  go_enter Tryz.func18, Tryz.ntmps18
  go_wp2_with fail
  rw [← hW1]
  clear hW1
  refine HA.out.mono ?_
  rintro e w2 ⟨hb2, pa, rfl, hia⟩
  have HA2 : Hid (Below W1.heap.size W1 w2 ∧ InnerK (fun b => b < w2.heap.size ∧ b ≠ w.heap.size + 2) w2 n a (.pointer (some ⟨pa, 0, none⟩))) := ⟨hb2, hia⟩
  have kA2 := (hb2.block (w.heap.size + 1) (by omega)).trans kA
  have q0 : w2.cell? ⟨w.heap.size + 1, 0, none⟩ = some (.int .i64 z0) := by simp [World.cell?, kA2]
  have q1 : w2.cell? ⟨w.heap.size + 1, 1, none⟩ = some (.slice za zl zc) := by simp [World.cell?, kA2]
  have q2 : w2.cell? ⟨w.heap.size + 1, 2, none⟩ = some (.slice ua ul uc) := by simp [World.cell?, kA2]
  have HB2 : Hid (Calls Tryz.prog 33 _ w2 _) := HBk.out w2 hb2
  clear hb2 hia kA2 HA
  go_wp2_with fail
  refine HB2.out.mono ?_
  rintro e w3 ⟨hb3, pb, rfl, hib⟩
  have hbW := HA2.out.1
  have kZ3 := (hb3.block (w.heap.size + 2) (by have := hbW.size; omega)).trans ((hbW.block (w.heap.size + 2) (by omega)).trans kZ)
  have z0' : w3.cell? ⟨w.heap.size + 1 + 1, 0, none⟩ = some (.pointer none) := by simp [World.cell?, kZ3]
  have z1' : w3.cell? ⟨w.heap.size + 1 + 1, 1, none⟩ = some (.pointer none) := by simp [World.cell?, kZ3]
  have z2' : w3.cell? ⟨w.heap.size + 1 + 1, 2, none⟩ = some (.string ⟨#[]⟩) := by simp [World.cell?, kZ3]
  have f0' : w3.frozen? ⟨w.heap.size + 1 + 1, 0, none⟩ = false := by simp [World.frozen?, kZ3]
  have f1' : w3.frozen? ⟨w.heap.size + 1 + 1, 1, none⟩ = false := by simp [World.frozen?, kZ3]
  have f2' : w3.frozen? ⟨w.heap.size + 1 + 1, 2, none⟩ = false := by simp [World.frozen?, kZ3]
  have HEnd : Hid (Below w.heap.size w (put3 w3 (w.heap.size + 1 + 1) 0 (.pointer (some ⟨pa, 0, none⟩)) (.pointer (some ⟨pb, 0, none⟩)) (.string ⟨#[]⟩)) ∧ InnerK (fun b => b < (put3 w3 (w.heap.size + 1 + 1) 0 (.pointer (some ⟨pa, 0, none⟩)) (.pointer (some ⟨pb, 0, none⟩)) (.string ⟨#[]⟩)).heap.size) (put3 w3 (w.heap.size + 1 + 1) 0 (.pointer (some ⟨pa, 0, none⟩)) (.pointer (some ⟨pb, 0, none⟩)) (.string ⟨#[]⟩)) n a (.pointer (some ⟨pa, 0, none⟩)) ∧
      InnerK (fun b => b < (put3 w3 (w.heap.size + 1 + 1) 0 (.pointer (some ⟨pa, 0, none⟩)) (.pointer (some ⟨pb, 0, none⟩)) (.string ⟨#[]⟩)).heap.size) (put3 w3 (w.heap.size + 1 + 1) 0 (.pointer (some ⟨pa, 0, none⟩)) (.pointer (some ⟨pb, 0, none⟩)) (.string ⟨#[]⟩)) m b (.pointer (some ⟨pb, 0, none⟩))) := by
    refine ⟨?_, HA2.out.2.keep (fun b hb => (put3_other (by omega)).trans (hb3.block b hb.1)) (fun b hb => by rw [put3_size]; have := hb3.size; omega), hib.keep (fun b hb => put3_other (by omega)) (fun b hb => by rw [put3_size]; exact hb.1)⟩
    have h3 : Below w.heap.size w w3 := (HB1.out.trans (hbW.mono (by omega))).trans (hb3.mono (by have := hbW.size; omega))
    exact ((h3.setCell (by show _ ≤ w.heap.size + 1 + 1; omega) _).setCell (by show _ ≤ w.heap.size + 1 + 1; omega) _).setCell (by show _ ≤ w.heap.size + 1 + 1; omega) _
  clear q0 q1 q2 kZ3 HB2 hb3 hib hbW
  go_wp2_with fail
  refine bodyPost_ret (v := .tuple #[.agg #[.pointer (some ⟨pa, 0, none⟩), .pointer (some ⟨pb, 0, none⟩), .string ⟨#[]⟩], .bool true]) (by simp [results, Tryz.results18, go_sem, z0', z1', z2']) rfl ?_
  exact ⟨HEnd.out.1, pa, pb, rfl, HEnd.out.2.1, HEnd.out.2.2⟩

end Go.Proofs.YthcdeahobjhkbaaGreatDoor

/-
  KindFits of the program at two schemas that are ok, the first of which fits: it answers yes.
-/
namespace Go.Proofs.YthcdeahobjhkbaaGreatDoor
open Go.RowKit

set_option maxRecDepth 20000 in
set_option maxHeartbeats 2000000 in
theorem implKFits_yes (n m : Nat) (S : Nat → Prop) (a : K n) (b : K m) (a0 a1 a2 b0 b1 b2 : Value) (w : World) (ha : KindIn S w n a a0 a1 a2) (hb : KindIn S w m b b0 b1 b2) (hB : ∀ b, S b → b < w.heap.size) (hoa : okK n a = true) (hob : okK m b = true) (hf : fitsK m b n a = true) :
    Calls Tryz.prog 8 #[.agg #[a0, a1, a2], .agg #[b0, b1, b2]] w fun e w' => e = .returned (.bool true) ∧ Below w.heap.size w w' := by
  obtain ⟨x0, xa, xl, xc, ya, yl, yc, rfl, rfl, rfl⟩ := ha.shape
  obtain ⟨z0, za, zl, zc, ua, ul, uc, rfl, rfl, rfl⟩ := hb.shape
  have hb1 : Below w.heap.size w ((w.alloc (.cells #[.int .i64 x0, .slice xa xl xc, .slice ya yl yc] 26)).alloc (.cells #[.int .i64 z0, .slice za zl zc, .slice ua ul uc] 26)) := ((Below.refl _ _).alloc (Nat.le_refl _) _).alloc (by simp) _
  obtain ⟨ha1, hB1⟩ := ha.step hB hb1
  obtain ⟨hb1', -⟩ := hb.step hB hb1
  have HP : Hid (Calls Tryz.prog 18 _ _ _) := innerPair_yes n m S a b x0 z0 xa ya za ua xl xc yl yc zl zc ul uc _ ha1 hb1' hB1 hoa hob
  have HG : Hid (goodK n a 1 = true ∧ goodK m b 1 = true ∧ cntK m b ≤ 40) := ⟨(okK_get hoa).1, (okK_get hob).1, (okK_get hob).2⟩
  have HF : Hid (fitsK m b n a = true) := hf
  have HB1 : Hid (Below w.heap.size w _) := hb1
  clear ha hb ha1 hb1' hb1 hoa hob hf
  go_enter Tryz.func8, Tryz.ntmps8
  go_wp2_with fail
  refine HP.out.mono ?_
  rintro e w2 ⟨hb2, pa, pb, rfl, hia, hib⟩
  have HB2 : Hid (Below w.heap.size w w2) := below_step HB1.out HB1.out.size hb2
  obtain ⟨W3, hW3⟩ : ∃ W3, W3 = w2.alloc (.cells #[.pointer (some ⟨pa, 0, none⟩), .pointer (some ⟨pb, 0, none⟩), .string ⟨#[]⟩] 43) := ⟨_, rfl⟩
  have hb3 : Below w2.heap.size w2 W3 := by rw [hW3]; exact (Below.refl _ _).alloc (Nat.le_refl _) _
  have hk3 : W3.heap[w2.heap.size]? = some (.cells #[.pointer (some ⟨pa, 0, none⟩), .pointer (some ⟨pb, 0, none⟩), .string ⟨#[]⟩] 43 (0, 0)) := by rw [hW3]; exact heap_alloc_new _ _
  have hz3 : W3.heap.size = w2.heap.size + 1 := by rw [hW3]; simp
  have HB3 : Hid (Below w.heap.size w W3) := below_step HB2.out HB2.out.size hb3
  have HNW : Hid (Calls Tryz.prog 23 #[] W3.drew fun e w' => e = .returned (.pointer (some ⟨W3.heap.size, 0, none⟩)) ∧ Below W3.heap.size W3 w' ∧ TabW w' W3.heap.size ∧ W3.heap.size < w'.heap.size) := (newWidenings_any W3.drew).mono fun e w' h => ⟨h.1, ((Below.refl W3.heap.size W3).drew).trans h.2.1, h.2.2.1, h.2.2.2⟩
  have HOf : Hid (∀ W, Below W3.heap.size W3 W → TabW W W3.heap.size → W3.heap.size < W.heap.size → Calls Tryz.prog 24 #[.pointer (some ⟨W3.heap.size, 0, none⟩), .agg #[.pointer (some ⟨pa, 0, none⟩), .pointer (some ⟨pb, 0, none⟩), .string ⟨#[]⟩]] W fun e w' => Below w.heap.size w w' ∧ ∃ fn first cap, e = .returned (.tuple #[.func fn first cap, .nilIface])) := fun W hW hT hl => by
    have hw2 : Below w2.heap.size w2 W := hb3.trans (hW.mono (by omega))
    refine (fit_any m (fun b => b < w2.heap.size) n a b _ _ 1 1 W3.heap.size ⟨#[]⟩ W (hia.keep (same_below hw2 (fun _ h => h)) (fun _ h => h)) (hib.keep (same_below hw2 (fun _ h => h)) (fun _ h => h)) (fun b hb => Nat.lt_of_lt_of_le hb hw2.size) hT hl HG.out.1 HG.out.2.1 HG.out.2.2 (by omega) (by show ((0 : Nat) : Int) ≤ 20 * 1; omega)).mono fun e w' h => ?_
    refine ⟨below_step (below_step HB2.out HB2.out.size hw2) (by have := HB2.out.size; have := hw2.size; omega) h.1, ?_⟩
    rcases h.2 with ⟨-, h2⟩ | ⟨h2, -⟩
    · exact h2
    · rw [HF.out] at h2; cases h2
  have c0 : W3.cell? ⟨w2.heap.size, 0, none⟩ = some (.pointer (some ⟨pa, 0, none⟩)) := by simp [World.cell?, hk3]
  have c1 : W3.cell? ⟨w2.heap.size, 1, none⟩ = some (.pointer (some ⟨pb, 0, none⟩)) := by simp [World.cell?, hk3]
  have c2 : W3.cell? ⟨w2.heap.size, 2, none⟩ = some (.string ⟨#[]⟩) := by simp [World.cell?, hk3]
  have HK : Hid (∀ W, Below W3.heap.size W3 W → W.cell? ⟨w2.heap.size, 0, none⟩ = some (.pointer (some ⟨pa, 0, none⟩)) ∧ W.cell? ⟨w2.heap.size, 1, none⟩ = some (.pointer (some ⟨pb, 0, none⟩)) ∧ W.cell? ⟨w2.heap.size, 2, none⟩ = some (.string ⟨#[]⟩)) := fun W hW => pair_kept ⟨c0, c1, c2⟩ hW
  clear hia hib hb2 hk3 HP hb3 hz3
  go_upto_region 4 with fail
  rw [← hW3]
  clear hW3
  go_region_law (first
    | (go_simp; go_at_call 23; refine HNW.out.mono ?_; rintro e w5 ⟨rfl, hb5, hT5, hl5⟩; obtain ⟨k0, k1, k2⟩ := HK.out w5 hb5)
    | (go_simp; go_at_call 24; refine (HOf.out w5 hb5 hT5 hl5).mono ?_; rintro e w6 ⟨hb6, fn, first, cap, rfl⟩))
  all_goals
    have HM : Hid (Calls Tryz.prog 21 #[.nilIface] w6 _) := isMisfit_nil w6
    go_wp2_with fail
    refine HM.out.mono ?_
    rintro e w7 ⟨rfl, hb7⟩
    go_wp2_with fail
    go_ret
    exact ⟨rfl, below_step hb6 hb6.size hb7⟩

end Go.Proofs.YthcdeahobjhkbaaGreatDoor
