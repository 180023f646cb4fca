/-
  The specification on upcasters' nodes: how many nodes there are, if they are ok.
-/
import Derived.Test.YtlinplghgamgbaaGreatDoorSL6
import Derived.Test.YtlinplghgamgbaaGreatDoorB20
namespace Go.Proofs.YtlinplghgamgbaaGreatDoor
open Go.RowKit

theorem undef_yieldsN : yielded.match_1 (fun _ => Option Bool) (some undef) (fun b => some b) (fun _ => none) = none := rfl

/-- What l11Nodes answers. -/
def nodesF (m : Nat) (t : T m) (act : Bool) (d : Int) : Int := if goodS m t act d = true ∧ cntT m t ≤ 200 then (cntT m t : Int) else -1

theorem nodesF_le (m : Nat) (t : T m) (act : Bool) (d : Int) : -1 ≤ nodesF m t act d ∧ nodesF m t act d ≤ 200 := by
  unfold nodesF; split <;> omega

theorem nodesF_get (m : Nat) (t : T m) (act : Bool) (d : Int) (h : 0 ≤ nodesF m t act d) : nodesF m t act d = cntT m t ∧ goodS m t act d = true := by
  unfold nodesF at h ⊢
  by_cases hc : goodS m t act d = true ∧ cntT m t ≤ 200
  · rw [if_pos hc]; exact ⟨rfl, hc.1⟩
  · rw [if_neg hc] at h; omega

theorem goodS_kid {m : Nat} {t : T (m + 1)} {act : Bool} {d : Int} (h : goodS (m + 1) t act d = true) (i : Nat) (hi : i < (Nd.kids t).length) : goodS m (Nd.kids t)[i] (actAt (Nd.sort t).toNat i) (d + 1) = true := by
  simp only [goodS, Bool.and_eq_true, List.all_eq_true] at h
  exact h.2 ((Nd.kids t)[i], i) (by rw [List.mem_zipIdx_iff_getElem?]; simp [hi])

theorem nodesF_kid (m : Nat) (t : T (m + 1)) (act : Bool) (d : Int) (i : Nat) (hi : i < (Nd.kids t).length) (h : nodesF m (Nd.kids t)[i] (actAt (Nd.sort t).toNat i) (d + 1) < 0) : nodesF (m + 1) t act d = -1 := by
  unfold nodesF; rw [if_neg]
  rintro ⟨h1, h2⟩
  have hg := goodS_kid h1 i hi
  have hc := sumL_mono (fun k => cntT m k) (Nd.kids t) _ (List.getElem_mem hi)
  simp only [cntT] at h2
  unfold nodesF at h
  rw [if_pos ⟨hg, by omega⟩] at h
  omega

theorem nodesF_many (m : Nat) (t : T (m + 1)) (act : Bool) (d : Int) (k : Nat) (h : 200 < 1 + sumL (fun k => cntT m k) ((Nd.kids t).take k)) : nodesF (m + 1) t act d = -1 := by
  unfold nodesF; rw [if_neg]
  rintro ⟨-, h2⟩
  have := sumL_append (fun k => cntT m k) ((Nd.kids t).take k) ((Nd.kids t).drop k)
  rw [List.take_append_drop] at this
  simp only [cntT] at h2
  omega

theorem nodesF_yes (m : Nat) (t : T (m + 1)) (act : Bool) (d : Int) (h : (decide (d ≤ 24) && aloneS (show Nd (T m) from t) act) = true) (hall : ∀ i (hi : i < (Nd.kids t).length), goodS m (Nd.kids t)[i] (actAt (Nd.sort t).toNat i) (d + 1) = true) (hs : 1 + sumL (fun k => cntT m k) (Nd.kids t) ≤ 200) :
    nodesF (m + 1) t act d = 1 + (sumL (fun k => cntT m k) (Nd.kids t) : Int) := by
  unfold nodesF; rw [if_pos]
  · simp only [cntT]; omega
  · refine ⟨?_, by simp only [cntT]; omega⟩
    simp only [goodS, h, Bool.true_and, List.all_eq_true]
    intro x hx
    have hm := List.mem_zipIdx hx
    have hi : x.2 < (Nd.kids t).length := by omega
    have := hall x.2 hi
    have e : x.1 = (Nd.kids t)[x.2] := by simpa using hm.2.2
    rw [e]; exact this

theorem nodesF_no (m : Nat) (t : T (m + 1)) (act : Bool) (d : Int) (h : (decide (d ≤ 24) && aloneS (show Nd (T m) from t) act) = false) : nodesF (m + 1) t act d = -1 := by
  unfold nodesF; rw [if_neg]; rintro ⟨h1, -⟩; simp only [goodS, h, Bool.false_and] at h1; cases h1

/-- l11Nodes at nodes of at most m levels. -/
def NodesSaid (m : Nat) : Prop := ∀ (S : Nat → Prop) (t : T m) (c0 c1 c2 c3 c4 : Value) (act : Bool) (d : Int) (w : World), NodeIn S w m t c0 c1 c2 c3 c4 → (∀ b, S b → b < w.heap.size) → szT m t ≤ 1048576 → 1 ≤ d → d ≤ 25 →
  Calls Tryz.prog 28 #[.agg #[c0, c1, c2, c3, c4], .bool act, .int .i64 d] w fun e w' => e = .returned (.int .i64 (nodesF m t act d)) ∧ Below w.heap.size w w'

theorem alone_kids {α : Type} (n : Nd α) (act : Bool) (h : aloneS n act = true) (h24 : n.sort ≠ 24) : n.kids.length = (kdV n.sort.toNat).length := by
  unfold aloneS at h
  rw [if_neg h24] at h
  simp only [Bool.and_eq_true, beq_iff_eq] at h
  exact h.2.1

theorem kdT_at (k i : Nat) (h24 : k ≠ 24) (hi : i < (bs (kdT k)).size) : (((bs (kdT k))[i]'hi).toNat : Int) = 97 ↔ actAt k i = true := by
  have hi' : i < (kdS k).length := by rw [bs_size] at hi; unfold kdT at hi; rw [if_neg h24] at hi; exact hi
  have e : (bs (kdT k))[i]'hi = (kdS k)[i] := by
    rw [bs_get]
    unfold kdT
    simp only [if_neg h24]
  rw [e]
  unfold actAt
  rw [decide_eq_true h24, Bool.true_and]
  simp only [List.getD_eq_getElem?_getD, List.getElem?_eq_getElem hi', Option.getD_some, beq_iff_eq]
  constructor
  · intro h; exact UInt8.toNat_inj.1 (by have : ((kdS k)[i]).toNat = 97 := by omega
                                         rw [this]; rfl)
  · intro h; rw [h]; rfl

set_option maxRecDepth 20000 in
set_option maxHeartbeats 4000000 in
theorem l11Nodes_step (m : Nat) (hn : NodesSaid m) : NodesSaid (m + 1) := by
  intro S t c0 c1 c2 c3 c4 act d w ht hB hszT hd1 hd7
  obtain ⟨rfl, rfl, rfl, hs, hw0, hw1, h3, h4, ⟨na, nl, nc, rfl, hc3⟩, ⟨ka, kl, kc, rfl, hc4⟩⟩ := ht
  obtain ⟨_, _, hv, -⟩ := id h3
  cases hv
  obtain ⟨_, _, hv, hlen, hkids⟩ := id h4
  cases hv
  have hst : (Nd.text t).size ≤ 1048576 := by simp only [szT] at hszT; omega
  have HSK : Hid (∀ k (h : k < (Nd.kids t).length), szT m (Nd.kids t)[k] ≤ 1048576) := fun k h => by
    have := sumL_mono (fun k => szT m k + 1) (Nd.kids t) _ (List.getElem_mem h)
    simp only [szT] at hszT; omega
  clear hszT
  have hb0 := (Below.refl w.heap.size w).alloc (Nat.le_refl _) (.cells #[.int .i64 (Nd.sort t), .int .i64 (Nd.num t), .string (Nd.text t), .slice na (Nd.names t).length nc, .slice ka (Nd.kids t).length kc] 30)
  by_cases hd6 : d ≤ 24
  case neg =>
    have HF : Hid (nodesF (m + 1) t act d = -1) := nodesF_no m t act d (by simp [hd6])
    go_enter Tryz.func28, Tryz.ntmps28
    go_wp2_with fail
    go_ret
    exact ⟨ret_int HF.out.symm, hb0⟩
  have hl' := h3.keep (same_below hb0 hB) (fun _ h => h)
  have HC : Hid (Calls Tryz.prog 34 _ _ _) := l11Alone_any S m (show Nd (T m) from t) na ka nc kc act _ hl' hlen (fun b hb => by have := hB b hb; simp; omega) hst
  have hK := h4.keepN (same_below hb0 hB) (fun _ h => h)
  have HD : Hid (d ≤ 24) := hd6
  unfold maxLen at hlen
  go_enter Tryz.func28, Tryz.ntmps28
  go_wp2_with fail
  refine HC.out.mono ?_
  rintro e w1 ⟨rfl, hb1⟩
  have hz1 := hb1.size
  simp at hz1
  have hb2 := below_step hb0 (by simp) hb1
  obtain ⟨m0, m1, m2, m3, m4⟩ := five_of ((hb1.block w.heap.size (by simp)).trans (heap_alloc_last w _))
  have hK1 := hK.keepN (same_below hb1 (fun b hb => by have := hB b hb; simp; omega)) (fun _ h => h)
  clear hb0 hl' HC hK hb1 h3 h4 hkids
  cases hal : aloneS (show Nd (T m) from t) act with
  | false =>
    have HF : Hid (nodesF (m + 1) t act d = -1) := nodesF_no m t act d (by rw [hal]; simp)
    clear hal
    go_wp2_with fail
    go_ret
    exact ⟨ret_int HF.out.symm, hb2⟩
  | true =>
    have HAL : Hid ((decide (d ≤ 24) && aloneS (show Nd (T m) from t) act) = true) := by show _ = _; rw [hal]; simp [hd6]
    have hr : 1 ≤ Nd.sort t ∧ Nd.sort t ≤ 43 := by
      have h := hal
      unfold aloneS at h
      simp only [Bool.and_eq_true, decide_eq_true_eq] at h
      exact h.1.1
    obtain ⟨k, hk⟩ : ∃ k : Nat, Nd.sort t = (k : Int) := ⟨(Nd.sort t).toNat, by omega⟩
    have hk44 : k < 44 := by omega
    have hkn : (Nd.sort t).toNat = k := by omega
    have HKl : Hid (k ≠ 24 → (Nd.kids t).length = (bs (kdT k)).size) := fun h24 => by
      have := alone_kids (show Nd (T m) from t) act hal (by show Nd.sort t ≠ 24; omega)
      rw [kdT_len k h24, ← hkn]; exact this
    have HKd : Hid (∀ w, Calls Tryz.prog 35 #[.int .i64 (k : Int)] w _) := fun w => l11Kids_any k hk44 w
    obtain ⟨_, _, hkv, -, hkids⟩ := hK1
    cases hkv
    have HAt : Hid (∀ i (hi : i < (bs (kdT k)).size), k ≠ 24 → ((((bs (kdT k))[i]'hi).toNat : Int) == 97) = actAt k i) := fun i hi h24 => by
      have := kdT_at k i h24 hi
      rw [Bool.eq_iff_iff, beq_iff_eq]; exact this
    have HA24 : Hid (k = 24 → ∀ i, actAt k i = false) := fun h i => by subst h; simp [actAt]
    have HK0 := hidF hk
    have HKn := hidF hkn
    rw [hk] at m0
    rw [hk]
    clear hal hr hk hkn
    generalize bs (kdT k) = q at *
    go_wp2_with fail
    refine (HKd.out _).mono ?_
    rintro e w1' ⟨rfl, rfl⟩
    go_wp2_with fail
    go_loopw [8, 9] (fun a i wr => ∃ j : Nat, j ≤ (Nd.kids t).length ∧ i = .int .i64 j ∧ a = .int .i64 (1 + (sumL (fun k => cntT m k) ((Nd.kids t).take j) : Int)) ∧ 1 + sumL (fun k => cntT m k) ((Nd.kids t).take j) ≤ 200 ∧
        Hid (∀ i (hi : i < (Nd.kids t).length), i < j → goodS m (Nd.kids t)[i] (actAt k i) (d + 1) = true) ∧ Below w1'.heap.size w1' wr) (fun _ i _ => (Nd.kids t).length - (intOf i).toNat)
    case atStart => exact ⟨0, Nat.zero_le _, rfl, by simp [sumL], by simp [sumL], fun i _ h => absurd h (Nat.not_lt_zero _), Below.refl _ _⟩
    case round =>
      obtain ⟨j, hj, rfl, rfl, hsum, HALL, hbel⟩ := hrel
      have hsz := hbel.size
      have q0 : wr.cell? ⟨w.heap.size, 0, none⟩ = some (.int .i64 (k : Int)) := (hbel.cell (p := ⟨w.heap.size, 0, none⟩) (by show w.heap.size < _; omega)).trans m0
      have q4 : wr.cell? ⟨w.heap.size, 4, none⟩ = some (.slice ka (Nd.kids t).length kc) := (hbel.cell (p := ⟨w.heap.size, 4, none⟩) (by show w.heap.size < _; omega)).trans m4
      generalize hgs : sumL (fun k => cntT m k) ((Nd.kids t).take j) = sm at *
      have HGS := hidF hgs
      clear hgs
      by_cases hlt : j < (Nd.kids t).length
      · obtain ⟨b, off, rfl, hbB, hcell⟩ := hkids (by intro h; rw [h] at hlt; simp at hlt)
        obtain ⟨x0, x1, x2, x3, x4, e0, e1, e2, e3, e4, hrr⟩ := hcell j hlt
        obtain ⟨y0, y1, y2, ya, yl, yc, za, zl, zc, rfl, rfl, rfl, rfl, rfl⟩ := hrr.shape
        have hbb := hB b hbB
        have f0 := (hbel.cell (p := ⟨b, off + j * 5, none⟩) (by show b < _; omega)).trans e0
        have f1 := (hbel.cell (p := ⟨b, off + j * 5 + 1, none⟩) (by show b < _; omega)).trans e1
        have f2 := (hbel.cell (p := ⟨b, off + j * 5 + 2, none⟩) (by show b < _; omega)).trans e2
        have f3 := (hbel.cell (p := ⟨b, off + j * 5 + 3, none⟩) (by show b < _; omega)).trans e3
        have f4 := (hbel.cell (p := ⟨b, off + j * 5 + 4, none⟩) (by show b < _; omega)).trans e4
        have qq := hrr.keep (same_below hbel (fun b hb => by have := hB b hb; omega)) (fun _ h => h)
        have HCk : Hid (∀ W', Below wr.heap.size wr W' → Calls Tryz.prog 28 #[.agg #[.int .i64 y0, .int .i64 y1, .string y2, .slice ya yl yc, .slice za zl zc], .bool (actAt k j), .int .i64 (d + 1)] W' fun e w' => e = .returned (.int .i64 (nodesF m (Nd.kids t)[j] (actAt k j) (d + 1))) ∧ Below wr.heap.size wr w' ∧ (w'.cell? ⟨w.heap.size, 0, none⟩ = some (.int .i64 (k : Int)) ∧ w'.cell? ⟨w.heap.size, 4, none⟩ = some (.slice (some ⟨b, off, none⟩) (Nd.kids t).length kc) ∧ w'.cell? ⟨b, off + j * 5, none⟩ = some (.int .i64 y0) ∧ w'.cell? ⟨b, off + j * 5 + 1, none⟩ = some (.int .i64 y1) ∧ w'.cell? ⟨b, off + j * 5 + 2, none⟩ = some (.string y2) ∧ w'.cell? ⟨b, off + j * 5 + 3, none⟩ = some (.slice ya yl yc) ∧ w'.cell? ⟨b, off + j * 5 + 4, none⟩ = some (.slice za zl zc))) := by
          intro W' hW'
          refine (hn S (Nd.kids t)[j] _ _ _ _ _ (actAt k j) (d + 1) W' (qq.keep (same_below hW' (fun b hb => by have := hB b hb; omega)) (fun _ h => h)) (fun b hb => by have := hB b hb; have := hW'.size; omega) (HSK.out j hlt) (by omega) (by have := HD.out; omega)).mono ?_
          rintro e w' ⟨rfl, hb⟩
          have hbb3 : Below wr.heap.size wr w' := hW'.trans (hb.mono hW'.size)
          exact ⟨rfl, hbb3, (hbb3.cell (p := ⟨w.heap.size, 0, none⟩) (by show w.heap.size < _; omega)).trans q0, (hbb3.cell (p := ⟨w.heap.size, 4, none⟩) (by show w.heap.size < _; omega)).trans q4, (hbb3.cell (p := ⟨b, off + j * 5, none⟩) (by show b < _; omega)).trans f0, (hbb3.cell (p := ⟨b, off + j * 5 + 1, none⟩) (by show b < _; omega)).trans f1, (hbb3.cell (p := ⟨b, off + j * 5 + 2, none⟩) (by show b < _; omega)).trans f2, (hbb3.cell (p := ⟨b, off + j * 5 + 3, none⟩) (by show b < _; omega)).trans f3, (hbb3.cell (p := ⟨b, off + j * 5 + 4, none⟩) (by show b < _; omega)).trans f4⟩
        have hD : Below wr.heap.size wr wr.drew := (Below.refl _ _).drew
        have hwd : IntKind.i64.wrap (d + 1) = d + 1 := by rw [IntKind.wrap_i64]; omega
        have HQ : Hid (k ≠ 24 → ∃ hi : j < q.size, (((q[j]'hi).toNat : Int) == 97) = actAt k j) := fun h24 => by
          have hi : j < q.size := by rw [← HKl.out h24]; exact hlt
          exact ⟨hi, HAt.out j hi h24⟩
        have hjl : (j : Int) < ((Nd.kids t).length : Int) := by omega
        have HKid : Hid (nodesF m (Nd.kids t)[j] (actAt k j) (d + 1) < 0 → nodesF (m + 1) t act d = -1) := fun h => nodesF_kid m t act d j hlt (by rw [HKn.out]; exact h)
        have HGet : Hid (0 ≤ nodesF m (Nd.kids t)[j] (actAt k j) (d + 1) → nodesF m (Nd.kids t)[j] (actAt k j) (d + 1) = cntT m (Nd.kids t)[j] ∧ goodS m (Nd.kids t)[j] (actAt k j) (d + 1) = true) := fun h => nodesF_get m _ _ _ h
        have HNext : Hid (sumL (fun k => cntT m k) ((Nd.kids t).take (j + 1)) = sm + cntT m (Nd.kids t)[j]) := by show _ = _; rw [sumL_take_succ _ _ _ hlt, HGS.out]
        have HStep : Hid (goodS m (Nd.kids t)[j] (actAt k j) (d + 1) = true → ∀ i (hi : i < (Nd.kids t).length), i < j + 1 → goodS m (Nd.kids t)[i] (actAt k i) (d + 1) = true) := fun hg i hi hij => by
          rcases Nat.lt_or_ge i j with h | h
          · exact HALL.out i hi h
          · have : i = j := by omega
            subst this; exact hg
        have hle := nodesF_le m (Nd.kids t)[j] (actAt k j) (d + 1)
        have HBel := hidF hbel
        have HB2 := hidF hb2
        clear hkids hcell e0 e1 e2 e3 e4 hrr qq hbel HALL
        generalize nodesF m (Nd.kids t)[j] (actAt k j) (d + 1) = r at *
        by_cases h24 : k = 24
        · have hact := HA24.out h24 j
          rw [hact] at HCk
          have d24 : ((k : Int) != 24) = false := by simp; omega
          have d24' : ((k : Int) == 24) = true := by simp; omega
          clear HQ h24
          go_wp2_with fail
          have hun := undef_yieldsN
          first | (go_region_held (fun w' => w'.cell? ⟨w.heap.size, 0, none⟩ = some (.int .i64 (k : Int)) ∧ w'.cell? ⟨w.heap.size, 4, none⟩ = some (.slice (some ⟨b, off, none⟩) (Nd.kids t).length kc) ∧ w'.cell? ⟨b, off + j * 5, none⟩ = some (.int .i64 y0) ∧ w'.cell? ⟨b, off + j * 5 + 1, none⟩ = some (.int .i64 y1) ∧ w'.cell? ⟨b, off + j * 5 + 2, none⟩ = some (.string y2) ∧ w'.cell? ⟨b, off + j * 5 + 3, none⟩ = some (.slice ya yl yc) ∧ w'.cell? ⟨b, off + j * 5 + 4, none⟩ = some (.slice za zl zc)) (first | with_reducible assumption | go_keep) (first | (go_at_call 28; refine (HCk.out _ hD).mono ?_; rintro e w2 ⟨rfl, hb4, hSS⟩))) | fail
          all_goals
            have hz2 := hb4.size
            have hb5 : Below w1'.heap.size w1' w2 := HBel.out.trans (hb4.mono hsz)
            have HB4 := hidF hb5
            have HB5 := hidF (HB2.out.trans (hb5.mono HB2.out.size))
            clear hb4 hb5 hSS f0 f1 f2 f3 f4 q0 q4 hD HCk
            by_cases hr0 : r < 0
            · go_wp2_with fail
              go_ret
              exact ⟨ret_int (HKid.out hr0).symm, HB5.out⟩
            · by_cases hmany : 200 < 1 + (sm : Int) + r
              · go_wp2_with fail
                go_ret
                refine ⟨ret_int (nodesF_many m t act d (j + 1) ?_).symm, HB5.out⟩
                have := HGet.out (by omega)
                rw [HNext.out]; omega
              · go_wp2_with fail
                go_roundw
                case rel =>
                  have hg := HGet.out (by omega)
                  refine ⟨j + 1, by omega, by go_num, ?_, ?_, HStep.out hg.2, HB4.out⟩
                  · rw [HNext.out, hg.1]; go_num
                  · rw [HNext.out]; omega
                case measure => simp [intOf]; omega
        · obtain ⟨hi, hqa⟩ := HQ.out h24
          have d24 : ((k : Int) != 24) = true := by simp; omega
          have d24' : ((k : Int) == 24) = false := by simp; omega
          have hji : (j : Int) < (q.size : Int) := by omega
          generalize actAt k j = av at *
          clear HQ
          go_wp2_with fail
          have hun := undef_yieldsN
          first | (go_region_held (fun w' => w'.cell? ⟨w.heap.size, 0, none⟩ = some (.int .i64 (k : Int)) ∧ w'.cell? ⟨w.heap.size, 4, none⟩ = some (.slice (some ⟨b, off, none⟩) (Nd.kids t).length kc) ∧ w'.cell? ⟨b, off + j * 5, none⟩ = some (.int .i64 y0) ∧ w'.cell? ⟨b, off + j * 5 + 1, none⟩ = some (.int .i64 y1) ∧ w'.cell? ⟨b, off + j * 5 + 2, none⟩ = some (.string y2) ∧ w'.cell? ⟨b, off + j * 5 + 3, none⟩ = some (.slice ya yl yc) ∧ w'.cell? ⟨b, off + j * 5 + 4, none⟩ = some (.slice za zl zc)) (first | with_reducible assumption | go_keep) (first | (go_at_call 28; refine (HCk.out _ hD).mono ?_; rintro e w2 ⟨rfl, hb4, hSS⟩))) | fail
          all_goals
            have hz2 := hb4.size
            have hb5 : Below w1'.heap.size w1' w2 := HBel.out.trans (hb4.mono hsz)
            have HB4 := hidF hb5
            have HB5 := hidF (HB2.out.trans (hb5.mono HB2.out.size))
            clear hb4 hb5 hSS f0 f1 f2 f3 f4 q0 q4 hD HCk
            by_cases hr0 : r < 0
            · go_wp2_with fail
              go_ret
              exact ⟨ret_int (HKid.out hr0).symm, HB5.out⟩
            · by_cases hmany : 200 < 1 + (sm : Int) + r
              · go_wp2_with fail
                go_ret
                refine ⟨ret_int (nodesF_many m t act d (j + 1) ?_).symm, HB5.out⟩
                have := HGet.out (by omega)
                rw [HNext.out]; omega
              · go_wp2_with fail
                go_roundw
                case rel =>
                  have hg := HGet.out (by omega)
                  refine ⟨j + 1, by omega, by go_num, ?_, ?_, HStep.out hg.2, HB4.out⟩
                  · rw [HNext.out, hg.1]; go_num
                  · rw [HNext.out]; omega
                case measure => simp [intOf]; omega
      · have hkl : j = (Nd.kids t).length := by omega
        have HF : Hid (nodesF (m + 1) t act d = 1 + (sm : Int)) := by
          show _ = _
          have h2 := HGS.out
          rw [hkl, List.take_length] at h2
          rw [nodesF_yes m t act d HAL.out (fun i hi => by rw [HKn.out]; exact HALL.out i hi (by omega)) (by rw [h2]; omega), h2]
        have hb5 := hb2.trans (hbel.mono hb2.size)
        clear hkl hkids HALL
        go_wp2_with fail
        go_ret
        exact ⟨ret_int HF.out.symm, hb5⟩

theorem l11Nodes_any : ∀ m, NodesSaid m := by
  intro m
  induction m with
  | zero => intro S t c0 c1 c2 c3 c4 act d w ht; exact ht.elim
  | succ m ih => exact l11Nodes_step m ih

end Go.Proofs.YtlinplghgamgbaaGreatDoor
