/-
  The program's writer of nodes: a node.
-/
import Derived.Test.YtlinplghgamgbaaGreatDoorB23
namespace Go.Proofs.YtlinplghgamgbaaGreatDoor
open Go.RowKit

theorem lenP_ge {α : Type} (lk : α → Nat) (n : Nd α) : ∀ (ps : List UInt8) (ns : List ByteArray) (ks : List α) (k : Nat), k ≤ lenP lk n ps ns ks k := by
  intro ps
  induction ps with
  | nil => intro ns ks k; rw [lenP.eq_def]; exact Nat.le_refl _
  | cons p ps ih =>
    intro ns ks k
    rw [lenP.eq_def]; dsimp only
    split
    · have := ih ns ks (wk k (leafL n.sort n.num n.text).length); have := wk_le k (leafL n.sort n.num n.text).length; omega
    split
    · have := ih ns ks (wk k (Lib.itoa n.num).length); have := wk_le k (Lib.itoa n.num).length; omega
    split
    · have := ih ns ks (wk k n.text.size); have := wk_le k n.text.size; omega
    split
    · have := ih ns ks (wk (lenFs lk n.names n.kids k) 3); have := wk_le (lenFs lk n.names n.kids k) 3; have := lenFs_ge lk n.names n.kids k; omega
    split
    · cases ns with
      | nil => exact Nat.le_refl _
      | cons a q => have := ih q ks (wk k a.size); have := wk_le k a.size; show k ≤ lenP lk n ps q ks (wk k a.size); omega
    · cases ks with
      | nil => exact Nat.le_refl _
      | cons x q => have := ih ns q (wk k (lk x)); have := wk_le k (lk x); show k ≤ lenP lk n ps ns q (wk k (lk x)); omega

theorem prt_T : ∀ k, k < 44 → 84 ∈ prt k → k ≠ 24 ∧ preL k = [84] := by decide
theorem prt_n : ∀ k, k < 44 → 35 ∈ prt k → k ≠ 24 ∧ (preL k = [35] ∨ preL k = [78, 35]) := by decide
theorem prt_F : ∀ k, k < 44 → 70 ∈ prt k → k = 24 := by decide
theorem num_most : ∀ k, k < 44 → 0 ≤ lst k ∧ mst k ≤ 99 := by decide

/-- What a node has that has just what its op has. -/
theorem just_has {α : Type} (po : α → Int) (n : Nd α) (k : Nat) (hk : n.sort = (k : Int)) (hj : justB po n = true) : k < 44 ∧ (84 ∈ prt k → aloneF n.sort n.num n.text [] 0 = true) ∧ (35 ∈ prt k → 0 ≤ n.num ∧ n.num ≤ 99) ∧ (70 ∈ prt k → n.names.length = n.kids.length) := by
  have hr : 1 ≤ n.sort ∧ n.sort ≤ 43 := by
    have h := hj
    unfold justB at h; simp only [Bool.and_eq_true, decide_eq_true_eq] at h; exact h.1
  have hk44 : k < 44 := by omega
  have hkn : n.sort.toNat = k := by omega
  refine ⟨hk44, fun h => ?_, fun h => ?_, fun h => ?_⟩
  · obtain ⟨h24, hp⟩ := prt_T k hk44 h
    rw [just_op po n hr.1 hr.2 (by omega), hkn, hp] at hj
    simp only [preC, Bool.and_eq_true] at hj
    exact hj.1.1
  · obtain ⟨h24, hp⟩ := prt_n k hk44 h
    rw [just_op po n hr.1 hr.2 (by omega), hkn] at hj
    have := num_most k hk44
    rcases hp with hp | hp <;> rw [hp] at hj <;> simp only [preC, Bool.and_eq_true, decide_eq_true_eq, hkn] at hj
    · have := hj.1.1.1; omega
    · have := hj.1.1.1; omega
  · have h24 := prt_F k hk44 h
    rw [just_form po n (by omega)] at hj
    simp only [Bool.and_eq_true] at hj
    have := hj.1; unfold fieldsB at this; simp only [Bool.and_eq_true, beq_iff_eq] at this; exact this.1

theorem Wrt.iter {B wb bk ib : Nat} {w0 w : World} {v : Value} {l : List UInt8} {s : ByteArray} {pos : Nat} (h : Wrt B wb bk w0 w v l) (hi : w.heap[ib]? = some (.stringIter s pos)) (h0 : w0.heap.size ≤ ib) (hB : B ≤ w0.heap.size) (pos' : Nat) : Wrt B wb bk w0 (w.iterAt ib s pos') v l := by
  have hwb : wb ≠ ib := by
    intro e; have := h.box; rw [e, hi] at this; cases this
  refine ⟨⟨h.own.1, ?_⟩, Lib.below_iterAt h.below (by omega) _ _, by rw [Lib.iterAt_size]; exact h.le, ?_, (Lib.iterAt_other w ib wb _ _ hwb).trans h.box, h.ge⟩
  · rcases h.own.2 with hn | ⟨g, cap, cur, hv, hbg, hg, hr⟩
    · exact .inl hn
    · refine .inr ⟨g, cap, cur, hv, hbg, ?_, hr⟩
      rw [Lib.iterAt_other w ib g _ _ (fun e => by rw [e, hi] at hg; cases hg)]
      exact hg
  · intro k o hk hb ho
    have hlt : k < w0.heap.size := (Array.getElem?_eq_some_iff.1 hk).1
    rw [Lib.iterAt_other w ib k _ _ (by omega)]
    exact h.kept k o hk hb ho

/-- A node, under way. -/
structure NodAt (m B wb bk : Nat) (W0 wr : World) (n : Nd (T m)) (d : Int) (k pos ib L : Nat) (a b v : Value) (l : List UInt8) (ns : List ByteArray) (ks : List (T m)) : Prop where
  wrt : Wrt B wb bk W0 wr v l
  iter : wr.heap[ib]? = some (.stringIter (bs (prt k)) pos)
  le : pos ≤ (prt k).length
  names : StrsIn (fun b => b < B) W0 ns a
  capn : CapOk a
  kids : RowIn (fun b => b < B) W0 (NodeIn (fun b => b < B) W0 m) ks b
  capk : CapOk b
  len : lenP (lenN m) n ((prt k).drop pos) ns ks l.length = L
  fit : fitP (poT m) ((prt k).drop pos) ns ks
  good : ks.all (fun x => goodN m x d) = true

set_option maxRecDepth 20000 in
set_option maxHeartbeats 4000000 in
theorem node_step (m : Nat) (hn : NodeW m) (B wb bk : Nat) (w : World) (v : Value) (l : List UInt8) (n : Nd (T m)) (na ka : Option Addr) (nc kc : Nat) (d : Int) (h : Wrt B wb bk w w v l) (hw0 : (Lit.int .i64 n.sort).wf = true) (hw1 : (Lit.int .i64 n.num).wf = true) (hx : n.text.size ≤ maxLen)
    (h3 : StrsIn (fun b => b < B) w n.names (.slice na n.names.length nc)) (hc3 : n.names.length ≤ nc) (h4 : RowIn (fun b => b < B) w (NodeIn (fun b => b < B) w m) n.kids (.slice ka n.kids.length kc)) (hc4 : n.kids.length ≤ kc) (hbk : Book w bk) (hbB : bk < B)
    (hj : justB (poT m) n = true) (hg : n.kids.all (fun x => goodN m x d) = true) (hl : wk l.length (lenF (lenN m) n) ≤ 800000) (hT : Tens B w) :
    Calls Tryz.prog 55 #[.pointer (some ⟨wb, 0, none⟩), .agg #[.int .i64 n.sort, .int .i64 n.num, .string n.text, .slice na n.names.length nc, .slice ka n.kids.length kc]] w (WPost B wb bk w (wk l.length (lenF (lenN m) n))) := by
  obtain ⟨k, hk⟩ : ∃ k : Nat, n.sort = (k : Int) := ⟨n.sort.toNat, by
    have h := hj
    unfold justB at h; simp only [Bool.and_eq_true, decide_eq_true_eq] at h; omega⟩
  obtain ⟨hk44, hasT, hasN, hasF⟩ := just_has (poT m) n k hk hj
  have hkn : n.sort.toNat = k := by omega
  obtain ⟨hlen, hfit⟩ := lenP_all (poT m) (lenN m) n hj l.length
  rw [hkn] at hlen hfit
  obtain ⟨W1, hW1⟩ : ∃ W1, W1 = w.alloc (.cells #[.int .i64 n.sort, .int .i64 n.num, .string n.text, .slice na n.names.length nc, .slice ka n.kids.length kc] 30) := ⟨_, rfl⟩
  obtain ⟨W2, hW2⟩ : ∃ W2, W2 = (W1.alloc (.cells #[.string (wrd k), .string (bs (prt k)), .int .i64 (lst k), .int .i64 (mst k)] 54)).drew := ⟨_, rfl⟩
  have hwW1 : Wrt B wb bk w W1 v l := by rw [hW1]; exact h.alloc _
  have hwW2 : Wrt B wb bk w W2 v l := by rw [hW2]; exact (hwW1.alloc _).drew
  have hwlt := h.lt
  have hBw := h.le
  have hz1 : W1.heap.size = w.heap.size + 1 := by rw [hW1]; simp
  have hz2 : W2.heap.size = w.heap.size + 2 := by rw [hW2]; show (W1.heap.push _).size = _; simp; exact hz1
  have hbox1 : W1.heap[w.heap.size]? = some (.cells #[.int .i64 n.sort, .int .i64 n.num, .string n.text, .slice na n.names.length nc, .slice ka n.kids.length kc] 30 (0, 0)) := by rw [hW1]; exact heap_alloc_last _ _
  have hbox2 : W2.heap[w.heap.size]? = some (.cells #[.int .i64 n.sort, .int .i64 n.num, .string n.text, .slice na n.names.length nc, .slice ka n.kids.length kc] 30 (0, 0)) := by
    rw [hW2]; exact (Below.heap_alloc _ _ _ (by show w.heap.size < W1.heap.size; omega)).trans hbox1
  have hrow2 : W2.heap[w.heap.size + 1]? = some (.cells #[.string (wrd k), .string (bs (prt k)), .int .i64 (lst k), .int .i64 (mst k)] 54 (0, 0)) := by
    rw [hW2, ← hz1]; exact heap_alloc_last W1 _
  obtain ⟨b0, b1, b2, b3⟩ := hbk k hk44
  have hblt := hbk.lt
  obtain ⟨r0, -, -⟩ := h.cells
  have y0 : W2.cell? ⟨w.heap.size + 1, 0, none⟩ = some (.string (wrd k)) := by simp [World.cell?, hrow2]
  rw [hk] at hW1
  have HW1 := hidF hW1
  have HW2 := hidF hW2
  have HB2 := hidF hwW2
  have HLn := hidF hlen
  have HFt := hidF hfit
  have HNd : Hid (NodeW m) := hn
  have HFE : Hid (∀ (wr : World) (v' : Value) (l' : List UInt8), Wrt B wb bk w wr v' l' → 70 ∈ prt k → lenFs (lenN m) n.names n.kids l'.length ≤ 800000 →
      Calls Tryz.prog 71 #[.pointer (some ⟨wb, 0, none⟩), .agg #[.int .i64 (k : Int), .int .i64 n.num, .string n.text, .slice na n.names.length nc, .slice ka n.kids.length kc]] wr (WPost B wb bk wr (wk (lenFs (lenN m) n.names n.kids l'.length) 3))) := by
    intro wr v' l' hw' hF hl'
    have := fields_any m hn B wb bk wr v' l' n na ka nc kc d hw'.here (h3.keep hw'.same (fun _ h => h)) (h4.keepN hw'.same (fun _ h => h)) (hasF hF) (hbk.keep (hw'.below.block bk hbB)) hbB hg hl' (hT.on hw'.below)
    rw [hk] at this
    exact this
  have HK : Hid (∀ (wr : World) (v' : Value) (l' : List UInt8) (t : T m) (c0 c1 c2 c3 c4 : Value), Wrt B wb bk w wr v' l' → NodeIn (fun b => b < B) wr m t c0 c1 c2 c3 c4 → goodN m t d = true → wk l'.length (lenN m t) ≤ 800000 →
      Calls Tryz.prog 55 #[.pointer (some ⟨wb, 0, none⟩), .agg #[c0, c1, c2, c3, c4]] wr (WPost B wb bk wr (wk l'.length (lenN m t)))) := by
    intro wr v' l' t c0 c1 c2 c3 c4 hw' hin hgd hl'
    exact hn B wb bk wr v' l' t _ _ _ _ _ d hw'.here hin (hbk.keep (hw'.below.block bk hbB)) hbB hgd hl' (hT.on hw'.below)
  have HTW : Hid (∀ (wr : World) (v' : Value) (l' : List UInt8), Wrt B wb bk w wr v' l' → 84 ∈ prt k → Calls Tryz.prog 69 #[.agg #[.int .i64 (k : Int), .int .i64 n.num, .string n.text, .slice none 0 0, .slice none 0 0]] wr fun e w' => e = .returned (.string (bs (leafL n.sort n.num n.text))) ∧ Below wr.heap.size wr w') := by
    intro wr v' l' hw' hT84
    have hTr : TensIn wr := fun w2 h2 => (hT.on hw'.below) w2 (h2.mono hw'.le)
    have := implWrite_any 1 (fun _ => False) (leafT n.sort n.num n.text) _ _ _ _ _ wr (leafT_of _ wr n.sort n.num n.text hw0 hw1 hx) (fun _ h => h.elim) hTr
    have e : textF 1 (leafT n.sort n.num n.text) = bs (leafL n.sort n.num n.text) := by
      unfold textF; rw [if_pos (by rw [leaf_ok]; exact hasT hT84)]; rfl
    rw [e, hk] at this
    rw [hk]
    exact this
  have HTN : Hid (∀ w, Calls Tryz.prog 62 #[.agg #[.int .i64 (k : Int), .int .i64 n.num, .string n.text, .slice na n.names.length nc, .slice ka n.kids.length kc]] w _) := fun w => treeOfNode_any k n.num n.text na ka n.names.length n.kids.length nc kc w
  have HIt : Hid (35 ∈ prt k → ∀ w, Calls Tryz.prog 70 #[.int .i64 n.num] w fun e w' => e = .returned (.string (bs (Lib.itoa n.num))) ∧ w' = w) := by
    intro hN w
    obtain ⟨h0, h99⟩ := hasN hN
    have := Tryz.strconv_Itoa_small n.num.toNat (by omega) w
    rw [show ((n.num.toNat : Nat) : Int) = n.num by omega] at this
    have e : Lib.itoa n.num = Lib.decDigits n.num.toNat := by unfold Lib.itoa; rw [if_neg (by omega)]
    rw [e]
    exact this
  have HN0 : Hid (StrsIn (fun b => b < B) w n.names (.slice na n.names.length nc) ∧ RowIn (fun b => b < B) w (NodeIn (fun b => b < B) w m) n.kids (.slice ka n.kids.length kc) ∧ n.names.length ≤ nc ∧ n.kids.length ≤ kc ∧ n.kids.all (fun x => goodN m x d) = true) := ⟨h3, h4, hc3, hc4, hg⟩
  rw [hk]
  have HKs := hidF hk
  have HLb : Hid (wk l.length (lenF (lenN m) n) ≤ 800000) := hl
  have HWd : Hid ((k < 5 → (wrd k).size = 0) ∧ (5 ≤ k → 1 ≤ (wrd k).size ∧ (wrd k).size ≤ 6)) := wrd_size k hk44
  clear h3 h4 hbk hn hT hj hg hasT hasN hasF hlen hfit hwW1 hwW2 hW1 hW2 hc3 hc4 hkn hl hw0 hw1 hx hk
  by_cases hk5 : k < 5
  · have he1 : ((wrd k).toList == []) = true := by
      have h0 := HWd.out.1 hk5
      have : (wrd k).toList = [] := by rw [ByteArray.toList_eq]; exact List.eq_nil_of_length_eq_zero (by simpa using h0)
      rw [this]; rfl
    have he2 : (wrd k).toList = [] := by simpa using he1
    have HB3 := HB2
    have HBX := hidF hbox2
    have HRW := hidF hrow2
    have HZ3 : Hid (w.heap.size + 2 ≤ W2.heap.size) := by show _ ≤ _; omega
    have HL3 : Hid (l.length = wk0 k l.length) := by show _ = _; unfold wk0; rw [if_pos (HWd.out.1 hk5)]
    clear hbox1 hbox2 hrow2 he1 hz2
    go_enter Tryz.func55, Tryz.ntmps55
    go_wp2_with fail
    go_region
    rw [← HW1.out, ← HW2.out]
    clear b0 b1 b2 b3 r0 hz1
    have hbW := HB3.out
    have hBW : B ≤ W2.heap.size := hbW.le
    have hzW : w.heap.size + 2 ≤ W2.heap.size := HZ3.out
    obtain ⟨p0, p1, p2, p3, p4⟩ := five_of HBX.out
    have p5 : W2.cell? ⟨w.heap.size + 1, 1, none⟩ = some (.string (bs (prt k))) := by simp [World.cell?, HRW.out]
    have HJ : Hid (∀ j, NodAt m B wb bk W2 ((W2.drewN j).iter (bs (prt k)) 0) n d k 0 W2.heap.size (wk l.length (lenF (lenN m) n)) (.slice na n.names.length nc) (.slice ka n.kids.length kc) v l n.names n.kids) := by
      intro j
      obtain ⟨g3, g4, g5, g6, g7⟩ := HN0.out
      refine ⟨?_, World.iter_heap (W2.drewN j) _ _, Nat.zero_le _, g3.keep hbW.same (fun _ h => h), ⟨_, _, _, rfl, g5⟩, g4.keepN hbW.same (fun _ h => h), ⟨_, _, _, rfl, g6⟩, ?_, ?_, g7⟩
      · have h0 : Wrt B wb bk W2 (W2.drewN j) v l := ⟨hbW.own, ⟨rfl, rfl, rfl, Nat.le_refl _, fun _ _ => rfl⟩, hbW.le, fun _ _ h _ _ => h, hbW.box, hbW.ge⟩
        exact h0.alloc _
      · have h0 := HLn.out
        rw [← HL3.out] at h0
        rw [List.drop_zero]; exact h0
      · rw [List.drop_zero]; exact HFt.out
    clear hbW
    go_wp2_with fail
    go_quiet (fail)
    go_wp2_with fail
    go_loopw [5, 6] (fun a b wr => ∃ pos v' l' ns ks, NodAt m B wb bk W2 wr n d k pos W2.heap.size (wk l.length (lenF (lenN m) n)) a b v' l' ns ks) (fun _ _ wr => (prt k).length - wr.iterPos W2.heap.size)
    case atStart => exact ⟨0, _, _, _, _, HJ.out _⟩
    case round =>
      obtain ⟨pos, v', l', ns, ks, hj⟩ := hrel
      have hle := hj.le
      have hit := hj.iter
      by_cases hp : pos < (prt k).length
      · have hnx0 := fun ty => Lib.run_next_ascii_at (P := Tryz.prog) wr W2.heap.size (bs (prt k)) pos ty hit (by rw [bs_size]; exact hp) (by rw [bs_get]; exact prt_ascii k hk44 _ (List.getElem_mem hp))
        rw [bs_get] at hnx0
        obtain ⟨V, hV⟩ : ∃ V, V = wr.iterAt W2.heap.size (bs (prt k)) (pos + 1) := ⟨_, rfl⟩
        rw [← hV] at hnx0
        have hwV : Wrt B wb bk W2 V v' l' := by rw [hV]; exact hj.wrt.iter hit (Nat.le_refl _) hBW _
        have hiV : V.heap[W2.heap.size]? = some (.stringIter (bs (prt k)) (pos + 1)) := by rw [hV]; exact Lib.iterAt_heap _ _ _ _ _ hit
        have hbV := hwV.kept w.heap.size _ HBX.out (by simp; omega) (fun c fz e => by cases e)
        obtain ⟨z0, z1, z2, z3, z4⟩ := five_of hbV
        rw [HKs.out] at z0
        have hdrop := List.drop_eq_getElem_cons hp
        have hmem := List.getElem_mem hp
        have hlenE := hj.len
        rw [hdrop] at hlenE
        have hfitE := hj.fit
        rw [hdrop] at hfitE
        obtain ⟨xa, xl, xc, rfl, hcx⟩ := hj.capn
        obtain ⟨ya, yl, yc, rfl, hcy⟩ := hj.capk
        have HI : Hid (wr.iterPos W2.heap.size = pos) := iterPos_of hit
        have HWv := hidF hwV
        have HWw := hidF (hwV.from HB3.out)
        have HJn := hidF hj
        have hle8 : wk l.length (lenF (lenN m) n) ≤ 800000 := HLb.out
        have HGo : Hid (∀ (w6 : World) (v6 : Value) (l6 : List UInt8), Wrt B wb bk V w6 v6 l6 → Wrt B wb bk W2 w6 v6 l6 ∧ w6.heap[W2.heap.size]? = some (.stringIter (bs (prt k)) (pos + 1)) ∧ w6.iterPos W2.heap.size = pos + 1) := by
          intro w6 v6 l6 h6
          have hi6 := h6.kept W2.heap.size _ hiV (by simp; omega) (fun c fz e => by cases e)
          exact ⟨h6.from hwV, hi6, iterPos_of hi6⟩
        have hge := fun q => lenP_ge (lenN m) n ((prt k).drop (pos + 1)) ns ks q
        clear hj hit hV hwV hiV hbV hdrop
        rcases prt_let k hk44 _ hmem with hq | hq | hq | hq | hq | hq | hq | hq
        · rw [hq] at hlenE hfitE hnx0 hmem
          have hnx : ∀ ty, (Instr.next (.pointer (some ⟨W2.heap.size, 0, none⟩)) true ty).run Tryz.prog wr = .ok (.tuple #[.bool true, .int .i64 (pos : Int), .int .i32 84]) V := hnx0
          rw [lp_T] at hlenE
          rw [fp_O _ (.inl rfl)] at hfitE
          have hg1 := hge (wk l'.length (leafL n.sort n.num n.text).length)
          rw [hlenE] at hg1
          have hg2 := wk_le l'.length (leafL n.sort n.num n.text).length
          have HLE := hidF hlenE
          have HFE2 := hidF hfitE
          have hb9 : l'.length + 1 + (bs (leafL n.sort n.num n.text)).size ≤ 900000 := by rw [bs_size]; omega
          clear hlenE hfitE hnx0 hge hg1 hg2 hq
          go_wp2_with fail
          refine (HTN.out _).mono ?_
          rintro e w4 ⟨rfl, hb4⟩
          have HC2 := hidF (HTW.out w4 v' l' (HWw.out.on hb4) hmem)
          have HW4 := hidF (HWv.out.here.on hb4)
          clear hb4
          go_wp2_with fail
          refine HC2.out.mono ?_
          rintro e w5 ⟨rfl, hb5⟩
          have HW5 := hidF (HW4.out.on hb5)
          have HC3 := hidF (word_any B wb bk w5 v' l' _ (HW4.out.on hb5).here hb9)
          clear hb5 HC2 HW4
          go_wp2_with fail
          refine HC3.out.mono ?_
          rintro e w6 ⟨rfl, v6, l6, hw6, hl6⟩
          have HW6 := hidF (hw6.from HW5.out)
          have HL6 : Hid (l6.length = wk l'.length (leafL n.sort n.num n.text).length) := by show _ = _; rw [hl6, bs_size]
          clear hw6 hl6 HC3 HW5
          have HE : Hid (NodAt m B wb bk W2 w6 n d k (pos + 1) W2.heap.size (wk l.length (lenF (lenN m) n)) (.slice xa xl xc) (.slice ya yl yc) v6 l6 ns ks ∧ w6.iterPos W2.heap.size = pos + 1) := by
            obtain ⟨g1, g2, g3⟩ := HGo.out w6 v6 l6 HW6.out
            exact ⟨⟨g1, g2, hp, HJn.out.names, HJn.out.capn, HJn.out.kids, HJn.out.capk, by rw [HL6.out]; exact HLE.out, HFE2.out, HJn.out.good⟩, g3⟩
          clear HW6 HL6 HLE HFE2 HGo hnx z0 z1 z2 z3 z4
          go_wp2_with fail
          go_roundw
          case rel => exact ⟨pos + 1, v6, l6, _, _, HE.out.1⟩
          case measure => rw [HE.out.2, HI.out]; omega
        · rw [hq] at hlenE hfitE hnx0 hmem
          have hnx : ∀ ty, (Instr.next (.pointer (some ⟨W2.heap.size, 0, none⟩)) true ty).run Tryz.prog wr = .ok (.tuple #[.bool true, .int .i64 (pos : Int), .int .i32 75]) V := hnx0
          rw [lp_K] at hlenE
          rw [fp_O _ (.inr (.inr (.inl rfl)))] at hfitE
          have hg1 := hge (wk l'.length n.text.size)
          rw [hlenE] at hg1
          have hg2 := wk_le l'.length n.text.size
          have HLE := hidF hlenE
          have HFE2 := hidF hfitE
          have HC3 := hidF (word_any B wb bk V v' l' n.text HWv.out.here (by omega))
          clear hlenE hfitE hnx0 hge hg1 hg2 hq
          go_wp2_with fail
          refine HC3.out.mono ?_
          rintro e w6 ⟨rfl, v6, l6, hw6, hl6⟩
          have HW6 := hidF hw6
          have HL6 := hidF hl6
          clear hw6 hl6 HC3
          have HE : Hid (NodAt m B wb bk W2 w6 n d k (pos + 1) W2.heap.size (wk l.length (lenF (lenN m) n)) (.slice xa xl xc) (.slice ya yl yc) v6 l6 ns ks ∧ w6.iterPos W2.heap.size = pos + 1) := by
            obtain ⟨g1, g2, g3⟩ := HGo.out w6 v6 l6 HW6.out
            exact ⟨⟨g1, g2, hp, HJn.out.names, HJn.out.capn, HJn.out.kids, HJn.out.capk, by rw [HL6.out]; exact HLE.out, HFE2.out, HJn.out.good⟩, g3⟩
          clear HW6 HL6 HLE HFE2 HGo hnx z0 z1 z2 z3 z4
          go_wp2_with fail
          go_roundw
          case rel => exact ⟨pos + 1, v6, l6, _, _, HE.out.1⟩
          case measure => rw [HE.out.2, HI.out]; omega
        · rw [hq] at hlenE hfitE hnx0 hmem
          have hnx : ∀ ty, (Instr.next (.pointer (some ⟨W2.heap.size, 0, none⟩)) true ty).run Tryz.prog wr = .ok (.tuple #[.bool true, .int .i64 (pos : Int), .int .i32 70]) V := hnx0
          rw [lp_F] at hlenE
          rw [fp_O _ (.inr (.inr (.inr rfl)))] at hfitE
          have hg1 := hge (wk (lenFs (lenN m) n.names n.kids l'.length) 3)
          rw [hlenE] at hg1
          have hg2 := wk_le (lenFs (lenN m) n.names n.kids l'.length) 3
          have HLE := hidF hlenE
          have HFE2 := hidF hfitE
          have HC3 := hidF (HFE.out V v' l' HWw.out hmem (by omega))
          clear hlenE hfitE hnx0 hge hg1 hg2 hq
          go_wp2_with fail
          refine HC3.out.mono ?_
          rintro e w6 ⟨rfl, v6, l6, hw6, hl6⟩
          have HW6 := hidF hw6
          have HL6 := hidF hl6
          clear hw6 hl6 HC3
          have HE : Hid (NodAt m B wb bk W2 w6 n d k (pos + 1) W2.heap.size (wk l.length (lenF (lenN m) n)) (.slice xa xl xc) (.slice ya yl yc) v6 l6 ns ks ∧ w6.iterPos W2.heap.size = pos + 1) := by
            obtain ⟨g1, g2, g3⟩ := HGo.out w6 v6 l6 HW6.out
            exact ⟨⟨g1, g2, hp, HJn.out.names, HJn.out.capn, HJn.out.kids, HJn.out.capk, by rw [HL6.out]; exact HLE.out, HFE2.out, HJn.out.good⟩, g3⟩
          clear HW6 HL6 HLE HFE2 HGo hnx z0 z1 z2 z3 z4
          go_wp2_with fail
          go_roundw
          case rel => exact ⟨pos + 1, v6, l6, _, _, HE.out.1⟩
          case measure => rw [HE.out.2, HI.out]; omega
        · rw [hq] at hlenE hfitE hnx0 hmem
          have hnx : ∀ ty, (Instr.next (.pointer (some ⟨W2.heap.size, 0, none⟩)) true ty).run Tryz.prog wr = .ok (.tuple #[.bool true, .int .i64 (pos : Int), .int .i32 35]) V := hnx0
          rw [lp_n] at hlenE
          rw [fp_O _ (.inr (.inl rfl))] at hfitE
          have hg1 := hge (wk l'.length (Lib.itoa n.num).length)
          rw [hlenE] at hg1
          have hg2 := wk_le l'.length (Lib.itoa n.num).length
          have HLE := hidF hlenE
          have HFE2 := hidF hfitE
          have HC2 := hidF (HIt.out hmem V)
          have HC3 := hidF (word_any B wb bk V v' l' (bs (Lib.itoa n.num)) HWv.out.here (by rw [bs_size]; omega))
          clear hlenE hfitE hnx0 hge hg1 hg2 hq
          go_wp2_with fail
          refine HC2.out.mono ?_
          rintro e w5 ⟨rfl, rfl⟩
          go_wp2_with fail
          refine HC3.out.mono ?_
          rintro e w6 ⟨rfl, v6, l6, hw6, hl6⟩
          have HW6 := hidF hw6
          have HL6 : Hid (l6.length = wk l'.length (Lib.itoa n.num).length) := by show _ = _; rw [hl6, bs_size]
          clear hw6 hl6 HC3 HC2
          have HE : Hid (NodAt m B wb bk W2 w6 n d k (pos + 1) W2.heap.size (wk l.length (lenF (lenN m) n)) (.slice xa xl xc) (.slice ya yl yc) v6 l6 ns ks ∧ w6.iterPos W2.heap.size = pos + 1) := by
            obtain ⟨g1, g2, g3⟩ := HGo.out w6 v6 l6 HW6.out
            exact ⟨⟨g1, g2, hp, HJn.out.names, HJn.out.capn, HJn.out.kids, HJn.out.capk, by rw [HL6.out]; exact HLE.out, HFE2.out, HJn.out.good⟩, g3⟩
          clear HW6 HL6 HLE HFE2 HGo hnx z0 z1 z2 z3 z4
          go_wp2_with fail
          go_roundw
          case rel => exact ⟨pos + 1, v6, l6, _, _, HE.out.1⟩
          case measure => rw [HE.out.2, HI.out]; omega
        · rw [hq] at hlenE hfitE hnx0 hmem
          have hnx : ∀ ty, (Instr.next (.pointer (some ⟨W2.heap.size, 0, none⟩)) true ty).run Tryz.prog wr = .ok (.tuple #[.bool true, .int .i64 (pos : Int), .int .i32 78]) V := hnx0
          obtain ⟨nm, nq, rfl, hfq⟩ := fp_N _ (.inl rfl) _ _ _ hfitE
          rw [lp_N _ _ (.inl rfl)] at hlenE
          have hg1 := lenP_ge (lenN m) n ((prt k).drop (pos + 1)) nq ks (wk l'.length nm.size)
          rw [hlenE] at hg1
          have hg2 := wk_le l'.length nm.size
          obtain ⟨_, _, hv, hxl, -, hcc⟩ := id HJn.out.names
          cases hv
          obtain ⟨b, off, rfl, hSb, hcell⟩ := hcc (by simp)
          have e0 := hcell 0 (by simp)
          have e1 := (HWv.out.below.cell (p := ⟨b, off, none⟩) hSb).trans e0
          simp only [List.getElem_cons_zero] at e1
          have hn1 : 1 ≤ (nm :: nq).length := by simp
          have htl := HJn.out.names.tail hcx
          clear hcc hcell e0
          generalize hkn : (nm :: nq).length = kn at *
          have hsl := slice_from (P := Tryz.prog) 22 1 Tryz.underlying22 (fun _ => by simp [go_sem]) (some ⟨b, off, none⟩) kn xc hn1
          obtain ⟨ta, tn, tc, hT2⟩ : ∃ ta tn tc, sliced (some ⟨b, off, none⟩) 1 kn xc 1 = .slice ta tn tc := ⟨_, _, _, rfl⟩
          have hcapT : CapOk (.slice ta tn tc) := by
            rw [← hT2]; exact ⟨_, _, _, rfl, by omega⟩
          rw [hT2] at hsl htl
          have HLE := hidF hlenE
          have HFE2 := hidF hfq
          have HTl := hidF htl
          have HTc := hidF hcapT
          have HC3 := hidF (word_any B wb bk V v' l' nm HWv.out.here (by omega))
          have hkn1 : (1 : Int) ≤ (kn : Int) := by omega
          unfold maxLen at hxl
          clear hlenE hfitE hnx0 hge hg1 hg2 hq htl hcapT hT2 hfq hkn
          go_wp2_with fail
          refine HC3.out.mono ?_
          rintro e w6 ⟨rfl, v6, l6, hw6, hl6⟩
          have HW6 := hidF hw6
          have HL6 := hidF hl6
          clear hw6 hl6 HC3
          have HE : Hid (NodAt m B wb bk W2 w6 n d k (pos + 1) W2.heap.size (wk l.length (lenF (lenN m) n)) (.slice ta tn tc) (.slice ya yl yc) v6 l6 nq ks ∧ w6.iterPos W2.heap.size = pos + 1) := by
            obtain ⟨g1, g2, g3⟩ := HGo.out w6 v6 l6 HW6.out
            exact ⟨⟨g1, g2, hp, HTl.out, HTc.out, HJn.out.kids, HJn.out.capk, by rw [HL6.out]; exact HLE.out, HFE2.out, HJn.out.good⟩, g3⟩
          clear HW6 HL6 HLE HFE2 HGo hnx z0 z1 z2 z3 z4 HTl HTc e1
          go_wp2_with fail
          go_roundw
          case rel => exact ⟨pos + 1, v6, l6, _, _, HE.out.1⟩
          case measure => rw [HE.out.2, HI.out]; omega
        · rw [hq] at hlenE hfitE hnx0 hmem
          have hnx : ∀ ty, (Instr.next (.pointer (some ⟨W2.heap.size, 0, none⟩)) true ty).run Tryz.prog wr = .ok (.tuple #[.bool true, .int .i64 (pos : Int), .int .i32 88]) V := hnx0
          obtain ⟨nm, nq, rfl, hfq⟩ := fp_N _ (.inr rfl) _ _ _ hfitE
          rw [lp_N _ _ (.inr rfl)] at hlenE
          have hg1 := lenP_ge (lenN m) n ((prt k).drop (pos + 1)) nq ks (wk l'.length nm.size)
          rw [hlenE] at hg1
          have hg2 := wk_le l'.length nm.size
          obtain ⟨_, _, hv, hxl, -, hcc⟩ := id HJn.out.names
          cases hv
          obtain ⟨b, off, rfl, hSb, hcell⟩ := hcc (by simp)
          have e0 := hcell 0 (by simp)
          have e1 := (HWv.out.below.cell (p := ⟨b, off, none⟩) hSb).trans e0
          simp only [List.getElem_cons_zero] at e1
          have hn1 : 1 ≤ (nm :: nq).length := by simp
          have htl := HJn.out.names.tail hcx
          clear hcc hcell e0
          generalize hkn : (nm :: nq).length = kn at *
          have hsl := slice_from (P := Tryz.prog) 22 1 Tryz.underlying22 (fun _ => by simp [go_sem]) (some ⟨b, off, none⟩) kn xc hn1
          obtain ⟨ta, tn, tc, hT2⟩ : ∃ ta tn tc, sliced (some ⟨b, off, none⟩) 1 kn xc 1 = .slice ta tn tc := ⟨_, _, _, rfl⟩
          have hcapT : CapOk (.slice ta tn tc) := by
            rw [← hT2]; exact ⟨_, _, _, rfl, by omega⟩
          rw [hT2] at hsl htl
          have HLE := hidF hlenE
          have HFE2 := hidF hfq
          have HTl := hidF htl
          have HTc := hidF hcapT
          have HC3 := hidF (word_any B wb bk V v' l' nm HWv.out.here (by omega))
          have hkn1 : (1 : Int) ≤ (kn : Int) := by omega
          unfold maxLen at hxl
          clear hlenE hfitE hnx0 hge hg1 hg2 hq htl hcapT hT2 hfq hkn
          go_wp2_with fail
          refine HC3.out.mono ?_
          rintro e w6 ⟨rfl, v6, l6, hw6, hl6⟩
          have HW6 := hidF hw6
          have HL6 := hidF hl6
          clear hw6 hl6 HC3
          have HE : Hid (NodAt m B wb bk W2 w6 n d k (pos + 1) W2.heap.size (wk l.length (lenF (lenN m) n)) (.slice ta tn tc) (.slice ya yl yc) v6 l6 nq ks ∧ w6.iterPos W2.heap.size = pos + 1) := by
            obtain ⟨g1, g2, g3⟩ := HGo.out w6 v6 l6 HW6.out
            exact ⟨⟨g1, g2, hp, HTl.out, HTc.out, HJn.out.kids, HJn.out.capk, by rw [HL6.out]; exact HLE.out, HFE2.out, HJn.out.good⟩, g3⟩
          clear HW6 HL6 HLE HFE2 HGo hnx z0 z1 z2 z3 z4 HTl HTc e1
          go_wp2_with fail
          go_roundw
          case rel => exact ⟨pos + 1, v6, l6, _, _, HE.out.1⟩
          case measure => rw [HE.out.2, HI.out]; omega
        · rw [hq] at hlenE hfitE hnx0 hmem
          have hnx : ∀ ty, (Instr.next (.pointer (some ⟨W2.heap.size, 0, none⟩)) true ty).run Tryz.prog wr = .ok (.tuple #[.bool true, .int .i64 (pos : Int), .int .i32 86]) V := hnx0
          obtain ⟨kx, kq, rfl, -, hfq⟩ := fp_V _ (.inl rfl) _ _ _ hfitE
          rw [lp_V _ _ (.inl rfl)] at hlenE
          have hg1 := lenP_ge (lenN m) n ((prt k).drop (pos + 1)) ns kq (wk l'.length (lenN m kx))
          rw [hlenE] at hg1
          have hg2 := wk_le l'.length (lenN m kx)
          have hgd := HJn.out.good
          simp only [List.all_cons, Bool.and_eq_true] at hgd
          obtain ⟨_, _, hv, hxl, hcc⟩ := id HJn.out.kids
          cases hv
          obtain ⟨b, off, rfl, hSb, hcell⟩ := hcc (by simp)
          obtain ⟨d0, d1, d2, d3, d4, k0, k1, k2, k3, k4, hin⟩ := hcell 0 (by simp)
          obtain ⟨x0, x1, x2, xxa, xxl, xxc, yya, yyl, yyc, rfl, rfl, rfl, rfl, rfl⟩ := hin.shape
          simp only [Nat.zero_mul, Nat.add_zero, List.getElem_cons_zero] at k0 k1 k2 k3 k4 hin
          have o0 := (HWv.out.below.cell (p := ⟨b, off, none⟩) hSb).trans k0
          have o1 := (HWv.out.below.cell (p := ⟨b, off + 1, none⟩) hSb).trans k1
          have o2 := (HWv.out.below.cell (p := ⟨b, off + 2, none⟩) hSb).trans k2
          have o3 := (HWv.out.below.cell (p := ⟨b, off + 3, none⟩) hSb).trans k3
          have o4 := (HWv.out.below.cell (p := ⟨b, off + 4, none⟩) hSb).trans k4
          have HC3 := hidF (HK.out V v' l' kx _ _ _ _ _ HWw.out (hin.keep HWv.out.same (fun _ h => h)) hgd.1 (by omega))
          have hn1 : 1 ≤ (kx :: kq).length := by simp
          have htl := HJn.out.kids.tail hcy
          clear hcell hcc k0 k1 k2 k3 k4 hin
          generalize hkn : (kx :: kq).length = kn at *
          have hsl := slice_from (P := Tryz.prog) 28 5 Tryz.underlying28 (fun _ => by simp [go_sem]) (some ⟨b, off, none⟩) kn yc hn1
          obtain ⟨ta, tn, tc, hT2⟩ : ∃ ta tn tc, sliced (some ⟨b, off, none⟩) 1 kn yc 5 = .slice ta tn tc := ⟨_, _, _, rfl⟩
          have hcapT : CapOk (.slice ta tn tc) := by
            rw [← hT2]; exact ⟨_, _, _, rfl, by omega⟩
          rw [hT2] at hsl htl
          have HLE := hidF hlenE
          have HFE2 := hidF hfq
          have HTl := hidF htl
          have HTc := hidF hcapT
          have HGd := hidF hgd.2
          have hkn1 : (1 : Int) ≤ (kn : Int) := by omega
          unfold maxLen at hxl
          clear hlenE hfitE hnx0 hge hg1 hg2 hq htl hcapT hT2 hfq hkn hgd
          go_wp2_with fail
          refine HC3.out.mono ?_
          rintro e w6 ⟨rfl, v6, l6, hw6, hl6⟩
          have HW6 := hidF hw6
          have HL6 := hidF hl6
          clear hw6 hl6 HC3
          have HE : Hid (NodAt m B wb bk W2 w6 n d k (pos + 1) W2.heap.size (wk l.length (lenF (lenN m) n)) (.slice xa xl xc) (.slice ta tn tc) v6 l6 ns kq ∧ w6.iterPos W2.heap.size = pos + 1) := by
            obtain ⟨g1, g2, g3⟩ := HGo.out w6 v6 l6 HW6.out
            exact ⟨⟨g1, g2, hp, HJn.out.names, HJn.out.capn, HTl.out, HTc.out, by rw [HL6.out]; exact HLE.out, HFE2.out, HGd.out⟩, g3⟩
          clear HW6 HL6 HLE HFE2 HGo hnx z0 z1 z2 z3 z4 HTl HTc HGd o0 o1 o2 o3 o4
          go_wp2_with fail
          go_roundw
          case rel => exact ⟨pos + 1, v6, l6, _, _, HE.out.1⟩
          case measure => rw [HE.out.2, HI.out]; omega
        · rw [hq] at hlenE hfitE hnx0 hmem
          have hnx : ∀ ty, (Instr.next (.pointer (some ⟨W2.heap.size, 0, none⟩)) true ty).run Tryz.prog wr = .ok (.tuple #[.bool true, .int .i64 (pos : Int), .int .i32 65]) V := hnx0
          obtain ⟨kx, kq, rfl, -, hfq⟩ := fp_V _ (.inr rfl) _ _ _ hfitE
          rw [lp_V _ _ (.inr rfl)] at hlenE
          have hg1 := lenP_ge (lenN m) n ((prt k).drop (pos + 1)) ns kq (wk l'.length (lenN m kx))
          rw [hlenE] at hg1
          have hg2 := wk_le l'.length (lenN m kx)
          have hgd := HJn.out.good
          simp only [List.all_cons, Bool.and_eq_true] at hgd
          obtain ⟨_, _, hv, hxl, hcc⟩ := id HJn.out.kids
          cases hv
          obtain ⟨b, off, rfl, hSb, hcell⟩ := hcc (by simp)
          obtain ⟨d0, d1, d2, d3, d4, k0, k1, k2, k3, k4, hin⟩ := hcell 0 (by simp)
          obtain ⟨x0, x1, x2, xxa, xxl, xxc, yya, yyl, yyc, rfl, rfl, rfl, rfl, rfl⟩ := hin.shape
          simp only [Nat.zero_mul, Nat.add_zero, List.getElem_cons_zero] at k0 k1 k2 k3 k4 hin
          have o0 := (HWv.out.below.cell (p := ⟨b, off, none⟩) hSb).trans k0
          have o1 := (HWv.out.below.cell (p := ⟨b, off + 1, none⟩) hSb).trans k1
          have o2 := (HWv.out.below.cell (p := ⟨b, off + 2, none⟩) hSb).trans k2
          have o3 := (HWv.out.below.cell (p := ⟨b, off + 3, none⟩) hSb).trans k3
          have o4 := (HWv.out.below.cell (p := ⟨b, off + 4, none⟩) hSb).trans k4
          have HC3 := hidF (HK.out V v' l' kx _ _ _ _ _ HWw.out (hin.keep HWv.out.same (fun _ h => h)) hgd.1 (by omega))
          have hn1 : 1 ≤ (kx :: kq).length := by simp
          have htl := HJn.out.kids.tail hcy
          clear hcell hcc k0 k1 k2 k3 k4 hin
          generalize hkn : (kx :: kq).length = kn at *
          have hsl := slice_from (P := Tryz.prog) 28 5 Tryz.underlying28 (fun _ => by simp [go_sem]) (some ⟨b, off, none⟩) kn yc hn1
          obtain ⟨ta, tn, tc, hT2⟩ : ∃ ta tn tc, sliced (some ⟨b, off, none⟩) 1 kn yc 5 = .slice ta tn tc := ⟨_, _, _, rfl⟩
          have hcapT : CapOk (.slice ta tn tc) := by
            rw [← hT2]; exact ⟨_, _, _, rfl, by omega⟩
          rw [hT2] at hsl htl
          have HLE := hidF hlenE
          have HFE2 := hidF hfq
          have HTl := hidF htl
          have HTc := hidF hcapT
          have HGd := hidF hgd.2
          have hkn1 : (1 : Int) ≤ (kn : Int) := by omega
          unfold maxLen at hxl
          clear hlenE hfitE hnx0 hge hg1 hg2 hq htl hcapT hT2 hfq hkn hgd
          go_wp2_with fail
          refine HC3.out.mono ?_
          rintro e w6 ⟨rfl, v6, l6, hw6, hl6⟩
          have HW6 := hidF hw6
          have HL6 := hidF hl6
          clear hw6 hl6 HC3
          have HE : Hid (NodAt m B wb bk W2 w6 n d k (pos + 1) W2.heap.size (wk l.length (lenF (lenN m) n)) (.slice xa xl xc) (.slice ta tn tc) v6 l6 ns kq ∧ w6.iterPos W2.heap.size = pos + 1) := by
            obtain ⟨g1, g2, g3⟩ := HGo.out w6 v6 l6 HW6.out
            exact ⟨⟨g1, g2, hp, HJn.out.names, HJn.out.capn, HTl.out, HTc.out, by rw [HL6.out]; exact HLE.out, HFE2.out, HGd.out⟩, g3⟩
          clear HW6 HL6 HLE HFE2 HGo hnx z0 z1 z2 z3 z4 HTl HTc HGd o0 o1 o2 o3 o4
          go_wp2_with fail
          go_roundw
          case rel => exact ⟨pos + 1, v6, l6, _, _, HE.out.1⟩
          case measure => rw [HE.out.2, HI.out]; omega
      · have hnx := fun ty => Lib.run_next_end_at (P := Tryz.prog) wr W2.heap.size (bs (prt k)) pos ty hit (by rw [bs_size]; exact hp)
        have hlenE := hj.len
        rw [List.drop_of_length_le (by omega), lenP] at hlenE
        have HP : Hid (WPost B wb bk w (wk l.length (lenF (lenN m) n)) (.returned (.tuple #[])) wr) := ⟨rfl, v', l', hj.wrt.from HB3.out, hlenE⟩
        obtain ⟨xa, xl, xc, rfl, hcx⟩ := hj.capn
        obtain ⟨ya, yl, yc, rfl, hcy⟩ := hj.capk
        clear hj hit hlenE
        go_wp2_with fail
        refine bodyPost_end (results_none rfl _ _ _) rfl ?_
        exact HP.out
  · have he1 : ((wrd k).toList == []) = false := by
      have h0 := (HWd.out.2 (by omega)).1
      have : ¬ (wrd k).toList = [] := by
        rw [ByteArray.toList_eq]; intro e; have h1 : (wrd k).data.toList.length = 0 := by rw [e]; rfl
        have h2 : (wrd k).data.toList.length = (wrd k).size := by simp
        omega
      simpa using this
    have he2 : ¬ (wrd k).toList = [] := by simpa using he1
    have HC0 := hidF (word_any B wb bk W2 v l (wrd k) HB2.out.here (by have := HLb.out; have := wk_le l.length (lenF (lenN m) n); have := (HWd.out.2 (by omega)).2; omega))
    have HBX2 := hidF hbox2
    have HRW2 := hidF hrow2
    have hz2' : w.heap.size + 2 ≤ W2.heap.size := by omega
    clear hbox1 hbox2 hrow2
    go_enter Tryz.func55, Tryz.ntmps55
    go_wp2_with fail
    go_region
    rw [← HW1.out, ← HW2.out]
    clear b0 b1 b2 b3 r0 hz1
    go_wp2_with fail
    refine HC0.out.mono ?_
    rintro e W3 ⟨rfl, v3, l3, hw3, hl3⟩
    have HB3 := hidF (hw3.from HB2.out)
    have HBX : Hid (W3.heap[w.heap.size]? = _) := hw3.kept w.heap.size _ HBX2.out (by simp; omega) (fun c fz e => by cases e)
    have HRW : Hid (W3.heap[w.heap.size + 1]? = _) := hw3.kept (w.heap.size + 1) _ HRW2.out (by simp; omega) (fun c fz e => by cases e)
    have HZ3 : Hid (w.heap.size + 2 ≤ W3.heap.size) := by
      have := hw3.kept (w.heap.size + 1) _ HRW2.out (by simp; omega) (fun c fz e => by cases e)
      have := (Array.getElem?_eq_some_iff.1 this).1
      show _ ≤ _; omega
    have HL3 : Hid (l3.length = wk0 k l.length) := by show _ = _; unfold wk0; rw [if_neg (by have := (HWd.out.2 (by omega)).1; omega)]; exact hl3
    clear hw3 hl3 HC0 y0 HBX2 HRW2 hz2 HB2
    have hbW := HB3.out
    have hBW : B ≤ W3.heap.size := hbW.le
    have hzW : w.heap.size + 2 ≤ W3.heap.size := HZ3.out
    obtain ⟨p0, p1, p2, p3, p4⟩ := five_of HBX.out
    have p5 : W3.cell? ⟨w.heap.size + 1, 1, none⟩ = some (.string (bs (prt k))) := by simp [World.cell?, HRW.out]
    have HJ : Hid (∀ j, NodAt m B wb bk W3 ((W3.drewN j).iter (bs (prt k)) 0) n d k 0 W3.heap.size (wk l.length (lenF (lenN m) n)) (.slice na n.names.length nc) (.slice ka n.kids.length kc) v3 l3 n.names n.kids) := by
      intro j
      obtain ⟨g3, g4, g5, g6, g7⟩ := HN0.out
      refine ⟨?_, World.iter_heap (W3.drewN j) _ _, Nat.zero_le _, g3.keep hbW.same (fun _ h => h), ⟨_, _, _, rfl, g5⟩, g4.keepN hbW.same (fun _ h => h), ⟨_, _, _, rfl, g6⟩, ?_, ?_, g7⟩
      · have h0 : Wrt B wb bk W3 (W3.drewN j) v3 l3 := ⟨hbW.own, ⟨rfl, rfl, rfl, Nat.le_refl _, fun _ _ => rfl⟩, hbW.le, fun _ _ h _ _ => h, hbW.box, hbW.ge⟩
        exact h0.alloc _
      · have h0 := HLn.out
        rw [← HL3.out] at h0
        rw [List.drop_zero]; exact h0
      · rw [List.drop_zero]; exact HFt.out
    clear hbW
    go_wp2_with fail
    go_quiet (fail)
    go_wp2_with fail
    go_loopw [5, 6] (fun a b wr => ∃ pos v' l' ns ks, NodAt m B wb bk W3 wr n d k pos W3.heap.size (wk l.length (lenF (lenN m) n)) a b v' l' ns ks) (fun _ _ wr => (prt k).length - wr.iterPos W3.heap.size)
    case atStart => exact ⟨0, _, _, _, _, HJ.out _⟩
    case round =>
      obtain ⟨pos, v', l', ns, ks, hj⟩ := hrel
      have hle := hj.le
      have hit := hj.iter
      by_cases hp : pos < (prt k).length
      · have hnx0 := fun ty => Lib.run_next_ascii_at (P := Tryz.prog) wr W3.heap.size (bs (prt k)) pos ty hit (by rw [bs_size]; exact hp) (by rw [bs_get]; exact prt_ascii k hk44 _ (List.getElem_mem hp))
        rw [bs_get] at hnx0
        obtain ⟨V, hV⟩ : ∃ V, V = wr.iterAt W3.heap.size (bs (prt k)) (pos + 1) := ⟨_, rfl⟩
        rw [← hV] at hnx0
        have hwV : Wrt B wb bk W3 V v' l' := by rw [hV]; exact hj.wrt.iter hit (Nat.le_refl _) hBW _
        have hiV : V.heap[W3.heap.size]? = some (.stringIter (bs (prt k)) (pos + 1)) := by rw [hV]; exact Lib.iterAt_heap _ _ _ _ _ hit
        have hbV := hwV.kept w.heap.size _ HBX.out (by simp; omega) (fun c fz e => by cases e)
        obtain ⟨z0, z1, z2, z3, z4⟩ := five_of hbV
        rw [HKs.out] at z0
        have hdrop := List.drop_eq_getElem_cons hp
        have hmem := List.getElem_mem hp
        have hlenE := hj.len
        rw [hdrop] at hlenE
        have hfitE := hj.fit
        rw [hdrop] at hfitE
        obtain ⟨xa, xl, xc, rfl, hcx⟩ := hj.capn
        obtain ⟨ya, yl, yc, rfl, hcy⟩ := hj.capk
        have HI : Hid (wr.iterPos W3.heap.size = pos) := iterPos_of hit
        have HWv := hidF hwV
        have HWw := hidF (hwV.from HB3.out)
        have HJn := hidF hj
        have hle8 : wk l.length (lenF (lenN m) n) ≤ 800000 := HLb.out
        have HGo : Hid (∀ (w6 : World) (v6 : Value) (l6 : List UInt8), Wrt B wb bk V w6 v6 l6 → Wrt B wb bk W3 w6 v6 l6 ∧ w6.heap[W3.heap.size]? = some (.stringIter (bs (prt k)) (pos + 1)) ∧ w6.iterPos W3.heap.size = pos + 1) := by
          intro w6 v6 l6 h6
          have hi6 := h6.kept W3.heap.size _ hiV (by simp; omega) (fun c fz e => by cases e)
          exact ⟨h6.from hwV, hi6, iterPos_of hi6⟩
        have hge := fun q => lenP_ge (lenN m) n ((prt k).drop (pos + 1)) ns ks q
        clear hj hit hV hwV hiV hbV hdrop
        rcases prt_let k hk44 _ hmem with hq | hq | hq | hq | hq | hq | hq | hq
        · rw [hq] at hlenE hfitE hnx0 hmem
          have hnx : ∀ ty, (Instr.next (.pointer (some ⟨W3.heap.size, 0, none⟩)) true ty).run Tryz.prog wr = .ok (.tuple #[.bool true, .int .i64 (pos : Int), .int .i32 84]) V := hnx0
          rw [lp_T] at hlenE
          rw [fp_O _ (.inl rfl)] at hfitE
          have hg1 := hge (wk l'.length (leafL n.sort n.num n.text).length)
          rw [hlenE] at hg1
          have hg2 := wk_le l'.length (leafL n.sort n.num n.text).length
          have HLE := hidF hlenE
          have HFE2 := hidF hfitE
          have hb9 : l'.length + 1 + (bs (leafL n.sort n.num n.text)).size ≤ 900000 := by rw [bs_size]; omega
          clear hlenE hfitE hnx0 hge hg1 hg2 hq
          go_wp2_with fail
          refine (HTN.out _).mono ?_
          rintro e w4 ⟨rfl, hb4⟩
          have HC2 := hidF (HTW.out w4 v' l' (HWw.out.on hb4) hmem)
          have HW4 := hidF (HWv.out.here.on hb4)
          clear hb4
          go_wp2_with fail
          refine HC2.out.mono ?_
          rintro e w5 ⟨rfl, hb5⟩
          have HW5 := hidF (HW4.out.on hb5)
          have HC3 := hidF (word_any B wb bk w5 v' l' _ (HW4.out.on hb5).here hb9)
          clear hb5 HC2 HW4
          go_wp2_with fail
          refine HC3.out.mono ?_
          rintro e w6 ⟨rfl, v6, l6, hw6, hl6⟩
          have HW6 := hidF (hw6.from HW5.out)
          have HL6 : Hid (l6.length = wk l'.length (leafL n.sort n.num n.text).length) := by show _ = _; rw [hl6, bs_size]
          clear hw6 hl6 HC3 HW5
          have HE : Hid (NodAt m B wb bk W3 w6 n d k (pos + 1) W3.heap.size (wk l.length (lenF (lenN m) n)) (.slice xa xl xc) (.slice ya yl yc) v6 l6 ns ks ∧ w6.iterPos W3.heap.size = pos + 1) := by
            obtain ⟨g1, g2, g3⟩ := HGo.out w6 v6 l6 HW6.out
            exact ⟨⟨g1, g2, hp, HJn.out.names, HJn.out.capn, HJn.out.kids, HJn.out.capk, by rw [HL6.out]; exact HLE.out, HFE2.out, HJn.out.good⟩, g3⟩
          clear HW6 HL6 HLE HFE2 HGo hnx z0 z1 z2 z3 z4
          go_wp2_with fail
          go_roundw
          case rel => exact ⟨pos + 1, v6, l6, _, _, HE.out.1⟩
          case measure => rw [HE.out.2, HI.out]; omega
        · rw [hq] at hlenE hfitE hnx0 hmem
          have hnx : ∀ ty, (Instr.next (.pointer (some ⟨W3.heap.size, 0, none⟩)) true ty).run Tryz.prog wr = .ok (.tuple #[.bool true, .int .i64 (pos : Int), .int .i32 75]) V := hnx0
          rw [lp_K] at hlenE
          rw [fp_O _ (.inr (.inr (.inl rfl)))] at hfitE
          have hg1 := hge (wk l'.length n.text.size)
          rw [hlenE] at hg1
          have hg2 := wk_le l'.length n.text.size
          have HLE := hidF hlenE
          have HFE2 := hidF hfitE
          have HC3 := hidF (word_any B wb bk V v' l' n.text HWv.out.here (by omega))
          clear hlenE hfitE hnx0 hge hg1 hg2 hq
          go_wp2_with fail
          refine HC3.out.mono ?_
          rintro e w6 ⟨rfl, v6, l6, hw6, hl6⟩
          have HW6 := hidF hw6
          have HL6 := hidF hl6
          clear hw6 hl6 HC3
          have HE : Hid (NodAt m B wb bk W3 w6 n d k (pos + 1) W3.heap.size (wk l.length (lenF (lenN m) n)) (.slice xa xl xc) (.slice ya yl yc) v6 l6 ns ks ∧ w6.iterPos W3.heap.size = pos + 1) := by
            obtain ⟨g1, g2, g3⟩ := HGo.out w6 v6 l6 HW6.out
            exact ⟨⟨g1, g2, hp, HJn.out.names, HJn.out.capn, HJn.out.kids, HJn.out.capk, by rw [HL6.out]; exact HLE.out, HFE2.out, HJn.out.good⟩, g3⟩
          clear HW6 HL6 HLE HFE2 HGo hnx z0 z1 z2 z3 z4
          go_wp2_with fail
          go_roundw
          case rel => exact ⟨pos + 1, v6, l6, _, _, HE.out.1⟩
          case measure => rw [HE.out.2, HI.out]; omega
        · rw [hq] at hlenE hfitE hnx0 hmem
          have hnx : ∀ ty, (Instr.next (.pointer (some ⟨W3.heap.size, 0, none⟩)) true ty).run Tryz.prog wr = .ok (.tuple #[.bool true, .int .i64 (pos : Int), .int .i32 70]) V := hnx0
          rw [lp_F] at hlenE
          rw [fp_O _ (.inr (.inr (.inr rfl)))] at hfitE
          have hg1 := hge (wk (lenFs (lenN m) n.names n.kids l'.length) 3)
          rw [hlenE] at hg1
          have hg2 := wk_le (lenFs (lenN m) n.names n.kids l'.length) 3
          have HLE := hidF hlenE
          have HFE2 := hidF hfitE
          have HC3 := hidF (HFE.out V v' l' HWw.out hmem (by omega))
          clear hlenE hfitE hnx0 hge hg1 hg2 hq
          go_wp2_with fail
          refine HC3.out.mono ?_
          rintro e w6 ⟨rfl, v6, l6, hw6, hl6⟩
          have HW6 := hidF hw6
          have HL6 := hidF hl6
          clear hw6 hl6 HC3
          have HE : Hid (NodAt m B wb bk W3 w6 n d k (pos + 1) W3.heap.size (wk l.length (lenF (lenN m) n)) (.slice xa xl xc) (.slice ya yl yc) v6 l6 ns ks ∧ w6.iterPos W3.heap.size = pos + 1) := by
            obtain ⟨g1, g2, g3⟩ := HGo.out w6 v6 l6 HW6.out
            exact ⟨⟨g1, g2, hp, HJn.out.names, HJn.out.capn, HJn.out.kids, HJn.out.capk, by rw [HL6.out]; exact HLE.out, HFE2.out, HJn.out.good⟩, g3⟩
          clear HW6 HL6 HLE HFE2 HGo hnx z0 z1 z2 z3 z4
          go_wp2_with fail
          go_roundw
          case rel => exact ⟨pos + 1, v6, l6, _, _, HE.out.1⟩
          case measure => rw [HE.out.2, HI.out]; omega
        · rw [hq] at hlenE hfitE hnx0 hmem
          have hnx : ∀ ty, (Instr.next (.pointer (some ⟨W3.heap.size, 0, none⟩)) true ty).run Tryz.prog wr = .ok (.tuple #[.bool true, .int .i64 (pos : Int), .int .i32 35]) V := hnx0
          rw [lp_n] at hlenE
          rw [fp_O _ (.inr (.inl rfl))] at hfitE
          have hg1 := hge (wk l'.length (Lib.itoa n.num).length)
          rw [hlenE] at hg1
          have hg2 := wk_le l'.length (Lib.itoa n.num).length
          have HLE := hidF hlenE
          have HFE2 := hidF hfitE
          have HC2 := hidF (HIt.out hmem V)
          have HC3 := hidF (word_any B wb bk V v' l' (bs (Lib.itoa n.num)) HWv.out.here (by rw [bs_size]; omega))
          clear hlenE hfitE hnx0 hge hg1 hg2 hq
          go_wp2_with fail
          refine HC2.out.mono ?_
          rintro e w5 ⟨rfl, rfl⟩
          go_wp2_with fail
          refine HC3.out.mono ?_
          rintro e w6 ⟨rfl, v6, l6, hw6, hl6⟩
          have HW6 := hidF hw6
          have HL6 : Hid (l6.length = wk l'.length (Lib.itoa n.num).length) := by show _ = _; rw [hl6, bs_size]
          clear hw6 hl6 HC3 HC2
          have HE : Hid (NodAt m B wb bk W3 w6 n d k (pos + 1) W3.heap.size (wk l.length (lenF (lenN m) n)) (.slice xa xl xc) (.slice ya yl yc) v6 l6 ns ks ∧ w6.iterPos W3.heap.size = pos + 1) := by
            obtain ⟨g1, g2, g3⟩ := HGo.out w6 v6 l6 HW6.out
            exact ⟨⟨g1, g2, hp, HJn.out.names, HJn.out.capn, HJn.out.kids, HJn.out.capk, by rw [HL6.out]; exact HLE.out, HFE2.out, HJn.out.good⟩, g3⟩
          clear HW6 HL6 HLE HFE2 HGo hnx z0 z1 z2 z3 z4
          go_wp2_with fail
          go_roundw
          case rel => exact ⟨pos + 1, v6, l6, _, _, HE.out.1⟩
          case measure => rw [HE.out.2, HI.out]; omega
        · rw [hq] at hlenE hfitE hnx0 hmem
          have hnx : ∀ ty, (Instr.next (.pointer (some ⟨W3.heap.size, 0, none⟩)) true ty).run Tryz.prog wr = .ok (.tuple #[.bool true, .int .i64 (pos : Int), .int .i32 78]) V := hnx0
          obtain ⟨nm, nq, rfl, hfq⟩ := fp_N _ (.inl rfl) _ _ _ hfitE
          rw [lp_N _ _ (.inl rfl)] at hlenE
          have hg1 := lenP_ge (lenN m) n ((prt k).drop (pos + 1)) nq ks (wk l'.length nm.size)
          rw [hlenE] at hg1
          have hg2 := wk_le l'.length nm.size
          obtain ⟨_, _, hv, hxl, -, hcc⟩ := id HJn.out.names
          cases hv
          obtain ⟨b, off, rfl, hSb, hcell⟩ := hcc (by simp)
          have e0 := hcell 0 (by simp)
          have e1 := (HWv.out.below.cell (p := ⟨b, off, none⟩) hSb).trans e0
          simp only [List.getElem_cons_zero] at e1
          have hn1 : 1 ≤ (nm :: nq).length := by simp
          have htl := HJn.out.names.tail hcx
          clear hcc hcell e0
          generalize hkn : (nm :: nq).length = kn at *
          have hsl := slice_from (P := Tryz.prog) 22 1 Tryz.underlying22 (fun _ => by simp [go_sem]) (some ⟨b, off, none⟩) kn xc hn1
          obtain ⟨ta, tn, tc, hT2⟩ : ∃ ta tn tc, sliced (some ⟨b, off, none⟩) 1 kn xc 1 = .slice ta tn tc := ⟨_, _, _, rfl⟩
          have hcapT : CapOk (.slice ta tn tc) := by
            rw [← hT2]; exact ⟨_, _, _, rfl, by omega⟩
          rw [hT2] at hsl htl
          have HLE := hidF hlenE
          have HFE2 := hidF hfq
          have HTl := hidF htl
          have HTc := hidF hcapT
          have HC3 := hidF (word_any B wb bk V v' l' nm HWv.out.here (by omega))
          have hkn1 : (1 : Int) ≤ (kn : Int) := by omega
          unfold maxLen at hxl
          clear hlenE hfitE hnx0 hge hg1 hg2 hq htl hcapT hT2 hfq hkn
          go_wp2_with fail
          refine HC3.out.mono ?_
          rintro e w6 ⟨rfl, v6, l6, hw6, hl6⟩
          have HW6 := hidF hw6
          have HL6 := hidF hl6
          clear hw6 hl6 HC3
          have HE : Hid (NodAt m B wb bk W3 w6 n d k (pos + 1) W3.heap.size (wk l.length (lenF (lenN m) n)) (.slice ta tn tc) (.slice ya yl yc) v6 l6 nq ks ∧ w6.iterPos W3.heap.size = pos + 1) := by
            obtain ⟨g1, g2, g3⟩ := HGo.out w6 v6 l6 HW6.out
            exact ⟨⟨g1, g2, hp, HTl.out, HTc.out, HJn.out.kids, HJn.out.capk, by rw [HL6.out]; exact HLE.out, HFE2.out, HJn.out.good⟩, g3⟩
          clear HW6 HL6 HLE HFE2 HGo hnx z0 z1 z2 z3 z4 HTl HTc e1
          go_wp2_with fail
          go_roundw
          case rel => exact ⟨pos + 1, v6, l6, _, _, HE.out.1⟩
          case measure => rw [HE.out.2, HI.out]; omega
        · rw [hq] at hlenE hfitE hnx0 hmem
          have hnx : ∀ ty, (Instr.next (.pointer (some ⟨W3.heap.size, 0, none⟩)) true ty).run Tryz.prog wr = .ok (.tuple #[.bool true, .int .i64 (pos : Int), .int .i32 88]) V := hnx0
          obtain ⟨nm, nq, rfl, hfq⟩ := fp_N _ (.inr rfl) _ _ _ hfitE
          rw [lp_N _ _ (.inr rfl)] at hlenE
          have hg1 := lenP_ge (lenN m) n ((prt k).drop (pos + 1)) nq ks (wk l'.length nm.size)
          rw [hlenE] at hg1
          have hg2 := wk_le l'.length nm.size
          obtain ⟨_, _, hv, hxl, -, hcc⟩ := id HJn.out.names
          cases hv
          obtain ⟨b, off, rfl, hSb, hcell⟩ := hcc (by simp)
          have e0 := hcell 0 (by simp)
          have e1 := (HWv.out.below.cell (p := ⟨b, off, none⟩) hSb).trans e0
          simp only [List.getElem_cons_zero] at e1
          have hn1 : 1 ≤ (nm :: nq).length := by simp
          have htl := HJn.out.names.tail hcx
          clear hcc hcell e0
          generalize hkn : (nm :: nq).length = kn at *
          have hsl := slice_from (P := Tryz.prog) 22 1 Tryz.underlying22 (fun _ => by simp [go_sem]) (some ⟨b, off, none⟩) kn xc hn1
          obtain ⟨ta, tn, tc, hT2⟩ : ∃ ta tn tc, sliced (some ⟨b, off, none⟩) 1 kn xc 1 = .slice ta tn tc := ⟨_, _, _, rfl⟩
          have hcapT : CapOk (.slice ta tn tc) := by
            rw [← hT2]; exact ⟨_, _, _, rfl, by omega⟩
          rw [hT2] at hsl htl
          have HLE := hidF hlenE
          have HFE2 := hidF hfq
          have HTl := hidF htl
          have HTc := hidF hcapT
          have HC3 := hidF (word_any B wb bk V v' l' nm HWv.out.here (by omega))
          have hkn1 : (1 : Int) ≤ (kn : Int) := by omega
          unfold maxLen at hxl
          clear hlenE hfitE hnx0 hge hg1 hg2 hq htl hcapT hT2 hfq hkn
          go_wp2_with fail
          refine HC3.out.mono ?_
          rintro e w6 ⟨rfl, v6, l6, hw6, hl6⟩
          have HW6 := hidF hw6
          have HL6 := hidF hl6
          clear hw6 hl6 HC3
          have HE : Hid (NodAt m B wb bk W3 w6 n d k (pos + 1) W3.heap.size (wk l.length (lenF (lenN m) n)) (.slice ta tn tc) (.slice ya yl yc) v6 l6 nq ks ∧ w6.iterPos W3.heap.size = pos + 1) := by
            obtain ⟨g1, g2, g3⟩ := HGo.out w6 v6 l6 HW6.out
            exact ⟨⟨g1, g2, hp, HTl.out, HTc.out, HJn.out.kids, HJn.out.capk, by rw [HL6.out]; exact HLE.out, HFE2.out, HJn.out.good⟩, g3⟩
          clear HW6 HL6 HLE HFE2 HGo hnx z0 z1 z2 z3 z4 HTl HTc e1
          go_wp2_with fail
          go_roundw
          case rel => exact ⟨pos + 1, v6, l6, _, _, HE.out.1⟩
          case measure => rw [HE.out.2, HI.out]; omega
        · rw [hq] at hlenE hfitE hnx0 hmem
          have hnx : ∀ ty, (Instr.next (.pointer (some ⟨W3.heap.size, 0, none⟩)) true ty).run Tryz.prog wr = .ok (.tuple #[.bool true, .int .i64 (pos : Int), .int .i32 86]) V := hnx0
          obtain ⟨kx, kq, rfl, -, hfq⟩ := fp_V _ (.inl rfl) _ _ _ hfitE
          rw [lp_V _ _ (.inl rfl)] at hlenE
          have hg1 := lenP_ge (lenN m) n ((prt k).drop (pos + 1)) ns kq (wk l'.length (lenN m kx))
          rw [hlenE] at hg1
          have hg2 := wk_le l'.length (lenN m kx)
          have hgd := HJn.out.good
          simp only [List.all_cons, Bool.and_eq_true] at hgd
          obtain ⟨_, _, hv, hxl, hcc⟩ := id HJn.out.kids
          cases hv
          obtain ⟨b, off, rfl, hSb, hcell⟩ := hcc (by simp)
          obtain ⟨d0, d1, d2, d3, d4, k0, k1, k2, k3, k4, hin⟩ := hcell 0 (by simp)
          obtain ⟨x0, x1, x2, xxa, xxl, xxc, yya, yyl, yyc, rfl, rfl, rfl, rfl, rfl⟩ := hin.shape
          simp only [Nat.zero_mul, Nat.add_zero, List.getElem_cons_zero] at k0 k1 k2 k3 k4 hin
          have o0 := (HWv.out.below.cell (p := ⟨b, off, none⟩) hSb).trans k0
          have o1 := (HWv.out.below.cell (p := ⟨b, off + 1, none⟩) hSb).trans k1
          have o2 := (HWv.out.below.cell (p := ⟨b, off + 2, none⟩) hSb).trans k2
          have o3 := (HWv.out.below.cell (p := ⟨b, off + 3, none⟩) hSb).trans k3
          have o4 := (HWv.out.below.cell (p := ⟨b, off + 4, none⟩) hSb).trans k4
          have HC3 := hidF (HK.out V v' l' kx _ _ _ _ _ HWw.out (hin.keep HWv.out.same (fun _ h => h)) hgd.1 (by omega))
          have hn1 : 1 ≤ (kx :: kq).length := by simp
          have htl := HJn.out.kids.tail hcy
          clear hcell hcc k0 k1 k2 k3 k4 hin
          generalize hkn : (kx :: kq).length = kn at *
          have hsl := slice_from (P := Tryz.prog) 28 5 Tryz.underlying28 (fun _ => by simp [go_sem]) (some ⟨b, off, none⟩) kn yc hn1
          obtain ⟨ta, tn, tc, hT2⟩ : ∃ ta tn tc, sliced (some ⟨b, off, none⟩) 1 kn yc 5 = .slice ta tn tc := ⟨_, _, _, rfl⟩
          have hcapT : CapOk (.slice ta tn tc) := by
            rw [← hT2]; exact ⟨_, _, _, rfl, by omega⟩
          rw [hT2] at hsl htl
          have HLE := hidF hlenE
          have HFE2 := hidF hfq
          have HTl := hidF htl
          have HTc := hidF hcapT
          have HGd := hidF hgd.2
          have hkn1 : (1 : Int) ≤ (kn : Int) := by omega
          unfold maxLen at hxl
          clear hlenE hfitE hnx0 hge hg1 hg2 hq htl hcapT hT2 hfq hkn hgd
          go_wp2_with fail
          refine HC3.out.mono ?_
          rintro e w6 ⟨rfl, v6, l6, hw6, hl6⟩
          have HW6 := hidF hw6
          have HL6 := hidF hl6
          clear hw6 hl6 HC3
          have HE : Hid (NodAt m B wb bk W3 w6 n d k (pos + 1) W3.heap.size (wk l.length (lenF (lenN m) n)) (.slice xa xl xc) (.slice ta tn tc) v6 l6 ns kq ∧ w6.iterPos W3.heap.size = pos + 1) := by
            obtain ⟨g1, g2, g3⟩ := HGo.out w6 v6 l6 HW6.out
            exact ⟨⟨g1, g2, hp, HJn.out.names, HJn.out.capn, HTl.out, HTc.out, by rw [HL6.out]; exact HLE.out, HFE2.out, HGd.out⟩, g3⟩
          clear HW6 HL6 HLE HFE2 HGo hnx z0 z1 z2 z3 z4 HTl HTc HGd o0 o1 o2 o3 o4
          go_wp2_with fail
          go_roundw
          case rel => exact ⟨pos + 1, v6, l6, _, _, HE.out.1⟩
          case measure => rw [HE.out.2, HI.out]; omega
        · rw [hq] at hlenE hfitE hnx0 hmem
          have hnx : ∀ ty, (Instr.next (.pointer (some ⟨W3.heap.size, 0, none⟩)) true ty).run Tryz.prog wr = .ok (.tuple #[.bool true, .int .i64 (pos : Int), .int .i32 65]) V := hnx0
          obtain ⟨kx, kq, rfl, -, hfq⟩ := fp_V _ (.inr rfl) _ _ _ hfitE
          rw [lp_V _ _ (.inr rfl)] at hlenE
          have hg1 := lenP_ge (lenN m) n ((prt k).drop (pos + 1)) ns kq (wk l'.length (lenN m kx))
          rw [hlenE] at hg1
          have hg2 := wk_le l'.length (lenN m kx)
          have hgd := HJn.out.good
          simp only [List.all_cons, Bool.and_eq_true] at hgd
          obtain ⟨_, _, hv, hxl, hcc⟩ := id HJn.out.kids
          cases hv
          obtain ⟨b, off, rfl, hSb, hcell⟩ := hcc (by simp)
          obtain ⟨d0, d1, d2, d3, d4, k0, k1, k2, k3, k4, hin⟩ := hcell 0 (by simp)
          obtain ⟨x0, x1, x2, xxa, xxl, xxc, yya, yyl, yyc, rfl, rfl, rfl, rfl, rfl⟩ := hin.shape
          simp only [Nat.zero_mul, Nat.add_zero, List.getElem_cons_zero] at k0 k1 k2 k3 k4 hin
          have o0 := (HWv.out.below.cell (p := ⟨b, off, none⟩) hSb).trans k0
          have o1 := (HWv.out.below.cell (p := ⟨b, off + 1, none⟩) hSb).trans k1
          have o2 := (HWv.out.below.cell (p := ⟨b, off + 2, none⟩) hSb).trans k2
          have o3 := (HWv.out.below.cell (p := ⟨b, off + 3, none⟩) hSb).trans k3
          have o4 := (HWv.out.below.cell (p := ⟨b, off + 4, none⟩) hSb).trans k4
          have HC3 := hidF (HK.out V v' l' kx _ _ _ _ _ HWw.out (hin.keep HWv.out.same (fun _ h => h)) hgd.1 (by omega))
          have hn1 : 1 ≤ (kx :: kq).length := by simp
          have htl := HJn.out.kids.tail hcy
          clear hcell hcc k0 k1 k2 k3 k4 hin
          generalize hkn : (kx :: kq).length = kn at *
          have hsl := slice_from (P := Tryz.prog) 28 5 Tryz.underlying28 (fun _ => by simp [go_sem]) (some ⟨b, off, none⟩) kn yc hn1
          obtain ⟨ta, tn, tc, hT2⟩ : ∃ ta tn tc, sliced (some ⟨b, off, none⟩) 1 kn yc 5 = .slice ta tn tc := ⟨_, _, _, rfl⟩
          have hcapT : CapOk (.slice ta tn tc) := by
            rw [← hT2]; exact ⟨_, _, _, rfl, by omega⟩
          rw [hT2] at hsl htl
          have HLE := hidF hlenE
          have HFE2 := hidF hfq
          have HTl := hidF htl
          have HTc := hidF hcapT
          have HGd := hidF hgd.2
          have hkn1 : (1 : Int) ≤ (kn : Int) := by omega
          unfold maxLen at hxl
          clear hlenE hfitE hnx0 hge hg1 hg2 hq htl hcapT hT2 hfq hkn hgd
          go_wp2_with fail
          refine HC3.out.mono ?_
          rintro e w6 ⟨rfl, v6, l6, hw6, hl6⟩
          have HW6 := hidF hw6
          have HL6 := hidF hl6
          clear hw6 hl6 HC3
          have HE : Hid (NodAt m B wb bk W3 w6 n d k (pos + 1) W3.heap.size (wk l.length (lenF (lenN m) n)) (.slice xa xl xc) (.slice ta tn tc) v6 l6 ns kq ∧ w6.iterPos W3.heap.size = pos + 1) := by
            obtain ⟨g1, g2, g3⟩ := HGo.out w6 v6 l6 HW6.out
            exact ⟨⟨g1, g2, hp, HJn.out.names, HJn.out.capn, HTl.out, HTc.out, by rw [HL6.out]; exact HLE.out, HFE2.out, HGd.out⟩, g3⟩
          clear HW6 HL6 HLE HFE2 HGo hnx z0 z1 z2 z3 z4 HTl HTc HGd o0 o1 o2 o3 o4
          go_wp2_with fail
          go_roundw
          case rel => exact ⟨pos + 1, v6, l6, _, _, HE.out.1⟩
          case measure => rw [HE.out.2, HI.out]; omega
      · have hnx := fun ty => Lib.run_next_end_at (P := Tryz.prog) wr W3.heap.size (bs (prt k)) pos ty hit (by rw [bs_size]; exact hp)
        have hlenE := hj.len
        rw [List.drop_of_length_le (by omega), lenP] at hlenE
        have HP : Hid (WPost B wb bk w (wk l.length (lenF (lenN m) n)) (.returned (.tuple #[])) wr) := ⟨rfl, v', l', hj.wrt.from HB3.out, hlenE⟩
        obtain ⟨xa, xl, xc, rfl, hcx⟩ := hj.capn
        obtain ⟨ya, yl, yc, rfl, hcy⟩ := hj.capk
        clear hj hit hlenE
        go_wp2_with fail
        refine bodyPost_end (results_none rfl _ _ _) rfl ?_
        exact HP.out

end Go.Proofs.YtlinplghgamgbaaGreatDoor
