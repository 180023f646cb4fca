/-
  Several texts in one, in their order.
-/
import Derived.Test.YtlinplghgamgbaaGreatDoorNW2
import Derived.Test.YtlinplghgamgbaaGreatDoorB13

/-
  The program: the text of a node, how long it is; whether a node is ok; LiftOk.
-/
namespace Go.Proofs.YtlinplghgamgbaaGreatDoor
open Go.RowKit

theorem nodeW_any : ∀ m, NodeW m := by
  intro m
  induction m with
  | zero => intro B wb bk w v l t c0 c1 c2 c3 c4 d h hin; exact hin.elim
  | succ m ih =>
    intro B wb bk w v l t c0 c1 c2 c3 c4 d h hin hbk hbB hg hl hT
    obtain ⟨rfl, rfl, rfl, hx, hw0, hw1, h3, h4, ⟨na, nl, nc, rfl, hc3⟩, ⟨ka, kl, kc, rfl, hc4⟩⟩ := hin
    obtain ⟨_, _, hv, -⟩ := id h3
    cases hv
    obtain ⟨_, _, hv, -⟩ := id h4
    cases hv
    simp only [goodN, Bool.and_eq_true] at hg
    exact node_step m ih B wb bk w v l (show Nd (T m) from t) na ka nc kc (d + 1) h hw0 hw1 hx h3 hc3 h4 hc4 hbk hbB hg.1.2 hg.2 hl hT

/-- How long texts are at most. -/
theorem preC_len {α : Type} (n : Nd α) (k : Nat) (h5 : 5 ≤ k) (h : preC n (preL k) = true) (hk : k < 44) (h24 : k ≠ 24) : szN n.names + (if n.text.size = 0 then 0 else n.text.size + 1) ≤ 850 := by
  have nm : ∀ a, nameB a = true → a.size ≤ 8 := fun a ha => by
    simp only [nameB, Bool.and_eq_true, decide_eq_true_eq] at ha; exact ha.1.1.2
  have fm : ∀ a, freeB a = true → a.size ≤ 8 := fun a ha => nm a (by
    simp only [freeB, Bool.and_eq_true] at ha; exact ha.1.1.1.1)
  rcases (preL_which k hk).resolve_left h24 with e | e | e | e | e | e | e | e
  · rw [e] at h
    simp only [preC, Bool.and_eq_true, beq_iff_eq] at h
    have hn : n.names = [] := List.eq_nil_of_length_eq_zero (by omega)
    rw [if_pos (toList_empty _ h.1.2), hn]; simp [szN]
  · exact absurd e (pre_five k hk h5)
  · rw [e] at h
    simp only [preC, Bool.and_eq_true, beq_iff_eq] at h
    have hn : n.names = [] := List.eq_nil_of_length_eq_zero (by omega)
    have hs : n.text.size ≤ 800 := by
      have := h.1.2
      unfold kindB at this
      obtain ⟨q, hq⟩ := Option.isSome_iff_exists.1 this
      exact (readK_some hq).1
    rw [hn]; simp only [szN]; split <;> omega
  · rw [e] at h
    simp only [preC, Bool.and_eq_true, beq_iff_eq] at h
    have hn : n.names = [] := List.eq_nil_of_length_eq_zero (by omega)
    rw [if_pos (toList_empty _ h.1.2), hn]; simp [szN]
  · rw [e] at h
    simp only [preC, Bool.and_eq_true] at h
    rw [if_pos (toList_empty _ h.1.2)]
    match hn : n.names, h.2 with
    | [a], h2 => have := fm a h2; simp only [szN]; omega
  · rw [e] at h
    simp only [preC, Bool.and_eq_true] at h
    rw [if_pos (toList_empty _ h.1.2)]
    match hn : n.names, h.2 with
    | [a], h2 => have := nm a h2; simp only [szN]; omega
  · rw [e] at h
    simp only [preC, Bool.and_eq_true] at h
    rw [if_pos (toList_empty _ h.1.2)]
    match hn : n.names, h.2 with
    | [a, b], h2 =>
      simp only [Bool.and_eq_true] at h2
      have := fm a h2.1.1; have := fm b h2.1.2; simp only [szN]; omega
  · rw [e] at h
    simp only [preC, Bool.and_eq_true] at h
    rw [if_pos (toList_empty _ h.1.2)]
    match hn : n.names, h.2 with
    | [a], h2 => have := nm a h2; simp only [szN]; omega

theorem fields_len {α : Type} (po : α → Int) (n : Nd α) (h : fieldsB po n = true) : szN n.names ≤ 9 * n.kids.length := by
  unfold fieldsB at h
  simp only [Bool.and_eq_true, beq_iff_eq] at h
  have h2 := h.2
  rw [← h.1]
  unfold fieldsTo at h2
  rw [List.all_eq_true] at h2
  have key : ∀ (l : List ByteArray), (∀ s, s ∈ l → s.size ≤ 8) → szN l ≤ 9 * l.length := by
    intro l
    induction l with
    | nil => intro _; simp [szN]
    | cons a r ih =>
      intro hs
      have h1 := hs a (List.mem_cons_self ..)
      have h2 := ih (fun s hs2 => hs s (List.mem_cons_of_mem _ hs2))
      simp only [szN, List.length_cons]; omega
  refine key _ fun s hs => ?_
  obtain ⟨i, hi, rfl⟩ := List.getElem_of_mem hs
  have := h2 i (List.mem_range.2 hi)
  simp only [Bool.and_eq_true, fieldB, riseAt] at this
  have h3 := this.1.1.1
  simp only [nameB, Bool.and_eq_true, decide_eq_true_eq, List.getD_eq_getElem?_getD, List.getElem?_eq_getElem hi, Option.getD_some] at h3
  exact h3.1.1.2

theorem leaf_len (s m : Int) (x : ByteArray) (h : aloneF s m x [] 0 = true) : (leafL s m x).length ≤ 800 := by
  have hg : goodT 1 (leafT s m x) 1 = true := by
    show (decide ((1 : Int) ≤ 6) && aloneF s m x [] 0 && List.all ([] : List (T 0)) _) = _
    rw [h]; rfl
  have := txtL_len 1 (leafT s m x) 1 hg
  have hc : cntT 1 (leafT s m x) = 1 := rfl
  rw [hc] at this
  unfold leafL
  omega

theorem itoa_len : ∀ n : Int, 0 ≤ n → n ≤ 99 → (Lib.itoa n).length ≤ 20 := by
  intro n h0 h1
  unfold Lib.itoa
  rw [if_neg (by omega)]
  have h2 : n.toNat < 100 := by omega
  generalize n.toNat = k at h2
  rw [Lib.decDigits]
  split
  · simp
  · rw [Lib.decDigits]
    split
    · simp
    · omega

theorem lenN_le : ∀ (m : Nat) (t : T m) (d : Int), goodN m t d = true → lenN m t + 100 ≤ 1000 * cntT m t := by
  intro m
  induction m with
  | zero => intro t d h; simp [goodN] at h
  | succ m ih =>
    intro t d h
    simp only [goodN, Bool.and_eq_true, List.all_eq_true] at h
    obtain ⟨⟨-, hj⟩, hk⟩ := h
    obtain ⟨n, hn⟩ : ∃ n : Nd (T m), n = t := ⟨t, rfl⟩
    have hc : cntT (m + 1) t = 1 + sumL (fun k => cntT m k) n.kids := by rw [hn]; rfl
    have hl : lenN (m + 1) t = lenF (lenN m) n := by rw [hn]; rfl
    have hk' : ∀ x, x ∈ n.kids → goodN m x (d + 1) = true := by rw [hn]; exact hk
    have hj' : justB (poT m) n = true := by rw [hn]; exact hj
    rw [hc, hl]
    have hsum : sumL (fun x => lenN m x + 100) n.kids ≤ 1000 * sumL (fun x => cntT m x) n.kids := by
      rw [← sumL_mul]
      exact sumL_le _ _ _ (fun x hx => ih x (d + 1) (hk' x hx))
    have hs2 : sumL (fun x => lenN m x + 1) n.kids + 9 * n.kids.length ≤ sumL (fun x => lenN m x + 100) n.kids := by
      have : ∀ l : List (T m), sumL (fun x => lenN m x + 1) l + 9 * l.length ≤ sumL (fun x => lenN m x + 100) l := by
        intro l
        induction l with
        | nil => simp [sumL]
        | cons a r ih2 => simp only [sumL, List.length_cons]; omega
      exact this _
    obtain ⟨k, hkk⟩ : ∃ k : Nat, n.sort = (k : Int) := ⟨n.sort.toNat, by
      have h := hj'
      unfold justB at h; simp only [Bool.and_eq_true, decide_eq_true_eq] at h; omega⟩
    have hr : 1 ≤ n.sort ∧ n.sort ≤ 43 := by
      have h := hj'
      unfold justB at h; simp only [Bool.and_eq_true, decide_eq_true_eq] at h; exact h.1
    obtain ⟨hk44, hasT, hasN, hasF⟩ := just_has (poT m) n k hkk hj'
    have hkn : n.sort.toNat = k := by omega
    have hw := wrd_size k hk44
    unfold lenF
    by_cases h3 : n.sort ≤ 3
    · rw [if_pos h3]
      have := leaf_len _ _ _ (hasT (by have : k = 1 ∨ k = 2 ∨ k = 3 := by omega
                                       rcases this with rfl | rfl | rfl <;> decide))
      omega
    rw [if_neg h3]
    by_cases h4 : n.sort = 4
    · rw [if_pos h4]
      rw [just_op (poT m) n hr.1 hr.2 (by omega), hkn, show k = 4 by omega, pre_name.1] at hj'
      simp only [preC, Bool.and_eq_true] at hj'
      match hnn : n.names, hj'.1.2 with
      | [a], h2 =>
        have : a.size ≤ 8 := by
          simp only [freeB, nameB, Bool.and_eq_true, decide_eq_true_eq] at h2; exact h2.1.1.1.1.1.1.2
        simp only [List.headD_cons]; omega
    rw [if_neg h4, hkn]
    have hw2 := (hw.2 (by omega)).2
    by_cases h24 : n.sort = 24
    · rw [just_form (poT m) n h24] at hj'
      simp only [Bool.and_eq_true] at hj'
      have hx := toList_empty _ hj'.2.2
      have hf := fields_len (poT m) n hj'.1
      rw [if_pos hx, if_neg (by omega), if_pos h24]
      omega
    · rw [just_op (poT m) n hr.1 hr.2 h24, hkn] at hj'
      simp only [Bool.and_eq_true] at hj'
      have hp := preC_len n k (by omega) hj'.1 hk44 (by omega)
      have hi : (if n.sort = 37 ∨ n.sort = 39 then (Lib.itoa n.num).length + 1 else 0) ≤ 21 := by
        split
        · have h35 : 35 ∈ prt k := by
            have : k = 37 ∨ k = 39 := by omega
            rcases this with rfl | rfl <;> decide
          have := hasN h35
          have := itoa_len n.num this.1 this.2
          omega
        · omega
      rw [if_neg h24]
      omega

/-- A node is ok. -/
def okN (m : Nat) (t : T m) : Bool := goodN m t 1 && decide (cntT m t ≤ 200) && decide (lenN m t ≤ 3000)

set_option maxRecDepth 20000 in
set_option maxHeartbeats 1000000 in
theorem text_any (m bk : Nat) (S : Nat → Prop) (w : World) (t : T m) (c0 c1 c2 c3 c4 : Value) (d : Int) (hin : NodeIn S w m t c0 c1 c2 c3 c4) (hB : ∀ b, S b → b < w.heap.size) (hbk : Book w bk) (hg : goodN m t d = true) (hc : cntT m t ≤ 200) (hT : TensIn w) :
    Calls Tryz.prog 43 #[.pointer (some ⟨bk, 0, none⟩), .agg #[c0, c1, c2, c3, c4]] w fun e w' => Below w.heap.size w w' ∧ ∃ s, e = .returned (.string s) ∧ s.size = lenN m t := by
  obtain ⟨x0, x1, x2, xa, xl, xc, ya, yl, yc, rfl, rfl, rfl, rfl, rfl⟩ := hin.shape
  have hll := lenN_le m t d hg
  obtain ⟨W, hW⟩ : ∃ W, W = (w.alloc (.cells #[.int .i64 x0, .int .i64 x1, .string x2, .slice xa xl xc, .slice ya yl yc] 30)).alloc (.cells #[.pointer (some ⟨bk, 0, none⟩), .slice none 0 0] 79) := ⟨_, rfl⟩
  have hbW : Below w.heap.size w W := by rw [hW]; exact ((Below.refl _ _).alloc (Nat.le_refl _) _).alloc (by simp) _
  have hz : W.heap.size = w.heap.size + 2 := by rw [hW]; simp
  have hwb : W.heap[w.heap.size + 1]? = some (.cells #[.pointer (some ⟨bk, 0, none⟩), .slice none 0 0] 79 (0, 0)) := by
    have := heap_alloc_last (w.alloc (.cells #[.int .i64 x0, .int .i64 x1, .string x2, .slice xa xl xc, .slice ya yl yc] 30)) (.cells #[.pointer (some ⟨bk, 0, none⟩), .slice none 0 0] 79)
    rw [show (w.alloc (.cells #[.int .i64 x0, .int .i64 x1, .string x2, .slice xa xl xc, .slice ya yl yc] 30)).heap.size = w.heap.size + 1 by simp] at this
    rw [hW]; exact this
  have hwr : Wrt w.heap.size (w.heap.size + 1) bk W W (.slice none 0 0) [] := ⟨World.ownsRow_nil _ _ _ _, Below.refl _ _, by omega, Lib.OthersKept.refl _ _ _, hwb, by omega⟩
  have hTB : Tens w.heap.size W := fun w2 h2 => hT w2 (hbW.trans h2)
  have HC : Hid (Calls Tryz.prog 55 _ W _) := nodeW_any m w.heap.size (w.heap.size + 1) bk W _ [] t _ _ _ _ _ d hwr (hin.keep (same_below hbW hB) hB) (hbk.keep (hbW.block bk hbk.lt)) hbk.lt hg (by simp only [List.length_nil, wk, if_true]; omega) hTB
  have HBW := hidF hbW
  clear hin hbk hwr hTB hbW hwb
  subst hW
  go_enter Tryz.func43, Tryz.ntmps43
  go_wp2_with fail
  refine HC.out.mono ?_
  rintro e w1 ⟨rfl, v1, l1, hw1, hl1⟩
  obtain ⟨-, c1', -⟩ := hw1.cells
  obtain ⟨va, vn, vc, rfl⟩ := hw1.buf.shape
  have hl2 : l1.length = lenN m t := by rw [hl1]; rfl
  have HP : Hid (Below w.heap.size w w1) := HBW.out.trans hw1.below
  have HL := hidF hl2
  have hcv : (convert 73 9 (.slice va vn vc)).run Tryz.prog w1 = .ok (.string (bs l1)) w1 := by
    by_cases hne : l1 = []
    · subst hne
      rcases hw1.own.2 with ⟨hv, -⟩ | ⟨g, cap, cur, hv, -⟩
      · cases hv; exact run_convert_bytes_nil w1 73 5 Tryz.underlying73 Tryz.underlying5 0 0 9 Tryz.underlying9
      · cases hv
        exact run_convert_bytes_back (P := Tryz.prog) w1 73 9 5 ⟨g, 0, none⟩ vc [] Tryz.underlying73 Tryz.underlying5 Tryz.underlying9 (fun j hj => by simp at hj)
    · exact buf_string _ _ _ _ _ hw1.buf hne
  have HE : Hid ((bs l1).size = lenN m t) := by show _ = _; rw [bs_size]; exact hl2
  clear hw1 HC hl1 hl2
  go_wp2_with fail
  go_ret
  exact ⟨HP.out, _, rfl, HE.out⟩

set_option maxRecDepth 100000 in
set_option maxHeartbeats 1000000 in
theorem bookOk_any (m bk : Nat) (S : Nat → Prop) (w : World) (t : T m) (c0 c1 c2 c3 c4 : Value) (hin : NodeIn S w m t c0 c1 c2 c3 c4) (hB : ∀ b, S b → b < w.heap.size) (hbk : Book w bk) (hsz : szT m t ≤ 1048576) (hT : TensIn w) :
    Calls Tryz.prog 31 #[.pointer (some ⟨bk, 0, none⟩), .agg #[c0, c1, c2, c3, c4]] w fun e w' => e = .returned (.bool (okN m t)) ∧ Below w.heap.size w w' := by
  have hmf : ∀ (fn : Fn) (first cap : Array Value) (w : World), (Instr.makeFunc fn first cap).run Tryz.prog w = .ok (.func fn first cap) w := fun _ _ _ _ => rfl
  obtain ⟨x0, x1, x2, xa, xl, xc, ya, yl, yc, rfl, rfl, rfl, rfl, rfl⟩ := hin.shape
  obtain ⟨W, hW⟩ : ∃ W, W = ((w.alloc (.cells #[.pointer (some ⟨bk, 0, none⟩)] 45)).alloc (.cells #[.int .i64 x0, .int .i64 x1, .string x2, .slice xa xl xc, .slice ya yl yc] 30)).alloc (.cells #[.int .i64 0] 3) := ⟨_, rfl⟩
  have hbW : Below w.heap.size w W := by rw [hW]; exact (((Below.refl _ _).alloc (Nat.le_refl _) _).alloc (by simp) _).alloc (by simp; omega) _
  have hz : W.heap.size = w.heap.size + 3 := by rw [hW]; simp
  have hblt := hbk.lt
  have hprt : Prt W (w.heap.size + 1 + 1) 0 := by
    have := Prt.new ((w.alloc (.cells #[.pointer (some ⟨bk, 0, none⟩)] 45)).alloc (.cells #[.int .i64 x0, .int .i64 x1, .string x2, .slice xa xl xc, .slice ya yl yc] 30)) 0
    rw [show ((w.alloc (.cells #[.pointer (some ⟨bk, 0, none⟩)] 45)).alloc (.cells #[.int .i64 x0, .int .i64 x1, .string x2, .slice xa xl xc, .slice ya yl yc] 30)).heap.size = w.heap.size + 1 + 1 by simp] at this
    rw [hW]; exact this
  have hcb : W.cell? ⟨w.heap.size, 0, none⟩ = some (.pointer (some ⟨bk, 0, none⟩)) := by rw [hW]; simp [go_sem]
  have hcn : (W.cell? ⟨w.heap.size + 1, 0, none⟩ = some (.int .i64 x0) ∧ W.cell? ⟨w.heap.size + 1, 1, none⟩ = some (.int .i64 x1) ∧ W.cell? ⟨w.heap.size + 1, 2, none⟩ = some (.string x2)) ∧ W.cell? ⟨w.heap.size + 1, 3, none⟩ = some (.slice xa xl xc) ∧ W.cell? ⟨w.heap.size + 1, 4, none⟩ = some (.slice ya yl yc) := by
    rw [hW]; refine ⟨⟨?_, ?_, ?_⟩, ?_, ?_⟩ <;> simp [go_sem]
  have hin' := hin.keep (same_below hbW hB) (fun _ h => h)
  have HC : Hid (Calls Tryz.prog 40 _ W _) := walkN_any m S t _ _ _ _ _ 1 0 (w.heap.size + 1 + 1) w.heap.size bk W hin' (fun b hb => by have := hB b hb; omega) ⟨hprt, hcb, hbk.keep (hbW.block bk hblt), by omega, by omega⟩ hsz (by omega) (by omega) (by omega) (by omega)
  unfold clN at HC
  have HT : Hid (∀ w1, Near (w.heap.size + 1 + 1) W w1 → goodN m t 1 = true → cntT m t ≤ 200 → (Calls Tryz.prog 43 #[.pointer (some ⟨bk, 0, none⟩), .agg #[.int .i64 x0, .int .i64 x1, .string x2, .slice xa xl xc, .slice ya yl yc]] w1 fun e w' => Below w1.heap.size w1 w' ∧ ∃ s, e = .returned (.string s) ∧ s.size = lenN m t) ∧
      (w1.cell? ⟨w.heap.size, 0, none⟩ = some (.pointer (some ⟨bk, 0, none⟩)) ∧ w1.cell? ⟨w.heap.size + 1, 0, none⟩ = some (.int .i64 x0) ∧ w1.cell? ⟨w.heap.size + 1, 1, none⟩ = some (.int .i64 x1) ∧ w1.cell? ⟨w.heap.size + 1, 2, none⟩ = some (.string x2) ∧ w1.cell? ⟨w.heap.size + 1, 3, none⟩ = some (.slice xa xl xc) ∧ w1.cell? ⟨w.heap.size + 1, 4, none⟩ = some (.slice ya yl yc))) := by
    intro w1 hn hg hc
    have hb1 : Below w.heap.size w w1 := hbW.trans (hn.below (by omega) (by omega))
    refine ⟨text_any m bk S w1 t _ _ _ _ _ 1 (hin.keep (same_below hb1 hB) (fun _ h => h)) (fun b hb => Nat.lt_of_lt_of_le (hB b hb) hb1.size) (hbk.keep (hb1.block bk hblt)) hg hc (hT.step hb1), hn.cell hcb (by omega), hn.cell hcn.1.1 (by omega), hn.cell hcn.1.2.1 (by omega), hn.cell hcn.1.2.2 (by omega), hn.cell hcn.2.1 (by omega), hn.cell hcn.2.2 (by omega)⟩
  have HB := hidF hbW
  have HZ := hidF hz
  clear hin hin' hprt hcb hcn hbW hz hbk hT hsz
  subst hW
  go_enter Tryz.func31, Tryz.ntmps31
  go_wp2_with fail
  refine HC.out.mono ?_
  rintro e w1 ⟨hn, r, rfl, hyes, hno⟩
  have hb1 : Below w.heap.size w w1 := HB.out.trans (hn.below (by omega) HB.out.size)
  cases r with
  | false =>
    have HF : Hid (okN m t = false ∧ Below w.heap.size w w1) := by
      refine ⟨?_, hb1⟩
      rw [Bool.eq_false_iff]
      intro h
      simp only [okN, Bool.and_eq_true, decide_eq_true_eq] at h
      exact hno rfl ⟨h.1.1, by omega⟩
    clear hyes hno hn hb1 HC HT
    go_wp2_with fail
    go_ret
    exact ⟨bool_ret HF.out.1.symm, HF.out.2⟩
  | true =>
    obtain ⟨hg, hc, -⟩ := hyes rfl
    obtain ⟨hct, z0, z1, z2, z3, z4, z5⟩ := HT.out w1 hn hg (by omega)
    have HCT := hidF hct
    have HO : Hid (okN m t = decide ((lenN m t : Int) ≤ 3000)) := by
      show _ = _
      unfold okN
      rw [hg, decide_eq_true (show cntT m t ≤ 200 by omega)]
      by_cases h3 : lenN m t ≤ 3000
      · rw [decide_eq_true h3, decide_eq_true (by omega)]; rfl
      · rw [decide_eq_false h3, decide_eq_false (by omega)]; rfl
    have HB1 := hidF hb1
    clear hyes hno hn hb1 HC HT hct hg hc
    go_wp2_with fail
    refine HCT.out.mono ?_
    rintro e w2 ⟨hb2, s, rfl, hs⟩
    have HF : Hid (okN m t = decide ((s.size : Int) ≤ 3000) ∧ Below w.heap.size w w2) := ⟨by rw [HO.out, hs], HB1.out.trans (hb2.mono HB1.out.size)⟩
    clear hb2 hs HCT HO z0 z1 z2 z3 z4 z5
    go_wp2_with fail
    go_ret
    exact ⟨bool_ret HF.out.1.symm, HF.out.2⟩

set_option maxRecDepth 100000 in
set_option maxHeartbeats 1000000 in
theorem isNodeOk_any (m : Nat) (S : Nat → Prop) (w : World) (t : T m) (c0 c1 c2 c3 c4 : Value) (hin : NodeIn S w m t c0 c1 c2 c3 c4) (hB : ∀ b, S b → b < w.heap.size) (hsz : szT m t ≤ 1048576) (hT : TensIn w) :
    Calls Tryz.prog 21 #[.agg #[c0, c1, c2, c3, c4]] w fun e w' => e = .returned (.bool (okN m t)) ∧ Below w.heap.size w w' := by
  obtain ⟨x0, x1, x2, xa, xl, xc, ya, yl, yc, rfl, rfl, rfl, rfl, rfl⟩ := hin.shape
  have hb0 := (Below.refl w.heap.size w).alloc (Nat.le_refl _) (.cells #[.int .i64 x0, .int .i64 x1, .string x2, .slice xa xl xc, .slice ya yl yc] 30)
  have HC : Hid (∀ w1 bk, Below w.heap.size w w1 → Book w1 bk → Calls Tryz.prog 31 #[.pointer (some ⟨bk, 0, none⟩), .agg #[.int .i64 x0, .int .i64 x1, .string x2, .slice xa xl xc, .slice ya yl yc]] w1 fun e w' => e = .returned (.bool (okN m t)) ∧ Below w1.heap.size w1 w') := by
    intro w1 bk hb hbk
    exact bookOk_any m bk S w1 t _ _ _ _ _ (hin.keep (same_below hb hB) (fun _ h => h)) (fun b hb2 => Nat.lt_of_lt_of_le (hB b hb2) hb.size) hbk hsz (hT.step hb)
  have HN : Hid (Calls Tryz.prog 30 #[] (w.alloc (.cells #[.int .i64 x0, .int .i64 x1, .string x2, .slice xa xl xc, .slice ya yl yc] 30)).drew fun e w' => ∃ b, e = .returned (.pointer (some ⟨b, 0, none⟩)) ∧ Book w' b ∧ Below w.heap.size w w' ∧
      w'.cell? ⟨w.heap.size, 0, none⟩ = some (.int .i64 x0) ∧ w'.cell? ⟨w.heap.size, 1, none⟩ = some (.int .i64 x1) ∧ w'.cell? ⟨w.heap.size, 2, none⟩ = some (.string x2) ∧ w'.cell? ⟨w.heap.size, 3, none⟩ = some (.slice xa xl xc) ∧ w'.cell? ⟨w.heap.size, 4, none⟩ = some (.slice ya yl yc)) := by
    refine (newOpBook_any _).mono ?_
    rintro e w' ⟨b, rfl, -, -, hbk, hb1⟩
    have hbb : Below w.heap.size w w' := (hb0.drew).trans (hb1.mono (by show w.heap.size ≤ (w.heap.push _).size; simp))
    have hblk : w'.heap[w.heap.size]? = some (.cells #[.int .i64 x0, .int .i64 x1, .string x2, .slice xa xl xc, .slice ya yl yc] 30 (0, 0)) := (hb1.block w.heap.size (by show w.heap.size < (w.heap.push _).size; simp)).trans (heap_alloc_last w _)
    exact ⟨b, rfl, hbk, hbb, five_of hblk⟩
  clear hin hT
  go_enter Tryz.func21, Tryz.ntmps21
  go_wp2_with fail
  go_region_with (first
    | (go_at_call 30; refine HN.out.mono ?_; rintro e w1 ⟨b, rfl, hbk, hbb, z0, z1, z2, z3, z4⟩)
    | (go_at_call 31; refine (HC.out _ _ (by with_reducible assumption) (by with_reducible assumption)).mono ?_; rintro e w2 ⟨rfl, hb2⟩))
  all_goals
    have HP := hidF (hbb.trans (hb2.mono hbb.size))
    clear hbk hbb hb2 HC HN z0 z1 z2 z3 z4
    go_wp2_with fail
    go_ret
    exact ⟨rfl, HP.out⟩

/-- LiftOk. -/
def okA (m : Nat) (t : T m) : Bool := decide (poT m t = 65) && okN m t

set_option maxRecDepth 100000 in
set_option maxHeartbeats 1000000 in
theorem implLOk_any (m : Nat) (S : Nat → Prop) (w : World) (t : T m) (c0 c1 c2 c3 c4 : Value) (hin : NodeIn S w m t c0 c1 c2 c3 c4) (hB : ∀ b, S b → b < w.heap.size) (hsz : szT m t ≤ 1048576) (hT : TensIn w) :
    Calls Tryz.prog 9 #[.agg #[c0, c1, c2, c3, c4]] w fun e w' => e = .returned (.bool (okA m t)) ∧ Below w.heap.size w w' := by
  obtain ⟨x0, x1, x2, xa, xl, xc, ya, yl, yc, rfl, rfl, rfl, rfl, rfl⟩ := hin.shape
  have hx0 : x0 = opT m t := (Value.int.inj hin.op).2
  have hb0 := (Below.refl w.heap.size w).alloc (Nat.le_refl _) (.cells #[.int .i64 x0, .int .i64 x1, .string x2, .slice xa xl xc, .slice ya yl yc] 30)
  obtain ⟨hin0, hB0⟩ := hin.step hB hb0
  have HC : Hid (Calls Tryz.prog 21 _ _ _) := isNodeOk_any m S _ t _ _ _ _ _ hin0 hB0 hsz (hT.step hb0)
  have HP : Hid (∀ w, Calls Tryz.prog 20 #[.int .i64 x0] w _) := fun w => partOf_any x0 w
  have HA : Hid (okA m t = ((poF x0 == 65) && okN m t)) := by
    show _ = _
    unfold okA poT
    rw [← hx0]
    by_cases h : poF x0 = 65
    · rw [decide_eq_true h, h]; rfl
    · rw [decide_eq_false h]; simp [h]
  clear hin hin0 hx0 hT
  generalize poF x0 = po at *
  cases hp : (po == 65) with
  | false =>
    rw [hp] at HA
    go_enter Tryz.func9, Tryz.ntmps9
    go_wp2_with fail
    refine (HP.out _).mono ?_
    rintro e w1 ⟨rfl, rfl⟩
    go_wp2_with fail
    go_ret
    exact ⟨bool_ret (by rw [HA.out]; rfl), hb0⟩
  | true =>
    rw [hp] at HA
    go_enter Tryz.func9, Tryz.ntmps9
    go_wp2_with fail
    refine (HP.out _).mono ?_
    rintro e w1 ⟨rfl, rfl⟩
    go_wp2_with fail
    refine HC.out.mono ?_
    rintro e w2 ⟨rfl, hb2⟩
    have HB := hidF (below_step hb0 (by simp) hb2)
    clear hb2 HC HP
    go_wp2_with fail
    go_ret
    exact ⟨bool_ret (by rw [HA.out]; rfl), HB.out⟩

end Go.Proofs.YtlinplghgamgbaaGreatDoor

/-
  The program: how often a kid is done; what a node costs.
-/
namespace Go.Proofs.YtlinplghgamgbaaGreatDoor
open Go.RowKit

def fanA (m : Nat) (t : T m) : Int := if okA m t = true then fanT m t else 0

theorem good_of_ok {m : Nat} {t : T m} (h : okN m t = true) : goodN m t 1 = true := by
  unfold okN at h; simp only [Bool.and_eq_true] at h; exact h.1.1

theorem ok_of_okA {m : Nat} {t : T m} (h : okA m t = true) : okN m t = true := by
  unfold okA at h; simp only [Bool.and_eq_true] at h; exact h.2

/-- The place of the kid for which a node binds its names. -/
def bpF (s : Int) : Int := if s = 20 ∨ s = 32 ∨ s = 33 ∨ s = 34 ∨ s = 42 ∨ s = 43 then 1 else if s = 35 then 2 else -1

set_option maxRecDepth 20000 in
set_option maxHeartbeats 1000000 in
theorem boundPlace_any (s : Int) (w : World) : Calls Tryz.prog 44 #[.int .i64 s] w fun e w' => e = .returned (.int .i64 (bpF s)) ∧ w' = w := by
  by_cases h : s = 20 ∨ s = 32 ∨ s = 33 ∨ s = 34 ∨ s = 42 ∨ s = 43 ∨ s = 35
  · rcases h with rfl | rfl | rfl | rfl | rfl | rfl | rfl
    all_goals
      go_enter Tryz.func44, Tryz.ntmps44
      go_wp2
      go_ret
      exact ⟨ret_int (by decide), rfl⟩
  · have e1 : (s == 20) = false := by simp; omega
    have e2 : (s == 32) = false := by simp; omega
    have e3 : (s == 33) = false := by simp; omega
    have e4 : (s == 34) = false := by simp; omega
    have e5 : (s == 42) = false := by simp; omega
    have e6 : (s == 43) = false := by simp; omega
    have e7 : (s == 35) = false := by simp; omega
    have HF : Hid (bpF s = -1) := by show _ = _; unfold bpF; rw [if_neg (by omega), if_neg (by omega)]
    clear h
    go_enter Tryz.func44, Tryz.ntmps44
    go_wp2_with fail
    go_ret
    exact ⟨ret_int HF.out.symm, rfl⟩

set_option maxRecDepth 20000 in
set_option maxHeartbeats 4000000 in
theorem turnsOf_any (s : Int) (i : Nat) (w : World) : Calls Tryz.prog 33 #[.int .i64 s, .int .i64 (i : Int)] w fun e w' => e = .returned (.int .i64 (turnF s i)) ∧ w' = w := by
  have HB : Hid (∀ w, Calls Tryz.prog 44 #[.int .i64 s] w fun e w' => e = .returned (.int .i64 (bpF s)) ∧ w' = w) := boundPlace_any s
  by_cases h : s = 33 ∨ s = 34 ∨ s = 35 ∨ s = 43
  · have HT : Hid (turnF s i = if (i : Int) = bpF s then 20 else 1) := by
      show _ = _
      rcases h with rfl | rfl | rfl | rfl
      · rw [show bpF 33 = 1 from rfl]; unfold turnF; split <;> split <;> omega
      · rw [show bpF 34 = 1 from rfl]; unfold turnF; split <;> split <;> omega
      · rw [show bpF 35 = 2 from rfl]; unfold turnF; split <;> split <;> omega
      · rw [show bpF 43 = 1 from rfl]; unfold turnF; split <;> split <;> omega
    by_cases hp : (i : Int) = bpF s
    · have hp' : ((i : Int) == bpF s) = true := by simp [hp]
      rw [if_pos hp] at HT
      clear hp
      generalize bpF s = bp at *
      rcases h with rfl | rfl | rfl | rfl
      all_goals
        go_enter Tryz.func33, Tryz.ntmps33
        go_wp2_with fail
        refine (HB.out _).mono ?_
        rintro e w1 ⟨rfl, rfl⟩
        go_wp2_with fail
        go_ret
        exact ⟨ret_int HT.out.symm, rfl⟩
    · have hp' : ((i : Int) == bpF s) = false := by simp [hp]
      rw [if_neg hp] at HT
      clear hp
      generalize bpF s = bp at *
      rcases h with rfl | rfl | rfl | rfl
      all_goals
        go_enter Tryz.func33, Tryz.ntmps33
        go_wp2_with fail
        refine (HB.out _).mono ?_
        rintro e w1 ⟨rfl, rfl⟩
        go_wp2_with fail
        go_ret
        exact ⟨ret_int HT.out.symm, rfl⟩
  · have e3 : (s == 33) = false := by simp; omega
    have e4 : (s == 34) = false := by simp; omega
    have e6 : (s == 43) = false := by simp; omega
    have e7 : (s == 35) = false := by simp; omega
    have HF : Hid (turnF s i = 1) := by show _ = _; unfold turnF; rw [if_neg (by omega)]
    clear h HB
    go_enter Tryz.func33, Tryz.ntmps33
    go_wp2_with fail
    go_ret
    exact ⟨ret_int HF.out.symm, rfl⟩

end Go.Proofs.YtlinplghgamgbaaGreatDoor
