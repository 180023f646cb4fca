/-
  Several texts in one, in their order.
-/
import Derived.Test.YtlinplghgamgbaaGreatDoorB13
import Derived.Test.YtlinplghgamgbaaGreatDoorB1
import Derived.Deep.WholeRow
import Derived.Lib.Hide
import Derived.WideShapes

/-
  The program's table of ops in memory.
-/
namespace Go.Proofs.YtlinplghgamgbaaGreatDoor
open Go.RowKit

/-- The cells of the table, four to an op. -/
def opL : Nat → List Value
  | 0 => []
  | n + 1 => opL n ++ [.string (wrd n), .string (bs (prt n)), .int .i64 (lst n), .int .i64 (mst n)]

def opC : Array Value := (opL 44).toArray

theorem opL_len : ∀ n, (opL n).length = n * 4 := by
  intro n
  induction n with
  | zero => rfl
  | succ n ih => rw [opL, List.length_append, ih]; simp; omega

theorem opL_get : ∀ n k, k < n → (opL n)[k * 4]? = some (.string (wrd k)) ∧ (opL n)[k * 4 + 1]? = some (.string (bs (prt k))) ∧ (opL n)[k * 4 + 2]? = some (.int .i64 (lst k)) ∧ (opL n)[k * 4 + 3]? = some (.int .i64 (mst k)) := by
  intro n
  induction n with
  | zero => intro k h; exact absurd h (Nat.not_lt_zero _)
  | succ n ih =>
    intro k h
    have hl := opL_len n
    by_cases hk : k < n
    · obtain ⟨h0, h1, h2, h3⟩ := ih k hk
      rw [opL, List.getElem?_append_left (by omega), List.getElem?_append_left (by omega), List.getElem?_append_left (by omega), List.getElem?_append_left (by omega)]
      exact ⟨h0, h1, h2, h3⟩
    · have : k = n := by omega
      subst this
      rw [opL, List.getElem?_append_right (by omega), List.getElem?_append_right (by omega), List.getElem?_append_right (by omega), List.getElem?_append_right (by omega), hl,
        show k * 4 - k * 4 = 0 by omega, show k * 4 + 1 - k * 4 = 1 by omega, show k * 4 + 2 - k * 4 = 2 by omega, show k * 4 + 3 - k * 4 = 3 by omega]
      exact ⟨rfl, rfl, rfl, rfl⟩

/-- A block that holds the table. -/
def Book (w : World) (b : Nat) : Prop := ∀ k, k < 44 → w.cell? ⟨b, k * 4, none⟩ = some (.string (wrd k)) ∧ w.cell? ⟨b, k * 4 + 1, none⟩ = some (.string (bs (prt k))) ∧ w.cell? ⟨b, k * 4 + 2, none⟩ = some (.int .i64 (lst k)) ∧ w.cell? ⟨b, k * 4 + 3, none⟩ = some (.int .i64 (mst k))

theorem Book.keep {w w' : World} {b : Nat} (h : Book w b) (hb : w'.heap[b]? = w.heap[b]?) : Book w' b := by
  intro k hk
  obtain ⟨h0, h1, h2, h3⟩ := h k hk
  exact ⟨(World.cell?_of_block (w := w) (w' := w') (a := ⟨b, k * 4, none⟩) hb).trans h0, (World.cell?_of_block (w := w) (w' := w') (a := ⟨b, k * 4 + 1, none⟩) hb).trans h1, (World.cell?_of_block (w := w) (w' := w') (a := ⟨b, k * 4 + 2, none⟩) hb).trans h2, (World.cell?_of_block (w := w) (w' := w') (a := ⟨b, k * 4 + 3, none⟩) hb).trans h3⟩

theorem Book.of {w : World} {b : Nat} {t : TypeId} {z : Nat × Nat} (h : w.heap[b]? = some (.cells opC t z)) : Book w b := by
  intro k hk
  obtain ⟨h0, h1, h2, h3⟩ := opL_get 44 k hk
  refine ⟨?_, ?_, ?_, ?_⟩
  · simp [World.cell?, h, opC, h0]
  · simp [World.cell?, h, opC, h1]
  · simp [World.cell?, h, opC, h2]
  · simp [World.cell?, h, opC, h3]

theorem results_cell1 {P : Program} {fn : Func} {p : Tmp} {ty : TypeId} (h : fn.results = #[.cell p ty]) (tmps : Array Value) (w : World) (b : Addr) (v : Value) (ha : tmps.getD p undef = .pointer (some b)) (hl : (loadVar ty b).run P w = .ok v w) :
    (results fn tmps).run P w = .ok v w := by
  have ha' : tmps[p]?.getD undef = .pointer (some b) := by simpa using ha
  simp [results, h, ha', hl, asAddr]

set_option maxRecDepth 100000 in
set_option maxHeartbeats 2000000 in
theorem rowsOfOps_any (w : World) : Calls Tryz.prog 39 #[] w fun e w' => e = .returned (.agg opC) ∧ Below w.heap.size w w' := by
  have hsz : opC.size = 176 := by kernel_rfl
  have hst := run_storeAt_new (P := Tryz.prog) w 55 Tryz.zeroCells55 opC (by kernel_rfl) (by kernel_rfl) (by kernel_rfl)
  have hst2 := run_storeCells_new (P := Tryz.prog) w 55 Tryz.zeroCells55 opC (by kernel_rfl) (by kernel_rfl) (by kernel_rfl)
  have hld : Hid _ := run_loadVar_new (P := Tryz.prog) w 55 opC 44 54 (by kernel_rfl) (by kernel_rfl)
  go_enter Tryz.func39, Tryz.ntmps39
  go_wp2_with fail
  conv =>
    pattern (Array.setIfInBounds (Array.setIfInBounds _ 174 _) 175 _)
    tactic => refine Eq.trans (b := opC) ?_ rfl; kernel_rfl
  conv =>
    pattern (List.set (List.set _ 174 _) 175 _)
    tactic => refine Eq.trans (b := opC.toList) ?_ rfl; kernel_rfl
  have HB : Hid (Below w.heap.size w (w.alloc (.cells opC 55))) := (Below.refl _ _).alloc (Nat.le_refl _) _
  rw [hst2]
  clear hst hst2
  go_wp2_with fail
  exact bodyPost_ret (results_cell1 Tryz.results39 _ _ ⟨w.heap.size, 0, none⟩ _ rfl hld.out) rfl ⟨rfl, HB.out⟩

end Go.Proofs.YtlinplghgamgbaaGreatDoor

/-
  The program's table of ops, made.
-/
namespace Go.Proofs.YtlinplghgamgbaaGreatDoor
open Go.RowKit

set_option maxRecDepth 100000 in
set_option maxHeartbeats 2000000 in
theorem newOpBook_any (w : World) : Calls Tryz.prog 30 #[] w fun e w' => ∃ b, e = .returned (.pointer (some ⟨b, 0, none⟩)) ∧ w.heap.size ≤ b ∧ b < w'.heap.size ∧ Book w' b ∧ Below w.heap.size w w' := by
  have hsz : opC.size = 176 := by kernel_rfl
  have hf : Array.foldl (fun cs (x : Value × Nat) => cs.setIfInBounds x.snd x.fst) Tryz.zeroCells58 opC.zipIdx 0 176 = opC := by kernel_rfl
  go_enter Tryz.func30, Tryz.ntmps30
  go_wp2_with fail
  refine (rowsOfOps_any w).mono ?_
  rintro e w1 ⟨rfl, hb1⟩
  have hb2 := hb1.alloc hb1.size (.cells opC 58)
  have HB : Hid (∃ b, Ending.returned (.pointer (some ⟨w1.heap.size, 0, none⟩)) = .returned (.pointer (some ⟨b, 0, none⟩)) ∧ w.heap.size ≤ b ∧ b < (w1.alloc (.cells opC 58)).heap.size ∧ Book (w1.alloc (.cells opC 58)) b ∧ Below w.heap.size w (w1.alloc (.cells opC 58))) :=
    ⟨w1.heap.size, rfl, hb1.size, by simp, Book.of (heap_alloc_last w1 _), hb2⟩
  clear hb1 hb2
  go_wp2_with fail
  go_ret
  exact HB.out

end Go.Proofs.YtlinplghgamgbaaGreatDoor

/-
  The program's table of ops: the op of a word; names of values; small questions.
-/
namespace Go.Proofs.YtlinplghgamgbaaGreatDoor
open Go.RowKit

theorem ba_beq (a b : ByteArray) : (a == b) = decide (a = b) := by
  obtain ⟨x⟩ := a
  obtain ⟨y⟩ := b
  show (x == y) = _
  by_cases h : x = y
  · subst h; simp
  · have h2 : ¬ (ByteArray.mk x) = ⟨y⟩ := fun e => h (congrArg ByteArray.data e)
    rw [decide_eq_false h2]; simpa using h

theorem eq_toList (a b : ByteArray) : (a.toList == b.toList) = (a == b) := by
  rw [ByteArray.toList_eq, ByteArray.toList_eq, ba_beq]
  by_cases h : a = b
  · subst h; simp
  · have h2 : ¬ a.data.toList = b.data.toList := fun e => h (Go.WideShapes.bytes_inj e)
    rw [decide_eq_false h]; simpa using h2

theorem eq_lit (a : ByteArray) (l : List UInt8) : (a.toList == l) = (a == bs l) := by
  rw [← eq_toList, ByteArray.toList_eq (bs l), bs_toList]

theorem opF_yes {s : ByteArray} {k n : Nat} (h : (wrd k == s) = true) : opF s k (n + 1) = k := by rw [opF, if_pos h]
theorem opF_no {s : ByteArray} {k n : Nat} (h : (wrd k == s) = false) : opF s k (n + 1) = opF s (k + 1) n := by rw [opF, if_neg (by rw [h]; decide)]

set_option maxRecDepth 20000 in
set_option maxHeartbeats 1000000 in
theorem opOfWord_any (b : Nat) (s : ByteArray) (w : World) (hb : Book w b) :
    Calls Tryz.prog 118 #[.pointer (some ⟨b, 0, none⟩), .string s] w fun e w' => e = .returned (.int .i64 (opW s : Nat)) ∧ w' = w := by
  have HB : Hid (Book w b) := hb
  clear hb
  go_enter Tryz.func118, Tryz.ntmps118
  go_wp2_with fail
  go_loop [5] (fun i => ∃ k : Nat, 5 ≤ k ∧ k ≤ 44 ∧ i = .int .i64 (k : Int) ∧ Hid (opF s k (44 - k) = opW s)) (fun i => 44 - (intOf i).toNat)
  case atStart => exact ⟨5, by omega, by omega, rfl, rfl⟩
  case round =>
    obtain ⟨k, h5, h44, rfl, HE⟩ := hrel
    by_cases hk : k < 44
    · obtain ⟨c0, -, -, -⟩ := HB.out k hk
      have hle : (k : Int) ≤ 43 := by omega
      cases hq : (wrd k == s) with
      | true =>
        have HF : Hid (Ending.returned (.int .i64 (k : Int)) = .returned (.int .i64 ((opW s : Nat) : Int))) := by
          show _ = _
          rw [← HE.out, show 44 - k = (43 - k) + 1 by omega, opF_yes hq]
        have hq2 : ((wrd k).toList == s.toList) = true := (eq_toList _ _).trans hq
        clear hq HE
        go_wp2_with fail
        go_ret
        exact ⟨HF.out, rfl⟩
      | false =>
        have HF : Hid (opF s (k + 1) (44 - (k + 1)) = opW s) := by
          show _ = _
          rw [← HE.out, show 44 - k = (44 - (k + 1)) + 1 by omega, opF_no hq]
        have hq2 : ((wrd k).toList == s.toList) = false := (eq_toList _ _).trans hq
        clear hq HE
        go_wp2_with fail
        go_round
        case rel => exact ⟨k + 1, by omega, by omega, by go_num, HF⟩
        case measure => simp [intOf]; omega
    · have hle : ¬ (k : Int) ≤ 43 := by omega
      have HF : Hid (Ending.returned (.int .i64 (0 : Int)) = .returned (.int .i64 ((opW s : Nat) : Int))) := by
        show _ = _
        rw [← HE.out, show 44 - k = 0 by omega]; rfl
      clear HE
      go_wp2_with fail
      go_ret
      exact ⟨HF.out, rfl⟩

set_option maxRecDepth 20000 in
set_option maxHeartbeats 1000000 in
theorem isValueName_any (b : Nat) (s : ByteArray) (w : World) (hs : s.size ≤ maxLen) (hb : Book w b) :
    Calls Tryz.prog 100 #[.pointer (some ⟨b, 0, none⟩), .string s] w fun e w' => e = .returned (.bool (freeB s)) ∧ w' = w := by
  have HC1 : Hid (Calls Tryz.prog 99 _ _ _) := isName_any s w hs
  have HC2 : Hid (Calls Tryz.prog 118 _ _ _) := opOfWord_any b s w hb
  have HF : Hid (freeB s = (nameB s && (opW s == 0) && !(s == bs [121, 101, 115]) && !(s == bs [110, 111]) && !(s == bs [101, 110, 100]))) := rfl
  have e1 := eq_lit s [121, 101, 115]
  have e2 := eq_lit s [110, 111]
  have e3 := eq_lit s [101, 110, 100]
  generalize (s == bs [121, 101, 115]) = b1 at *
  generalize (s == bs [110, 111]) = b2 at *
  generalize (s == bs [101, 110, 100]) = b3 at *
  clear hb
  cases hn : nameB s with
  | false =>
    rw [hn] at HC1 HF
    go_enter Tryz.func100, Tryz.ntmps100
    go_wp2_with fail
    refine HC1.out.mono ?_
    rintro e w1 ⟨rfl, rfl⟩
    go_wp2_with fail
    go_ret
    exact ⟨bool_ret (by rw [HF.out]; simp), rfl⟩
  | true =>
    rw [hn] at HC1 HF
    by_cases h0 : opW s = 0
    · have h0' : (opW s == 0) = true := by simp [h0]
      rw [h0'] at HF
      rw [h0] at HC2
      cases b1 <;> cases b2 <;> cases b3
      all_goals
        go_enter Tryz.func100, Tryz.ntmps100
        go_wp2_with fail
        refine HC1.out.mono ?_
        rintro e w1 ⟨rfl, rfl⟩
        go_wp2_with fail
        refine HC2.out.mono ?_
        rintro e w1 ⟨rfl, rfl⟩
        go_wp2_with fail
        go_ret
        exact ⟨bool_ret (by rw [HF.out]; rfl), rfl⟩
    · have h0' : (opW s == 0) = false := by simp [h0]
      have h0'' : (((opW s : Nat) : Int) == 0) = false := by simp; omega
      rw [h0'] at HF
      go_enter Tryz.func100, Tryz.ntmps100
      go_wp2_with fail
      refine HC1.out.mono ?_
      rintro e w1 ⟨rfl, rfl⟩
      go_wp2_with fail
      refine HC2.out.mono ?_
      rintro e w1 ⟨rfl, rfl⟩
      go_wp2_with fail
      go_ret
      exact ⟨bool_ret (by rw [HF.out]; simp), rfl⟩

set_option maxHeartbeats 400000 in
theorem partOf_any (op : Int) (w : World) : Calls Tryz.prog 20 #[.int .i64 op] w fun e w' => e = .returned (.int .i32 (poF op)) ∧ w' = w := by
  by_cases h1 : op < 1
  · go_enter Tryz.func20, Tryz.ntmps20
    go_wp2_with fail
    go_ret
    exact ⟨ret_int (by unfold poF; rw [if_pos (.inl h1)]), rfl⟩
  by_cases h2 : 43 < op
  · go_enter Tryz.func20, Tryz.ntmps20
    go_wp2_with fail
    go_ret
    exact ⟨ret_int (by unfold poF; rw [if_pos (.inr h2)]), rfl⟩
  by_cases h3 : op < 36
  · go_enter Tryz.func20, Tryz.ntmps20
    go_wp2_with fail
    go_ret
    exact ⟨ret_int (by unfold poF; rw [if_neg (by omega), if_pos h3]), rfl⟩
  · go_enter Tryz.func20, Tryz.ntmps20
    go_wp2_with fail
    go_ret
    exact ⟨ret_int (by unfold poF; rw [if_neg (by omega), if_neg (by omega)]), rfl⟩

set_option maxHeartbeats 400000 in
theorem isNum_any (x y : ByteArray) (a c n : Int) (w : World) : Calls Tryz.prog 63 #[.agg #[.string x, .string y, .int .i64 a, .int .i64 c], .int .i64 n] w fun e w' => e = .returned (.bool (decide (a ≤ n ∧ n ≤ c))) ∧ Below w.heap.size w w' := by
  have hb0 := (Below.refl w.heap.size w).alloc (Nat.le_refl _) (.cells #[.string x, .string y, .int .i64 a, .int .i64 c] 54)
  by_cases h1 : a ≤ n <;> by_cases h2 : n ≤ c
  all_goals
    go_enter Tryz.func63, Tryz.ntmps63
    go_wp2_with fail
    go_ret
    exact ⟨bool_ret (by simp [h1, h2]; try omega), hb0⟩

set_option maxHeartbeats 400000 in
theorem treeOfNode_any (s m : Int) (x : ByteArray) (a1 a2 : Option Addr) (n1 n2 k1 k2 : Nat) (w : World) : Calls Tryz.prog 62 #[.agg #[.int .i64 s, .int .i64 m, .string x, .slice a1 n1 k1, .slice a2 n2 k2]] w
    fun e w' => e = .returned (.agg #[.int .i64 s, .int .i64 m, .string x, .slice none 0 0, .slice none 0 0]) ∧ Below w.heap.size w w' := by
  have hb : Below w.heap.size w ((w.alloc (.cells #[.int .i64 s, .int .i64 m, .string x, .slice a1 n1 k1, .slice a2 n2 k2] 30)).alloc (.cells #[.int .i64 s, .int .i64 m, .string x, .slice none 0 0, .slice none 0 0] 52)) :=
    ((Below.refl _ _).alloc (Nat.le_refl _) _).alloc (by simp) _
  go_enter Tryz.func62, Tryz.ntmps62
  go_wp2_with fail
  refine bodyPost_ret (v := .agg #[.int .i64 s, .int .i64 m, .string x, .slice none 0 0, .slice none 0 0]) (by simp [results, Tryz.results62, go_sem]) rfl ?_
  exact ⟨rfl, hb⟩

end Go.Proofs.YtlinplghgamgbaaGreatDoor
