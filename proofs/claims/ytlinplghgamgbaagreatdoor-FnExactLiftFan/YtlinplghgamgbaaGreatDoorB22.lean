/-
  Several texts in one, in their order.
-/
import Derived.Test.YtlinplghgamgbaaGreatDoorB21
import Derived.Laws.RangeString
import Derived.Lib.OthersKept
import Derived.WalkSmall

/-
  The program: whether a node has just what its op has.
-/
namespace Go.Proofs.YtlinplghgamgbaaGreatDoor
open Go.RowKit

/-- A letter of a part. -/
def letP (p : UInt8) : Prop := p = 84 ∨ p = 75 ∨ p = 70 ∨ p = 35 ∨ p = 78 ∨ p = 88 ∨ p = 86 ∨ p = 65

theorem prt_let : ∀ k, k < 44 → ∀ p, p ∈ prt k → p = 84 ∨ p = 75 ∨ p = 70 ∨ p = 35 ∨ p = 78 ∨ p = 88 ∨ p = 86 ∨ p = 65 := by decide

theorem takesOff_any (S : Nat → Prop) (w : World) (m bk rb : Nat) (n r : Nd (T m)) (q0 v3 v4 : Value) (na ka : Option Addr) (nc kc : Nat) (p : UInt8) (hp : letP p) (h : Off S w m bk rb n r q0 v3 v4 na ka nc kc) :
    Calls Tryz.prog 54 #[.pointer (some ⟨bk, 0, none⟩), .pointer (some ⟨rb, 0, none⟩), .int .i32 (p.toNat : Int), .agg #[.int .i64 n.sort, .int .i64 n.num, .string n.text, .slice na n.names.length nc, .slice ka n.kids.length kc]] w (TakePost S m rb n r q0 p w) := by
  rcases hp with rfl | rfl | rfl | rfl | rfl | rfl | rfl | rfl
  · exact takesOff_T S w m bk rb n r q0 v3 v4 na ka nc kc h
  · exact takesOff_K S w m bk rb n r q0 v3 v4 na ka nc kc h
  · exact takesOff_F S w m bk rb n r q0 v3 v4 na ka nc kc h
  · exact takesOff_n S w m bk rb n r q0 v3 v4 na ka nc kc h
  · exact takesOff_N S w m bk rb n r q0 v3 v4 na ka nc kc _ (.inl rfl) h
  · exact takesOff_N S w m bk rb n r q0 v3 v4 na ka nc kc _ (.inr rfl) h
  · exact takesOff_V S w m bk rb n r q0 v3 v4 na ka nc kc _ (.inl rfl) h
  · exact takesOff_V S w m bk rb n r q0 v3 v4 na ka nc kc _ (.inr rfl) h

theorem stepP_names {α : Type} {po : α → Int} {n r r' : Nd α} {p : UInt8} (hp : letP p) (h : stepP po n r p = some r') : r'.names.length ≤ r.names.length := by
  rcases hp with rfl | rfl | rfl | rfl | rfl | rfl | rfl | rfl
  · rw [st_T] at h; split at h
    · cases h; exact Nat.le_refl _
    · cases h
  · rw [st_K] at h; split at h
    · cases h; exact Nat.le_refl _
    · cases h
  · rw [st_F] at h; split at h
    · cases h; simp
    · cases h
  · rw [st_n] at h; split at h
    · cases h; exact Nat.le_refl _
    · cases h
  · cases hn : r.names with
    | nil => rw [st_0 _ _ _ (.inl rfl) hn] at h; cases h
    | cons a q =>
      rw [st_1 _ _ _ (.inl rfl) hn] at h; split at h
      · cases h; simp
      · cases h
  · cases hn : r.names with
    | nil => rw [st_0 _ _ _ (.inr rfl) hn] at h; cases h
    | cons a q =>
      rw [st_1 _ _ _ (.inr rfl) hn] at h; split at h
      · cases h; simp
      · cases h
  · cases hn : r.kids with
    | nil => rw [st_k0 _ _ _ (.inl rfl) hn] at h; cases h
    | cons a q =>
      rw [st_k1 _ _ _ (.inl rfl) hn] at h; split at h
      · cases h; exact Nat.le_refl _
      · cases h
  · cases hn : r.kids with
    | nil => rw [st_k0 _ _ _ (.inr rfl) hn] at h; cases h
    | cons a q =>
      rw [st_k1 _ _ _ (.inr rfl) hn] at h; split at h
      · cases h; exact Nat.le_refl _
      · cases h

theorem Off.mv {S : Nat → Prop} {w w' : World} {m bk rb ib : Nat} {n r : Nd (T m)} {q0 v3 v4 : Value} {na ka : Option Addr} {nc kc : Nat} (h : Off S w m bk rb n r q0 v3 v4 na ka nc kc) (hz : w.heap.size ≤ w'.heap.size)
    (hb : ∀ b, b < w.heap.size → b ≠ ib → w'.heap[b]? = w.heap[b]?) (hS : ¬ S ib) (h1 : ib ≠ rb) (h2 : ib ≠ bk) : Off S w' m bk rb n r q0 v3 v4 na ka nc kc := by
  have hs : Same S w w' := fun b hb1 => hb b (h.bnd b hb1).1 (fun e => hS (e ▸ hb1))
  exact ⟨h.rst.keep hs (hb rb h.rst.lt (Ne.symm h1)), fun b hS => ⟨Nat.lt_of_lt_of_le (h.bnd b hS).1 hz, (h.bnd b hS).2⟩, h.book.keep (hb bk h.book.lt (Ne.symm h2)), h.ne, h.names.keep hs (fun _ h => h), h.cap, h.kids.keepN hs (fun _ h => h), h.le, h.txt, h.w0, h.w1, h.op⟩

theorem Off.next {S : Nat → Prop} {w w' : World} {m bk rb : Nat} {n r r' : Nd (T m)} {q0 v3 v4 v3' v4' : Value} {na ka : Option Addr} {nc kc : Nat} (h : Off S w m bk rb n r q0 v3 v4 na ka nc kc) (hn : Near rb w w') (hr : Rst S w' m rb r' q0 v3' v4') (hl : r'.names.length ≤ r.names.length) :
    Off S w' m bk rb n r' q0 v3' v4' na ka nc kc := by
  have hs := hn.same h.bnd
  exact ⟨hr, fun b hS => ⟨Nat.lt_of_lt_of_le (h.bnd b hS).1 hn.size, (h.bnd b hS).2⟩, h.book.keep (hn.block bk h.book.lt h.ne), h.ne, h.names.keep hs (fun _ h => h), h.cap, h.kids.keepN hs (fun _ h => h), Nat.le_trans hl h.le, h.txt, h.w0, h.w1, h.op⟩

/-- The question, under way: its box, what is left, the iterator, where it stands. -/
structure JustAt (S : Nat → Prop) (w wr : World) (m bk : Nat) (n r : Nd (T m)) (v3 v4 : Value) (na ka : Option Addr) (nc kc k pos ib : Nat) : Prop where
  off : Off S wr m bk (w.heap.size + 1) n r (.int .i64 (k : Int)) v3 v4 na ka nc kc
  iter : wr.heap[ib]? = some (.stringIter (bs (prt k)) pos)
  node : wr.heap[w.heap.size]? = some (.cells #[.int .i64 (k : Int), .int .i64 n.num, .string n.text, .slice na n.names.length nc, .slice ka n.kids.length kc] 30 (0, 0))
  below : Below w.heap.size w wr
  le : pos ≤ (prt k).length
  fold : foldP (poT m) n ((prt k).drop pos) r = foldP (poT m) n (prt k) n

theorem five_of {w : World} {b : Nat} {c0 c1 c2 c3 c4 : Value} {t : TypeId} (h : w.heap[b]? = some (.cells #[c0, c1, c2, c3, c4] t (0, 0))) :
    w.cell? ⟨b, 0, none⟩ = some c0 ∧ w.cell? ⟨b, 1, none⟩ = some c1 ∧ w.cell? ⟨b, 2, none⟩ = some c2 ∧ w.cell? ⟨b, 3, none⟩ = some c3 ∧ w.cell? ⟨b, 4, none⟩ = some c4 := by
  refine ⟨?_, ?_, ?_, ?_, ?_⟩ <;> simp [World.cell?, h]

theorem prt_ascii : ∀ k, k < 44 → ∀ p, p ∈ prt k → p.toNat < 128 := by decide

theorem bs_get (l : List UInt8) (i : Nat) (h : i < (bs l).size) : (bs l)[i]'h = l[i]'(by rw [bs_size] at h; exact h) := by
  simp [bs, ByteArray.getElem_eq_getElem_data]

theorem JustAt.step {S : Nat → Prop} {w wr : World} {m bk : Nat} {n r : Nd (T m)} {v3 v4 : Value} {na ka : Option Addr} {nc kc k pos ib : Nat} (h : JustAt S w wr m bk n r v3 v4 na ka nc kc k pos ib) (hib : w.heap.size + 2 ≤ ib) (hbk : bk < w.heap.size) (hB : ∀ b, S b → b < w.heap.size) (hk : k < 44)
    (hp : pos < (prt k).length) :
    Off S (wr.iterAt ib (bs (prt k)) (pos + 1)) m bk (w.heap.size + 1) n r (.int .i64 (k : Int)) v3 v4 na ka nc kc ∧
    (wr.iterAt ib (bs (prt k)) (pos + 1)).heap[w.heap.size]? = wr.heap[w.heap.size]? ∧
    (∀ e w', TakePost S m (w.heap.size + 1) n r (.int .i64 (k : Int)) (prt k)[pos] (wr.iterAt ib (bs (prt k)) (pos + 1)) e w' →
      (∃ r' v3' v4', e = .returned (.bool true) ∧ JustAt S w w' m bk n r' v3' v4' na ka nc kc k (pos + 1) ib) ∨ (e = .returned (.bool false) ∧ foldP (poT m) n (prt k) n = none ∧ Below w.heap.size w w')) := by
  have hoff := h.off.mv (w' := wr.iterAt ib (bs (prt k)) (pos + 1)) (ib := ib) (by rw [Lib.iterAt_size]; exact Nat.le_refl _) (fun b _ hb => Lib.iterAt_other wr ib b _ _ hb) (fun hS => by have := hB ib hS; omega) (by omega) (by omega)
  have hit : (wr.iterAt ib (bs (prt k)) (pos + 1)).heap[ib]? = some (.stringIter (bs (prt k)) (pos + 1)) := Lib.iterAt_heap wr ib _ _ _ h.iter
  have hlt : ib < wr.heap.size := (Array.getElem?_eq_some_iff.1 h.iter).1
  have hbel : Below w.heap.size w (wr.iterAt ib (bs (prt k)) (pos + 1)) := Lib.below_iterAt h.below (by omega) _ _
  have hnd : (wr.iterAt ib (bs (prt k)) (pos + 1)).heap[w.heap.size]? = wr.heap[w.heap.size]? := Lib.iterAt_other wr ib _ _ _ (by omega)
  have hdrop : (prt k).drop pos = (prt k)[pos] :: (prt k).drop (pos + 1) := (List.drop_eq_getElem_cons hp)
  have hlet : letP (prt k)[pos] := prt_let k hk _ (List.getElem_mem hp)
  refine ⟨hoff, hnd, ?_⟩
  rintro e w' ⟨hn, ⟨r', v3', v4', hst, rfl, hr'⟩ | ⟨hst, rfl⟩⟩
  · refine .inl ⟨r', v3', v4', rfl, hoff.next hn hr' (stepP_names hlet hst), ?_, ?_, hbel.trans (hn.below (by omega) hbel.size), hp, ?_⟩
    · exact (hn.block ib (by rw [Lib.iterAt_size]; exact hlt) (by omega)).trans hit
    · exact (hn.block w.heap.size (by rw [Lib.iterAt_size]; omega) (by omega)).trans (hnd.trans h.node)
    · have := h.fold
      rw [hdrop, fold_yes hst] at this
      exact this
  · refine .inr ⟨rfl, ?_, hbel.trans (hn.below (by omega) hbel.size)⟩
    have := h.fold
    rw [hdrop, fold_no hst] at this
    exact this.symm

set_option maxRecDepth 20000 in
set_option maxHeartbeats 1000000 in
theorem hasJust_nd (S : Nat → Prop) (w : World) (m bk : Nat) (n : Nd (T m)) (na ka : Option Addr) (nc kc : Nat) (hw0 : (Lit.int .i64 n.sort).wf = true) (hw1 : (Lit.int .i64 n.num).wf = true) (h3 : StrsIn S w n.names (.slice na n.names.length nc)) (hc3 : n.names.length ≤ nc)
    (h4 : RowIn S w (NodeIn S w m) n.kids (.slice ka n.kids.length kc)) (hc4 : n.kids.length ≤ kc) (hB : ∀ b, S b → b < w.heap.size) (hbk : Book w bk) (hx : n.text.size ≤ 1048576) :
    Calls Tryz.prog 42 #[.pointer (some ⟨bk, 0, none⟩), .agg #[.int .i64 n.sort, .int .i64 n.num, .string n.text, .slice na n.names.length nc, .slice ka n.kids.length kc]] w fun e w' => e = .returned (.bool (justB (poT m) n)) ∧ Below w.heap.size w w' := by
  have HP : Hid (∀ w, Calls Tryz.prog 20 #[.int .i64 n.sort] w _) := fun w => partOf_any n.sort w
  have hb0 := (Below.refl w.heap.size w).alloc (Nat.le_refl _) (.cells #[.int .i64 n.sort, .int .i64 n.num, .string n.text, .slice na n.names.length nc, .slice ka n.kids.length kc] 30)
  by_cases hop : 1 ≤ n.sort ∧ n.sort ≤ 43
  case neg =>
    have hpo : poF n.sort = 0 := by unfold poF; rw [if_pos (by omega)]
    have HF : Hid (justB (poT m) n = false) := by show _ = _; unfold justB; rw [decide_eq_false hop]; rfl
    rw [hpo] at HP
    clear h3 h4 hbk
    go_enter Tryz.func42, Tryz.ntmps42
    go_wp2_with fail
    refine (HP.out _).mono ?_
    rintro e w1 ⟨rfl, rfl⟩
    go_wp2_with fail
    go_ret
    exact ⟨bool_ret HF.out.symm, hb0⟩
  have hpo : (poF n.sort == 0) = false := by
    have : poF n.sort = 86 ∨ poF n.sort = 65 := by
      unfold poF; rw [if_neg (by omega)]; split
      · exact .inl rfl
      · exact .inr rfl
    rcases this with h | h <;> rw [h] <;> rfl
  generalize poF n.sort = po at *
  obtain ⟨k, hk⟩ : ∃ k : Nat, n.sort = (k : Int) := ⟨n.sort.toNat, by omega⟩
  have hk44 : k < 44 := by omega
  obtain ⟨W, hW⟩ : ∃ W, W = ((w.alloc (.cells #[.int .i64 (k : Int), .int .i64 n.num, .string n.text, .slice na n.names.length nc, .slice ka n.kids.length kc] 30)).alloc (.cells #[.int .i64 (k : Int), .int .i64 n.num, .string n.text, .slice na n.names.length nc, .slice ka n.kids.length kc] 30)).drew := ⟨_, rfl⟩
  have hszW : W.heap.size = w.heap.size + 2 := by rw [hW]; simp
  have hbW : Below w.heap.size w W := by rw [hW]; exact (((Below.refl _ _).alloc (Nat.le_refl _) _).alloc (by simp) _).drew
  have hbV : Below w.heap.size w (W.iter (bs (prt k)) 0) := hbW.alloc hbW.size _
  have hs : Same S w (W.iter (bs (prt k)) 0) := same_below hbV hB
  have hblt := hbk.lt
  have hnode : (W.iter (bs (prt k)) 0).heap[w.heap.size]? = some (.cells #[.int .i64 (k : Int), .int .i64 n.num, .string n.text, .slice na n.names.length nc, .slice ka n.kids.length kc] 30 (0, 0)) := by
    refine (Below.heap_alloc _ _ _ (by omega)).trans ?_
    rw [hW]
    exact (Below.heap_alloc _ _ _ (by simp)).trans (heap_alloc_last _ _)
  have hrest : (W.iter (bs (prt k)) 0).heap[w.heap.size + 1]? = some (.cells #[.int .i64 (k : Int), .int .i64 n.num, .string n.text, .slice na n.names.length nc, .slice ka n.kids.length kc] 30 (0, 0)) := by
    refine (Below.heap_alloc _ _ _ (by omega)).trans ?_
    rw [hW]
    have := heap_alloc_last (w.alloc (.cells #[.int .i64 (k : Int), .int .i64 n.num, .string n.text, .slice na n.names.length nc, .slice ka n.kids.length kc] 30)) (.cells #[.int .i64 (k : Int), .int .i64 n.num, .string n.text, .slice na n.names.length nc, .slice ka n.kids.length kc] 30)
    rw [show (w.alloc (.cells #[.int .i64 (k : Int), .int .i64 n.num, .string n.text, .slice na n.names.length nc, .slice ka n.kids.length kc] 30)).heap.size = w.heap.size + 1 by simp] at this
    exact this
  have HJ : Hid (JustAt S w (W.iter (bs (prt k)) 0) m bk n n (.slice na n.names.length nc) (.slice ka n.kids.length kc) na ka nc kc k 0 (w.heap.size + 2)) := by
    refine ⟨⟨⟨hrest, h3.keep hs (fun _ h => h), ⟨_, _, _, rfl, hc3⟩, h4.keepN hs (fun _ h => h), ⟨_, _, _, rfl, hc4⟩⟩, fun b hS => ?_, hbk.keep (hbV.block bk hblt), by omega, h3.keep hs (fun _ h => h), hc3, h4.keepN hs (fun _ h => h), Nat.le_refl _, hx, hw0, hw1, hop⟩, ?_, hnode, hbV, Nat.zero_le _, by rw [List.drop_zero]⟩
    · have := hB b hS
      exact ⟨Nat.lt_of_lt_of_le this hbV.size, by omega⟩
    · rw [← hszW]; exact World.iter_heap _ _ _
  have HB := hidF hB
  have hbook : Book (w.alloc (.cells #[.int .i64 (k : Int), .int .i64 n.num, .string n.text, .slice na n.names.length nc, .slice ka n.kids.length kc] 30)) bk := hbk.keep (Below.heap_alloc _ _ _ hblt)
  have hbook2 : Book ((w.alloc (.cells #[.int .i64 (k : Int), .int .i64 n.num, .string n.text, .slice na n.names.length nc, .slice ka n.kids.length kc] 30)).alloc (.cells #[.int .i64 (k : Int), .int .i64 n.num, .string n.text, .slice na n.names.length nc, .slice ka n.kids.length kc] 30)) bk := hbook.keep (Below.heap_alloc _ _ _ (by simp; omega))
  obtain ⟨-, b1, -, -⟩ := hbook2 k hk44
  have HW := hidF hW
  have HK := hidF hk
  have HCk : Hid (∀ (W' : World) (r : Nd (T m)) (v3 v4 : Value) (p : UInt8), letP p → Off S W' m bk (w.heap.size + 1) n r (.int .i64 (k : Int)) v3 v4 na ka nc kc →
      Calls Tryz.prog 54 #[.pointer (some ⟨bk, 0, none⟩), .pointer (some ⟨w.heap.size + 1, 0, none⟩), .int .i32 (p.toNat : Int), .agg #[.int .i64 (k : Int), .int .i64 n.num, .string n.text, .slice na n.names.length nc, .slice ka n.kids.length kc]] W' (TakePost S m (w.heap.size + 1) n r (.int .i64 (k : Int)) p W')) := by
    intro W' r v3 v4 p hp ho
    have := takesOff_any S W' m bk (w.heap.size + 1) n r _ v3 v4 na ka nc kc p hp ho
    rw [hk] at this
    exact this
  have HF : Hid (justB (poT m) n = finB (foldP (poT m) n (prt k) n)) := by
    show _ = _
    unfold justB
    rw [decide_eq_true hop, hk]; rfl
  rw [hk] at HP ⊢
  clear hk h3 h4 hB hbk hs hbW hbV hnode hrest hW hb0 hbook hbook2 hw0 hw1 hx hop
  go_enter Tryz.func42, Tryz.ntmps42
  go_wp2_with fail
  refine (HP.out _).mono ?_
  rintro e w1 ⟨rfl, rfl⟩
  go_wp2_with fail
  go_region
  rw [← HW.out]
  clear b1 HP
  go_wp2_with fail
  go_loopw [7] (fun _ wr => ∃ pos r v3 v4, JustAt S w wr m bk n r v3 v4 na ka nc kc k pos (w.heap.size + 2)) (fun _ wr => (prt k).length - wr.iterPos (w.heap.size + 2))
  case atStart => exact ⟨0, _, _, _, HJ.out⟩
  case round =>
    obtain ⟨pos, r, v3, v4, hj⟩ := hrel
    have hle := hj.le
    have hit := hj.iter
    have hipos := iterPos_of hit
    by_cases hp : pos < (prt k).length
    · have hnx := fun ty => Lib.run_next_ascii_at (P := Tryz.prog) wr (w.heap.size + 2) (bs (prt k)) pos ty hit (by rw [bs_size]; exact hp) (by rw [bs_get]; exact prt_ascii k hk44 _ (List.getElem_mem hp))
      rw [bs_get] at hnx
      obtain ⟨ho, hnd, hpost⟩ := hj.step (Nat.le_refl _) hblt HB.out hk44 hp
      have hcl := hnd.trans hj.node
      obtain ⟨z0, z1, z2, z3, z4⟩ := five_of hcl
      have HC := hidF (HCk.out _ r v3 v4 _ (prt_let k hk44 _ (List.getElem_mem hp)) ho)
      have HPo := hidF hpost
      have HI : Hid (wr.iterPos (w.heap.size + 2) = pos) := hipos
      clear hj hit hipos ho hnd hpost hcl
      go_wp2_with fail
      refine HC.out.mono ?_
      rintro e w2 hq
      rcases HPo.out e w2 hq with ⟨r', v3', v4', rfl, hj'⟩ | ⟨rfl, hno, hbl⟩
      · have HJ' := hidF hj'
        have HI' : Hid (w2.iterPos (w.heap.size + 2) = pos + 1) := iterPos_of hj'.iter
        clear hq hj' HC HPo z0 z1 z2 z3 z4 hnx
        go_wp2_with fail
        go_roundw
        case rel => exact ⟨pos + 1, _, _, _, HJ'.out⟩
        case measure => rw [HI'.out, HI.out]; omega
      · have HE : Hid (justB (poT m) n = false ∧ Below w.heap.size w w2) := ⟨by rw [HF.out, hno]; rfl, hbl⟩
        clear hq HC HPo z0 z1 z2 z3 z4 hnx hno hbl
        go_wp2_with fail
        go_ret
        exact ⟨bool_ret HE.out.1.symm, HE.out.2⟩
    · have hnx := fun ty => Lib.run_next_end_at (P := Tryz.prog) wr (w.heap.size + 2) (bs (prt k)) pos ty hit (by rw [bs_size]; exact hp)
      have hfo := hj.fold
      rw [List.drop_of_length_le (by omega), foldP] at hfo
      have HE : Hid (justB (poT m) n = ((r.num == 0) && r.text.toList.isEmpty && ((r.names.length : Int) == 0) && ((r.kids.length : Int) == 0)) ∧ Below w.heap.size w wr) := ⟨by rw [HF.out, ← hfo]; rfl, hj.below⟩
      obtain ⟨⟨y1, y2, y3, y4⟩, -⟩ := hj.off.rst.cells
      obtain ⟨xa, xl, xc, rfl, -⟩ := hj.off.rst.k3
      obtain ⟨ya, yl, yc, rfl, -⟩ := hj.off.rst.k4
      obtain ⟨_, _, hv, -⟩ := id hj.off.rst.n3
      cases hv
      obtain ⟨_, _, hv, -⟩ := id hj.off.rst.n4
      cases hv
      clear hj hit hipos hfo
      go_wp2_with fail
      all_goals
        go_ret
        refine ⟨bool_ret ?_, HE.out.2⟩
        rw [HE.out.1]
        first
          | simp [‹r.num = 0›, ‹r.text.toList = []›, ‹r.names = []›]
          | simp [‹r.num = 0›, ‹r.text.toList = []›, ‹¬ r.names = []›]
          | simp [‹r.num = 0›, ‹¬ r.text.toList = []›]
          | simp [‹¬ r.num = 0›]

end Go.Proofs.YtlinplghgamgbaaGreatDoor

/-
  The program's walker at nodes, with the closure by which isOk asks each node.
-/
namespace Go.Proofs.YtlinplghgamgbaaGreatDoor
open Go.RowKit

/-- What the closure captured. -/
structure CapN (w : World) (pb bb bk : Nat) (p : Int) : Prop where
  parts : Prt w pb p
  bc : w.cell? ⟨bb, 0, none⟩ = some (.pointer (some ⟨bk, 0, none⟩))
  book : Book w bk
  nb : bb ≠ pb
  nk : bk ≠ pb

theorem CapN.keep {w w' : World} {pb bb bk : Nat} {p q : Int} (h : CapN w pb bb bk p) (hn : Near pb w w') (hp : Prt w' pb q) : CapN w' pb bb bk q :=
  ⟨hp, hn.cell h.bc h.nb, h.book.keep (hn.block bk h.book.lt h.nk), h.nb, h.nk⟩

theorem all_take_kidN {α : Type} {p : α → Bool} {l : List α} (k : Nat) (h : k < l.length) (ht : (l.take k).all p = true) (hf : p l[k] = true) : (l.take (k + 1)).all p = true := by
  rw [List.take_succ_eq_append_getElem h, List.all_append, ht]; simpa using hf

set_option maxHeartbeats 1000000 in
theorem accN_any (S : Nat → Prop) (m : Nat) (n : Nd (T m)) (na ka : Option Addr) (nc kc pb bb bk : Nat) (d p : Int) (w : World) (hw0 : (Lit.int .i64 n.sort).wf = true) (hw1 : (Lit.int .i64 n.num).wf = true)
    (h3 : StrsIn S w n.names (.slice na n.names.length nc)) (hc3 : n.names.length ≤ nc) (h4 : RowIn S w (NodeIn S w m) n.kids (.slice ka n.kids.length kc)) (hc4 : n.kids.length ≤ kc) (hB : ∀ b, S b → b < w.heap.size ∧ b ≠ pb)
    (hp : CapN w pb bb bk p) (hx : n.text.size ≤ 1048576) (hp0 : 0 ≤ p) (hp1 : p ≤ 200) :
    Calls Tryz.prog 41 #[.agg #[.int .i64 n.sort, .int .i64 n.num, .string n.text, .slice na n.names.length nc, .slice ka n.kids.length kc], .int .i64 d, .pointer (some ⟨pb, 0, none⟩), .pointer (some ⟨bb, 0, none⟩)] w
      fun e w' => e = .returned (.bool (decide (p + 1 ≤ 200) && decide (d ≤ 24) && justB (poT m) n)) ∧ Prt w' pb (p + 1) ∧ Near pb w w' := by
  have hlt := hp.parts.lt
  have hn0 : Near pb w (w.setCell ⟨pb, 0, none⟩ (.int .i64 (p + 1))) := Near.set pb 0 _ (.int .i64 (p + 1))
  have hn1 := hn0.trans (Near.alloc pb _ (.cells #[.int .i64 n.sort, .int .i64 n.num, .string n.text, .slice na n.names.length nc, .slice ka n.kids.length kc] 30))
  have hp' : Prt ((w.setCell ⟨pb, 0, none⟩ (.int .i64 (p + 1))).alloc (.cells #[.int .i64 n.sort, .int .i64 n.num, .string n.text, .slice na n.names.length nc, .slice ka n.kids.length kc] 30)) pb (p + 1) := (hp.parts.set (p + 1)).keep ((Below.refl _ _).alloc (Nat.le_refl _) _)
  have hs := hn1.same hB
  have HC : Hid (Calls Tryz.prog 42 _ _ _) := hasJust_nd S _ m bk n na ka nc kc hw0 hw1 (h3.keep hs (fun _ h => h)) hc3 (h4.keepN hs (fun _ h => h)) hc4 (fun b hb => Nat.lt_of_lt_of_le (hB b hb).1 hn1.size) (hp.book.keep (hn1.block bk hp.book.lt hp.nk)) hx
  have c0 := hp.parts.cell
  have f0 := hp.parts.free
  have m0 := hp.bc
  have nm := hp.nb
  have hm : bb < w.heap.size := cell_lt0 m0
  have hne : w.heap.size ≠ pb := by omega
  clear h3 h4 hp hn0 hB hs
  by_cases h1 : p + 1 ≤ 200
  · by_cases h2 : d ≤ 24
    · go_enter Tryz.func41, Tryz.ntmps41
      go_wp2_with fail
      refine HC.out.mono ?_
      rintro e w' ⟨rfl, hb1⟩
      have hp2 : Prt w' pb (p + 1) := (hb1.block pb (by simp; omega)).trans hp'
      have hn2 := hn1.trans (Near.of_below (bb := pb) hb1)
      clear hb1 HC
      go_wp2_with fail
      go_ret
      exact ⟨bool_ret (by simp [h1, h2]), hp2, hn2⟩
    · go_enter Tryz.func41, Tryz.ntmps41
      go_wp2_with fail
      go_ret
      exact ⟨bool_ret (by rw [decide_eq_false (show ¬ d ≤ 24 by omega)]; simp), hp', hn1⟩
  · go_enter Tryz.func41, Tryz.ntmps41
    go_wp2_with fail
    go_ret
    exact ⟨bool_ret (by rw [decide_eq_false (show ¬ p + 1 ≤ 200 by omega)]; simp), hp', hn1⟩

/-- What walk does with a tree. -/
def WalkNPost (n : Nat) (t : T n) (d p : Int) (pb : Nat) (w : World) (e : Ending) (w' : World) : Prop :=
  Near pb w w' ∧ ∃ r, e = .returned (.bool r) ∧ (r = true → goodN n t d = true ∧ p + (cntT n t : Int) ≤ 200 ∧ Prt w' pb (p + cntT n t)) ∧ (r = false → ¬ (goodN n t d = true ∧ p + (cntT n t : Int) ≤ 200))

/-- The closure of isOk. -/
def clN (pb bb : Nat) : Value := .func (.func 41) #[] #[.pointer (some ⟨pb, 0, none⟩), .pointer (some ⟨bb, 0, none⟩)]

/-- walk at trees of at most n levels. -/
def WalkNSaid (n : Nat) : Prop := ∀ (S : Nat → Prop) (t : T n) (c0 c1 c2 c3 c4 : Value) (d p : Int) (pb bb bk : Nat) (w : World), NodeIn S w n t c0 c1 c2 c3 c4 → (∀ b, S b → b < w.heap.size ∧ b ≠ pb) → CapN w pb bb bk p → szT n t ≤ 1048576 → 0 ≤ p → p ≤ 200 → 1 ≤ d → d ≤ 25 →
  Calls Tryz.prog 40 #[.agg #[c0, c1, c2, c3, c4], .int .i64 d, clN pb bb] w (WalkNPost n t d p pb w)

set_option maxHeartbeats 1200000 in
theorem kidsN_any (a b c d e : Value) (ha : ∃ x l k, e = .slice x l k) (w : World) : Calls Tryz.prog 158 #[.agg #[a, b, c, d, e]] w fun e' w' => e' = .returned e ∧ Below w.heap.size w w' := by
  obtain ⟨x, l, k, rfl⟩ := ha
  have hb0 := (Below.refl w.heap.size w).alloc (Nat.le_refl _) (.cells #[a, b, c, d, .slice x l k] 30)
  go_enter Tryz.func158, Tryz.ntmps158
  go_wp2_with fail
  go_ret
  exact ⟨rfl, hb0⟩

theorem walkN_bad {n : Nat} {t : T (n + 1)} {d p : Int} (k : Nat) (hk : k < (Nd.kids t).length)
    (h : ¬ (goodN n (Nd.kids t)[k] (d + 1) = true ∧ p + 1 + (sumL (fun x => cntT n x) ((Nd.kids t).take k) : Int) + (cntT n (Nd.kids t)[k] : Int) ≤ 200)) : ¬ (goodN (n + 1) t d = true ∧ p + (cntT (n + 1) t : Int) ≤ 200) := by
  rintro ⟨h1, h2⟩
  apply h
  simp only [goodN, Bool.and_eq_true, List.all_eq_true] at h1
  refine ⟨h1.2 _ (List.getElem_mem hk), ?_⟩
  have e := sumL_take_succ (fun x => cntT n x) (Nd.kids t) k hk
  have e2 := sumL_append (fun x => cntT n x) ((Nd.kids t).take (k + 1)) ((Nd.kids t).drop (k + 1))
  rw [List.take_append_drop] at e2
  simp only [cntT] at h2
  omega

set_option maxRecDepth 100000 in
set_option maxHeartbeats 1000000 in
theorem walkN_step (n : Nat) (hn : WalkNSaid n) : WalkNSaid (n + 1) := by
  intro S t c0 c1 c2 c3 c4 d p pb bb bk w ht hB hcap hsz hp0 hp1 hd1 hd7
  obtain ⟨rfl, rfl, rfl, hsx, hw0, hw1, h3, h4, ⟨na, nl, nc, rfl, hc3⟩, ⟨ka, kl, kc, rfl, hc4⟩⟩ := ht
  obtain ⟨_, _, hv, -⟩ := id h3
  cases hv
  obtain ⟨_, _, hv, hlen, -⟩ := id h4
  cases hv
  have hst : (Nd.text t).size ≤ 1048576 := by simp only [szT] at hsz; omega
  have HSK : Hid (∀ k (h : k < (Nd.kids t).length), szT n (Nd.kids t)[k] ≤ 1048576) := fun k h => by
    have := sumL_mono (fun k => szT n k + 1) (Nd.kids t) _ (List.getElem_mem h)
    simp only [szT] at hsz; omega
  clear hsz
  unfold maxLen at hlen
  have hlt := hcap.parts.lt
  have hb0 := (Below.refl w.heap.size w).alloc (Nat.le_refl _) (.cells #[.int .i64 (Nd.sort t), .int .i64 (Nd.num t), .string (Nd.text t), .slice na (Nd.names t).length nc, .slice ka (Nd.kids t).length kc] 30)
  have hn0 : Near pb w (w.alloc (.cells #[.int .i64 (Nd.sort t), .int .i64 (Nd.num t), .string (Nd.text t), .slice na (Nd.names t).length nc, .slice ka (Nd.kids t).length kc] 30)) := Near.of_below hb0
  have h3' := h3.keep (hn0.same hB) (fun _ h => h)
  have h4' := h4.keepN (hn0.same hB) (fun _ h => h)
  have HC : Hid (Calls Tryz.prog 41 _ _ _) := accN_any S n (show Nd (T n) from t) na ka nc kc pb bb bk d p _ hw0 hw1 h3' hc3 h4' hc4 (fun b hb => by have := hB b hb; simp; omega) (hcap.keep hn0 (hcap.parts.keep hb0)) hst hp0 hp1
  clear h4'
  unfold clN
  go_enter Tryz.func40, Tryz.ntmps40
  go_wp2_with fail
  refine HC.out.mono ?_
  rintro e w1 ⟨rfl, hp2, hn1⟩
  have hn2 := hn0.trans hn1
  have hcap2 := hcap.keep hn2 hp2
  have hz2 := hn2.size
  have hz1 : w.heap.size < w1.heap.size := by have := hn1.size; simp at this; omega
  have k0 : w1.cell? ⟨w.heap.size, 0, none⟩ = some (.int .i64 (Nd.sort t)) := hn1.cell (by simp [go_sem]) (by omega)
  have k1 : w1.cell? ⟨w.heap.size, 1, none⟩ = some (.int .i64 (Nd.num t)) := hn1.cell (by simp [go_sem]) (by omega)
  have k2 : w1.cell? ⟨w.heap.size, 2, none⟩ = some (.string (Nd.text t)) := hn1.cell (by simp [go_sem]) (by omega)
  have k3 : w1.cell? ⟨w.heap.size, 3, none⟩ = some (.slice na (Nd.names t).length nc) := hn1.cell (by simp [go_sem]) (by omega)
  have k4 : w1.cell? ⟨w.heap.size, 4, none⟩ = some (.slice ka (Nd.kids t).length kc) := hn1.cell (by simp [go_sem]) (by omega)
  have h4' := h4.keepN (hn2.same hB) (fun _ h => h)
  clear HC hn0 hb0 h3' hn1 h3 h4
  generalize hok : (decide (p + 1 ≤ 200) && decide (d ≤ 24) && justB (poT n) (show Nd (T n) from t)) = ok
  cases ok with
  | false =>
    have HP : Hid (WalkNPost (n + 1) t d p pb w (.returned (.bool false)) w1) := by
      refine ⟨hn2, false, rfl, fun h => (by cases h), fun _ => ?_⟩
      rintro ⟨hg, hc⟩
      simp only [goodN, Bool.and_eq_true, decide_eq_true_eq] at hg
      have ha : justB (poT n) (show Nd (T n) from t) = true := hg.1.2
      have : p + 1 ≤ 200 := by simp only [cntT] at hc; omega
      rw [ha, decide_eq_true hg.1.1, decide_eq_true this] at hok
      cases hok
    clear hok
    go_wp2_with fail
    go_ret
    exact HP.out
  | true =>
    simp only [Bool.and_eq_true, decide_eq_true_eq] at hok
    have HAL : Hid ((decide (d ≤ 24) && justB (poT n) (show Nd (T n) from t)) = true) := by show _ = _; rw [hok.2, decide_eq_true hok.1.2]; rfl
    obtain ⟨⟨ho1, ho2⟩, -⟩ := hok
    go_wp2_with fail
    refine (kidsN_any _ _ _ _ _ ⟨_, _, _, rfl⟩ _).mono ?_
    rintro e w2 ⟨rfl, hb2⟩
    have hn3 : Near pb w w2 := hn2.trans (Near.of_below hb2)
    have hp3 : Prt w2 pb (p + 1) := hp2.keep hb2
    have hz3 := hb2.size
    have h5 := h4'.keepN ((Near.of_below (bb := pb) hb2).same (fun b hb => by have := hB b hb; omega)) (fun _ h => h)
    clear h4' hb2 hcap2 hn2 hp2 k0 k1 k2 k3 k4
    obtain ⟨_, _, hkv, -, hkids⟩ := h5
    cases hkv
    go_wp2_with fail
    go_loopw [18] (fun i wr => ∃ k : Nat, k ≤ (Nd.kids t).length ∧ i = .int .i64 k ∧ Near pb w2 wr ∧ Prt wr pb (p + 1 + (sumL (fun x => cntT n x) ((Nd.kids t).take k) : Int)) ∧
        p + 1 + (sumL (fun x => cntT n x) ((Nd.kids t).take k) : Int) ≤ 200 ∧ ((Nd.kids t).take k).all (fun x => goodN n x (d + 1)) = true) (fun i _ => (Nd.kids t).length - (intOf i).toNat)
    case atStart => exact ⟨0, Nat.zero_le _, rfl, Near.refl _ _, by simpa [sumL] using hp3, by simpa [sumL] using ho1, by simp⟩
    case round =>
      obtain ⟨k, hk, rfl, hnr, hpr, hfew, hall⟩ := hrel
      have HALL := hidF hall
      clear hall
      have hzr := hnr.size
      have hn4 := hn3.trans hnr
      have hltr := hpr.lt
      by_cases hlt : k < (Nd.kids t).length
      · obtain ⟨b, off, rfl, hbB, hcell⟩ := hkids (by intro h; rw [h] at hlt; simp at hlt)
        obtain ⟨x0, x1, x2, x3, x4, e0, e1, e2, e3, e4, hr⟩ := hcell k hlt
        have hbb := hB b hbB
        have f0 := hnr.cell e0 hbb.2
        have f1 := hnr.cell e1 hbb.2
        have f2 := hnr.cell e2 hbb.2
        have f3 := hnr.cell e3 hbb.2
        have f4 := hnr.cell e4 hbb.2
        have q := hr.keep (hnr.same (fun b hb => by have := hB b hb; omega)) (fun _ h => h)
        obtain ⟨y0, y1, y2, ya, yl, yc, za, zl, zc, rfl, rfl, rfl, rfl, rfl⟩ := q.shape
        clear hkids hcell e0 e1 e2 e3 e4 hr
        have hb5 := (Below.refl wr.heap.size wr).alloc (Nat.le_refl _) (.cells #[.int .i64 y0, .int .i64 y1, .string y2, .slice ya yl yc, .slice za zl zc] 30)
        have hn5 : Near pb wr (wr.alloc (.cells #[.int .i64 y0, .int .i64 y1, .string y2, .slice ya yl yc, .slice za zl zc] 30)) := Near.of_below hb5
        have q5 := q.keep (hn5.same (fun b hb => by have := hB b hb; omega)) (fun _ h => h)
        have hcap5 := hcap.keep (hn4.trans hn5) (hpr.keep hb5)
        have HC : Hid (Calls Tryz.prog 40 _ _ _) := hn S (Nd.kids t)[k] _ _ _ _ _ (d + 1) _ pb bb bk _ q5 (fun b hb => by have := hB b hb; simp; omega) hcap5 (HSK.out k hlt) (by omega) hfew (by omega) (by omega)
        have HBad := @walkN_bad n t d p k hlt
        have HSum : Hid (sumL (fun x => cntT n x) ((Nd.kids t).take (k + 1)) = sumL (fun x => cntT n x) ((Nd.kids t).take k) + cntT n (Nd.kids t)[k]) := sumL_take_succ _ _ _ hlt
        clear q q5 hcap5 hb5
        unfold clN at HC
        go_wp2_with fail
        refine HC.out.mono ?_
        rintro e w3 ⟨hn6, r, rfl, hyes, hno⟩
        have hn7 := hnr.trans (hn5.trans hn6)
        cases r with
        | false =>
          have HP : Hid (WalkNPost (n + 1) t d p pb w (.returned (.bool false)) w3) := ⟨hn3.trans hn7, false, rfl, fun h => (by cases h), fun _ => HBad (hno rfl)⟩
          clear HBad hno hyes HSum HALL hn6 hn7 hn5 hn4
          go_wp2_with fail
          go_ret
          exact HP.out
        | true =>
          obtain ⟨hg, hc, hp6⟩ := hyes rfl
          have HR : Hid (Near pb w2 w3 ∧ Prt w3 pb (p + 1 + (sumL (fun x => cntT n x) ((Nd.kids t).take (k + 1)) : Int)) ∧ p + 1 + (sumL (fun x => cntT n x) ((Nd.kids t).take (k + 1)) : Int) ≤ 200 ∧ ((Nd.kids t).take (k + 1)).all (fun x => goodN n x (d + 1)) = true) := by
            refine ⟨hn7, ?_, ?_, all_take_kidN k hlt HALL.out hg⟩
            · rw [HSum.out, show p + 1 + ((sumL (fun x => cntT n x) ((Nd.kids t).take k) + cntT n (Nd.kids t)[k] : Nat) : Int) = p + 1 + (sumL (fun x => cntT n x) ((Nd.kids t).take k) : Int) + (cntT n (Nd.kids t)[k] : Int) by omega]
              exact hp6
            · rw [HSum.out]; omega
          clear HBad hno hyes HSum HALL hn6 hn7 hn5 hn4 hg hc hp6 hpr hfew
          go_wp2_with fail
          go_roundw
          case rel => exact ⟨k + 1, by omega, by go_num, HR.out.1, HR.out.2.1, HR.out.2.2.1, HR.out.2.2.2⟩
          case measure => simp [intOf]; omega
      · have hkl : k = (Nd.kids t).length := by omega
        have HP : Hid (WalkNPost (n + 1) t d p pb w (.returned (.bool true)) wr) := by
          have h1 := HALL.out
          rw [hkl, List.take_length] at h1 hpr hfew
          have e : p + 1 + (sumL (fun x => cntT n x) (Nd.kids t) : Int) = p + (cntT (n + 1) t : Int) := by simp only [cntT]; omega
          rw [e] at hpr hfew
          exact ⟨hn4, true, rfl, fun _ => ⟨by have := HAL.out; simp only [goodN, this, h1, Bool.and_self], hfew, hpr⟩, fun h => (by cases h)⟩
        clear hkl hkids HALL hn4 hpr hfew
        go_wp2_with fail
        go_ret
        exact HP.out

theorem walkN_any : ∀ n, WalkNSaid n := by
  intro n
  induction n with
  | zero => intro S t c0 c1 c2 c3 c4 d p pb bb bk w ht; exact ht.elim
  | succ n ih => exact walkN_step n ih


end Go.Proofs.YtlinplghgamgbaaGreatDoor
