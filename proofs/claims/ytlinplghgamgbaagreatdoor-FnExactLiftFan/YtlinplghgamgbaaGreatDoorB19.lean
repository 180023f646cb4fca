/-
  Several texts in one, in their order.
-/
import Derived.Test.YtlinplghgamgbaaGreatDoorB18
import Derived.BigQuiet
import Derived.Test.YtlinplghgamgbaaGreatDoorB1

/-
  The program on the names of a node: which it may have; what is left of rows.
-/
namespace Go.Proofs.YtlinplghgamgbaaGreatDoor
open Go.RowKit

theorem StrsIn.take {S : Nat → Prop} {w : World} {l : List ByteArray} {ao : Option Addr} {cap : Nat} (h : StrsIn S w l (.slice ao l.length cap)) (k : Nat) (hk : k ≤ l.length) : StrsIn S w (l.take k) (.slice ao k cap) := by
  obtain ⟨ao', cap', hv, hl, hs, hc⟩ := h
  cases hv
  have e : (l.take k).length = k := by simp; omega
  refine ⟨ao, cap, by rw [e], by rw [e]; omega, fun s hm => hs s (List.mem_of_mem_take hm), fun hne => ?_⟩
  have hl0 : l ≠ [] := fun e2 => hne (by rw [e2]; simp)
  obtain ⟨b, off, ha, hB, hcell⟩ := hc hl0
  exact ⟨b, off, ha, hB, fun i hi => by rw [hcell i (by omega), List.getElem_take]⟩

theorem StrsIn.tail {S : Nat → Prop} {w : World} {a : ByteArray} {q : List ByteArray} {ao : Option Addr} {n cap : Nat} (h : StrsIn S w (a :: q) (.slice ao n cap)) (hc1 : n ≤ cap) : StrsIn S w q (sliced ao 1 n cap 1) := by
  obtain ⟨ao', cap', hv, hl, hs, hc⟩ := h
  cases hv
  obtain ⟨b, off, rfl, hB, hcell⟩ := hc (by simp)
  simp only [List.length_cons] at hl hc1 ⊢
  unfold sliced
  refine ⟨if cap = 1 then some ⟨b, off, none⟩ else some ((⟨b, off, none⟩ : Addr).add 1), cap - 1, by simp, by omega, fun s hm => hs s (List.mem_cons_of_mem _ hm), fun hne => ?_⟩
  have hq : 0 < q.length := List.length_pos_iff.2 hne
  refine ⟨b, off + 1, by rw [if_neg (by omega)]; simp [Addr.add], hB, fun i hi => ?_⟩
  have := hcell (i + 1) (by simp; omega)
  rw [show off + 1 + i = off + (i + 1) by omega]
  simpa using this

theorem RowIn.tail {α : Type} {S : Nat → Prop} {w : World} {R : α → Value → Value → Value → Value → Value → Prop} {a : α} {q : List α} {ao : Option Addr} {n cap : Nat} (h : RowIn S w R (a :: q) (.slice ao n cap)) (hc1 : n ≤ cap) : RowIn S w R q (sliced ao 1 n cap 5) := by
  obtain ⟨ao', cap', hv, hl, hc⟩ := h
  cases hv
  obtain ⟨b, off, rfl, hB, hcell⟩ := hc (by simp)
  simp only [List.length_cons] at hl hc1 ⊢
  unfold sliced
  refine ⟨if cap = 1 then some ⟨b, off, none⟩ else some ((⟨b, off, none⟩ : Addr).add 5), cap - 1, by simp, by omega, fun hne => ?_⟩
  have hq : 0 < q.length := List.length_pos_iff.2 hne
  refine ⟨b, off + 5, by rw [if_neg (by omega)]; simp [Addr.add], hB, fun i hi => ?_⟩
  have := hcell (i + 1) (by simp; omega)
  rw [show off + 5 + i * 5 = off + (i + 1) * 5 by omega]
  simpa using this

set_option maxHeartbeats 400000 in
theorem index_any (S : Nat → Prop) (l : List ByteArray) (v : Value) (x : ByteArray) (w : World) (hl : StrsIn S w l v) :
    Calls Tryz.prog 119 #[v, .string x] w fun e w' => w' = w ∧ ∃ i : Int, e = .returned (.int .i64 i) ∧ decide (0 ≤ i) = l.contains x := by
  obtain ⟨ao, cap, rfl, hlen, hs, hc⟩ := hl
  unfold maxLen at hlen
  go_enter Tryz.func119, Tryz.ntmps119
  go_wp2_with fail
  go_loop [8] (fun i => ∃ k : Nat, k ≤ l.length ∧ i = .int .i64 k ∧ Hid ((l.take k).contains x = false)) (fun i => l.length - (intOf i).toNat)
  case atStart => exact ⟨0, Nat.zero_le _, rfl, rfl⟩
  case round =>
    obtain ⟨k, hk, rfl, HA⟩ := hrel
    by_cases hlt : k < l.length
    · obtain ⟨b, off, rfl, -, hcell⟩ := hc (by intro h; rw [h] at hlt; simp at hlt)
      have hck := hcell k hlt
      cases hq : (x == l[k]) with
      | true =>
        have hq2 := (eq_toList x l[k]).trans hq
        have HF : Hid (decide (0 ≤ (k : Int)) = l.contains x) := by
          show _ = _
          rw [decide_eq_true (by omega)]
          have : x = l[k] := by rw [ba_beq] at hq; simpa using hq
          rw [this]
          symm
          rw [List.contains_eq_any_beq, List.any_eq_true]
          exact ⟨l[k], List.getElem_mem hlt, by rw [ba_beq]; simp⟩
        clear hc hcell hq HA
        go_wp2_with fail
        go_ret
        exact ⟨rfl, _, rfl, HF.out⟩
      | false =>
        have hq2 := (eq_toList x l[k]).trans hq
        have HF : Hid ((l.take (k + 1)).contains x = false) := by
          show _ = _
          have h1 := HA.out
          rw [List.contains_eq_any_beq] at h1 ⊢
          rw [List.take_succ_eq_append_getElem hlt, List.any_append, h1]
          simp [hq]
        clear hc hcell hq HA
        go_wp2_with fail
        go_round
        case rel => exact ⟨k + 1, by omega, by go_num, HF⟩
        case measure => simp [intOf]; omega
    · have HF : Hid (decide (0 ≤ (-1 : Int)) = l.contains x) := by
        show _ = _
        have h1 := HA.out
        rw [List.take_of_length_le (by omega)] at h1
        rw [h1]; rfl
      clear hc hs HA
      go_wp2_with fail
      go_ret
      exact ⟨rfl, _, rfl, HF.out⟩

set_option maxHeartbeats 400000 in
theorem contains_any (S : Nat → Prop) (l : List ByteArray) (v : Value) (x : ByteArray) (w : World) (hl : StrsIn S w l v) :
    Calls Tryz.prog 101 #[v, .string x] w fun e w' => w' = w ∧ e = .returned (.bool (l.contains x)) := by
  obtain ⟨ao, cap, hv, -⟩ := id hl
  subst hv
  have HC : Hid (Calls Tryz.prog 119 _ _ _) := index_any S l _ x w hl
  go_enter Tryz.func101, Tryz.ntmps101
  go_wp2_with fail
  refine HC.out.mono ?_
  rintro e w1 ⟨rfl, i, rfl, hi⟩
  have HI := hidF hi
  clear hi HC hl
  by_cases h : 0 ≤ i
  · go_wp2_with fail
    go_ret
    exact ⟨rfl, bool_ret (by rw [← HI.out]; simp [h])⟩
  · go_wp2_with fail
    go_ret
    exact ⟨rfl, bool_ret HI.out⟩

set_option maxHeartbeats 400000 in
theorem isNameAs_any (S : Nat → Prop) (b : Nat) (p : UInt8) (s : ByteArray) (ahead : List ByteArray) (v : Value) (w : World) (hs : s.size ≤ maxLen) (hb : Book w b) (hl : StrsIn S w ahead v) :
    Calls Tryz.prog 84 #[.pointer (some ⟨b, 0, none⟩), .int .i32 (p.toNat : Int), .string s, v] w fun e w' => e = .returned (.bool (nameAsB p s ahead)) ∧ w' = w := by
  obtain ⟨ao, cap, hv, -⟩ := id hl
  subst hv
  have HC1 : Hid (Calls Tryz.prog 99 _ _ _) := isName_any s w hs
  have HC2 : Hid (Calls Tryz.prog 100 _ _ _) := isValueName_any b s w hs hb
  have HC3 : Hid (Calls Tryz.prog 101 _ _ _) := contains_any S ahead _ s w hl
  clear hb hl
  by_cases hp : p = 78
  · have h1 : ((p.toNat : Int) == 78) = true := by subst hp; rfl
    have HF : Hid (nameAsB p s ahead = nameB s) := by show _ = _; unfold nameAsB; rw [if_pos hp]
    clear hp
    go_enter Tryz.func84, Tryz.ntmps84
    go_wp2_with fail
    refine HC1.out.mono ?_
    rintro e w1 ⟨rfl, rfl⟩
    go_wp2_with fail
    go_ret
    exact ⟨bool_ret HF.out.symm, rfl⟩
  · have h1 : ((p.toNat : Int) == 78) = false := by
      have : ¬ p.toNat = 78 := fun e => hp (UInt8.toNat_inj.1 e)
      simp; omega
    have HF : Hid (nameAsB p s ahead = (freeB s && !(ahead.contains s))) := by show _ = _; unfold nameAsB; rw [if_neg hp]
    clear hp
    cases hf : freeB s with
    | false =>
      rw [hf] at HF HC2
      go_enter Tryz.func84, Tryz.ntmps84
      go_wp2_with fail
      refine HC2.out.mono ?_
      rintro e w1 ⟨rfl, rfl⟩
      go_wp2_with fail
      go_ret
      exact ⟨bool_ret (by rw [HF.out]; rfl), rfl⟩
    | true =>
      rw [hf] at HF HC2
      go_enter Tryz.func84, Tryz.ntmps84
      go_wp2_with fail
      refine HC2.out.mono ?_
      rintro e w1 ⟨rfl, rfl⟩
      go_wp2_with fail
      refine HC3.out.mono ?_
      rintro e w1 ⟨rfl, rfl⟩
      go_wp2_with fail
      go_ret
      exact ⟨bool_ret (by rw [HF.out]; simp), rfl⟩

end Go.Proofs.YtlinplghgamgbaaGreatDoor

/-
  The program takes the parts off a node: kids and names.
-/
namespace Go.Proofs.YtlinplghgamgbaaGreatDoor
open Go.RowKit

/-- What is left of a node, in a box of its own. -/
structure Rst (S : Nat → Prop) (w : World) (m rb : Nat) (r : Nd (T m)) (c0 v3 v4 : Value) : Prop where
  box : w.heap[rb]? = some (.cells #[c0, .int .i64 r.num, .string r.text, v3, v4] 30 (0, 0))
  n3 : StrsIn S w r.names v3
  k3 : CapOk v3
  n4 : RowIn S w (NodeIn S w m) r.kids v4
  k4 : CapOk v4

theorem Rst.keep {S : Nat → Prop} {w w' : World} {m rb : Nat} {r : Nd (T m)} {c0 v3 v4 : Value} (h : Rst S w m rb r c0 v3 v4) (hS : Same S w w') (hb : w'.heap[rb]? = w.heap[rb]?) : Rst S w' m rb r c0 v3 v4 :=
  ⟨hb.trans h.box, h.n3.keep hS (fun _ h => h), h.k3, h.n4.keepN hS (fun _ h => h), h.k4⟩

theorem Rst.lt {S : Nat → Prop} {w : World} {m rb : Nat} {r : Nd (T m)} {c0 v3 v4 : Value} (h : Rst S w m rb r c0 v3 v4) : rb < w.heap.size := (Array.getElem?_eq_some_iff.1 h.box).1

theorem Rst.cells {S : Nat → Prop} {w : World} {m rb : Nat} {r : Nd (T m)} {c0 v3 v4 : Value} (h : Rst S w m rb r c0 v3 v4) :
    (w.cell? ⟨rb, 1, none⟩ = some (.int .i64 r.num) ∧ w.cell? ⟨rb, 2, none⟩ = some (.string r.text) ∧ w.cell? ⟨rb, 3, none⟩ = some v3 ∧ w.cell? ⟨rb, 4, none⟩ = some v4) ∧
    (w.frozen? ⟨rb, 1, none⟩ = false ∧ w.frozen? ⟨rb, 2, none⟩ = false ∧ w.frozen? ⟨rb, 3, none⟩ = false ∧ w.frozen? ⟨rb, 4, none⟩ = false) := by
  have := h.box
  refine ⟨⟨?_, ?_, ?_, ?_⟩, ?_, ?_, ?_, ?_⟩ <;> simp [World.cell?, World.frozen?, this]

theorem blk_set {w : World} {b i : Nat} {cs : Array Value} {t : TypeId} {z : Nat × Nat} (h : w.heap[b]? = some (.cells cs t z)) (v : Value) : (w.setCell ⟨b, i, none⟩ v).heap[b]? = some (.cells (cs.setIfInBounds i v) t z) := by
  simp [World.setCell, Array.getElem?_modify, h]

/-- What taking a part off does. -/
def TakePost (S : Nat → Prop) (m rb : Nat) (n r : Nd (T m)) (c0 : Value) (p : UInt8) (w : World) (e : Ending) (w' : World) : Prop :=
  Near rb w w' ∧ ((∃ r' v3 v4, stepP (poT m) n r p = some r' ∧ e = .returned (.bool true) ∧ Rst S w' m rb r' c0 v3 v4) ∨ (stepP (poT m) n r p = none ∧ e = .returned (.bool false)))

theorem NodeIn.op {S : Nat → Prop} {w : World} : ∀ {m : Nat} {t : T m} {c0 c1 c2 c3 c4 : Value}, NodeIn S w m t c0 c1 c2 c3 c4 → c0 = .int .i64 (opT m t) := by
  intro m
  cases m with
  | zero => intro t c0 c1 c2 c3 c4 h; exact h.elim
  | succ m => intro t c0 c1 c2 c3 c4 h; exact h.1

theorem slice_from {P : Program} (t : TypeId) (sz : Nat) (hu : P.underlying t = some (.slice (P.elem t))) (hs : ∀ W, (sizeOf (P.elem t)).run P W = .ok sz W) (a : Option Addr) (n c : Nat) (h : 1 ≤ n) (W : World) :
    (Instr.slice t (.slice a n c) (some (.int .i64 1)) none none).run P W = .ok (sliced a 1 n c sz) W := by
  rw [run_slice_l W t a n c hu .i64 1 (by omega) (by omega), hs]
  rfl

set_option maxRecDepth 20000 in
set_option maxHeartbeats 1000000 in
theorem takesOffKid_any (S : Nat → Prop) (m : Nat) (p : UInt8) (hp : p = 86 ∨ p = 65) (rb : Nat) (n r : Nd (T m)) (c0 v3 v4 : Value) (w : World) (hr : Rst S w m rb r c0 v3 v4) (hB : ∀ b, S b → b < w.heap.size ∧ b ≠ rb) :
    Calls Tryz.prog 67 #[.pointer (some ⟨rb, 0, none⟩), .int .i32 (p.toNat : Int)] w (TakePost S m rb n r c0 p w) := by
  obtain ⟨⟨-, -, -, g4⟩, -, -, -, f4⟩ := hr.cells
  have hlt := hr.lt
  obtain ⟨ka, kl, kc, hv4, hcap⟩ := hr.k4
  subst hv4
  obtain ⟨ao', cap', hv, hl, hc⟩ := id hr.n4
  cases hv
  cases hks : r.kids with
  | nil =>
    have HP : Hid (TakePost S m rb n r c0 p w (.returned (.bool false)) w) := ⟨Near.refl _ _, .inr ⟨st_k0 _ n r hp hks, rfl⟩⟩
    rw [hks] at g4
    clear hr hc hB
    go_enter Tryz.func67, Tryz.ntmps67
    go_wp2_with fail
    go_ret
    exact HP.out
  | cons a q =>
    obtain ⟨b, off, rfl, hSb, hcell⟩ := hc (by rw [hks]; simp)
    obtain ⟨d0, d1, d2, d3, d4, e0, e1, e2, e3, e4, hk⟩ := hcell 0 (by rw [hks]; simp)
    obtain ⟨x0, x1, x2, xa, xl, xc, ya, yl, yc, rfl, rfl, rfl, rfl, rfl⟩ := hk.shape
    simp only [Nat.zero_mul, Nat.add_zero] at e0 e1 e2 e3 e4
    have hx0 : x0 = opT m a := by
      have h1 := hk.op
      have h2 : r.kids[0]'(by rw [hks]; simp) = a := by simp [hks]
      rw [h2] at h1
      exact (Value.int.inj h1).2
    have hn1 : 1 ≤ r.kids.length := by rw [hks]; simp
    clear hc hcell hk
    generalize hkn : r.kids.length = kn at *
    have hne : ((kn : Int) == 0) = false := by simp; omega
    have hsl := slice_from (P := Tryz.prog) 28 5 Tryz.underlying28 (fun _ => by simp [go_sem]) (some ⟨b, off, none⟩) kn kc hn1
    have hn4 : RowIn S w (NodeIn S w m) q (sliced (some ⟨b, off, none⟩) 1 kn kc 5) := by
      have h4 := hr.n4
      rw [hks] at h4
      exact h4.tail hcap
    obtain ⟨ta, tn, tc, hT⟩ : ∃ ta tn tc, sliced (some ⟨b, off, none⟩) 1 kn kc 5 = .slice ta tn tc := ⟨_, _, _, rfl⟩
    have hcapT : CapOk (.slice ta tn tc) := by
      rw [← hT]; exact ⟨_, _, _, rfl, by omega⟩
    rw [hT] at hsl hn4
    have hb0 := (Below.refl w.heap.size w).alloc (Nat.le_refl _) (.cells #[.int .i64 x0, .int .i64 x1, .string x2, .slice xa xl xc, .slice ya yl yc] 30)
    obtain ⟨W, hW⟩ : ∃ W, W = (w.setCell ⟨rb, 4, none⟩ (.slice ta tn tc)).alloc (.cells #[.int .i64 x0, .int .i64 x1, .string x2, .slice xa xl xc, .slice ya yl yc] 30) := ⟨_, rfl⟩
    have hnear : Near rb w W := by rw [hW]; exact (Near.set rb 4 _ _).trans (Near.alloc _ _ _)
    have hrst : Rst S W m rb ⟨r.sort, r.num, r.text, r.names, q⟩ c0 v3 (.slice ta tn tc) := by
      have hs := hnear.same hB
      refine ⟨?_, hr.n3.keep hs (fun _ h => h), hr.k3, hn4.keepN hs (fun _ h => h), hcapT⟩
      rw [hW]
      exact (Below.heap_alloc _ _ _ (by simpa using hlt)).trans (blk_set hr.box _)
    have HC : Hid (∀ w, Calls Tryz.prog 20 #[.int .i64 x0] w _) := fun w => partOf_any x0 w
    have HP : Hid (∀ W', W' = W → TakePost S m rb n r c0 p w (.returned (.bool (poF x0 == (p.toNat : Int)))) W') := by
      intro W' e
      subst e
      refine ⟨hnear, ?_⟩
      by_cases h : poT m a = (p.toNat : Int)
      · refine .inl ⟨_, _, _, (st_k1 _ n r hp hks).trans (if_pos h), ?_, hrst⟩
        have : poF x0 = (p.toNat : Int) := by rw [hx0]; exact h
        rw [this]; simp
      · refine .inr ⟨(st_k1 _ n r hp hks).trans (if_neg h), ?_⟩
        have : ¬ poF x0 = (p.toNat : Int) := by rw [hx0]; exact h
        simp [this]
    have g4' : (w.alloc (.cells #[.int .i64 x0, .int .i64 x1, .string x2, .slice xa xl xc, .slice ya yl yc] 30)).cell? ⟨rb, 4, none⟩ = some (.slice (some ⟨b, off, none⟩) kn kc) := (hb0.cell (p := ⟨rb, 4, none⟩) hlt).trans g4
    have f4' : (w.alloc (.cells #[.int .i64 x0, .int .i64 x1, .string x2, .slice xa xl xc, .slice ya yl yc] 30)).frozen? ⟨rb, 4, none⟩ = false := (hb0.frozen (p := ⟨rb, 4, none⟩) hlt).trans f4
    have hne2 : w.heap.size ≠ rb := by omega
    have hT2 := hidF hT
    have HW := hidF hW
    clear hr hks hkn hx0 hn4 hcapT hrst hnear hb0 hT hW hB
    go_enter Tryz.func67, Tryz.ntmps67
    go_wp2_with fail
    refine (HC.out _).mono ?_
    rintro e w1 ⟨rfl, rfl⟩
    go_wp2_with fail
    go_ret
    exact HP.out _ HW.out.symm

theorem slice_to {P : Program} (t : TypeId) (sz : Nat) (hu : P.underlying t = some (.slice (P.elem t))) (hs : ∀ W, (sizeOf (P.elem t)).run P W = .ok sz W) (a : Option Addr) (n c : Nat) (k : Int) (h0 : 0 ≤ k) (h : k ≤ c) (W : World) :
    (Instr.slice t (.slice a n c) none (some (.int .i64 k)) none).run P W = .ok (sliced a 0 k.toNat c sz) W := by
  rw [run_slice_h W t a n c hu .i64 k h0 h, hs]
  rfl

theorem sliced_to {S : Nat → Prop} {w : World} {l : List ByteArray} {ao : Option Addr} {cap : Nat} (h : StrsIn S w l (.slice ao l.length cap)) (k : Nat) (hk : k ≤ l.length) : StrsIn S w (l.take k) (sliced ao 0 k cap 1) := by
  have h1 := h.take k hk
  unfold sliced
  have e : (if cap = 0 then ao else ao.map (·.add (0 * 1))) = ao := by
    split
    · rfl
    · cases ao with
      | none => rfl
      | some a => obtain ⟨b, o, s⟩ := a; cases s <;> simp [Addr.add]
  rw [e, Nat.sub_zero, Nat.sub_zero]
  exact h1

set_option maxRecDepth 20000 in
set_option maxHeartbeats 1000000 in
theorem takesOffName_any (S : Nat → Prop) (m : Nat) (p : UInt8) (hp : p = 78 ∨ p = 88) (bk rb : Nat) (n r : Nd (T m)) (c0 v3 v4 av : Value) (w : World) (hr : Rst S w m rb r c0 v3 v4) (hB : ∀ b, S b → b < w.heap.size ∧ b ≠ rb)
    (hbk : Book w bk) (hne : bk ≠ rb) (hall : StrsIn S w n.names av) (hac : CapOk av) (hle : r.names.length ≤ n.names.length) :
    Calls Tryz.prog 66 #[.pointer (some ⟨bk, 0, none⟩), .pointer (some ⟨rb, 0, none⟩), .int .i32 (p.toNat : Int), av] w (TakePost S m rb n r c0 p w) := by
  obtain ⟨⟨-, -, g3, -⟩, -, -, f3, -⟩ := hr.cells
  have hlt := hr.lt
  obtain ⟨ka, kl, kc, hv3, hcap⟩ := hr.k3
  subst hv3
  obtain ⟨ao', cap', hv, hl, hss, hc⟩ := id hr.n3
  cases hv
  obtain ⟨aa, al, ac, hav, hcapa⟩ := hac
  subst hav
  obtain ⟨_, _, hv', hla, -, -⟩ := id hall
  cases hv'
  cases hks : r.names with
  | nil =>
    have HP : Hid (TakePost S m rb n r c0 p w (.returned (.bool false)) w) := ⟨Near.refl _ _, .inr ⟨st_0 _ n r hp hks, rfl⟩⟩
    rw [hks] at g3
    clear hr hc hB hall
    go_enter Tryz.func66, Tryz.ntmps66
    go_wp2_with fail
    go_ret
    exact HP.out
  | cons a q =>
    obtain ⟨b, off, rfl, hSb, hcell⟩ := hc (by rw [hks]; simp)
    have e0 := hcell 0 (by rw [hks]; simp)
    have h2 : r.names[0]'(by rw [hks]; simp) = a := by simp [hks]
    rw [h2, Nat.add_zero] at e0
    have hsa : a.size ≤ maxLen := hss a (by rw [hks]; exact List.mem_cons_self ..)
    have hn1 : 1 ≤ r.names.length := by rw [hks]; simp
    have hq1 : r.names.length = q.length + 1 := by rw [hks]; simp
    clear hc hcell h2
    have hn3 : StrsIn S w q (sliced (some ⟨b, off, none⟩) 1 r.names.length kc 1) := by
      have h4 := hr.n3
      rw [hks] at h4
      have := h4.tail (by rw [← hks]; exact hcap)
      rw [hks]
      exact this
    have hahead := sliced_to hall (n.names.length - (q.length + 1)) (by omega)
    generalize hkn : r.names.length = kn at *
    generalize han : n.names.length = an at *
    have hneq : ((kn : Int) == 0) = false := by simp; omega
    have hsl := slice_from (P := Tryz.prog) 22 1 Tryz.underlying22 (fun _ => by simp [go_sem]) (some ⟨b, off, none⟩) kn kc hn1
    have hsl2 := slice_to (P := Tryz.prog) 22 1 Tryz.underlying22 (fun _ => by simp [go_sem]) aa an ac ((an : Int) - (kn : Int)) (by omega) (by omega)
    have hkk : ((an : Int) - (kn : Int)).toNat = an - (q.length + 1) := by omega
    rw [hkk] at hsl2
    obtain ⟨ta, tn, tc, hT⟩ : ∃ ta tn tc, sliced (some ⟨b, off, none⟩) 1 kn kc 1 = .slice ta tn tc := ⟨_, _, _, rfl⟩
    obtain ⟨ua, un, uc, hU⟩ : ∃ ta tn tc, sliced aa 0 (an - (q.length + 1)) ac 1 = .slice ta tn tc := ⟨_, _, _, rfl⟩
    have hcapT : CapOk (.slice ta tn tc) := by
      rw [← hT]; exact ⟨_, _, _, rfl, by omega⟩
    rw [hT] at hsl hn3
    rw [hU] at hsl2 hahead
    have HR : Hid (∀ k, Near rb w ((w.drewN k).setCell ⟨rb, 3, none⟩ (.slice ta tn tc)) ∧ Rst S ((w.drewN k).setCell ⟨rb, 3, none⟩ (.slice ta tn tc)) m rb ⟨r.sort, r.num, r.text, q, r.kids⟩ c0 (.slice ta tn tc) v4) := by
      intro k
      have hb0 : Below w.heap.size w (w.drewN k) := ⟨rfl, rfl, rfl, Nat.le_refl _, fun _ _ => rfl⟩
      have hnear : Near rb w ((w.drewN k).setCell ⟨rb, 3, none⟩ (.slice ta tn tc)) := (Near.of_below hb0).trans (Near.set rb 3 _ _)
      have hs := hnear.same hB
      exact ⟨hnear, blk_set ((hb0.block rb hlt).trans hr.box) _, hn3.keep hs (fun _ h => h), hcapT, hr.n4.keepN hs (fun _ h => h), hr.k4⟩
    have HC : Hid (∀ W, Near rb w W → Calls Tryz.prog 84 #[.pointer (some ⟨bk, 0, none⟩), .int .i32 (p.toNat : Int), .string a, .slice ua un uc] W fun e w' => e = .returned (.bool (nameAsB p a (n.names.take (an - (q.length + 1))))) ∧ w' = W) := by
      intro W hW
      have hblt : bk < w.heap.size := by
        have := (hbk 0 (by omega)).1
        exact Classical.byContradiction fun hge => by
          have h0 : w.heap[bk]? = none := Array.getElem?_eq_none (by omega)
          simp [World.cell?, h0] at this
      exact isNameAs_any S bk p a _ _ W hsa (hbk.keep (hW.block bk hblt hne)) (hahead.keep (hW.same hB) (fun _ h => h))
    have HP : Hid (∀ W, Near rb w W → Rst S W m rb ⟨r.sort, r.num, r.text, q, r.kids⟩ c0 (.slice ta tn tc) v4 → TakePost S m rb n r c0 p w (.returned (.bool (nameAsB p a (n.names.take (an - (q.length + 1)))))) W) := by
      intro W hnear hrst
      refine ⟨hnear, ?_⟩
      cases h : nameAsB p a (n.names.take (an - (q.length + 1))) with
      | true => exact .inl ⟨_, _, _, (st_1 _ n r hp hks).trans (if_pos (by rw [han]; exact h)), rfl, hrst⟩
      | false => exact .inr ⟨(st_1 _ n r hp hks).trans (if_neg (by rw [han, h]; decide)), rfl⟩
    generalize nameAsB p a (n.names.take (an - (q.length + 1))) = ok at *
    unfold maxLen at hla hl
    clear hr hks hkn han hn3 hcapT hahead hT hU hB hall hbk hkk hq1 hss hle hSb hsa
    go_enter Tryz.func66, Tryz.ntmps66
    go_wp2_with fail
    go_quiet (fail)
    go_wp2_with fail
    refine (HC.out _ (HR.out _).1).mono ?_
    rintro e w1 ⟨rfl, rfl⟩
    clear HC
    go_wp2_with fail
    go_ret
    exact HP.out _ (HR.out _).1 (HR.out _).2

end Go.Proofs.YtlinplghgamgbaaGreatDoor

/-
  The program takes the parts off a node: the names and kids of a form.
-/
namespace Go.Proofs.YtlinplghgamgbaaGreatDoor
open Go.RowKit

set_option maxRecDepth 20000 in
set_option maxHeartbeats 1000000 in
theorem isFieldName_any (S : Nat → Prop) (l : List ByteArray) (i : Nat) (hi : i < l.length) (v : Value) (w : World) (hl : StrsIn S w (l.take i) v) (hs : l[i].size ≤ maxLen) :
    Calls Tryz.prog 83 #[.string l[i], v] w fun e w' => e = .returned (.bool (fieldB l i)) ∧ w' = w := by
  obtain ⟨ao, cap, rfl, hlen, -, hc⟩ := hl
  have hli : (l.take i).length = i := by simp; omega
  rw [hli] at hlen ⊢
  unfold maxLen at hlen
  have hgd : l.getD i ByteArray.empty = l[i] := by simp [List.getD, hi]
  have HF : Hid (fieldB l i = (nameB l[i] && (i == 0 || ltB (l.getD (i - 1) ByteArray.empty) l[i]) && !(l[i] == bs [101, 110, 100]))) := by
    show _ = _
    unfold fieldB riseAt
    rw [hgd]
  have HC1 : Hid (Calls Tryz.prog 99 _ _ _) := isName_any l[i] w hs
  have e1 := eq_lit l[i] [101, 110, 100]
  have hlast : 0 < i → ∃ b off, ao = some ⟨b, off, none⟩ ∧ w.cell? ⟨b, off + (i - 1), none⟩ = some (.string (l.getD (i - 1) ByteArray.empty)) := fun h0 => by
    obtain ⟨b, off, ha, -, hcell⟩ := hc (by intro e; have := congrArg List.length e; rw [hli] at this; simp at this; omega)
    refine ⟨b, off, ha, ?_⟩
    have := hcell (i - 1) (by omega)
    rw [this]
    have hj : i - 1 < l.length := by omega
    simp [List.getD, hj]
  clear hc hgd
  generalize l[i] = s at *
  generalize l.getD (i - 1) ByteArray.empty = z at *
  generalize (s == bs [101, 110, 100]) = b1 at *
  clear hi
  cases hn : nameB s with
  | false =>
    rw [hn] at HC1 HF
    go_enter Tryz.func83, Tryz.ntmps83
    go_wp2_with fail
    refine HC1.out.mono ?_
    rintro e w1 ⟨rfl, rfl⟩
    go_wp2_with fail
    go_ret
    exact ⟨bool_ret (by rw [HF.out]; rfl), rfl⟩
  | true =>
    rw [hn] at HC1 HF
    cases b1 with
    | true =>
      go_enter Tryz.func83, Tryz.ntmps83
      go_wp2_with fail
      refine HC1.out.mono ?_
      rintro e w1 ⟨rfl, rfl⟩
      go_wp2_with fail
      go_ret
      exact ⟨bool_ret (by rw [HF.out]; simp), rfl⟩
    | false =>
      rcases Nat.eq_zero_or_pos i with h0 | h0
      · subst h0
        go_enter Tryz.func83, Tryz.ntmps83
        go_wp2_with fail
        refine HC1.out.mono ?_
        rintro e w1 ⟨rfl, rfl⟩
        go_wp2_with fail
        go_ret
        exact ⟨bool_ret (by rw [HF.out]; rfl), rfl⟩
      · obtain ⟨b, off, rfl, hcell⟩ := hlast h0
        have h1 : ((i : Int) == 0) = false := by simp; omega
        have h2 : (i == 0) = false := by simp; omega
        rw [h2] at HF
        have hi1 : ((i : Int) - 1).toNat = i - 1 := by omega
        have HZ : Hid (ltB z s = Op.bytesLess z.toList s.toList) := rfl
        clear h2 hlast
        generalize hzs : Op.bytesLess z.toList s.toList = lt at *
        go_enter Tryz.func83, Tryz.ntmps83
        go_wp2_with fail
        refine HC1.out.mono ?_
        rintro e w1 ⟨rfl, rfl⟩
        go_wp2_with fail
        go_ret
        exact ⟨bool_ret (by rw [HF.out, HZ.out]; simp), rfl⟩

set_option maxRecDepth 20000 in
set_option maxHeartbeats 1000000 in
theorem areFields_any (S : Nat → Prop) (m : Nat) (n : Nd (T m)) (v3 v4 : Value) (w : World) (h3 : StrsIn S w n.names v3) (hc3 : CapOk v3) (h4 : RowIn S w (NodeIn S w m) n.kids v4) :
    Calls Tryz.prog 65 #[v3, v4] w fun e w' => e = .returned (.bool (fieldsB (poT m) n)) ∧ w' = w := by
  obtain ⟨na, nl, nc, rfl, hcap⟩ := hc3
  obtain ⟨_, _, hv, hl3, hs3, hcn⟩ := id h3
  cases hv
  obtain ⟨ka, kc, rfl, hl4, hck⟩ := h4
  by_cases hle : n.names.length = n.kids.length
  case neg =>
    have hne : ((n.names.length : Int) == (n.kids.length : Int)) = false := by simp; omega
    have HF : Hid (fieldsB (poT m) n = false) := by
      show _ = _
      unfold fieldsB
      have : (n.names.length == n.kids.length) = false := by simp [hle]
      rw [this]; rfl
    clear hck hcn h3
    go_enter Tryz.func65, Tryz.ntmps65
    go_wp2_with fail
    go_ret
    exact ⟨bool_ret HF.out.symm, rfl⟩
  have HF : Hid (fieldsB (poT m) n = fieldsTo (poT m) n n.names.length) := by
    show _ = _
    unfold fieldsB
    have : (n.names.length == n.kids.length) = true := by simp [hle]
    rw [this]; rfl
  have heq : ((n.names.length : Int) != (n.kids.length : Int)) = false := by simp [hle]
  have HC : Hid (∀ (k : Nat) (hk : k < n.names.length), Calls Tryz.prog 83 #[.string n.names[k], .slice na k nc] w fun e w' => e = .returned (.bool (fieldB n.names k)) ∧ w' = w) := by
    intro k hk
    exact isFieldName_any S n.names k hk _ w (h3.take k (by omega)) (hs3 _ (List.getElem_mem hk))
  have HP : Hid (∀ x w, Calls Tryz.prog 20 #[.int .i64 x] w _) := fun x w => partOf_any x w
  unfold maxLen at hl3 hl4
  have hle1 : n.names.length ≤ n.kids.length := by omega
  have hle2 : n.kids.length ≤ n.names.length := by omega
  clear h3 hs3 hle
  go_enter Tryz.func65, Tryz.ntmps65
  go_wp2_with fail
  clear heq
  go_loop [14] (fun i => ∃ k : Nat, k ≤ n.names.length ∧ i = .int .i64 k ∧ Hid (fieldsTo (poT m) n k = true)) (fun i => n.names.length - (intOf i).toNat)
  case atStart => exact ⟨0, Nat.zero_le _, rfl, rfl⟩
  case round =>
    obtain ⟨k, hk, rfl, HA⟩ := hrel
    by_cases hlt : k < n.names.length
    · obtain ⟨b, off, rfl, -, hcell⟩ := hcn (by intro h; rw [h] at hlt; simp at hlt)
      have e0 := hcell k hlt
      obtain ⟨b2, off2, rfl, -, hcell2⟩ := hck (by intro h; have := List.length_eq_zero_iff.2 h; omega)
      obtain ⟨d0, d1, d2, d3, d4, k0, -, -, -, -, hin⟩ := hcell2 k (by omega)
      obtain rfl := hin.op
      have HCk := hidF (HC.out k hlt)
      have hkc : (k : Int) ≤ (nc : Int) := by omega
      have HS : Hid (fieldsTo (poT m) n (k + 1) = (fieldB n.names k && (poF (opT m (n.kids[k]'(by omega))) == 86))) := by
        show _ = _
        rw [fieldsTo_succ, HA.out]
        have hj : k < n.kids.length := by omega
        simp [List.getD, hj, poT]
      have HN : Hid (fieldsTo (poT m) n (k + 1) = false → fieldsTo (poT m) n n.names.length = false) := by
        intro h
        refine fieldsTo_false _ _ k hlt ?_
        rw [fieldsTo_succ, HA.out] at h
        simpa using h
      clear hcn hck hcell hcell2 HC hin
      have hkl : (k : Int) < (n.kids.length : Int) := by omega
      generalize opT m (n.kids[k]'(by omega)) = op at *
      generalize n.names[k] = s at *
      cases hf : fieldB n.names k with
      | false =>
        rw [hf] at HCk HS
        go_wp2_with fail
        refine HCk.out.mono ?_
        rintro e w1 ⟨rfl, rfl⟩
        go_wp2_with fail
        go_ret
        exact ⟨bool_ret (by rw [HF.out, HN.out (by rw [HS.out]; rfl)]), rfl⟩
      | true =>
        rw [hf] at HCk HS
        cases hpo : (poF op == 86) with
        | true =>
          rw [hpo] at HS
          go_wp2_with fail
          refine HCk.out.mono ?_
          rintro e w1 ⟨rfl, rfl⟩
          go_wp2_with fail
          refine (HP.out _ _).mono ?_
          rintro e w1 ⟨rfl, rfl⟩
          go_wp2_with fail
          go_round
          case rel => exact ⟨k + 1, by omega, by go_num, HS⟩
          case measure => simp [intOf]; omega
        | false =>
          rw [hpo] at HS
          go_wp2_with fail
          refine HCk.out.mono ?_
          rintro e w1 ⟨rfl, rfl⟩
          go_wp2_with fail
          refine (HP.out _ _).mono ?_
          rintro e w1 ⟨rfl, rfl⟩
          go_wp2_with fail
          go_ret
          exact ⟨bool_ret (by rw [HF.out, HN.out (by rw [HS.out]; rfl)]), rfl⟩
    · have hkl : k = n.names.length := by omega
      have HE : Hid (fieldsB (poT m) n = true) := by show _ = _; rw [HF.out, ← hkl, HA.out]
      clear hkl hcn hck HC HA
      go_wp2_with fail
      go_ret
      exact ⟨bool_ret HE.out.symm, rfl⟩

end Go.Proofs.YtlinplghgamgbaaGreatDoor
