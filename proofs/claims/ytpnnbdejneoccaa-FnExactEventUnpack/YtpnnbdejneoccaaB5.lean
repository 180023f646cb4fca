/-
  Several texts in one, in their order.
-/
import Derived.Test.YtpnnbdejneoccaaB1

/-
  Worlds that differ in one block and in new ones.
-/
namespace Go.Proofs.Ytpnnbdejneoccaa
open Go.RowKit

/-- What was there is as it was, but for block bb. -/
structure Near (bb : Nat) (w w' : World) : Prop where
  os : w'.os = w.os
  tape : w'.tape = w.tape
  output : w'.output = w.output
  size : w.heap.size ≤ w'.heap.size
  block : ∀ k, k < w.heap.size → k ≠ bb → w'.heap[k]? = w.heap[k]?

theorem Near.refl (bb : Nat) (w : World) : Near bb w w := ⟨rfl, rfl, rfl, Nat.le_refl _, fun _ _ _ => rfl⟩
theorem Near.trans {bb : Nat} {a b c : World} (h : Near bb a b) (k : Near bb b c) : Near bb a c :=
  ⟨k.os.trans h.os, k.tape.trans h.tape, k.output.trans h.output, Nat.le_trans h.size k.size, fun i hi hne => (k.block i (Nat.lt_of_lt_of_le hi h.size) hne).trans (h.block i hi hne)⟩
theorem Near.of_below {bb : Nat} {a b : World} (h : Below a.heap.size a b) : Near bb a b := ⟨h.os, h.tape, h.output, h.size, fun k hk _ => h.block k hk⟩
theorem Near.set (bb o : Nat) (w : World) (v : Value) : Near bb w (w.setCell ⟨bb, o, none⟩ v) := ⟨rfl, rfl, rfl, by simp, fun k _ hne => Below.heap_setCell _ _ _ _ hne⟩
theorem Near.alloc (bb : Nat) (w : World) (o : Obj) : Near bb w (w.alloc o) := .of_below ((Below.refl _ _).alloc (Nat.le_refl _) o)
theorem Near.below {bb B : Nat} {a b : World} (h : Near bb a b) (h1 : B ≤ bb) (h2 : B ≤ a.heap.size) : Below B a b := ⟨h.os, h.tape, h.output, h.size, fun k hk => h.block k (by omega) (by omega)⟩

/-- The block of a counter. -/
def Prt (w : World) (pb : Nat) (p : Int) : Prop := w.heap[pb]? = some (.cells #[.int .i64 p] 3 (0, 0))

theorem Prt.cell {w : World} {pb : Nat} {p : Int} (h : Prt w pb p) : w.cell? ⟨pb, 0, none⟩ = some (.int .i64 p) := by
  unfold Prt at h; simp [World.cell?, h]
theorem Prt.free {w : World} {pb : Nat} {p : Int} (h : Prt w pb p) : w.frozen? ⟨pb, 0, none⟩ = false := by
  unfold Prt at h; simp [World.frozen?, h]
theorem Prt.lt {w : World} {pb : Nat} {p : Int} (h : Prt w pb p) : pb < w.heap.size := by
  unfold Prt at h
  exact (Array.getElem?_eq_some_iff.1 h).1
theorem Prt.set {w : World} {pb : Nat} {p : Int} (h : Prt w pb p) (q : Int) : Prt (w.setCell ⟨pb, 0, none⟩ (.int .i64 q)) pb q := by
  unfold Prt at h ⊢; simp [World.setCell, Array.getElem?_modify, h]
theorem Prt.new (w : World) (p : Int) : Prt (w.alloc (.cells #[.int .i64 p] 3)) w.heap.size p := by
  show (w.heap.push _)[w.heap.size]? = _; simp
theorem Prt.keep {w w' : World} {pb : Nat} {p : Int} (h : Prt w pb p) (hb : Below w.heap.size w w') : Prt w' pb p := (hb.block pb h.lt).trans h

theorem Near.same {pb : Nat} {S : Nat → Prop} {w w' : World} (h : Near pb w w') (hS : ∀ b, S b → b < w.heap.size ∧ b ≠ pb) : Same S w w' := fun b hb => h.block b (hS b hb).1 (hS b hb).2
theorem Near.drew {pb : Nat} {w w' : World} (h : Near pb w w') : Near pb w w'.drew := ⟨h.os, h.tape, h.output, h.size, h.block⟩
theorem Near.cell {pb b o : Nat} {w w' : World} {v : Value} (h : Near pb w w') (hc : w.cell? ⟨b, o, none⟩ = some v) (hne : b ≠ pb) : w'.cell? ⟨b, o, none⟩ = some v := by
  have hlt : b < w.heap.size := Classical.byContradiction fun hge => by
    have : w.heap[b]? = none := Array.getElem?_eq_none (by omega)
    simp [World.cell?, this] at hc
  exact (World.cell?_of_block (w := w) (w' := w') (a := ⟨b, o, none⟩) (h.block b hlt hne)).trans hc

theorem cell_lt0 {w : World} {b o : Nat} {v : Value} (h : w.cell? ⟨b, o, none⟩ = some v) : b < w.heap.size :=
  Classical.byContradiction fun hge => by
    have : w.heap[b]? = none := Array.getElem?_eq_none (by omega)
    simp [World.cell?, this] at h

/-- What a closure over a counter, a bound and a function has at hand. -/
structure Cap (w : World) (pb mb ab : Nat) (p M : Int) (F : Nat) : Prop where
  parts : Prt w pb p
  max : w.cell? ⟨mb, 0, none⟩ = some (.int .i64 M)
  acc : w.cell? ⟨ab, 0, none⟩ = some (.func (.func F) #[] #[])
  nm : mb ≠ pb
  na : ab ≠ pb

theorem Cap.keep {w w' : World} {pb mb ab : Nat} {p q M : Int} {F : Nat} (h : Cap w pb mb ab p M F) (hn : Near pb w w') (hp : Prt w' pb q) : Cap w' pb mb ab q M F :=
  ⟨hp, hn.cell h.max h.nm, hn.cell h.acc h.na, h.nm, h.na⟩

end Go.Proofs.Ytpnnbdejneoccaa

/-
  Five cells of a block, kept from call to call; a tree kept from call to call.
-/
namespace Go.Proofs.Ytpnnbdejneoccaa
open Go.RowKit

/-- Five cells of a block. -/
structure Box5 (w : World) (N : Nat) (a b c d e : Value) : Prop where
  c0 : w.cell? ⟨N, 0, none⟩ = some a
  c1 : w.cell? ⟨N, 1, none⟩ = some b
  c2 : w.cell? ⟨N, 2, none⟩ = some c
  c3 : w.cell? ⟨N, 3, none⟩ = some d
  c4 : w.cell? ⟨N, 4, none⟩ = some e

theorem Box5.keep {w w' : World} {N : Nat} {a b c d e : Value} (h : Box5 w N a b c d e) (hb : Below w.heap.size w w') : Box5 w' N a b c d e := by
  have hl : N < w.heap.size := by
    have h := h.c0
    exact Classical.byContradiction fun hge => by
      have : w.heap[N]? = none := Array.getElem?_eq_none (by omega)
      simp [World.cell?, this] at h
  exact ⟨(hb.cell (p := ⟨N, 0, none⟩) hl).trans h.c0, (hb.cell (p := ⟨N, 1, none⟩) hl).trans h.c1, (hb.cell (p := ⟨N, 2, none⟩) hl).trans h.c2, (hb.cell (p := ⟨N, 3, none⟩) hl).trans h.c3, (hb.cell (p := ⟨N, 4, none⟩) hl).trans h.c4⟩

theorem Box5.new (w : World) (a b c d e : Value) (t : TypeId) : Box5 (w.alloc (.cells #[a, b, c, d, e] t)) w.heap.size a b c d e :=
  ⟨by simp [go_sem], by simp [go_sem], by simp [go_sem], by simp [go_sem], by simp [go_sem]⟩

/-- A law's head: the argument in its box, and its measure. -/
theorem TreeIn.step {S : Nat → Prop} {w w' : World} {n : Nat} {t : T n} {c0 c1 c2 c3 c4 : Value} (h : TreeIn S w n t c0 c1 c2 c3 c4) (hS : ∀ b, S b → b < w.heap.size) (hb : Below w.heap.size w w') : TreeIn S w' n t c0 c1 c2 c3 c4 ∧ (∀ b, S b → b < w'.heap.size) :=
  ⟨h.keep (same_below hb hS) (fun _ h => h), fun b hb' => Nat.lt_of_lt_of_le (hS b hb') hb.size⟩

end Go.Proofs.Ytpnnbdejneoccaa

/-
  The program's own functions on names: what they answer.
-/
namespace Go.Proofs.Ytpnnbdejneoccaa
open Go.RowKit

theorem bool_ret {a b : Bool} (h : a = b) : Ending.returned (.bool a) = .returned (.bool b) := by rw [h]

def digB (n : Int) : Bool := decide (48 ≤ n ∧ n ≤ 57)

set_option maxHeartbeats 400000 in
theorem isDigit_any (x : Int) (w : World) (_h0 : 0 ≤ x) (_h1 : x ≤ 255) : Calls Try.prog 62 #[.int .u8 x] w fun e w' => e = .returned (.bool (digB x)) ∧ w' = w := by
  by_cases h : 48 ≤ x <;> by_cases h2 : x ≤ 57
  all_goals
    go_enter Try.func62, Try.ntmps62
    go_wp2
    go_ret
    exact ⟨bool_ret (by simp [digB, h, h2]; try omega), rfl⟩

theorem head_eq (s : ByteArray) (h : 0 < s.size) : s.data.toList.headD 0 = s[0] := by
  cases hx : s.data.toList with
  | nil => have := congrArg List.length hx; simp at this; simp [this] at h
  | cons a r => simp [ByteArray.getElem_eq_getElem_data, ← Array.getElem_toList, hx]

theorem nmByte_dig (c : UInt8) (h : nmByte c = true) : upByte c = !digB c.toNat := by
  unfold nmByte at h
  rw [decide_eq_true_eq] at h
  unfold upByte digB
  rcases h with h | h
  · rw [decide_eq_true h, decide_eq_false (by omega)]; rfl
  · rw [decide_eq_false (by omega), decide_eq_true h]; rfl

/-- A name, as the program asks it: no digit ahead. -/
theorem nameB_eq (s : ByteArray) (h1 : 1 ≤ s.size) (h2 : s.size ≤ 8) : nameB s = (!digB (s[0].toNat : Int) && s.data.toList.all nmByte) := by
  unfold nameB
  rw [head_eq s (by omega)]
  cases hall : s.data.toList.all nmByte with
  | false => simp
  | true =>
    have h0 : nmByte s[0] = true := List.all_eq_true.1 hall _ (by simp [ByteArray.getElem_eq_getElem_data])
    rw [nmByte_dig _ h0]; simp [h1, h2]

set_option maxHeartbeats 400000 in
theorem isName_any (s : ByteArray) (w : World) (hs : s.size ≤ maxLen) : Calls Try.prog 43 #[.string s] w fun e w' => e = .returned (.bool (nameB s)) ∧ w' = w := by
  unfold maxLen at hs
  by_cases hl : 1 ≤ s.size ∧ s.size ≤ 8
  · obtain ⟨hl1, hl2⟩ := hl
    have HN : Hid (nameB s = (!digB (s[0].toNat : Int) && s.data.toList.all nmByte)) := nameB_eq s hl1 hl2
    have hu0 : ∀ k (h : k < s.size), (s[k].toNat : Int) ≤ 255 := fun k h => by have := s[k].toNat_lt; omega
    have hu00 := hu0 0 (by omega)
    cases hd : digB (s[0].toNat : Int) with
    | true =>
      have HF : Hid (nameB s = false) := by show _ = _; rw [HN.out, hd]; simp
      clear hu0
      go_enter Try.func43, Try.ntmps43
      go_wp2_with fail
      refine (isDigit_any _ _ (by omega) hu00).mono ?_
      rintro e w' ⟨rfl, rfl⟩
      rw [hd]
      go_wp2_with fail
      go_ret
      exact ⟨bool_ret HF.out.symm, rfl⟩
    | false =>
      have HD := hidF hd
      have HU := hidF hu0
      clear hu0 hd
      go_enter Try.func43, Try.ntmps43
      go_wp2_with fail
      refine (isDigit_any _ _ (by omega) hu00).mono ?_
      rintro e w' ⟨rfl, rfl⟩
      rw [HD.out]
      go_wp2_with fail
      go_loop [19] (fun i => ∃ k : Nat, k ≤ s.size ∧ i = .int .i64 k ∧ (s.data.toList.take k).all nmByte = true) (fun i => s.size - (intOf i).toNat)
      case atStart => exact ⟨0, Nat.zero_le _, rfl, by simp⟩
      case round =>
        obtain ⟨k, hk, rfl, hall⟩ := hrel
        have HA := hidF hall
        clear hall
        by_cases hlt : k < s.size
        · have huk := HU.out k hlt
          have HDig : Hid (digB (s[k].toNat : Int) = decide (48 ≤ (s[k].toNat : Int) ∧ (s[k].toNat : Int) ≤ 57)) := rfl
          cases hb : nmByte s[k] with
          | true =>
            have HB : Hid (nmByte s[k] = true) := hb
            unfold nmByte at hb
            rw [decide_eq_true_eq] at hb
            rcases hb with ⟨h1, h2⟩ | ⟨h1, h2⟩
            · have hdk : digB (s[k].toNat : Int) = false := by rw [HDig.out]; exact decide_eq_false (by omega)
              go_wp2_with (go_at_call 62; refine (isDigit_any _ _ (by omega) huk).mono ?_; rintro e w' ⟨rfl, rfl⟩; rw [hdk])
              go_round
              case rel => exact ⟨k + 1, by omega, by go_num, all_take_succ k hlt HA.out HB.out⟩
              case measure => simp [intOf]; omega
            · have hdk : digB (s[k].toNat : Int) = true := by rw [HDig.out]; exact decide_eq_true ⟨by omega, by omega⟩
              go_wp2_with (go_at_call 62; refine (isDigit_any _ _ (by omega) huk).mono ?_; rintro e w' ⟨rfl, rfl⟩; rw [hdk])
              go_round
              case rel => exact ⟨k + 1, by omega, by go_num, all_take_succ k hlt HA.out HB.out⟩
              case measure => simp [intOf]; omega
          | false =>
            have HF : Hid (nameB s = false) := by show _ = _; rw [nameB, all_false_at k hlt hb]; simp
            unfold nmByte at hb
            rw [decide_eq_false_iff_not] at hb
            have hdk : digB (s[k].toNat : Int) = false := by rw [HDig.out]; exact decide_eq_false (by omega)
            rcases (show (s[k].toNat : Int) < 97 ∨ 122 < (s[k].toNat : Int) by omega) with h1 | h1
            all_goals
              clear hb
              go_wp2_with (go_at_call 62; refine (isDigit_any _ _ (by omega) huk).mono ?_; rintro e w' ⟨rfl, rfl⟩; rw [hdk])
              go_ret
              exact ⟨bool_ret HF.out.symm, rfl⟩
        · have HF : Hid (nameB s = true) := by show _ = _; rw [HN.out, HD.out, all_take_all k (by omega) HA.out]; simp
          go_wp2_with fail
          go_ret
          exact ⟨bool_ret HF.out.symm, rfl⟩
  · have HF : Hid (nameB s = false) := by show _ = _; rw [nameB, decide_eq_false hl]; simp
    rcases (show s.size < 1 ∨ 8 < s.size by omega) with h1 | h1
    all_goals
      clear hl
      go_enter Try.func43, Try.ntmps43
      go_wp2_with fail
      go_ret
      exact ⟨bool_ret HF.out.symm, rfl⟩

end Go.Proofs.Ytpnnbdejneoccaa

/-
  The program's own functions on names and texts: what they answer.
-/
namespace Go.Proofs.Ytpnnbdejneoccaa
open Go.RowKit

set_option maxHeartbeats 400000 in
theorem isTreeNum_any (x : Int) (w : World) : Calls Try.prog 77 #[.int .i64 x] w fun e w' => e = .returned (.bool (decide (-999999999 ≤ x ∧ x ≤ 999999999))) ∧ w' = w := by
  by_cases h : -999999999 ≤ x <;> by_cases h2 : x ≤ 999999999
  all_goals
    go_enter Try.func77, Try.ntmps77
    go_wp2
    go_ret
    exact ⟨bool_ret (by simp [h, h2]; try omega), rfl⟩

set_option maxHeartbeats 400000 in
theorem isTreeText_any (s : ByteArray) (w : World) (hs : s.size ≤ maxLen) : Calls Try.prog 78 #[.string s] w fun e w' => e = .returned (.bool (textB s)) ∧ w' = w := by
  unfold maxLen at hs
  by_cases hl : s.size ≤ 60
  · go_enter Try.func78, Try.ntmps78
    go_wp2
    go_loop [9] (fun i => ∃ k : Nat, k ≤ s.size ∧ i = .int .i64 k ∧ (s.data.toList.take k).all okByte = true) (fun i => s.size - (intOf i).toNat)
    case atStart => exact ⟨0, Nat.zero_le _, rfl, by simp⟩
    case round =>
      obtain ⟨k, hk, rfl, hall⟩ := hrel
      have HA := hidF hall
      clear hall
      by_cases hlt : k < s.size
      · cases hb : okByte s[k] with
        | true =>
          have HB : Hid (okByte s[k] = true) := hb
          unfold okByte at hb
          rw [decide_eq_true_eq] at hb
          obtain ⟨h1, h2, h3⟩ := hb
          have h3' : ((s[k].toNat : Int) == 34) = false := by simpa using h3
          clear h3
          go_wp2
          go_round
          case rel => exact ⟨k + 1, by omega, by go_num, all_take_succ k hlt HA.out HB.out⟩
          case measure => simp [intOf]; omega
        | false =>
          have HF : Hid (textB s = false) := by show _ = _; rw [textB, all_false_at k hlt hb]; simp
          unfold okByte at hb
          rw [decide_eq_false_iff_not] at hb
          go_wp2
          all_goals first
            | (go_ret; exact ⟨bool_ret HF.out.symm, rfl⟩)
            | (exfalso; apply hb; simp_all)
      · have HF : Hid (textB s = true) := by show _ = _; rw [textB, all_take_all k (by omega) HA.out]; simp [hl]
        go_wp2
        go_ret
        exact ⟨bool_ret HF.out.symm, rfl⟩
  · go_enter Try.func78, Try.ntmps78
    go_wp2
    go_ret
    exact ⟨bool_ret (by simp [textB, hl]), rfl⟩

end Go.Proofs.Ytpnnbdejneoccaa

/-
  Schemas in memory: what it means that three cells hold a schema, all of whose memory lies in given blocks; and that this lasts while those are not written.
-/
namespace Go.Proofs.Ytpnnbdejneoccaa
open Go.RowKit

/-- A slice of things of three cells each, in blocks of S. -/
def RowIn3 {α : Type} (S : Nat → Prop) (w : World) (R : α → Value → Value → Value → Prop) (l : List α) (v : Value) : Prop :=
  ∃ (ao : Option Addr) (cap : Nat), v = .slice ao l.length cap ∧ l.length ≤ maxLen ∧
    (l ≠ [] → ∃ b off, ao = some ⟨b, off, none⟩ ∧ S b ∧ ∀ i (h : i < l.length), ∃ c0 c1 c2, w.cell? ⟨b, off + i * 3, none⟩ = some c0 ∧ w.cell? ⟨b, off + i * 3 + 1, none⟩ = some c1 ∧
      w.cell? ⟨b, off + i * 3 + 2, none⟩ = some c2 ∧ R l[i] c0 c1 c2)

/-- Three cells hold a schema, its memory in blocks of S. -/
def KindIn (S : Nat → Prop) (w : World) : (n : Nat) → K n → Value → Value → Value → Prop
  | 0, _, _, _, _ => False
  | n + 1, t, c0, c1, c2 => c0 = .int .i64 (Kd.sort t) ∧ (Lit.int .i64 (Kd.sort t)).wf = true ∧ StrsIn S w (Kd.names t) c1 ∧ RowIn3 S w (KindIn S w n) (Kd.kids t) c2

theorem RowIn3.keep {α : Type} {S S' : Nat → Prop} {w w' : World} {R R' : α → Value → Value → Value → Prop} {l : List α} {v : Value} (h : RowIn3 S w R l v) (hb : Same S w w') (hS : ∀ b, S b → S' b)
    (hR : ∀ x c0 c1 c2, x ∈ l → R x c0 c1 c2 → R' x c0 c1 c2) : RowIn3 S' w' R' l v := by
  obtain ⟨ao, cap, hv, hl, hc⟩ := h
  refine ⟨ao, cap, hv, hl, fun hne => ?_⟩
  obtain ⟨b, off, ha, hB, hcell⟩ := hc hne
  refine ⟨b, off, ha, hS b hB, fun i hi => ?_⟩
  obtain ⟨c0, c1, c2, h0, h1, h2, hr⟩ := hcell i hi
  exact ⟨c0, c1, c2, (hb.cell (p := ⟨b, off + i * 3, none⟩) hB).trans h0, (hb.cell (p := ⟨b, off + i * 3 + 1, none⟩) hB).trans h1, (hb.cell (p := ⟨b, off + i * 3 + 2, none⟩) hB).trans h2,
    hR _ _ _ _ (List.getElem_mem hi) hr⟩

theorem KindIn.keep {S S' : Nat → Prop} {w w' : World} (hb : Same S w w') (hS : ∀ b, S b → S' b) : ∀ {n : Nat} {t : K n} {c0 c1 c2 : Value}, KindIn S w n t c0 c1 c2 → KindIn S' w' n t c0 c1 c2 := by
  intro n
  induction n with
  | zero => intro t c0 c1 c2 h; exact h.elim
  | succ n ih =>
    intro t c0 c1 c2 h
    obtain ⟨h0, hw0, h3, h4⟩ := h
    exact ⟨h0, hw0, h3.keep hb hS, h4.keep hb hS fun x _ _ _ _ hx => ih hx⟩

theorem KindIn.shape {S : Nat → Prop} {w : World} : ∀ {n : Nat} {t : K n} {c0 c1 c2 : Value}, KindIn S w n t c0 c1 c2 →
    ∃ (s : Int) (a : Option Addr) (l c : Nat) (a' : Option Addr) (l' c' : Nat), c0 = .int .i64 s ∧ c1 = .slice a l c ∧ c2 = .slice a' l' c' := by
  intro n
  cases n with
  | zero => intro t c0 c1 c2 h; exact h.elim
  | succ n =>
    intro t c0 c1 c2 h
    obtain ⟨h0, hw0, ⟨ao, cap, h3, -⟩, ⟨ao', cap', h4, -⟩⟩ := h
    exact ⟨_, _, _, _, _, _, _, h0, h3, h4⟩

/-- Three cells of a block. -/
structure Box3 (w : World) (N : Nat) (a b c : Value) : Prop where
  c0 : w.cell? ⟨N, 0, none⟩ = some a
  c1 : w.cell? ⟨N, 1, none⟩ = some b
  c2 : w.cell? ⟨N, 2, none⟩ = some c

theorem Box3.keep {w w' : World} {N : Nat} {a b c : Value} (h : Box3 w N a b c) (hb : Below w.heap.size w w') : Box3 w' N a b c := by
  have hl : N < w.heap.size := by
    have h := h.c0
    exact Classical.byContradiction fun hge => by
      have : w.heap[N]? = none := Array.getElem?_eq_none (by omega)
      simp [World.cell?, this] at h
  exact ⟨(hb.cell (p := ⟨N, 0, none⟩) hl).trans h.c0, (hb.cell (p := ⟨N, 1, none⟩) hl).trans h.c1, (hb.cell (p := ⟨N, 2, none⟩) hl).trans h.c2⟩

theorem Box3.new (w : World) (a b c : Value) (t : TypeId) : Box3 (w.alloc (.cells #[a, b, c] t)) w.heap.size a b c :=
  ⟨by simp [go_sem], by simp [go_sem], by simp [go_sem]⟩

theorem KindIn.step {S : Nat → Prop} {w w' : World} {n : Nat} {t : K n} {c0 c1 c2 : Value} (h : KindIn S w n t c0 c1 c2) (hS : ∀ b, S b → b < w.heap.size) (hb : Below w.heap.size w w') : KindIn S w' n t c0 c1 c2 ∧ (∀ b, S b → b < w'.heap.size) :=
  ⟨h.keep (same_below hb hS) (fun _ h => h), fun b hb' => Nat.lt_of_lt_of_le (hS b hb') hb.size⟩

end Go.Proofs.Ytpnnbdejneoccaa

/-
  The copies of schemas that the laws make can be written to.
-/
namespace Go.Proofs.Ytpnnbdejneoccaa
open Go.RowKit

/-- From block M on nothing is frozen. -/
def Thaw (M : Nat) (w : World) : Prop := ∀ b o, M ≤ b → b < w.heap.size → w.frozen? ⟨b, o, none⟩ = false

theorem Thaw.base (w : World) : Thaw w.heap.size w := fun b o h1 h2 => by omega
theorem Thaw.set {M : Nat} {w : World} (h : Thaw M w) (p : Addr) (v : Value) : Thaw M (w.setCell p v) := fun b o h1 h2 => by
  rw [World.frozen?_setCell]; exact h b o h1 (by simpa using h2)
theorem Thaw.alloc {M : Nat} {w : World} (h : Thaw M w) (c : Array Value) (t : TypeId) : Thaw M (w.alloc (.cells c t)) := fun b o h1 h2 => by
  by_cases hb : b < w.heap.size
  · have e := Below.heap_alloc w (.cells c t) b hb
    have := h b o h1 hb
    simp only [World.frozen?, e] at this ⊢
    exact this
  · have hb' : b = w.heap.size := by simp at h2; omega
    subst hb'
    have e := heap_alloc_new w (.cells c t)
    simp only [World.frozen?, e]; simp
theorem Thaw.step {M : Nat} {w w' : World} (h : Thaw M w) (hb : Below w.heap.size w w') (h' : Thaw w.heap.size w') (_hM : M ≤ w.heap.size) : Thaw M w' := fun b o h1 h2 => by
  by_cases hlt : b < w.heap.size
  · rw [hb.frozen (p := ⟨b, o, none⟩) hlt]; exact h b o h1 hlt
  · exact h' b o (by omega) h2

end Go.Proofs.Ytpnnbdejneoccaa
