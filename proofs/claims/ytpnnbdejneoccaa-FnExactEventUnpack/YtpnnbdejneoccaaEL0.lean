/-
  Bytes: compared, marked, held.
-/
import Derived.Test.YtpnnbdejneoccaaB10
import Derived.Test.YtpnnbdejneoccaaB5
import Derived.Test.YtpnnbdejneoccaaB1
import Derived.BigQuiet
namespace Go.Proofs.Ytpnnbdejneoccaa
open Go.RowKit

set_option maxRecDepth 20000 in
set_option maxHeartbeats 1000000 in
theorem eqByteS_same (S S' : Nat → Prop) (l : List UInt8) (u v : Value) (w : World) (h1 : Row1 S w byteR l u) (h2 : Row1 S' w byteR l v) (hl : l.length ≤ 1048576) :
    Calls Try.prog 9 #[u, v] w fun e w' => e = .returned (.bool true) ∧ Below w.heap.size w w' := by
  obtain ⟨ua, uc, rfl, -, hu⟩ := h1
  obtain ⟨va, vc, rfl, -, hv⟩ := h2
  have HR : Hid (∀ k (h : k < l.length), ∃ b o c p, ua = some ⟨b, o, none⟩ ∧ va = some ⟨c, p, none⟩ ∧ w.cell? ⟨b, o + k, none⟩ = some (.int .u8 (l[k].toNat : Int)) ∧ w.cell? ⟨c, p + k, none⟩ = some (.int .u8 (l[k].toNat : Int))) := fun k h => by
    have hne : l ≠ [] := by intro e; rw [e] at h; simp at h
    obtain ⟨b, o, rfl, -, hb⟩ := hu hne
    obtain ⟨c, p, rfl, -, hc⟩ := hv hne
    obtain ⟨x, hx, ex⟩ := hb k h
    obtain ⟨y, hy, ey⟩ := hc k h
    unfold byteR at ex ey
    subst ex ey
    exact ⟨b, o, c, p, rfl, rfl, hx, hy⟩
  clear hu hv
  obtain ⟨ln, hln⟩ : ∃ ln, l.length = ln := ⟨_, rfl⟩
  have HL := Lib.hid hln
  rw [hln] at hl
  rw [hln]
  clear hln
  go_enter Try.func9, Try.ntmps9
  go_wp2_with fail
  go_loopw [5] (fun iv wr => ∃ k : Nat, k ≤ ln ∧ iv = .int .i64 k ∧ Below w.heap.size w wr ∧ ∀ p, wr.cell? p = w.cell? p) (fun iv _ => ln - (intOf iv).toNat)
  case atStart => exact ⟨0, Nat.zero_le _, rfl, Below.refl _ _, fun _ => rfl⟩
  case round =>
    obtain ⟨k, hk, rfl, hbr, hwr⟩ := hrel
    have HW := Lib.hid hwr
    have HB := Lib.hid hbr
    by_cases hlt : k < ln
    case neg =>
      have hkn : ¬ (k : Int) < (ln : Int) := by omega
      clear hwr hbr
      go_wp2_with fail
      go_ret
      exact ⟨rfl, HB.out⟩
    case pos =>
      have hkp : (k : Int) < (ln : Int) := by omega
      have hkl : k < l.length := by have := HL.out; omega
      obtain ⟨b, o, c, p, rfl, rfl, f0, f1⟩ := HR.out k hkl
      generalize l[k] = x at *
      obtain ⟨xi, hxi⟩ : ∃ xi, xi = (x.toNat : Int) := ⟨_, rfl⟩
      rw [← hxi] at f0 f1
      have f0' : wr.cell? ⟨b, o + k, none⟩ = some (.int .u8 xi) := (hwr _).trans f0
      have f1' : wr.cell? ⟨c, p + k, none⟩ = some (.int .u8 xi) := (hwr _).trans f1
      have hxx : (xi != xi) = false := by simp
      clear hxi f0 f1 hwr hbr
      go_wp2_with fail
      go_quiet (fail)
      go_wp2_with fail
      go_roundw
      case rel => exact ⟨k + 1, by omega, by go_num, below_drewN HB.out nq, fun p => (World.cell?_drewN _ _ _).trans (HW.out p)⟩
      case measure => simp [intOf]; omega

theorem own_set {w : World} {base : Nat} {e : TypeId} {v : Value} {n : Nat} {xs : List Value} (h : w.ownsRow base e 1 v n xs) (g j : Nat) (hv : v.ownBlock = some g) (x : Value) : (w.setCell ⟨g, j, none⟩ x).ownsRow base e 1 v n (xs.set j x) := by
  obtain ⟨h1, h2⟩ := h
  refine ⟨by rw [List.length_set]; exact h1, ?_⟩
  rcases h2 with ⟨rfl, h0⟩ | ⟨g', cap, cur, rfl, hbg, hg, hnc, hcm, hcs, htake⟩
  · cases hv
  · have e : g' = g := by simpa [Value.ownBlock] using hv
    subst e
    refine .inr ⟨g', cap, cur.setIfInBounds j x, rfl, hbg, ?_, hnc, hcm, by rw [Array.size_setIfInBounds]; exact hcs, ?_⟩
    · simp [World.setCell, Array.getElem?_modify, hg]
    · rw [Array.toList_setIfInBounds, List.take_set, htake]

/-- The marks from k on. -/
def marksB (k : Int) (n : Nat) : List UInt8 := (List.range n).map (fun (i : Nat) => b8 (k + (i : Int)))

theorem marksB_len (k : Int) (n : Nat) : (marksB k n).length = n := by simp [marksB]

theorem b8_any (i : Int) : ((b8 i).toNat : Int) = i % 256 := by
  unfold b8
  have h1 : 0 ≤ i % 256 := by omega
  have h2 : (i % 256).toNat < 256 := by omega
  rw [UInt8.toNat_ofNat_of_lt' (by simpa using h2)]
  omega

/-- What stands while marks are laid. -/
def midB (k : Int) (l : List UInt8) (j : Nat) : List UInt8 := marksB k j ++ l.drop j

theorem midB_step (k : Int) (l : List UInt8) (j : Nat) (h : j < l.length) : (midB k l j).set j (b8 (k + (j : Int))) = midB k l (j + 1) := by
  unfold midB
  rw [List.set_append_right _ _ (by rw [marksB_len]; exact Nat.le_refl _), marksB_len, Nat.sub_self, List.drop_eq_getElem_cons h, List.set_cons_zero]
  have : marksB k (j + 1) = marksB k j ++ [b8 (k + (j : Int))] := by simp [marksB, List.range_succ]
  rw [this, List.append_assoc]
  rfl

theorem midB_len (k : Int) (l : List UInt8) (j : Nat) (h : j ≤ l.length) : (midB k l j).length = l.length := by
  unfold midB; rw [List.length_append, marksB_len, List.length_drop]; omega

/-- A row of bytes that a call owns. -/
def OwnB (B : Nat) (w : World) (v : Value) (l : List UInt8) : Prop := w.ownsRow B 5 1 v l.length (Lib.byteCells l)

theorem OwnB.row {B : Nat} {w : World} {v : Value} {l : List UInt8} (h : OwnB B w v l) (hl : l.length ≤ maxLen) : Row1 (fun b => B ≤ b ∧ b < w.heap.size) w byteR l v :=
  row1_of_owns h hl (fun g hg => r1_lt h g hg) (fun i hi hx => by simp [byteR, Lib.byteCells])

theorem OwnB.keep {B : Nat} {w w' : World} {v : Value} {l : List UInt8} (h : OwnB B w v l) (hs : ∀ b, B ≤ b → b < w.heap.size → w'.heap[b]? = w.heap[b]?) : OwnB B w' v l :=
  r1_keep h (fun g hg => hs g (r1_lt h g hg).1 (r1_lt h g hg).2)

theorem OwnB.cells {B : Nat} {w : World} {v : Value} {l : List UInt8} (h : OwnB B w v l) (j : Nat) (hj : j < l.length) : ∃ g c, v = .slice (some ⟨g, 0, none⟩) l.length c ∧ w.cell? ⟨g, 0 + j, none⟩ = some (.int .u8 (l[j].toNat : Int)) ∧ w.frozen? ⟨g, 0 + j, none⟩ = false := by
  rcases h.2 with ⟨rfl, h0⟩ | ⟨g, cap, cur, rfl, hbg, hg, hnc, hcm, hcs, htake⟩
  · omega
  · refine ⟨g, cap, rfl, ?_, by simp [World.frozen?, hg]⟩
    have := World.ownsRow.cells h (g := g) rfl j (.int .u8 (l[j].toNat : Int)) (by simp [Lib.byteCells, hj])
    rw [Addr.add_lit] at this
    exact this

set_option maxRecDepth 20000 in
set_option maxHeartbeats 1000000 in
theorem markByteS_any (B : Nat) (l : List UInt8) (u : Value) (k : Int) (w : World) (h : OwnB B w u l) (hk : 0 ≤ k ∧ k ≤ 1000) (hl : l.length ≤ 1048576) :
    Calls Try.prog 12 #[u, .int .i64 k] w fun e w' => e = .returned (.int .i64 (k + l.length)) ∧ OwnB B w' u (marksB k l.length) ∧ (w'.os = w.os ∧ w'.tape = w.tape ∧ w'.output = w.output) ∧ w.heap.size ≤ w'.heap.size ∧ ∀ b, u.ownBlock ≠ some b → w'.heap[b]? = w.heap[b]? := by
  have hk0 := hk.1
  have hk1 := hk.2
  clear hk
  obtain ⟨ua, uc, rfl⟩ := r1_shape h
  obtain ⟨ln, hln⟩ : ∃ ln, l.length = ln := ⟨_, rfl⟩
  have HL := Lib.hid hln
  have HB : Hid (OwnB B w (.slice ua ln uc) l) := by rw [hln] at h; exact h
  rw [hln] at hl
  rw [hln]
  clear hln h
  go_enter Try.func12, Try.ntmps12
  go_wp2_with fail
  go_loopw [1, 5] (fun kv iv wr => ∃ j : Nat, j ≤ ln ∧ iv = .int .i64 j ∧ kv = .int .i64 (k + j) ∧ OwnB B wr (.slice ua ln uc) (midB k l j) ∧ (wr.os = w.os ∧ wr.tape = w.tape ∧ wr.output = w.output) ∧ w.heap.size ≤ wr.heap.size ∧ ∀ b, (Value.slice ua ln uc).ownBlock ≠ some b → wr.heap[b]? = w.heap[b]?) (fun _ iv _ => ln - (intOf iv).toNat)
  case atStart => exact ⟨0, Nat.zero_le _, rfl, by simp, by simpa [midB, marksB] using HB.out, ⟨rfl, rfl, rfl⟩, Nat.le_refl _, fun _ _ => rfl⟩
  case round =>
    obtain ⟨j, hj, rfl, rfl, hb, hos, hz, ho⟩ := hrel
    have HOs : Hid (_ ∧ _ ∧ _) := hos
    clear hos
    have HBr := Lib.hid hb
    have HO := Lib.hid ho
    have hml : (midB k l j).length = ln := by have := HL.out; rw [midB_len k l j (by omega)]; exact this
    by_cases hlt : j < ln
    case neg =>
      have hjn : ¬ (j : Int) < (ln : Int) := by omega
      have e : j = ln := by omega
      have HE : Hid (midB k l j = marksB k ln) := by
        show _ = _
        unfold midB
        rw [List.drop_eq_nil_of_le (by have := HL.out; omega), List.append_nil, e]
      clear hb ho hml
      go_wp2_with fail
      go_ret
      refine ⟨rfl, ?_, HOs.out, hz, HO.out⟩
      have h := HBr.out
      rw [HE.out] at h
      exact h
    case pos =>
      have hjp : (j : Int) < (ln : Int) := by omega
      obtain ⟨g, c, hv, hc, hf⟩ := hb.cells j (by omega)
      obtain ⟨hua, -⟩ : ua = some ⟨g, 0, none⟩ ∧ uc = c := by injection hv with a b c; exact ⟨a, c⟩
      subst hua
      have hS := own_set hb g j rfl (.int .u8 ((k + (j : Int)) % 256))
      have HS : Hid (OwnB B (wr.setCell ⟨g, j, none⟩ (.int .u8 ((k + (j : Int)) % 256))) (.slice (some ⟨g, 0, none⟩) ln uc) (midB k l (j + 1))) := by
        have hlt' : j < l.length := by have := HL.out; omega
        show World.ownsRow _ _ _ _ _ _ _
        rw [← midB_step k l j hlt']
        have e : Lib.byteCells ((midB k l j).set j (b8 (k + (j : Int)))) = (Lib.byteCells (midB k l j)).set j (.int .u8 ((k + (j : Int)) % 256)) := by
          unfold Lib.byteCells
          rw [List.map_set, b8_any]
        rw [e, List.length_set]
        exact hS
      have HO2 : Hid (∀ b, (Value.slice (some ⟨g, 0, none⟩) ln uc).ownBlock ≠ some b → (wr.setCell ⟨g, j, none⟩ (.int .u8 ((k + (j : Int)) % 256))).heap[b]? = w.heap[b]?) := fun b hbb => by
        rw [Below.heap_setCell _ _ _ _ (by show b ≠ g; intro e; exact hbb (by rw [e]; rfl))]
        exact HO.out b hbb
      rw [Nat.zero_add] at hc hf
      generalize (midB k l j)[j] = x at *
      have hwk : IntKind.u8.wrap (k + (j : Int)) = (k + (j : Int)) % 256 := by rw [IntKind.wrap_u8]
      have hm0 : 0 ≤ (k + (j : Int)) % 256 ∧ (k + (j : Int)) % 256 < 256 := by omega
      clear hb ho hv hS hml
      go_wp2_with fail
      go_roundw
      case rel => exact ⟨j + 1, by omega, by go_num, by go_num, HS.out, HOs.out, by simpa using hz, HO2.out⟩
      case measure => simp [intOf]; omega

end Go.Proofs.Ytpnnbdejneoccaa
