/-
  The library's slices.Grow at nil, and slices.Concat of two rows of strings.
-/
import Derived.Test.YthcdeahobjhkbaaGreatDoorCopyN
import Derived.Test.YthcdeahobjhkbaaGreatDoorB1
import Derived.Deep.AppendLies
import Derived.Lib.AppendZerosOnto
import Derived.Lib.SliceRun
import Derived.Lib.Walk
import Derived.LoopTactic
namespace Go.Proofs.YthcdeahobjhkbaaGreatDoor
open Go.RowKit

set_option maxRecDepth 20000 in
set_option maxHeartbeats 2000000 in
theorem growNil_any (n : Nat) (w : World) (hn : n ≤ 1000) :
    Calls Tryz.prog 88 #[.slice none 0 0, .int .i64 n] w fun e w' => ∃ v, e = .returned v ∧ w'.ownsRow w.heap.size 9 1 v 0 [] ∧ Below w.heap.size w w' := by
  rcases Nat.eq_zero_or_pos n with rfl | hpos
  · go_enter Tryz.func88, Tryz.ntmps88
    go_wp2_with fail
    go_ret
    exact ⟨_, rfl, World.ownsRow_nil _ _ _ _, Below.refl _ _⟩
  · obtain ⟨i0, hi, hz, hs, hby⟩ := info_parts Tryz.info_strO
    have h1 : ¬ ((n : Int) < 0) := by omega
    have h4 : (n : Int) > 0 := by omega
    have hold : (Builtin.firstCells i0.size 0 (.slice none 0 0)).run Tryz.prog w.drew = .ok ([] : List Value).toArray w.drew := run_firstCells_none w.drew i0.size 0 0 0
    have hrz : ∀ ty, (Builtin.append_ #[23, 3] ty #[.slice none 0 0, .int .i64 (n : Int)]).run Tryz.prog w =
        .ok (.slice (some ⟨w.heap.size, 0, none⟩) n (grownCap w n 0 9)) (w.drew.alloc (.cells (([] : List Value).toArray ++ Builtin.zeroCells (Value.string ⟨#[]⟩).cells n ++ Builtin.zeroCells (Value.string ⟨#[]⟩).cells (grownCap w n 0 9 - n)) 9)) := fun ty => by
      have h := Lib.run_append_grow_zeros w 23 3 ty 9 i0 (.string ⟨#[]⟩) .i64 .i64 Tryz.underlying23 Tryz.underlying3 hi hz none 0 0 [] hold n hpos (by omega) (by omega) (by omega) (by rw [hby]; omega) (by rw [hby]; exact growslice_fits (by omega) (by omega))
      rw [Nat.zero_add] at h
      exact h
    have hGn : n ≤ grownCap w n 0 9 := grownCap_ge w _ _ _
    have hG63 : grownCap w n 0 9 ≤ maxLen := grownCap_le_maxLen w n 0 9 (by unfold maxLen; omega)
    obtain ⟨G, hG⟩ : ∃ G, G = grownCap w n 0 9 := ⟨_, rfl⟩
    rw [← hG] at hrz hGn hG63
    obtain ⟨cur, hcur⟩ : ∃ cur, cur = (([] : List Value).toArray ++ Builtin.zeroCells (Value.string ⟨#[]⟩).cells n ++ Builtin.zeroCells (Value.string ⟨#[]⟩).cells (G - n)) := ⟨_, rfl⟩
    rw [← hcur] at hrz
    have hcs : cur.size = G * 1 := by
      rw [hcur]
      have e3 : (Value.string ⟨#[]⟩).cells.size = 1 := rfl
      rw [Array.size_append, Array.size_append, size_zeroCells, size_zeroCells, e3]
      show 0 + n * 1 + (G - n) * 1 = G * 1
      omega
    have HO : Hid ((w.drew.alloc (.cells cur 9)).ownsRow w.heap.size 9 1 (.slice (some ⟨w.heap.size, 0, none⟩) 0 G) 0 []) := ⟨by simp, .inr ⟨w.heap.size, G, cur, rfl, Nat.le_refl _, heap_alloc_new w.drew _, Nat.zero_le _, hG63, hcs, by simp⟩⟩
    have HB : Hid (Below w.heap.size w (w.drew.alloc (.cells cur 9))) := (Below.refl _ _).drew.alloc (Nat.le_refl _) _
    unfold maxLen at hG63
    clear hold hcur hG hcs hi hz hs hby
    go_enter Tryz.func88, Tryz.ntmps88
    go_wp2_with (at_builtin; refine Lib.wpList_append_run _ rfl _ _ _ _ rfl _ _ rfl rfl _ _ (hrz _) ?_)
    all_goals
      go_ret
      exact ⟨_, rfl, HO.out, HB.out⟩

theorem run_append_none {P : Program} (w : World) (t ty : TypeId) (base : Nat) (e : TypeId) (i : TypeInfo) (size : Nat) (ht : P.underlying t = some (.slice e)) (hi : P.info? e = some i) (v : Value) (n c : Nat) (xs : List Value) (hown : w.ownsRow base e size v n xs) :
    (Builtin.append_ #[t, t] ty #[v, .slice none 0 c]).run P w = .ok v w := by
  rcases hown.2 with ⟨rfl, -⟩ | ⟨g, cap, cur, rfl, -, -, hnc, -, -, -⟩
  · simp [Builtin.append_, run_underlying ht, sizeOf, typeInfo, hi, Builtin.lenOf, Builtin.firstCells]
  · simp [Builtin.append_, run_underlying ht, sizeOf, typeInfo, hi, Builtin.lenOf, Builtin.firstCells, loadCells, storeCells, hnc]

/-- One row more, nil or not, empty or not. -/
theorem run_append_strs {P : Program} (w : World) (t ty : TypeId) (base : Nat) (e : TypeId) (i : TypeInfo) (ht : P.underlying t = some (.slice e)) (hi : P.info? e = some i) (hz : i.zero = some (.string ⟨#[]⟩)) (hsize : i.size = 1) (hby : i.bytes = 16) (S : Nat → Prop) (v : Value) (n : Nat) (xs : List Value) (hown : w.ownsRow base e 1 v n xs) (hn : n ≤ 1000) (hbase : base ≤ w.heap.size) (ao : Option Addr) (l : List ByteArray) (k c : Nat) (hk : l.length = k) (hl : StrsIn S w l (.slice ao k c)) (hl1 : k ≤ 1000) :
    ∃ v' w', (Builtin.append_ #[t, t] ty #[v, .slice ao k c]).run P w = .ok v' w' ∧ w'.ownsRow base e 1 v' (n + k) (xs ++ l.map .string) ∧ w.grownBy w' v.ownBlock := by
  subst hk
  obtain ⟨ao', c', he, -, -, hc⟩ := hl
  have hao : ao = ao' := by simpa using congrArg (fun v => match v with | Value.slice a _ _ => a | _ => none) he
  subst hao
  cases ao with
  | none =>
    have hl0 : l = [] := by
      cases l with
      | nil => rfl
      | cons x r => obtain ⟨b, off, h, -⟩ := hc (by simp); cases h
    subst hl0
    exact ⟨v, w, run_append_none w t ty base e i 1 ht hi v n c xs hown, by simpa using hown, ⟨rfl, rfl, rfl, Nat.le_refl _, fun _ _ _ => rfl⟩⟩
  | some ad =>
    have hnews : ∀ j u, (l.map Value.string)[j]? = some u → w.cell? (ad.add j) = some u := fun j u hu => by
      obtain ⟨b, off, h, -, hcell⟩ := hc (fun e => by subst e; simp at hu)
      have h : ad = ⟨b, off, none⟩ := by simpa using h
      subst h
      rw [List.getElem?_map] at hu
      rcases hlj : l[j]? with _ | s
      · rw [hlj] at hu; cases hu
      · rw [hlj] at hu
        obtain ⟨hj, e⟩ := List.getElem?_eq_some_iff.1 hlj
        rw [Addr.add_lit, hcell j hj, e]
        simpa using hu
    obtain ⟨v', w', hr, h2, h3, -, -⟩ := run_append_own_at (P := P) w base t ty e i (.string ⟨#[]⟩) 1 16 ht hi hz hsize hby rfl (by decide) v n xs hown ad l.length c (l.map .string) (by simp) hnews (fun u hu => by obtain ⟨x, -, rfl⟩ := List.mem_map.1 hu; rfl) (by unfold maxLen; omega) (by omega) hbase
    exact ⟨v', w', hr, h2, h3⟩

set_option maxRecDepth 20000 in
set_option maxHeartbeats 4000000 in
theorem concat_any (S : Nat → Prop) (la lb : List ByteArray) (aa ab : Option Addr) (ca cb X na nb : Nat) (w : World) (hna : la.length = na) (hnb : lb.length = nb) (ha : StrsIn S w la (.slice aa na ca)) (hb : StrsIn S w lb (.slice ab nb cb)) (hB : ∀ b, S b → b < w.heap.size) (hla : na ≤ 100) (hlb : nb ≤ 100) (hX : X < w.heap.size)
    (c0 : w.cell? ⟨X, 0, none⟩ = some (.slice aa na ca)) (c1 : w.cell? ⟨X, 1, none⟩ = some (.slice ab nb cb)) :
    Calls Tryz.prog 78 #[.slice (some ⟨X, 0, none⟩) 2 2] w fun e w' => ∃ v, e = .returned v ∧ w'.ownsRow w.heap.size 9 1 v (na + nb) ((la ++ lb).map .string) ∧ Below w.heap.size w w' := by
  obtain ⟨i0, hi0, hy0, hy1, hyb⟩ := info_parts Tryz.info_strO
  have HI : Hid (_ ∧ _ ∧ _ ∧ _) := ⟨hi0, hy0, hy1, hyb⟩
  have HA : Hid (∀ W, Below w.heap.size w W → (StrsIn S W la (.slice aa na ca) ∧ StrsIn S W lb (.slice ab nb cb)) ∧ W.cell? ⟨X, 0, none⟩ = some (.slice aa na ca) ∧ W.cell? ⟨X, 1, none⟩ = some (.slice ab nb cb)) := fun W hW => ⟨⟨ha.keep (same_below hW hB) (fun _ h => h), hb.keep (same_below hW hB) (fun _ h => h)⟩, (hW.cell (p := ⟨X, 0, none⟩) hX).trans c0, (hW.cell (p := ⟨X, 1, none⟩) hX).trans c1⟩
  have HN : Hid (la.length = na ∧ lb.length = nb) := ⟨hna, hnb⟩
  clear hi0 hy0 hy1 hyb ha hb hB hna hnb
  go_enter Tryz.func78, Tryz.ntmps78
  go_wp2_with fail
  go_loopw [3, 11] (fun sv iv wr => ((iv = .int .i64 0 ∧ sv = .int .i64 0) ∨ (iv = .int .i64 1 ∧ sv = .int .i64 na) ∨ (iv = .int .i64 2 ∧ sv = .int .i64 ((na : Int) + (nb : Int)))) ∧ wr = w) (fun _ iv _ => 2 - (intOf iv).toNat)
  case atStart => exact ⟨.inl ⟨rfl, rfl⟩, rfl⟩
  case round =>
    obtain ⟨hcase, hwr⟩ := hrel
    obtain ⟨W0, hW0⟩ : ∃ W0, W0 = wr := ⟨_, rfl⟩
    rw [← hW0] at hwr ⊢
    clear hW0
    subst hwr
    rcases hcase with ⟨rfl, rfl⟩ | ⟨rfl, rfl⟩ | ⟨rfl, rfl⟩
    · have e1 : ¬ ((na : Int) < 0) := by omega
      go_wp2_with fail
      go_roundw
      case rel => exact ⟨.inr (.inl ⟨by go_num, by go_num⟩), by first | rfl | trivial⟩
      case measure => simp [intOf]
    · have e1 : ¬ ((na : Int) + (nb : Int) < 0) := by omega
      go_wp2_with fail
      go_roundw
      case rel => exact ⟨.inr (.inr ⟨by go_num, by go_num⟩), by first | rfl | trivial⟩
      case measure => simp [intOf]
    · have HG : Hid (Calls Tryz.prog 88 #[.slice none 0 0, .int .i64 ((na : Int) + (nb : Int))] W0 fun e w' => ∃ v, e = .returned v ∧ w'.ownsRow W0.heap.size 9 1 v 0 [] ∧ Below W0.heap.size W0 w') := by
        have := growNil_any (na + nb) W0 (by omega)
        rwa [show (((na + nb : Nat) : Int)) = (na : Int) + (nb : Int) by omega] at this
      go_wp2_with fail
      refine HG.out.mono ?_
      rintro e w1 ⟨v, rfl, hown, hb1⟩
      obtain ⟨va, vc, rfl⟩ := r1_shape hown
      have HO := Lib.hid hown
      have HB1 := Lib.hid hb1
      clear HG hown hb1 c0 c1
      go_wp2_with fail
      go_loopw [6, 27] (fun v iv wr => ∃ i k : Nat, i ≤ 2 ∧ iv = .int .i64 i ∧ k ≤ 200 ∧ Below W0.heap.size W0 wr ∧ ∃ l : List ByteArray, wr.ownsRow W0.heap.size 9 1 v k (l.map .string) ∧ ((i = 0 ∧ k = 0 ∧ l = []) ∨ (i = 1 ∧ k = na ∧ l = la) ∨ (i = 2 ∧ k = na + nb ∧ l = la ++ lb))) (fun _ iv _ => 2 - (intOf iv).toNat)
      case atStart => exact ⟨0, 0, by omega, rfl, by omega, HB1.out, [], HO.out, .inl ⟨rfl, rfl, rfl⟩⟩
      case round =>
        obtain ⟨i, k, hi, rfl, hk, hbr, l, hown, hcase⟩ := hrel
        obtain ⟨va, vc, rfl⟩ := r1_shape hown
        obtain ⟨⟨sA, sB⟩, c0, c1⟩ := HA.out wr hbr
        have hzr := hbr.size
        have HX := Lib.hid hown
        have HBr := Lib.hid hbr
        by_cases hlt : i < 2
        · have hi2 : (i : Int) < 2 := by omega
          obtain ⟨ao, c, n, l2, hcell, hsl, hl2, hn2, hnext⟩ : ∃ (ao : Option Addr) (c n : Nat) (l2 : List ByteArray), wr.cell? ⟨X, i, none⟩ = some (.slice ao n c) ∧ StrsIn S wr l2 (.slice ao n c) ∧ l2.length = n ∧ n ≤ 100 ∧ ((i + 1 = 0 ∧ k + n = 0 ∧ l ++ l2 = []) ∨ (i + 1 = 1 ∧ k + n = na ∧ l ++ l2 = la) ∨ (i + 1 = 2 ∧ k + n = na + nb ∧ l ++ l2 = la ++ lb)) := by
            rcases hcase with ⟨rfl, rfl, rfl⟩ | ⟨rfl, rfl, rfl⟩ | ⟨rfl, -, -⟩
            · exact ⟨_, _, _, _, c0, sA, HN.out.1, hla, .inr (.inl ⟨rfl, by omega, rfl⟩)⟩
            · exact ⟨_, _, _, _, c1, sB, HN.out.2, hlb, .inr (.inr ⟨rfl, rfl, rfl⟩)⟩
            · omega
          obtain ⟨v', w', hr, h2, h3⟩ : ∃ v' w', (∀ ty, (Builtin.append_ #[23, 23] ty #[.slice va k vc, .slice ao n c]).run Tryz.prog wr = .ok v' w') ∧ w'.ownsRow W0.heap.size 9 1 v' (k + n) ((l ++ l2).map .string) ∧ wr.grownBy w' (Value.slice va k vc).ownBlock := by
            obtain ⟨v', w', hr, h2, h3⟩ := run_append_strs (P := Tryz.prog) wr 23 23 W0.heap.size 9 i0 Tryz.underlying23 HI.out.1 HI.out.2.1 HI.out.2.2.1 HI.out.2.2.2 S _ k _ HX.out (by omega) hzr ao l2 n c hl2 hsl (by omega)
            refine ⟨v', w', fun ty => ?_, by rw [List.map_append]; exact h2, h3⟩
            exact hr
          have HF : Hid (w'.ownsRow W0.heap.size 9 1 v' (k + n) ((l ++ l2).map .string) ∧ Below W0.heap.size W0 w') := ⟨h2, hbr.grown h3 hzr (fun q hq => (r1_lt HX.out q hq).1)⟩
          have HNx := Lib.hid hnext
          have hkn : k + n ≤ 200 := by rcases hnext with ⟨-, h, -⟩ | ⟨-, h, -⟩ | ⟨-, h, -⟩ <;> omega
          clear hcase hsl hl2 hnext h2 h3 c0 c1 sA sB hown hbr
          go_wp2_with (at_builtin; refine Lib.wpList_append_run _ rfl _ _ _ _ rfl _ _ rfl rfl _ _ (hr _) ?_)
          all_goals
            go_roundw
            case rel => exact ⟨i + 1, k + n, by omega, by go_num, by omega, HF.out.2, l ++ l2, HF.out.1, HNx.out⟩
            case measure => simp [intOf]; omega
        · have hi2 : ¬ (i : Int) < 2 := by omega
          have HF : Hid (wr.ownsRow W0.heap.size 9 1 (.slice va k vc) (na + nb) ((la ++ lb).map .string)) := by
            rcases hcase with ⟨rfl, -, -⟩ | ⟨rfl, -, -⟩ | ⟨-, rfl, rfl⟩
            · omega
            · omega
            · exact HX.out
          clear hcase hown hbr c0 c1 sA sB
          go_wp2_with fail
          go_ret
          exact ⟨_, rfl, (by have := HF.out; rw [List.map_append] at this; exact this), HBr.out⟩

end Go.Proofs.YthcdeahobjhkbaaGreatDoor
