/-
  Several texts in one, in their order.
-/
import Derived.Test.YtnpckelaileooaaGreatDoorB20
import Derived.Test.YtnpckelaileooaaGreatDoorDec
import Derived.Lib.Hide
import Derived.Test.YtnpckelaileooaaGreatDoorB2
import Derived.Deep.RegionLaw
import Derived.Deep.Cut
import Derived.Deep.CutRange
import Derived.WalkSmall
import Derived.LoopTactic
import Derived.Test.YtnpckelaileooaaGreatDoorB15
import Derived.Test.YtnpckelaileooaaGreatDoorDB1
import Derived.Test.YtnpckelaileooaaGreatDoorB13

/-
  What the specification draws: l5Full.
-/
namespace Go.Proofs.YtnpckelaileooaaGreatDoor
open Go.RowKit

def oneT (m : Nat) : T (m + 1) := (⟨1, 7, ByteArray.empty, [], []⟩ : Nd (T m))
def fourT (m : Nat) : T (m + 2) := (⟨4, 0, ByteArray.empty, [], [oneT m, oneT m, oneT m, oneT m]⟩ : Nd (T (m + 1)))

theorem four_in {S : Nat → Prop} {w : World} {B : Nat} (m : Nat) (hS : S B) (h : w.heap[B]? = some (.cells #[.int .i64 1, .int .i64 7, .string ⟨#[]⟩, .slice none 0 0, .slice none 0 0, .int .i64 1, .int .i64 7, .string ⟨#[]⟩, .slice none 0 0, .slice none 0 0, .int .i64 1, .int .i64 7, .string ⟨#[]⟩, .slice none 0 0, .slice none 0 0, .int .i64 1, .int .i64 7, .string ⟨#[]⟩, .slice none 0 0, .slice none 0 0] 26 (0, 0))) :
    TreeIn S w (m + 2) (fourT m) (.int .i64 4) (.int .i64 0) (.string ByteArray.empty) (.slice none 0 0) (.slice (some ⟨B, 0, none⟩) 4 4) := by
  refine ⟨rfl, rfl, rfl, by simp [fourT, maxLen], by rfl, by rfl, ⟨none, 0, rfl, by simp [fourT, maxLen], fun s h => (by cases h), fun h => absurd rfl h⟩, ⟨some ⟨B, 0, none⟩, 4, rfl, by simp [fourT, maxLen], fun _ => ⟨B, 0, rfl, hS, fun i hi => ?_⟩⟩⟩
  have hi4 : i < 4 := hi
  have hl : TreeIn S w (m + 1) (oneT m) (.int .i64 1) (.int .i64 7) (.string ByteArray.empty) (.slice none 0 0) (.slice none 0 0) := leafDT_in S w m 1 7 ByteArray.empty (by rfl) (by rfl) (by simp)
  have hc : i = 0 ∨ i = 1 ∨ i = 2 ∨ i = 3 := by omega
  rcases hc with rfl | rfl | rfl | rfl
  all_goals exact ⟨_, _, _, _, _, by simp [World.cell?, h], by simp [World.cell?, h], by simp [World.cell?, h]; rfl, by simp [World.cell?, h], by simp [World.cell?, h], hl⟩

def listT (m k : Nat) (t : T (m + 2)) : T (m + 3) := (⟨4, 0, ByteArray.empty, [], List.replicate k t⟩ : Nd (T (m + 2)))
def fullT (m l k : Nat) : T (m + 4) := (⟨5, 0, ByteArray.empty, [⟨#[97]⟩, ⟨#[98]⟩], [listT m l (fourT m), listT m k (oneT (m + 1))]⟩ : Nd (T (m + 3)))

theorem list_in {S : Nat → Prop} {w : World} {m k : Nat} {t : T (m + 2)} {kv : Value} (h : RowIn S w (TreeIn S w (m + 2)) (List.replicate k t) kv) : TreeIn S w (m + 3) (listT m k t) (.int .i64 4) (.int .i64 0) (.string ⟨#[]⟩) (.slice none 0 0) kv :=
  ⟨rfl, rfl, rfl, by simp [listT, maxLen], by rfl, by rfl, ⟨none, 0, rfl, by simp [listT, maxLen], fun s h => (by cases h), fun h => absurd rfl h⟩, h⟩

theorem full_in {S : Nat → Prop} {w : World} {m l k bn bk : Nat} {ka kb : Value} (hA : RowIn S w (TreeIn S w (m + 2)) (List.replicate l (fourT m)) ka) (hB : RowIn S w (TreeIn S w (m + 2)) (List.replicate k (oneT (m + 1))) kb) (hbn : S bn) (hbk : S bk)
    (hn : w.heap[bn]? = some (.cells #[.string ⟨#[97]⟩, .string ⟨#[98]⟩] 9 (0, 0))) (hk : w.heap[bk]? = some (.cells #[.int .i64 4, .int .i64 0, .string ⟨#[]⟩, .slice none 0 0, ka, .int .i64 4, .int .i64 0, .string ⟨#[]⟩, .slice none 0 0, kb] 26 (0, 0))) :
    TreeIn S w (m + 4) (fullT m l k) (.int .i64 5) (.int .i64 0) (.string ⟨#[]⟩) (.slice (some ⟨bn, 0, none⟩) 2 2) (.slice (some ⟨bk, 0, none⟩) 2 2) := by
  refine ⟨rfl, rfl, rfl, by simp [fullT, maxLen], by rfl, by rfl, ⟨some ⟨bn, 0, none⟩, 2, rfl, by simp [fullT, maxLen], fun s h => ?_, fun _ => ⟨bn, 0, rfl, hbn, fun i hi => ?_⟩⟩, ⟨some ⟨bk, 0, none⟩, 2, rfl, by simp [fullT, maxLen], fun _ => ⟨bk, 0, rfl, hbk, fun i hi => ?_⟩⟩⟩
  · have hs : s = ⟨#[97]⟩ ∨ s = ⟨#[98]⟩ := by simpa [fullT] using h
    rcases hs with rfl | rfl <;> decide
  · have hi2 : i < 2 := hi
    have hc : i = 0 ∨ i = 1 := by omega
    rcases hc with rfl | rfl
    · simp [World.cell?, hn, fullT]
    · simp [World.cell?, hn, fullT]
  · have hi2 : i < 2 := hi
    have hc : i = 0 ∨ i = 1 := by omega
    rcases hc with rfl | rfl
    · exact ⟨_, _, _, _, _, by simp [World.cell?, hk], by simp [World.cell?, hk], by simp [World.cell?, hk], by simp [World.cell?, hk], by simp [World.cell?, hk], list_in hA⟩
    · exact ⟨_, _, _, _, _, by simp [World.cell?, hk], by simp [World.cell?, hk], by simp [World.cell?, hk], by simp [World.cell?, hk], by simp [World.cell?, hk], list_in hB⟩

theorem full_dep (m l k : Nat) (hl : l ≤ 1000) (hk : k ≤ 1000) : depT (m + 4) (fullT m l k) 4 := by
  have hone : ∀ m d, depT (m + 1) (oneT m) (d + 1) := fun m d => depT.leaf m 1 7 ByteArray.empty d
  have hfour : depT (m + 2) (fourT m) 2 := ⟨by omega, by simp [fourT], fun s h => (by cases h), by simp [fourT], fun x hx => by
    have : x = oneT m := by simpa [fourT] using hx
    subst this; exact hone m 0⟩
  refine ⟨by omega, by simp [fullT], fun s h => ?_, by simp [fullT], fun x hx => ?_⟩
  · have hs : s = ⟨#[97]⟩ ∨ s = ⟨#[98]⟩ := by simpa [fullT] using h
    rcases hs with rfl | rfl <;> decide
  · have hx2 : x = listT m l (fourT m) ∨ x = listT m k (oneT (m + 1)) := by simpa [fullT] using hx
    rcases hx2 with rfl | rfl
    · exact ⟨by omega, by simp [listT], fun s h => (by cases h), by simp [listT]; exact hl, fun y hy => by
        have : y = fourT m := List.eq_of_mem_replicate hy
        subst this; exact hfour⟩
    · exact ⟨by omega, by simp [listT], fun s h => (by cases h), by simp [listT]; exact hk, fun y hy => by
        have : y = oneT (m + 1) := List.eq_of_mem_replicate hy
        subst this; exact hone (m + 1) 1⟩

theorem five_cells {w : World} {N : Nat} {a b c d e : Value} (h : w.heap[N]? = some (.cells #[a, b, c, d, e] 26 (0, 0))) :
    (w.cell? ⟨N, 0, none⟩ = some a ∧ w.cell? ⟨N, 1, none⟩ = some b ∧ w.cell? ⟨N, 2, none⟩ = some c ∧ w.cell? ⟨N, 3, none⟩ = some d ∧ w.cell? ⟨N, 4, none⟩ = some e) ∧
      w.frozen? ⟨N, 0, none⟩ = false ∧ w.frozen? ⟨N, 1, none⟩ = false ∧ w.frozen? ⟨N, 2, none⟩ = false ∧ w.frozen? ⟨N, 3, none⟩ = false ∧ w.frozen? ⟨N, 4, none⟩ = false := by
  refine ⟨⟨?_, ?_, ?_, ?_, ?_⟩, ?_, ?_, ?_, ?_, ?_⟩ <;> simp [World.cell?, World.frozen?, h]

set_option maxRecDepth 20000 in
set_option maxHeartbeats 4000000 in
theorem l5Full_any (n : Nat) (w : World) (hn1 : 103 ≤ n) (hn : n ≤ 1000) : Calls Tryz.prog 33 #[.int .i64 (n : Int)] w (MadeT 4 w) := by
  obtain ⟨W5, hW5⟩ : ∃ W5, W5 = ((((w.alloc (.cells #[.int .i64 0, .int .i64 0, .string ⟨#[]⟩, .slice none 0 0, .slice none 0 0] 26)).alloc (.cells #[.int .i64 1, .int .i64 7, .string ⟨#[]⟩, .slice none 0 0, .slice none 0 0] 26)).alloc (.cells #[.int .i64 1, .int .i64 7, .string ⟨#[]⟩, .slice none 0 0, .slice none 0 0, .int .i64 1, .int .i64 7, .string ⟨#[]⟩, .slice none 0 0, .slice none 0 0, .int .i64 1, .int .i64 7, .string ⟨#[]⟩, .slice none 0 0, .slice none 0 0, .int .i64 1, .int .i64 7, .string ⟨#[]⟩, .slice none 0 0, .slice none 0 0] 26)).alloc (.cells #[.int .i64 4, .int .i64 0, .string ⟨#[]⟩, .slice none 0 0, .slice (some ⟨w.heap.size + 2, 0, none⟩) 4 4] 26)).alloc (.cells #[.int .i64 4, .int .i64 0, .string ⟨#[]⟩, .slice none 0 0, .slice none 0 0] 26) := ⟨_, rfl⟩
  have hz5 : W5.heap.size = w.heap.size + 5 := by rw [hW5]; simp
  have HW : Hid (Below w.heap.size w W5 ∧ W5.heap[w.heap.size]? = some (.cells #[.int .i64 0, .int .i64 0, .string ⟨#[]⟩, .slice none 0 0, .slice none 0 0] 26 (0, 0)) ∧ W5.heap[w.heap.size + 1]? = some (.cells #[.int .i64 1, .int .i64 7, .string ⟨#[]⟩, .slice none 0 0, .slice none 0 0] 26 (0, 0)) ∧ W5.heap[w.heap.size + 2]? = some (.cells #[.int .i64 1, .int .i64 7, .string ⟨#[]⟩, .slice none 0 0, .slice none 0 0, .int .i64 1, .int .i64 7, .string ⟨#[]⟩, .slice none 0 0, .slice none 0 0, .int .i64 1, .int .i64 7, .string ⟨#[]⟩, .slice none 0 0, .slice none 0 0, .int .i64 1, .int .i64 7, .string ⟨#[]⟩, .slice none 0 0, .slice none 0 0] 26 (0, 0)) ∧
      W5.heap[w.heap.size + 3]? = some (.cells #[.int .i64 4, .int .i64 0, .string ⟨#[]⟩, .slice none 0 0, .slice (some ⟨w.heap.size + 2, 0, none⟩) 4 4] 26 (0, 0)) ∧ W5.heap[w.heap.size + 4]? = some (.cells #[.int .i64 4, .int .i64 0, .string ⟨#[]⟩, .slice none 0 0, .slice none 0 0] 26 (0, 0))) := by
    have new : ∀ (W : World) (o : List Value) (N : Nat), W.heap.size = N → (W.alloc (.cells o.toArray 26)).heap[N]? = some (.cells o.toArray 26 (0, 0)) := fun W o N h => by rw [← h]; exact heap_alloc_new _ _
    have old : ∀ (W : World) (o : Obj) (N : Nat), N < W.heap.size → (W.alloc o).heap[N]? = W.heap[N]? := fun W o N h => Below.heap_alloc _ _ _ h
    refine ⟨?_, ?_, ?_, ?_, ?_, ?_⟩
    · rw [hW5]; exact (((((Below.refl _ _).alloc (Nat.le_refl _) _).alloc (by simp) _).alloc (by simp; omega) _).alloc (by simp; omega) _).alloc (by simp; omega) _
    · rw [hW5, old _ _ _ (by simp <;> omega), old _ _ _ (by simp <;> omega), old _ _ _ (by simp <;> omega), old _ _ _ (by simp)]; exact new _ [_, _, _, _, _] _ rfl
    · rw [hW5, old _ _ _ (by simp <;> omega), old _ _ _ (by simp <;> omega), old _ _ _ (by simp)]; exact new _ [_, _, _, _, _] _ (by simp)
    · rw [hW5, old _ _ _ (by simp <;> omega), old _ _ _ (by simp)]; exact new _ [_, _, _, _, _, _, _, _, _, _, _, _, _, _, _, _, _, _, _, _] _ (by simp)
    · rw [hW5, old _ _ _ (by simp)]; exact new _ [_, _, _, _, _] _ (by simp)
    · rw [hW5]; exact new _ [_, _, _, _, _] _ (by simp)
  go_enter Tryz.func33, Tryz.ntmps33
  go_wp2_with fail
  rw [← hW5]
  clear hW5
  generalize hXe : w.heap.size + 4 = X at *
  obtain ⟨ik0, hi0, hy0, hy1, hyb⟩ := info_parts Tryz.info_treeR
  have HIK : Hid (_ ∧ _ ∧ _ ∧ _) := ⟨hi0, hy0, hy1, hyb⟩
  clear hi0 hy0 hy1 hyb
  go_loopw [6] (fun iv wr => ∃ (ln : Nat) (ka : Option Addr) (kc : Nat), ln ≤ 20 ∧ iv = .int .i64 ln ∧ Fill X W5 wr (.int .i64 4) (.int .i64 0) (.string ⟨#[]⟩) (.slice none 0 0) (.int .i64 4) (.int .i64 0) (.string ⟨#[]⟩) (.slice none 0 0) (.slice (some ⟨w.heap.size + 2, 0, none⟩) 4 4) ln (.slice ka ln kc)) (fun iv _ => 20 - (intOf iv).toNat)
  case atStart => exact ⟨0, none, 0, by omega, rfl, Fill.start _ _ _ _ _ HW.out.2.2.2.2.2⟩
  case round =>
    obtain ⟨ln, ka, kc, hln, rfl, hF⟩ := hrel
    have hzr := hF.size
    have HF : Hid (Fill X W5 wr (.int .i64 4) (.int .i64 0) (.string ⟨#[]⟩) (.slice none 0 0) (.int .i64 4) (.int .i64 0) (.string ⟨#[]⟩) (.slice none 0 0) (.slice (some ⟨w.heap.size + 2, 0, none⟩) 4 4) ln (.slice ka ln kc)) := hF
    by_cases hlt : ln < 20
    · have hlti : (ln : Int) < 20 := by omega
      have x4 := hF.cells.1.2.2.2.2
      obtain ⟨⟨f0, f1, f2, f3, f4⟩, -⟩ := five_cells ((hF.block (w.heap.size + 3) (by omega) (by omega)).trans HW.out.2.2.2.2.1)
      clear hF
      go_wp2_with (at_builtin; refine wpList_append_lies _ rfl (.tmp 22) (.tmp 24) 24 rfl (X + 1) 26 ik0 _ 5 80 Tryz.underlying24 HIK.out.1 HIK.out.2.1 HIK.out.2.2.1 HIK.out.2.2.2 rfl (by decide) (.slice ka ln kc) ln _ rfl (HF.out.row.alloc _) ⟨wr.heap.size, 0, none⟩ 1 1 [.int .i64 4, .int .i64 0, .string ⟨#[]⟩, .slice none 0 0, .slice (some ⟨w.heap.size + 2, 0, none⟩) 4 4] rfl rfl (World.news_of_block (heap_alloc_new wr _)) (by simp [Value.oneCell']) (by decide) (by unfold maxLen; omega) (by omega) (by simp; omega) (wr.heap.size + 1) (by simp) ?_; intro g2 cap2 w9 hown2 hgrow2 hat2 hlt2; refine Hid.out ?_)
      refine Lib.hid ?_
      have hF9 := HF.out.more (by omega) hown2 hgrow2 hat2
      have hb9 := ((hgrow2.block X (by simp; omega) (fun e => by have := HF.out.new _ e.symm; omega)).trans (Below.heap_alloc _ _ _ (by omega))).trans HF.out.box
      have x4'' : w9.cell? ⟨X, 4, none⟩ = some (.slice ka ln kc) := (by simp [World.cell?, hb9])
      have xf'' : w9.frozen? ⟨X, 4, none⟩ = false := (by simp [World.frozen?, hb9])
      have HF9 : Hid _ := hF9
      clear hF9 hown2 hgrow2 hat2 hlt2 hb9 x4 f0 f1 f2 f3 f4
      go_wp2_with fail
      go_roundw
      case rel => exact ⟨ln + 1, some ⟨g2, 0, none⟩, cap2, by omega, by go_num, HF9.out⟩
      case measure => simp [intOf]; omega
    · have hlti : ¬ (ln : Int) < 20 := by omega
      obtain ⟨H1, rfl⟩ : ∃ H1, H1 = wr := ⟨_, rfl⟩
      obtain ⟨W6, hW6⟩ : ∃ W6, W6 = H1.alloc (.cells #[.int .i64 4, .int .i64 0, .string ⟨#[]⟩, .slice none 0 0, .slice none 0 0] 26) := ⟨_, rfl⟩
      have hz6 : W6.heap.size = H1.heap.size + 1 := by rw [hW6]; simp
      have hb6 : Below H1.heap.size H1 W6 := by rw [hW6]; exact (Below.refl _ _).alloc (Nat.le_refl _) _
      have HX2 : Hid (Below H1.heap.size H1 W6 ∧ W6.heap[H1.heap.size]? = some (.cells #[.int .i64 4, .int .i64 0, .string ⟨#[]⟩, .slice none 0 0, .slice none 0 0] 26 (0, 0))) := ⟨hb6, by rw [hW6]; exact heap_alloc_new _ _⟩
      have hnp : IntKind.i64.wrap (103 : Int) = 103 := by rw [IntKind.wrap_i64]; omega
      clear hF hb6 hlt hnp
      go_wp2_with fail
      rw [← hW6]
      clear hW6
      generalize hX2e : H1.heap.size = X2 at *
      go_loopw [8] (fun iv wv => ∃ (i j : Nat) (ka2 : Option Addr) (kc2 : Nat), i = 103 + j ∧ i ≤ n ∧ iv = .int .i64 i ∧ Fill X2 W6 wv (.int .i64 4) (.int .i64 0) (.string ⟨#[]⟩) (.slice none 0 0) (.int .i64 1) (.int .i64 7) (.string ⟨#[]⟩) (.slice none 0 0) (.slice none 0 0) j (.slice ka2 j kc2)) (fun iv _ => n - (intOf iv).toNat)
      case atStart => exact ⟨103, 0, none, 0, rfl, by omega, rfl, Fill.start _ _ _ _ _ HX2.out.2⟩
      case round =>
        obtain ⟨i, j, ka2, kc2, hij, hin, rfl, hG⟩ := hrel
        have HIJ : Hid (i = 103 + j) := hij
        have hjn : j ≤ 900 := by omega
        clear hij
        have hzv := hG.size
        have HG : Hid (Fill X2 W6 wr (.int .i64 4) (.int .i64 0) (.string ⟨#[]⟩) (.slice none 0 0) (.int .i64 1) (.int .i64 7) (.string ⟨#[]⟩) (.slice none 0 0) (.slice none 0 0) j (.slice ka2 j kc2)) := hG
        by_cases hlt : i < n
        · have hltj : (i : Int) < (n : Int) := by omega
          have x4 := hG.cells.1.2.2.2.2
          obtain ⟨⟨f0, f1, f2, f3, f4⟩, -⟩ := five_cells ((hG.block (w.heap.size + 1) (by omega) (by omega)).trans ((HX2.out.1.block _ (by omega)).trans ((HF.out.block (w.heap.size + 1) (by omega) (by omega)).trans HW.out.2.2.1)))
          clear hG
          go_wp2_with (at_builtin; refine wpList_append_lies _ rfl (.tmp 34) (.tmp 36) 24 rfl (X2 + 1) 26 ik0 _ 5 80 Tryz.underlying24 HIK.out.1 HIK.out.2.1 HIK.out.2.2.1 HIK.out.2.2.2 rfl (by decide) (.slice ka2 j kc2) j _ rfl (HG.out.row.alloc _) ⟨wr.heap.size, 0, none⟩ 1 1 [.int .i64 1, .int .i64 7, .string ⟨#[]⟩, .slice none 0 0, .slice none 0 0] rfl rfl (World.news_of_block (heap_alloc_new wr _)) (by simp [Value.oneCell']) (by decide) (by unfold maxLen; omega) (by omega) (by simp; omega) (wr.heap.size + 1) (by simp) ?_; intro g2 cap2 w9 hown2 hgrow2 hat2 hlt2; refine Hid.out ?_)
          refine Lib.hid ?_
          have hG9 := HG.out.more (by omega) hown2 hgrow2 hat2
          have hb9 := ((hgrow2.block X2 (by simp; omega) (fun e => by have := HG.out.new _ e.symm; omega)).trans (Below.heap_alloc _ _ _ (by omega))).trans HG.out.box
          have x4'' : w9.cell? ⟨X2, 4, none⟩ = some (.slice ka2 j kc2) := (by simp [World.cell?, hb9])
          have xf'' : w9.frozen? ⟨X2, 4, none⟩ = false := (by simp [World.frozen?, hb9])
          have HG9 : Hid (Fill X2 W6 (w9.setCell ⟨X2, 4, none⟩ (.slice (some ⟨g2, 0, none⟩) (j + 1) cap2)) (.int .i64 4) (.int .i64 0) (.string ⟨#[]⟩) (.slice none 0 0) (.int .i64 1) (.int .i64 7) (.string ⟨#[]⟩) (.slice none 0 0) (.slice none 0 0) (j + 1) (.slice (some ⟨g2, 0, none⟩) (j + 1) cap2)) := hG9
          clear hG9 hown2 hgrow2 hat2 hlt2 hb9 x4 f0 f1 f2 f3 f4
          go_wp2_with fail
          go_roundw
          case rel => exact ⟨i + 1, j + 1, some ⟨g2, 0, none⟩, cap2, by rw [HIJ.out]; omega, by omega, by go_num, HG9.out⟩
          case measure => simp [intOf]; omega
        · have hltj : ¬ (i : Int) < (n : Int) := by omega
          obtain ⟨Wn, hWn⟩ : ∃ Wn, Wn = wr.alloc (.cells #[.string ⟨#[97]⟩, .string ⟨#[98]⟩] 9) := ⟨_, rfl⟩
          have hzn : Wn.heap.size = wr.heap.size + 1 := by rw [hWn]; simp
          have hbn : Below wr.heap.size wr Wn := by rw [hWn]; exact (Below.refl _ _).alloc (Nat.le_refl _) _
          have hnn : Wn.heap[wr.heap.size]? = some (.cells #[.string ⟨#[97]⟩, .string ⟨#[98]⟩] 9 (0, 0)) := by rw [hWn]; exact heap_alloc_new _ _
          obtain ⟨Wk, hWk⟩ : ∃ Wk, Wk = Wn.alloc (.cells #[.int .i64 4, .int .i64 0, .string ⟨#[]⟩, .slice none 0 0, .slice ka ln kc, .int .i64 4, .int .i64 0, .string ⟨#[]⟩, .slice none 0 0, .slice ka2 j kc2] 26) := ⟨_, rfl⟩
          have hzk : Wk.heap.size = wr.heap.size + 2 := by rw [hWk]; simp [hzn]
          have hbk : Below Wn.heap.size Wn Wk := by rw [hWk]; exact (Below.refl _ _).alloc (Nat.le_refl _) _
          have hkk : Wk.heap[wr.heap.size + 1]? = some (.cells #[.int .i64 4, .int .i64 0, .string ⟨#[]⟩, .slice none 0 0, .slice ka ln kc, .int .i64 4, .int .i64 0, .string ⟨#[]⟩, .slice none 0 0, .slice ka2 j kc2] 26 (0, 0)) := by rw [hWk, ← hzn]; exact heap_alloc_new _ _
          have hold : ∀ b, b < X2 → wr.heap[b]? = H1.heap[b]? := fun b hb => (hG.block b (by omega) (by omega)).trans (HX2.out.1.block b hb)
          have hlow : ∀ b, b < W5.heap.size → b ≠ X → wr.heap[b]? = W5.heap[b]? := fun b hb hne => (hold b (by omega)).trans (HF.out.block b hb hne)
          obtain ⟨⟨x0, x1, x2, x3, x4⟩, -⟩ := five_cells ((hbn.block X (by omega)).trans ((hold X (by omega)).trans HF.out.box))
          obtain ⟨⟨y0, y1, y2, y3, y4⟩, -⟩ := five_cells ((hbn.block X2 (by omega)).trans hG.box)
          obtain ⟨⟨z0, z1, z2, z3, z4⟩, u0, u1, u2, u3, u4⟩ := five_cells ((hbk.block w.heap.size (by omega)).trans ((hbn.block w.heap.size (by omega)).trans ((hlow w.heap.size (by omega) (by omega)).trans HW.out.2.1)))
          have HP : Hid (MadeT 4 w (.returned (.agg #[.int .i64 5, .int .i64 0, .string ⟨#[]⟩, .slice (some ⟨wr.heap.size, 0, none⟩) 2 2, .slice (some ⟨wr.heap.size + 1, 0, none⟩) 2 2])) (put5 Wk w.heap.size 0 (.int .i64 5) (.int .i64 0) (.string ⟨#[]⟩) (.slice (some ⟨wr.heap.size, 0, none⟩) 2 2) (.slice (some ⟨wr.heap.size + 1, 0, none⟩) 2 2))) := by
            have qq : ∀ b, b ≠ w.heap.size → (put5 Wk w.heap.size 0 (.int .i64 5) (.int .i64 0) (.string ⟨#[]⟩) (.slice (some ⟨wr.heap.size, 0, none⟩) 2 2) (.slice (some ⟨wr.heap.size + 1, 0, none⟩) 2 2)).heap[b]? = Wk.heap[b]? := fun b h => put5_other h
            have hzp : (put5 Wk w.heap.size 0 (.int .i64 5) (.int .i64 0) (.string ⟨#[]⟩) (.slice (some ⟨wr.heap.size, 0, none⟩) 2 2) (.slice (some ⟨wr.heap.size + 1, 0, none⟩) 2 2)).heap.size = Wk.heap.size := put5_size
            have hbw : Below w.heap.size w Wk := by
              refine ⟨?_, ?_, ?_, ?_, ?_⟩
              · rw [hbk.os, hbn.os, hG.os, HX2.out.1.os, HF.out.os]; exact HW.out.1.os
              · rw [hbk.tape, hbn.tape, hG.tape, HX2.out.1.tape, HF.out.tape]; exact HW.out.1.tape
              · rw [hbk.output, hbn.output, hG.output, HX2.out.1.output, HF.out.output]; exact HW.out.1.output
              · omega
              · intro b hb
                rw [hbk.block b (by omega), hbn.block b (by omega), hlow b (by omega) (by omega)]; exact HW.out.1.block b hb
            refine ⟨put5_below hbw (Nat.le_refl _), _, _, _, _, _, rfl, fun m hm => ?_⟩
            obtain ⟨m', rfl⟩ : ∃ m', m = m' + 4 := ⟨m - 4, by omega⟩
            refine ⟨fullT m' ln j, full_in ?_ ?_ ⟨by omega, by rw [hzp]; omega⟩ ⟨by omega, by rw [hzp]; omega⟩ ((qq _ (by omega)).trans ((hbk.block _ (by omega)).trans hnn)) ((qq _ (by omega)).trans hkk), full_dep m' ln j (by omega) (by omega)⟩
            · have hA := HF.out.row_in (S := fun b => w.heap.size + 1 ≤ b ∧ b < H1.heap.size) (t := fourT m') (by omega) (fun b h1 h2 => ⟨by omega, h2⟩) (four_in m' ⟨by omega, by omega⟩ ((HF.out.block _ (by omega) (by omega)).trans HW.out.2.2.2.1))
              exact hA.keepT (fun b hb => (qq b (by omega)).trans ((hbk.block b (by omega)).trans ((hbn.block b (by omega)).trans (hold b (by omega))))) (fun b hb => ⟨by omega, by rw [hzp]; omega⟩)
            · have hB := hG.row_in (S := fun b => w.heap.size + 1 ≤ b ∧ b < wr.heap.size) (n := m' + 2) (t := oneT (m' + 1)) (by omega) (fun b h1 h2 => ⟨by omega, h2⟩) (leafDT_in _ _ (m' + 1) 1 7 ByteArray.empty (by rfl) (by rfl) (by simp))
              exact hB.keepT (fun b hb => (qq b (by omega)).trans ((hbk.block b (by omega)).trans (hbn.block b (by omega)))) (fun b hb => ⟨by omega, by rw [hzp]; omega⟩)
          clear hG HG hbn hnn hbk hkk hold hlow HF HX2 HW
          subst hWk hWn
          go_wp2_with fail
          refine bodyPost_ret (v := .agg #[.int .i64 5, .int .i64 0, .string ⟨#[]⟩, .slice (some ⟨wr.heap.size, 0, none⟩) 2 2, .slice (some ⟨wr.heap.size + 1, 0, none⟩) 2 2]) (by simp [results, Tryz.results33, go_sem, z0, z1, z2, z3, z4]) rfl ?_
          exact HP.out

end Go.Proofs.YtnpckelaileooaaGreatDoor

/-
  What the specification draws: l5Spoil.
-/
namespace Go.Proofs.YtnpckelaileooaaGreatDoor
open Go.RowKit

/-- What survives while a tree is spoilt. -/
structure SpB (S : Nat → Prop) (w : World) (R : Nat) (ao : Option Addr) (L cap : Nat) (b0 b1 b2 b3 b4 : Value) (p : Nat) (u : World) : Prop where
  near : Near R w u
  sz : w.heap.size + 2 ≤ u.heap.size
  box : u.heap[w.heap.size]? = some (.cells #[b0, b1, b2, b3, b4] 26 (0, 0))
  zero : u.heap[w.heap.size + 1]? = some (.cells #[.int .i64 0, .int .i64 0, .string ⟨#[]⟩, .slice none 0 0, .slice none 0 0] 26 (0, 0))
  same : Same S w u
  dr : Dr u R ao L cap p

theorem SpB.next {S : Nat → Prop} {w : World} {R : Nat} {ao : Option Addr} {L cap : Nat} {b0 b1 b2 b3 b4 : Value} {p p' : Nat} {u u' : World} (h : SpB S w R ao L cap b0 b1 b2 b3 b4 p u) (h0 : Dr w R ao L cap p') (hS : ∀ b, S b → b < w.heap.size ∧ b ≠ R) (ho : u'.os = u.os ∧ u'.tape = u.tape ∧ u'.output = u.output) (hz : u.heap.size ≤ u'.heap.size)
    (hb : ∀ b, b < u.heap.size → b ≠ R → u'.heap[b]? = u.heap[b]?) {q : Nat} (hd : u'.heap[R]? = some (.cells #[.slice ao L cap, .int .i64 (q : Int)] 67 (0, 0))) : SpB S w R ao L cap b0 b1 b2 b3 b4 q u' := by
  have hR := h0.lt
  have h2 := h.sz
  have hn : Near R w u' := ⟨ho.1.trans h.near.os, ho.2.1.trans h.near.tape, ho.2.2.trans h.near.output, by omega, fun b h1 hne => (hb b (by omega) hne).trans (h.near.block b h1 hne)⟩
  exact ⟨hn, by omega, (hb _ (by omega) (by omega)).trans h.box, (hb _ (by omega) (by omega)).trans h.zero, fun b hb' => (hb b (by have := (hS b hb').1; omega) (hS b hb').2).trans (h.same b hb'), h0.keep hn hd⟩

theorem SpB.keep {S : Nat → Prop} {w : World} {R : Nat} {ao : Option Addr} {L cap : Nat} {b0 b1 b2 b3 b4 : Value} {p p' q : Nat} {u u' : World} (h : SpB S w R ao L cap b0 b1 b2 b3 b4 p u) (h0 : Dr w R ao L cap p') (hS : ∀ b, S b → b < w.heap.size ∧ b ≠ R) (hn : Near R u u') (hd : Dr u' R ao L cap q) : SpB S w R ao L cap b0 b1 b2 b3 b4 q u' :=
  h.next h0 hS ⟨hn.os, hn.tape, hn.output⟩ hn.size hn.block hd.box

theorem SpB.set3 {S : Nat → Prop} {w : World} {R : Nat} {ao : Option Addr} {L cap : Nat} {b0 b1 b2 b3 b4 : Value} {p p' : Nat} {u : World} (h : SpB S w R ao L cap b0 b1 b2 b3 b4 p u) (h0 : Dr w R ao L cap p') (hS : ∀ b, S b → b < w.heap.size ∧ b ≠ R) (x : Value) : SpB S w R ao L cap b0 b1 b2 x b4 p (u.setCell ⟨w.heap.size, 3, none⟩ x) := by
  have hR := h0.lt
  have q : ∀ b, b ≠ w.heap.size → (u.setCell ⟨w.heap.size, 3, none⟩ x).heap[b]? = u.heap[b]? := fun b hb => Below.heap_setCell _ _ _ _ hb
  have hn : Near R w (u.setCell ⟨w.heap.size, 3, none⟩ x) := ⟨h.near.os, h.near.tape, h.near.output, by simpa using h.near.size, fun b h1 hne => (q b (by omega)).trans (h.near.block b h1 hne)⟩
  exact ⟨hn, by simpa using h.sz, by simp [World.setCell, Array.getElem?_modify, h.box], (q _ (by omega)).trans h.zero, fun b hb' => (q b (by have := (hS b hb').1; omega)).trans (h.same b hb'), h0.keep hn ((q R (by omega)).trans h.dr.box)⟩

theorem set_below (W : World) (X o : Nat) (x : Value) : Below X W (W.setCell ⟨X, o, none⟩ x) := by
  refine (Below.refl X W).setCell ?_ x
  exact Nat.le_refl X

def numT (m : Nat) : T (m + 1) := (⟨1, 0, ByteArray.empty, [], []⟩ : Nd (T m))

theorem numT_in (S : Nat → Prop) (w : World) (m : Nat) : TreeIn S w (m + 1) (numT m) (.int .i64 1) (.int .i64 0) (.string ⟨#[]⟩) (.slice none 0 0) (.slice none 0 0) := leafDT_in S w m 1 0 ByteArray.empty (by rfl) (by rfl) (by simp)

set_option maxRecDepth 20000 in
set_option maxHeartbeats 16000000 in
theorem spoilT_step (d : Nat) (hn : SpoilTSaid d) : SpoilTSaid (d + 1) := by
  intro m R ao L cap p S t c0 c1 c2 c3 c4 w hm hdt ht hS h hp
  obtain ⟨m, rfl⟩ : ∃ m', m = m' + 1 := ⟨m - 1, by omega⟩
  obtain ⟨-, hnl, hns, hkl, hdks⟩ := hdt
  obtain ⟨rfl, rfl, rfl, htx, hwf, hwn, h3, h4⟩ := ht
  obtain ⟨na, nc, rfl, -⟩ := id h3
  obtain ⟨ka, kc, rfl, -, -⟩ := id h4
  generalize hs : Nd.sort t = s at *
  generalize hs1 : Nd.num t = nu at *
  generalize hs2 : Nd.text t = tx at *
  clear hs hs1 hs2
  have hR := h.lt
  have HD0 : Hid (Dr w R ao L cap p) := h
  have HNm : Hid (StrsIn S w (Nd.names t) (.slice na (Nd.names t).length nc)) := h3
  have HKd : Hid (RowIn S w (TreeIn S w m) (Nd.kids t) (.slice ka (Nd.kids t).length kc)) := h4
  have HNs : Hid (∀ x, x ∈ Nd.names t → x.size ≤ 10000) := hns
  have HDk : Hid (∀ x, x ∈ Nd.kids t → depT m x d) := fun x hx => by simpa using hdks x hx
  have HN : Hid (SpoilTSaid d) := hn
  have HSS : Hid (∀ b, S b → b < w.heap.size ∧ b ≠ R) := hS
  have HSL : Hid (∀ b, S b → b < w.heap.size) := fun b hb => (hS b hb).1
  obtain ⟨W2, hW2⟩ : ∃ W2, W2 = (w.alloc (.cells #[.int .i64 s, .int .i64 nu, .string tx, .slice na (Nd.names t).length nc, .slice ka (Nd.kids t).length kc] 26)).alloc (.cells #[.int .i64 0, .int .i64 0, .string ⟨#[]⟩, .slice none 0 0, .slice none 0 0] 26) := ⟨_, rfl⟩
  have hz2 : W2.heap.size = w.heap.size + 2 := by rw [hW2]; simp
  have hb2 : Below w.heap.size w W2 := by rw [hW2]; exact ((Below.refl _ _).alloc (Nat.le_refl _) _).alloc (by simp) _
  have hboxX : W2.heap[w.heap.size]? = some (.cells #[.int .i64 s, .int .i64 nu, .string tx, .slice na (Nd.names t).length nc, .slice ka (Nd.kids t).length kc] 26 (0, 0)) := by rw [hW2, Below.heap_alloc _ _ _ (by simp)]; exact heap_alloc_new _ _
  have hzero : W2.heap[w.heap.size + 1]? = some (.cells #[.int .i64 0, .int .i64 0, .string ⟨#[]⟩, .slice none 0 0, .slice none 0 0] 26 (0, 0)) := by
    have := heap_alloc_new (w.alloc (.cells #[.int .i64 s, .int .i64 nu, .string tx, .slice na (Nd.names t).length nc, .slice ka (Nd.kids t).length kc] 26)) (.cells #[.int .i64 0, .int .i64 0, .string ⟨#[]⟩, .slice none 0 0, .slice none 0 0] 26)
    rw [hW2]; simpa using this
  have HB2 : Hid (SpB S w R ao L cap (.int .i64 s) (.int .i64 nu) (.string tx) (.slice na (Nd.names t).length nc) (.slice ka (Nd.kids t).length kc) p W2) :=
    ⟨Near.of_below hb2, by omega, hboxX, hzero, fun b hb => hb2.block b (hS b hb).1, h.same hb2⟩
  have x4 : W2.cell? ⟨w.heap.size, 4, none⟩ = some (.slice ka (Nd.kids t).length kc) := by simp [World.cell?, hboxX]
  clear h h3 h4 hns hdks hn hb2 hboxX hzero hS
  generalize hkl0 : (Nd.kids t).length = kl at *
  generalize hnl0 : (Nd.names t).length = nl at *
  have HLn : Hid ((Nd.kids t).length = kl ∧ (Nd.names t).length = nl) := ⟨hkl0, hnl0⟩
  clear hkl0 hnl0
  rw [hW2] at x4
  rcases Nat.eq_zero_or_pos kl with hk0 | hk0
  case' inl =>
    subst hk0
    obtain ⟨p1, hp1, HU⟩ : ∃ p1, p1 ≤ p + 1 ∧ Hid (SpB S w R ao L cap (.int .i64 s) (.int .i64 nu) (.string tx) (.slice na nl nc) (.slice ka 0 kc) p1 W2) := ⟨p, by omega, HB2⟩
    go_enter Tryz.func35, Tryz.ntmps35
    go_wp2_with fail
    rw [← hW2]
    obtain ⟨u, rfl⟩ : ∃ u, u = W2 := ⟨_, rfl⟩
    clear hW2 x4 HB2
    obtain ⟨kl, hkz⟩ : ∃ kl : Nat, kl = 0 := ⟨0, rfl⟩
    have HU : Hid (SpB S w R ao L cap (.int .i64 s) (.int .i64 nu) (.string tx) (.slice na nl nc) (.slice ka kl kc) p1 u) := by rw [hkz]; exact HU
    have HKd : Hid (RowIn S w (TreeIn S w m) (Nd.kids t) (.slice ka kl kc)) := by rw [hkz]; exact HKd
    have HLn : Hid ((Nd.kids t).length = kl ∧ (Nd.names t).length = nl) := by rw [hkz]; exact HLn
    have hkl : kl ≤ 1000 := by omega
    clear hkz hz2
  case' inr =>
    have hd0 : (0 : Int) < (kl : Int) := by omega
    have HPk : Hid (Calls Tryz.prog 28 #[.pointer (some ⟨R, 0, none⟩), .int .i64 3] W2 (PickPost W2 R ao L cap p 3)) := pick_any W2 R ao L cap p 3 HB2.out.dr (by omega) (by omega) (by omega)
    go_enter Tryz.func35, Tryz.ntmps35
    go_wp2_with fail
    rw [← hW2]
    refine HPk.out.mono ?_
    rintro e u ⟨y, rfl, hy, hnu, hDu, -⟩
    have HU : Hid (SpB S w R ao L cap (.int .i64 s) (.int .i64 nu) (.string tx) (.slice na nl nc) (.slice ka kl kc) (p + 1) u) := HB2.out.keep HD0.out HSS.out hnu hDu
    clear HPk hW2 x4 HB2 hnu hDu hz2
    by_cases hy0 : y = 0
    case neg =>
      have hy1 : (0 : Int) < (y : Int) := by omega
      have hzu := HU.out.sz
      obtain ⟨⟨y0, y1, y2, y3, y4⟩, -⟩ := five_cells HU.out.box
      have yE : (u.alloc (.cells #[] 26)).cell? ⟨w.heap.size, 4, none⟩ = some (.slice ka kl kc) := (World.cell?_of_block (Below.heap_alloc _ _ _ (by show w.heap.size < _; omega))).trans y4
      obtain ⟨xs, hxl, hx1, hxn, hxk⟩ := kids_newsT HLn.out.1 HKd.out
      have HXN : Hid (xs.length = kl * 5 ∧ (∀ u ∈ xs, u.oneCell' = true) ∧ (0 < kl → ∃ ad, ka = some ad ∧ ∀ j x, xs[j]? = some x → (u.alloc (.cells #[] 26)).cell? (ad.add j) = some x)) :=
        ⟨hxl, hx1, hxn _ (fun b hb => (Below.heap_alloc _ _ _ (by have := HSL.out b hb; omega)).trans (HU.out.same b hb))⟩
      have HXK : Hid (∀ j (h : j < (Nd.kids t).length), ∃ c0 c1 c2 c3 c4, (xs[j * 5]? = some c0 ∧ xs[j * 5 + 1]? = some c1 ∧ xs[j * 5 + 2]? = some c2 ∧ xs[j * 5 + 3]? = some c3 ∧ xs[j * 5 + 4]? = some c4) ∧ TreeIn S w m (Nd.kids t)[j] c0 c1 c2 c3 c4) := hxk
      obtain ⟨ik0, hi0, hz0, hz1, hzb⟩ := info_parts Tryz.info_treeR
      have HIK : Hid (_ ∧ _ ∧ _ ∧ _) := ⟨hi0, hz0, hz1, hzb⟩
      clear hxl hx1 hxn hxk hi0 hz0 hz1 hzb y0 y1 y2 y3
      go_wp2_with (at_builtin; refine wpList_copy _ rfl (.tmp 17) (.tmp 19) 24 rfl u.heap.size 26 ik0 _ 5 80 Tryz.underlying24 HIK.out.1 HIK.out.2.1 HIK.out.2.2.1 HIK.out.2.2.2 rfl (by decide) u.heap.size rfl (heap_alloc_new u _) (Nat.le_refl _) ka kl kc xs rfl HXN.out.1 HXN.out.2.2 HXN.out.2.1 (by unfold maxLen; omega) (by omega) (u.heap.size + 1) (by simp) ?_)
      intro g1 cap1 w6 hown1 hgrow1 hat1 hlt1
      have hz6 := hgrow1.size
      rw [World.size_alloc] at hz6
      have hG1 : ∀ b, b < u.heap.size → w6.heap[b]? = u.heap[b]? := fun b hb => (hgrow1.block b (by simp; omega) (by simp; omega)).trans (Below.heap_alloc _ _ _ hb)
      have hQ6 := HU.out.next (u' := w6) HD0.out HSS.out ⟨hgrow1.os, hgrow1.tape, hgrow1.output⟩ (by omega) (fun b hb _ => hG1 b hb) ((hG1 R (by omega)).trans HU.out.dr.box)
      have HPk : Hid (Calls Tryz.prog 28 #[.pointer (some ⟨R, 0, none⟩), .int .i64 (kl : Int)] w6 (PickPost w6 R ao L cap (p + 1) kl)) := pick_any w6 R ao L cap (p + 1) kl hQ6.dr (by omega) (by omega) (by omega)
      have HO1 : Hid (w6.ownsRow u.heap.size 26 5 (.slice (some ⟨g1, 0, none⟩) kl cap1) kl xs) := hown1
      have HQ6 : Hid (SpB S w R ao L cap (.int .i64 s) (.int .i64 nu) (.string tx) (.slice na nl nc) (.slice ka kl kc) (p + 1) w6) := hQ6
      have hg1 : u.heap.size ≤ g1 := by omega
      clear hown1 hgrow1 hG1 hQ6 yE y4 HXN hat1
      go_wp2_with fail
      refine HPk.out.mono ?_
      rintro e w7 ⟨i, rfl, hi, hn7, hD7, -⟩
      have hz7 := hn7.size
      have hO7 : w7.ownsRow u.heap.size 26 5 (.slice (some ⟨g1, 0, none⟩) kl cap1) kl xs := owns_keep HO1.out fun g hg => by
        have := owns_lt HO1.out g hg
        exact hn7.block g (by omega) (by omega)
      have hik : i < (Nd.kids t).length := by rw [HLn.out.1]; exact hi
      obtain ⟨d0, d1, d2, d3, d4, ⟨e0, e1, e2, e3, e4⟩, hkd⟩ := HXK.out i hik
      obtain ⟨v0, v1, v2, va, vl, vc, ua, ul, uc, rfl, rfl, rfl, rfl, rfl⟩ := hkd.shape
      have hc7 : ∀ j x, xs[j]? = some x → w7.cell? ⟨g1, j, none⟩ = some x := fun j x hx => by
        have := hO7.cells (g := g1) rfl j x hx
        rw [Addr.add_lit] at this
        simpa using this
      have z0 := hc7 _ _ e0
      have z1 := hc7 _ _ e1
      have z2 := hc7 _ _ e2
      have z3 := hc7 _ _ e3
      have z4 := hc7 _ _ e4
      have HQ7 : Hid (SpB S w R ao L cap (.int .i64 s) (.int .i64 nu) (.string tx) (.slice na nl nc) (.slice ka kl kc) (p + 1 + 1) w7) := HQ6.out.keep HD0.out HSS.out hn7 hD7
      have HO7 : Hid (w7.ownsRow u.heap.size 26 5 (.slice (some ⟨g1, 0, none⟩) kl cap1) kl xs) := hO7
      have HC : Hid (Calls Tryz.prog 35 #[.pointer (some ⟨R, 0, none⟩), .agg #[.int .i64 v0, .int .i64 v1, .string v2, .slice va vl vc, .slice ua ul uc]] w7 (SpoilPostT m S w7 R ao L cap (p + 1 + 1) (10 * d))) :=
        HN.out m R ao L cap (p + 1 + 1) S ((Nd.kids t)[i]'hik) _ _ _ _ _ w7 (by omega) (HDk.out _ (List.getElem_mem hik)) (hkd.keep HQ7.out.same (fun _ h => h)) (fun b hb => ⟨by have := (HSS.out b hb).1; have := HQ7.out.sz; omega, (HSS.out b hb).2⟩) hD7 (by omega)
      have hii : (i : Int) < (kl : Int) := by omega
      clear HPk hn7 hD7 hO7 HO1 hc7 hkd HQ6
      go_wp2_with fail
      refine HC.out.mono ?_
      rintro e w8 ⟨hn8, p8, t8, f0, f1, f2, f3, f4, hp8, hD8, rfl, hk8⟩
      obtain ⟨n0, n1, n2, ya, yl, yc, za, zl, zc, rfl, rfl, rfl, rfl, rfl⟩ := hk8.shape
      have hz8 := hn8.size
      have hO8 : w8.ownsRow u.heap.size 26 5 (.slice (some ⟨g1, 0, none⟩) kl cap1) kl xs := owns_keep HO7.out fun g hg => by
        have := owns_lt HO7.out g hg
        exact hn8.block g (by omega) (by omega)
      have hc8 : ∀ j x, xs[j]? = some x → w8.cell? ⟨g1, j, none⟩ = some x := fun j x hx => by
        have := hO8.cells (g := g1) rfl j x hx
        rw [Addr.add_lit] at this
        simpa using this
      have t0 := hc8 _ _ e0
      have t1 := hc8 _ _ e1
      have t2 := hc8 _ _ e2
      have t3 := hc8 _ _ e3
      have t4 := hc8 _ _ e4
      have hfr : ∀ o, w8.frozen? ⟨g1, o, none⟩ = false := fun o => by
        rcases hO8.2 with ⟨hv, -⟩ | ⟨g, cap, cur, hv, -, hgc, -⟩
        · cases hv
        · cases hv; simp [World.frozen?, hgc]
      have tf0 := hfr (i * 5)
      have tf1 := hfr (i * 5 + 1)
      have tf2 := hfr (i * 5 + 2)
      have tf3 := hfr (i * 5 + 3)
      have tf4 := hfr (i * 5 + 4)
      have hQ8 := HQ7.out.keep HD0.out HSS.out hn8 hD8
      have hsz7 := HQ7.out.sz
      obtain ⟨⟨y0, y1, y2, y3, y4⟩, -, -, -, -, yf⟩ := five_cells hQ8.box
      obtain ⟨⟨r0, r1, r2, r3, r4⟩, g0', g1', g2', g3', g4'⟩ := five_cells hQ8.zero
      have HP : Hid (SpoilPostT (m + 1) S w R ao L cap p (10 * (d + 1)) (.returned (.agg #[.int .i64 s, .int .i64 nu, .string tx, .slice na nl nc, .slice (some ⟨g1, 0, none⟩) kl cap1])) (put5 ((put5 w8 g1 (i * 5) (.int .i64 n0) (.int .i64 n1) (.string n2) (.slice ya yl yc) (.slice za zl zc)).setCell ⟨w.heap.size, 4, none⟩ (.slice (some ⟨g1, 0, none⟩) kl cap1)) (w.heap.size + 1) 0 (.int .i64 s) (.int .i64 nu) (.string tx) (.slice na nl nc) (.slice (some ⟨g1, 0, none⟩) kl cap1))) := by
        have hg7 := (owns_lt HO7.out g1 rfl).2
        have qq : ∀ b, b ≠ g1 → (put5 w8 g1 (i * 5) (.int .i64 n0) (.int .i64 n1) (.string n2) (.slice ya yl yc) (.slice za zl zc)).heap[b]? = w8.heap[b]? := fun b hb => put5_other hb
        have hzp : (put5 w8 g1 (i * 5) (.int .i64 n0) (.int .i64 n1) (.string n2) (.slice ya yl yc) (.slice za zl zc)).heap.size = w8.heap.size := put5_size
        have hbp : Below w.heap.size w8 (put5 w8 g1 (i * 5) (.int .i64 n0) (.int .i64 n1) (.string n2) (.slice ya yl yc) (.slice za zl zc)) := put5_below (Below.refl _ _) (by omega)
        have hnw := hQ8.near
        refine spt_exit (m := m + 1) (t := (⟨s, nu, tx, Nd.names t, (Nd.kids t).set i t8⟩ : Nd (T m))) HD0.out HSL.out (W := put5 w8 g1 (i * 5) (.int .i64 n0) (.int .i64 n1) (.string n2) (.slice ya yl yc) (.slice za zl zc)) ⟨by rw [hbp.os]; exact hnw.os, by rw [hbp.tape]; exact hnw.tape, by rw [hbp.output]; exact hnw.output, by rw [hzp]; exact hnw.size, fun b hb hne => (qq b (by omega)).trans (hnw.block b hb hne)⟩ ((qq R (by omega)).trans hD8.box) (by omega) ⟨rfl, rfl, rfl, htx, hwf, hwn, ?_, ?_⟩ (set_below _ _ _ _) (fun b hb => Below.heap_setCell _ _ _ _ hb) (by simp)
        · exact HNm.out.keep (fun b hb => (qq b (by have := HSL.out b hb; omega)).trans (hQ8.same b hb)) (fun b hb => Or.inl hb)
        · exact kids_putT HLn.out.1 HXK.out hQ8.same (fun hb => by have := HSL.out _ hb; omega) (fun b hb => Or.inl hb) hk8 (fun hb => hb.elim (fun h => by have := HSL.out _ h; omega) (fun h => by omega)) (fun b hb => hb.imp id (fun h => ⟨by omega, by rw [hzp]; exact h.2⟩)) hO8 hkl (.inr ⟨by omega, by rw [hzp]; omega⟩) hi
      clear hQ8 hO8 hc8 hfr HQ7 HO7 HXK HIK HC hk8 hD8 hn8 HU z0 z1 z2 z3 z4
      go_wp2_with fail
      refine bodyPost_ret (v := .agg #[.int .i64 s, .int .i64 nu, .string tx, .slice na nl nc, .slice (some ⟨g1, 0, none⟩) kl cap1]) (by simp [results, Tryz.results35, go_sem, r0, r1, r2, r3, r4]) rfl ?_
      exact HP.out
    case' pos =>
      subst hy0
      obtain ⟨p1, hp1, HU⟩ : ∃ p1, p1 ≤ p + 1 ∧ Hid (SpB S w R ao L cap (.int .i64 s) (.int .i64 nu) (.string tx) (.slice na nl nc) (.slice ka kl kc) p1 u) := ⟨p + 1, by omega, HU⟩
      go_wp2_with fail
      clear hd0 hy hk0
  all_goals
    have HPk : Hid (Calls Tryz.prog 28 #[.pointer (some ⟨R, 0, none⟩), .int .i64 8] u (PickPost u R ao L cap p1 8)) := pick_any u R ao L cap p1 8 HU.out.dr (by omega) (by omega) (by omega)
    refine HPk.out.mono ?_
    rintro e w5 ⟨v, rfl, hv, hn5, hD5, -⟩
    have HQ : Hid (SpB S w R ao L cap (.int .i64 s) (.int .i64 nu) (.string tx) (.slice na nl nc) (.slice ka kl kc) (p1 + 1) w5) := HU.out.keep HD0.out HSS.out hn5 hD5
    have hz5 := HQ.out.sz
    clear HPk hn5 hD5 HU
    have hcase : v = 0 ∨ v = 1 ∨ v = 2 ∨ v = 3 ∨ v = 4 ∨ v = 5 ∨ v = 6 ∨ v = 7 := by omega
    clear hv
    rcases hcase with rfl | rfl | rfl | rfl | rfl | rfl | rfl | rfl
    · have HPk : Hid (Calls Tryz.prog 28 #[.pointer (some ⟨R, 0, none⟩), .int .i64 8] w5 (PickPost w5 R ao L cap (p1 + 1) 8)) := pick_any w5 R ao L cap (p1 + 1) 8 HQ.out.dr (by omega) (by omega) (by omega)
      go_wp2_with fail
      refine HPk.out.mono ?_
      rintro e w6 ⟨z, rfl, hz, hn6, hD6, -⟩
      have hQ := HQ.out.keep HD0.out HSS.out hn6 hD6
      obtain ⟨⟨y0, y1, y2, y3, y4⟩, e0, e1, e2, e3, e4⟩ := five_cells hQ.box
      obtain ⟨⟨r0, r1, r2, r3, r4⟩, f0, f1, f2, f3, f4⟩ := five_cells hQ.zero
      have HP : Hid (SpoilPostT (m + 1) S w R ao L cap p (10 * (d + 1)) (.returned (.agg #[.int .i64 (z : Int), .int .i64 nu, .string tx, .slice na nl nc, .slice ka kl kc])) (put5 (w6.setCell ⟨w.heap.size, 0, none⟩ (.int .i64 (z : Int))) (w.heap.size + 1) 0 (.int .i64 (z : Int)) (.int .i64 nu) (.string tx) (.slice na nl nc) (.slice ka kl kc))) :=
        spt_exit (m := m + 1) (t := (⟨(z : Int), nu, tx, Nd.names t, Nd.kids t⟩ : Nd (T m))) HD0.out HSL.out hQ.near hQ.dr.box (by omega) ⟨rfl, rfl, rfl, htx, wf_small z (by omega), hwn, (HNm.out.keep hQ.same (fun b hb => Or.inl hb)), (HKd.out.keepT hQ.same (fun b hb => Or.inl hb))⟩ (set_below _ _ _ _) (fun b hb => Below.heap_setCell _ _ _ _ hb) (by simp)
      clear HPk hn6 hD6 hQ HQ
      go_wp2_with fail
      refine bodyPost_ret (v := .agg #[.int .i64 (z : Int), .int .i64 nu, .string tx, .slice na nl nc, .slice ka kl kc]) (by simp [results, Tryz.results35, go_sem, r0, r1, r2, r3, r4]) rfl ?_
      exact HP.out
    · obtain ⟨W6, hW6⟩ : ∃ W6, W6 = w5.alloc (.cells #[.int .i64 1, .int .i64 2, .int .i64 (-1), .int .i64 1000000000, .int .i64 (-1000000000)] 3) := ⟨_, rfl⟩
      have hb6 : Below w5.heap.size w5 W6 := by rw [hW6]; exact (Below.refl _ _).alloc (Nat.le_refl _) _
      have hz6 : W6.heap.size = w5.heap.size + 1 := by rw [hW6]; simp
      have hi6 : W6.heap[w5.heap.size]? = some (.cells #[.int .i64 1, .int .i64 2, .int .i64 (-1), .int .i64 1000000000, .int .i64 (-1000000000)] 3 (0, 0)) := by rw [hW6]; exact heap_alloc_new _ _
      have hQ6 := HQ.out.keep HD0.out HSS.out (Near.of_below hb6) (HQ.out.dr.same hb6)
      have HPk : Hid (Calls Tryz.prog 28 #[.pointer (some ⟨R, 0, none⟩), .int .i64 5] W6 (PickPost W6 R ao L cap (p1 + 1) 5)) := pick_any W6 R ao L cap (p1 + 1) 5 hQ6.dr (by omega) (by omega) (by omega)
      have HQ6 : Hid (SpB S w R ao L cap (.int .i64 s) (.int .i64 nu) (.string tx) (.slice na nl nc) (.slice ka kl kc) (p1 + 1) W6 ∧ W6.heap[w5.heap.size]? = some (.cells #[.int .i64 1, .int .i64 2, .int .i64 (-1), .int .i64 1000000000, .int .i64 (-1000000000)] 3 (0, 0))) := ⟨hQ6, hi6⟩
      clear hb6 hi6 hQ6
      go_wp2_with fail
      rw [← hW6]
      clear hW6
      refine HPk.out.mono ?_
      rintro e w7 ⟨z, rfl, hz, hn7, hD7, -⟩
      have hQ := HQ6.out.1.keep HD0.out HSS.out hn7 hD7
      have hI := (hn7.block w5.heap.size (by omega) (by omega)).trans HQ6.out.2
      obtain ⟨x, hx, hxw⟩ : ∃ x : Int, w7.cell? ⟨w5.heap.size, z, none⟩ = some (.int .i64 x) ∧ (Lit.int .i64 x).wf = true := by
        have hz' : z = 0 ∨ z = 1 ∨ z = 2 ∨ z = 3 ∨ z = 4 := by omega
        rcases hz' with rfl | rfl | rfl | rfl | rfl
        · exact ⟨1, by simp [World.cell?, hI], by rfl⟩
        · exact ⟨2, by simp [World.cell?, hI], by rfl⟩
        · exact ⟨-1, by simp [World.cell?, hI], by rfl⟩
        · exact ⟨1000000000, by simp [World.cell?, hI], by rfl⟩
        · exact ⟨-1000000000, by simp [World.cell?, hI], by rfl⟩
      have hzi : (z : Int) < 5 := by omega
      obtain ⟨⟨y0, y1, y2, y3, y4⟩, e0, e1, e2, e3, e4⟩ := five_cells hQ.box
      obtain ⟨⟨r0, r1, r2, r3, r4⟩, f0, f1, f2, f3, f4⟩ := five_cells hQ.zero
      have HP : Hid (SpoilPostT (m + 1) S w R ao L cap p (10 * (d + 1)) (.returned (.agg #[.int .i64 s, .int .i64 x, .string tx, .slice na nl nc, .slice ka kl kc])) (put5 (w7.setCell ⟨w.heap.size, 1, none⟩ (.int .i64 x)) (w.heap.size + 1) 0 (.int .i64 s) (.int .i64 x) (.string tx) (.slice na nl nc) (.slice ka kl kc))) :=
        spt_exit (m := m + 1) (t := (⟨s, x, tx, Nd.names t, Nd.kids t⟩ : Nd (T m))) HD0.out HSL.out hQ.near hQ.dr.box (by omega) ⟨rfl, rfl, rfl, htx, hwf, hxw, (HNm.out.keep hQ.same (fun b hb => Or.inl hb)), (HKd.out.keepT hQ.same (fun b hb => Or.inl hb))⟩ (set_below _ _ _ _) (fun b hb => Below.heap_setCell _ _ _ _ hb) (by simp)
      clear HPk hn7 hD7 hQ HQ HQ6 hI
      go_wp2_with fail
      refine bodyPost_ret (v := .agg #[.int .i64 s, .int .i64 x, .string tx, .slice na nl nc, .slice ka kl kc]) (by simp [results, Tryz.results35, go_sem, r0, r1, r2, r3, r4]) rfl ?_
      exact HP.out
    · have HM : Hid (Calls Tryz.prog 30 #[.string ⟨#[120]⟩, .int .i64 61] w5 _) := l6Many_any ⟨#[120]⟩ 61 w5 (by decide) (by omega)
      go_wp2_with fail
      refine HM.out.mono ?_
      rintro e w6 ⟨sx, rfl, hsx, rfl⟩
      obtain ⟨W7, hW7⟩ : ∃ W7, W7 = w6.alloc (.cells #[.string ⟨#[120]⟩, .string ⟨#[34]⟩, .string ⟨#[10]⟩, .string sx, .string ⟨#[127]⟩] 9) := ⟨_, rfl⟩
      have hb7 : Below w6.heap.size w6 W7 := by rw [hW7]; exact (Below.refl _ _).alloc (Nat.le_refl _) _
      have hnew : W7.heap[w6.heap.size]? = some (.cells #[.string ⟨#[120]⟩, .string ⟨#[34]⟩, .string ⟨#[10]⟩, .string sx, .string ⟨#[127]⟩] 9 (0, 0)) := by rw [hW7]; exact heap_alloc_new _ _
      have hQ7 := HQ.out.keep HD0.out HSS.out (Near.of_below hb7) (HQ.out.dr.same hb7)
      have HOf : Hid (Calls Tryz.prog 29 #[.pointer (some ⟨R, 0, none⟩), .slice (some ⟨w6.heap.size, 0, none⟩) 5 5] W7 fun e w' => ∃ x : ByteArray, e = .returned (.string x) ∧ x.size ≤ 10000 ∧ Near R W7 w' ∧ Dr w' R ao L cap (p1 + 1 + 1)) := by
        refine of_any W7 R ao L cap (p1 + 1) hQ7.dr (by omega) w6.heap.size 0 5 5 (by omega) (by omega) (by omega) fun j hj => ?_
        have hj3 : j = 0 ∨ j = 1 ∨ j = 2 ∨ j = 3 ∨ j = 4 := by omega
        rcases hj3 with rfl | rfl | rfl | rfl | rfl
        · exact ⟨⟨#[120]⟩, by decide, by simp [World.cell?, hnew]⟩
        · exact ⟨⟨#[34]⟩, by decide, by simp [World.cell?, hnew]⟩
        · exact ⟨⟨#[10]⟩, by decide, by simp [World.cell?, hnew]⟩
        · exact ⟨sx, hsx, by simp [World.cell?, hnew]⟩
        · exact ⟨⟨#[127]⟩, by decide, by simp [World.cell?, hnew]⟩
      have HQ7 : Hid (SpB S w R ao L cap (.int .i64 s) (.int .i64 nu) (.string tx) (.slice na nl nc) (.slice ka kl kc) (p1 + 1) W7) := hQ7
      clear HM hb7 hnew hQ7
      go_wp2_with fail
      rw [← hW7]
      clear hW7
      refine HOf.out.mono ?_
      rintro e w8 ⟨x, rfl, hxs, hn8, hD8⟩
      have hQ := HQ7.out.keep HD0.out HSS.out hn8 hD8
      obtain ⟨⟨y0, y1, y2, y3, y4⟩, e0, e1, e2, e3, e4⟩ := five_cells hQ.box
      obtain ⟨⟨r0, r1, r2, r3, r4⟩, f0, f1, f2, f3, f4⟩ := five_cells hQ.zero
      have HP : Hid (SpoilPostT (m + 1) S w R ao L cap p (10 * (d + 1)) (.returned (.agg #[.int .i64 s, .int .i64 nu, .string x, .slice na nl nc, .slice ka kl kc])) (put5 (w8.setCell ⟨w.heap.size, 2, none⟩ (.string x)) (w.heap.size + 1) 0 (.int .i64 s) (.int .i64 nu) (.string x) (.slice na nl nc) (.slice ka kl kc))) :=
        spt_exit (m := m + 1) (t := (⟨s, nu, x, Nd.names t, Nd.kids t⟩ : Nd (T m))) HD0.out HSL.out hQ.near hQ.dr.box (by omega) ⟨rfl, rfl, rfl, by unfold maxLen; show x.size ≤ _; omega, hwf, hwn, (HNm.out.keep hQ.same (fun b hb => Or.inl hb)), (HKd.out.keepT hQ.same (fun b hb => Or.inl hb))⟩ (set_below _ _ _ _) (fun b hb => Below.heap_setCell _ _ _ _ hb) (by simp)
      clear HOf hn8 hD8 hQ HQ HQ7
      go_wp2_with fail
      refine bodyPost_ret (v := .agg #[.int .i64 s, .int .i64 nu, .string x, .slice na nl nc, .slice ka kl kc]) (by simp [results, Tryz.results35, go_sem, r0, r1, r2, r3, r4]) rfl ?_
      exact HP.out
    · have yE : (w5.alloc (.cells #[] 9)).cell? ⟨w.heap.size, 3, none⟩ = some (.slice na nl nc) := (World.cell?_of_block (Below.heap_alloc _ _ _ (by show w.heap.size < _; omega))).trans (five_cells HQ.out.box).1.2.2.2.1
      have HXN : Hid (_ ∧ _ ∧ _) := strs_news (w' := w5.alloc (.cells #[] 9)) HLn.out.2 HNm.out (fun b hb => (Below.heap_alloc _ _ _ (by have := HSL.out b hb; omega)).trans (HQ.out.same b hb))
      obtain ⟨is0, hi0, hy0, hy1, hyb⟩ := info_parts Tryz.info_strD
      have HIS : Hid (_ ∧ _ ∧ _ ∧ _) := ⟨hi0, hy0, hy1, hyb⟩
      clear hi0 hy0 hy1 hyb
      go_wp2_with (at_builtin; refine wpList_copy _ rfl (.tmp 63) (.tmp 65) 23 rfl w5.heap.size 9 is0 _ 1 16 Tryz.underlying23 HIS.out.1 HIS.out.2.1 HIS.out.2.2.1 HIS.out.2.2.2 rfl (by decide) w5.heap.size rfl (heap_alloc_new w5 _) (Nat.le_refl _) na nl nc ((Nd.names t).map .string) rfl HXN.out.1 HXN.out.2.2 HXN.out.2.1 (by unfold maxLen; omega) (by omega) (w5.heap.size + 1) (by simp) ?_)
      intro g1 cap1 w6 hown1 hgrow1 hat1 hlt1
      have hz6 := hgrow1.size
      rw [World.size_alloc] at hz6
      have hG1 : ∀ b, b < w5.heap.size → w6.heap[b]? = w5.heap[b]? := fun b hb => (hgrow1.block b (by simp; omega) (by simp; omega)).trans (Below.heap_alloc _ _ _ hb)
      have hQ6 := HQ.out.next (u' := w6) HD0.out HSS.out ⟨hgrow1.os, hgrow1.tape, hgrow1.output⟩ (by omega) (fun b hb _ => hG1 b hb) ((hG1 R (by omega)).trans HQ.out.dr.box)
      have HO1 : Hid (w6.ownsRow w5.heap.size 9 1 (.slice (some ⟨g1, 0, none⟩) nl cap1) nl ((Nd.names t).map .string)) := hown1
      have HQ6 : Hid (SpB S w R ao L cap (.int .i64 s) (.int .i64 nu) (.string tx) (.slice na nl nc) (.slice ka kl kc) (p1 + 1) w6) := hQ6
      have HOf : Hid (∀ (cs : Array Value), cs.size = 5 → cs.toList.all okLit = true → Calls Tryz.prog 29 #[.pointer (some ⟨R, 0, none⟩), .slice (some ⟨w6.heap.size, 0, none⟩) 5 5] (w6.alloc (.cells cs 9)) _) := fun cs h1 h2 => of_lit w6 R ao L cap (p1 + 1) HQ6.out.dr (by omega) cs 5 h1 (by omega) (by omega) h2
      have hg1 : w5.heap.size ≤ g1 := by omega
      clear hown1 hgrow1 hG1 hQ6 yE HXN hat1
      go_wp2_with fail
      refine (HOf.out _ rfl rfl).mono ?_
      rintro e w8 ⟨x, rfl, hxs, hn8, hD8⟩
      have hz8 := hn8.size
      have HO8 : Hid (w8.ownsRow w5.heap.size 9 1 (.slice (some ⟨g1, 0, none⟩) nl cap1) nl ((Nd.names t).map .string)) := owns_keep HO1.out fun g hg => by
        have := owns_lt HO1.out g hg
        exact hn8.block g (by omega) (by omega)
      have HQ8 : Hid (SpB S w R ao L cap (.int .i64 s) (.int .i64 nu) (.string tx) (.slice na nl nc) (.slice ka kl kc) (p1 + 1 + 1) w8) := HQ6.out.keep HD0.out HSS.out hn8 hD8
      clear HOf HO1 HQ6 hn8 hD8
      go_wp2_with (at_builtin; refine wpList_append_lies _ rfl (.tmp 66) (.tmp 70) 23 rfl w5.heap.size 9 is0 _ 1 16 Tryz.underlying23 HIS.out.1 HIS.out.2.1 HIS.out.2.2.1 HIS.out.2.2.2 rfl (by decide) (.slice (some ⟨g1, 0, none⟩) nl cap1) nl ((Nd.names t).map .string) rfl (HO8.out.alloc _) ⟨w8.heap.size, 0, none⟩ 1 1 [.string x] rfl rfl (World.news_of_block (heap_alloc_new w8 _)) (by simp [Value.oneCell']) (by decide) (by unfold maxLen; omega) (by omega) (by simp; omega) (w8.heap.size + 1) (by simp) ?_)
      intro g2 cap2 w9 hown2 hgrow2 hat2 hlt2
      have hz9 := hgrow2.size
      rw [World.size_alloc] at hz9
      have hg2 : w5.heap.size ≤ g2 := by
        simp only [Value.ownBlock, Option.some.injEq] at hat2
        omega
      have hG9 : ∀ b, b < w8.heap.size → b ≠ g1 → w9.heap[b]? = w8.heap[b]? := fun b hb hne => (hgrow2.block b (by simp; omega) (by simp [Value.ownBlock]; omega)).trans (Below.heap_alloc _ _ _ hb)
      have hsz8 := HQ8.out.sz
      have hQ9 : SpB S w R ao L cap (.int .i64 s) (.int .i64 nu) (.string tx) (.slice na nl nc) (.slice ka kl kc) (p1 + 1 + 1) w9 := by
        have hn8 := HQ8.out.near
        have hlow : ∀ b, b < w.heap.size + 2 → w9.heap[b]? = w8.heap[b]? := fun b hb => hG9 b (by omega) (by omega)
        have hn9 : Near R w w9 := ⟨hgrow2.os.trans hn8.os, hgrow2.tape.trans hn8.tape, hgrow2.output.trans hn8.output, by omega, fun b h1 hne => (hlow b (by omega)).trans (hn8.block b h1 hne)⟩
        exact ⟨hn9, by omega, (hlow _ (by omega)).trans HQ8.out.box, (hlow _ (by omega)).trans HQ8.out.zero, fun b hb => (hlow b (by have := HSL.out b hb; omega)).trans (HQ8.out.same b hb), HD0.out.keep hn9 ((hlow R (by omega)).trans HQ8.out.dr.box)⟩
      have hN9 : ∀ S8 : Nat → Prop, (∀ b, w5.heap.size ≤ b → b < w9.heap.size → S8 b) → StrsIn S8 w9 (Nd.names t ++ [x]) (.slice (some ⟨g2, 0, none⟩) (nl + 1) cap2) := fun S8 h8 => by
        refine strs_of_owns (M := w5.heap.size) (e := 9) (by simpa [HLn.out.2] using hown2) (by simp [HLn.out.2]; omega) (fun y hy => ?_) (fun g hg => ?_)
        · rcases List.mem_append.1 hy with hy | hy
          · exact HNs.out y hy
          · rw [List.mem_singleton] at hy; subst hy; exact hxs
        · have hg : g2 = g := by simpa [Value.ownBlock] using hg
          exact h8 g (by omega) (by omega)
      obtain ⟨⟨y0, y1, y2, y3, y4⟩, e0, e1, e2, e3, e4⟩ := five_cells hQ9.box
      obtain ⟨⟨r0, r1, r2, r3, r4⟩, f0, f1, f2, f3, f4⟩ := five_cells hQ9.zero
      have HP : Hid (SpoilPostT (m + 1) S w R ao L cap p (10 * (d + 1)) (.returned (.agg #[.int .i64 s, .int .i64 nu, .string tx, .slice (some ⟨g2, 0, none⟩) (nl + 1) cap2, .slice ka kl kc])) (put5 (w9.setCell ⟨w.heap.size, 3, none⟩ (.slice (some ⟨g2, 0, none⟩) (nl + 1) cap2)) (w.heap.size + 1) 0 (.int .i64 s) (.int .i64 nu) (.string tx) (.slice (some ⟨g2, 0, none⟩) (nl + 1) cap2) (.slice ka kl kc))) :=
        spt_exit (m := m + 1) (t := (⟨s, nu, tx, Nd.names t ++ [x], Nd.kids t⟩ : Nd (T m))) HD0.out HSL.out hQ9.near hQ9.dr.box (by omega) ⟨rfl, rfl, rfl, htx, hwf, hwn, hN9 _ (fun b h1 h2 => Or.inr ⟨by omega, h2⟩), (HKd.out.keepT hQ9.same (fun b hb => Or.inl hb))⟩ (set_below _ _ _ _) (fun b hb => Below.heap_setCell _ _ _ _ hb) (by simp)
      clear hown2 hgrow2 hat2 HO8 HQ8 HIS hQ9 hN9 hG9 HQ
      go_wp2_with fail
      refine bodyPost_ret (v := .agg #[.int .i64 s, .int .i64 nu, .string tx, .slice (some ⟨g2, 0, none⟩) (nl + 1) cap2, .slice ka kl kc]) (by simp [results, Tryz.results35, go_sem, r0, r1, r2, r3, r4]) rfl ?_
      exact HP.out
    · obtain ⟨m2, rfl⟩ : ∃ m2, m = m2 + 1 := ⟨m - 1, by omega⟩
      have yK : (w5.alloc (.cells #[] 26)).cell? ⟨w.heap.size, 4, none⟩ = some (.slice ka kl kc) := (World.cell?_of_block (Below.heap_alloc _ _ _ (by show w.heap.size < _; omega))).trans (five_cells HQ.out.box).1.2.2.2.2
      obtain ⟨xs, hxl, hx1, hxn, hxk⟩ := kids_newsT HLn.out.1 HKd.out
      have HXK : Hid ((xs.length = kl * 5 ∧ (∀ u ∈ xs, u.oneCell' = true) ∧ (0 < kl → ∃ ad, ka = some ad ∧ ∀ j u, xs[j]? = some u → (w5.alloc (.cells #[] 26)).cell? (ad.add j) = some u)) ∧ (∀ j (h : j < (Nd.kids t).length), ∃ c0 c1 c2 c3 c4, (xs[j * 5]? = some c0 ∧ xs[j * 5 + 1]? = some c1 ∧ xs[j * 5 + 2]? = some c2 ∧ xs[j * 5 + 3]? = some c3 ∧ xs[j * 5 + 4]? = some c4) ∧ TreeIn S w (m2 + 1) (Nd.kids t)[j] c0 c1 c2 c3 c4)) :=
        ⟨⟨hxl, hx1, hxn _ (fun b hb => (Below.heap_alloc _ _ _ (by have := HSL.out b hb; omega)).trans (HQ.out.same b hb))⟩, hxk⟩
      obtain ⟨ik0, hi0, hy0, hy1, hyb⟩ := info_parts Tryz.info_treeR
      have HIK : Hid (_ ∧ _ ∧ _ ∧ _) := ⟨hi0, hy0, hy1, hyb⟩
      clear hxl hx1 hxn hxk hi0 hy0 hy1 hyb
      go_wp2_with (at_builtin; refine wpList_copy _ rfl (.tmp 75) (.tmp 77) 24 rfl w5.heap.size 26 ik0 _ 5 80 Tryz.underlying24 HIK.out.1 HIK.out.2.1 HIK.out.2.2.1 HIK.out.2.2.2 rfl (by decide) w5.heap.size rfl (heap_alloc_new w5 _) (Nat.le_refl _) ka kl kc xs rfl HXK.out.1.1 HXK.out.1.2.2 HXK.out.1.2.1 (by unfold maxLen; omega) (by omega) (w5.heap.size + 1) (by simp) ?_)
      intro k1 kap1 v6 kown1 kgrow1 kat1 klt1
      have kz6 := kgrow1.size
      rw [World.size_alloc] at kz6
      have KO1 : Hid (v6.ownsRow w5.heap.size 26 5 (.slice (some ⟨k1, 0, none⟩) kl kap1) kl xs) := kown1
      have KG1 : Hid ((v6.os = w5.os ∧ v6.tape = w5.tape ∧ v6.output = w5.output) ∧ ∀ b, b < w5.heap.size → v6.heap[b]? = w5.heap[b]?) := ⟨⟨kgrow1.os, kgrow1.tape, kgrow1.output⟩, fun b hb => (kgrow1.block b (by simp; omega) (by simp; omega)).trans (Below.heap_alloc _ _ _ hb)⟩
      have kg1 : w5.heap.size ≤ k1 := by omega
      clear kown1 kgrow1 yK kat1
      go_wp2_with (at_builtin; refine wpList_append_lies _ rfl (.tmp 78) (.tmp 80) 24 rfl w5.heap.size 26 ik0 _ 5 80 Tryz.underlying24 HIK.out.1 HIK.out.2.1 HIK.out.2.2.1 HIK.out.2.2.2 rfl (by decide) (.slice (some ⟨k1, 0, none⟩) kl kap1) kl xs rfl (KO1.out.alloc _) ⟨v6.heap.size, 0, none⟩ 1 1 [.int .i64 1, .int .i64 0, .string ⟨#[]⟩, .slice none 0 0, .slice none 0 0] rfl rfl (World.news_of_block (heap_alloc_new v6 _)) (by simp [Value.oneCell']) (by decide) (by unfold maxLen; omega) (by omega) (by simp; omega) (v6.heap.size + 1) (by simp) ?_)
      intro k2 kap2 v8 kown2 kgrow2 kat2 klt2
      have kz8 := kgrow2.size
      rw [World.size_alloc] at kz8
      have kfar : ∀ b, b < w5.heap.size → v8.heap[b]? = w5.heap[b]? := fun b hb => ((kgrow2.block b (by simp; omega) (by simp [Value.ownBlock]; omega)).trans (Below.heap_alloc _ _ _ (by omega))).trans (KG1.out.2 b hb)
      have hQK := HQ.out.next (u' := v8) HD0.out HSS.out ⟨kgrow2.os.trans KG1.out.1.1, kgrow2.tape.trans KG1.out.1.2.1, kgrow2.output.trans KG1.out.1.2.2⟩ (by omega) (fun b hb _ => kfar b hb) ((kfar R (by omega)).trans HQ.out.dr.box)
      have hK8 : ∀ S8 : Nat → Prop, (∀ b, S b → S8 b) → (∀ b, w5.heap.size ≤ b → b < v8.heap.size → S8 b) → RowIn S8 v8 (TreeIn S8 v8 (m2 + 1)) (Nd.kids t ++ [numT m2]) (.slice (some ⟨k2, 0, none⟩) (kl + 1) kap2) := fun S8 h8 h9 =>
        kids_moreT (t := numT m2) HLn.out.1 HXK.out.1.1 HXK.out.2 hQK.same h8 (numT_in _ _ m2) kown2 hkl (fun g hg => by
          have hg : k2 = g := by simpa [Value.ownBlock] using hg
          simp only [Value.ownBlock, Option.some.injEq] at kat2
          exact h9 g (by omega) (by omega))
      obtain ⟨⟨y0, y1, y2, y3, y4⟩, e0, e1, e2, e3, e4⟩ := five_cells hQK.box
      obtain ⟨⟨r0, r1, r2, r3, r4⟩, f0, f1, f2, f3, f4⟩ := five_cells hQK.zero
      have HP : Hid (SpoilPostT (m2 + 1 + 1) S w R ao L cap p (10 * (d + 1)) (.returned (.agg #[.int .i64 s, .int .i64 nu, .string tx, .slice na nl nc, .slice (some ⟨k2, 0, none⟩) (kl + 1) kap2])) (put5 (v8.setCell ⟨w.heap.size, 4, none⟩ (.slice (some ⟨k2, 0, none⟩) (kl + 1) kap2)) (w.heap.size + 1) 0 (.int .i64 s) (.int .i64 nu) (.string tx) (.slice na nl nc) (.slice (some ⟨k2, 0, none⟩) (kl + 1) kap2))) :=
        spt_exit (m := m2 + 1 + 1) (t := (⟨s, nu, tx, Nd.names t, Nd.kids t ++ [numT m2]⟩ : Nd (T (m2 + 1)))) HD0.out HSL.out hQK.near hQK.dr.box (by omega) ⟨rfl, rfl, rfl, htx, hwf, hwn, (HNm.out.keep hQK.same (fun b hb => Or.inl hb)), hK8 _ (fun b hb => Or.inl hb) (fun b h1 h2 => Or.inr ⟨by omega, h2⟩)⟩ (set_below _ _ _ _) (fun b hb => Below.heap_setCell _ _ _ _ hb) (by simp)
      clear kown2 kgrow2 kat2 KO1 KG1 HIK HXK hQK hK8 kfar HQ
      go_wp2_with fail
      refine bodyPost_ret (v := .agg #[.int .i64 s, .int .i64 nu, .string tx, .slice na nl nc, .slice (some ⟨k2, 0, none⟩) (kl + 1) kap2]) (by simp [results, Tryz.results35, go_sem, r0, r1, r2, r3, r4]) rfl ?_
      exact HP.out
    · have yE : (w5.alloc (.cells #[] 9)).cell? ⟨w.heap.size, 3, none⟩ = some (.slice na nl nc) := (World.cell?_of_block (Below.heap_alloc _ _ _ (by show w.heap.size < _; omega))).trans (five_cells HQ.out.box).1.2.2.2.1
      have HXN : Hid (_ ∧ _ ∧ _) := strs_news (w' := w5.alloc (.cells #[] 9)) HLn.out.2 HNm.out (fun b hb => (Below.heap_alloc _ _ _ (by have := HSL.out b hb; omega)).trans (HQ.out.same b hb))
      obtain ⟨is0, hi0, hy0, hy1, hyb⟩ := info_parts Tryz.info_strD
      have HIS : Hid (_ ∧ _ ∧ _ ∧ _) := ⟨hi0, hy0, hy1, hyb⟩
      clear hi0 hy0 hy1 hyb
      go_wp2_with (at_builtin; refine wpList_copy _ rfl (.tmp 85) (.tmp 87) 23 rfl w5.heap.size 9 is0 _ 1 16 Tryz.underlying23 HIS.out.1 HIS.out.2.1 HIS.out.2.2.1 HIS.out.2.2.2 rfl (by decide) w5.heap.size rfl (heap_alloc_new w5 _) (Nat.le_refl _) na nl nc ((Nd.names t).map .string) rfl HXN.out.1 HXN.out.2.2 HXN.out.2.1 (by unfold maxLen; omega) (by omega) (w5.heap.size + 1) (by simp) ?_)
      intro g1 cap1 w6 hown1 hgrow1 hat1 hlt1
      have hz6 := hgrow1.size
      rw [World.size_alloc] at hz6
      have hG1 : ∀ b, b < w5.heap.size → w6.heap[b]? = w5.heap[b]? := fun b hb => (hgrow1.block b (by simp; omega) (by simp; omega)).trans (Below.heap_alloc _ _ _ hb)
      have hQ6 := HQ.out.next (u' := w6) HD0.out HSS.out ⟨hgrow1.os, hgrow1.tape, hgrow1.output⟩ (by omega) (fun b hb _ => hG1 b hb) ((hG1 R (by omega)).trans HQ.out.dr.box)
      have HO1 : Hid (w6.ownsRow w5.heap.size 9 1 (.slice (some ⟨g1, 0, none⟩) nl cap1) nl ((Nd.names t).map .string)) := hown1
      have HQ6 : Hid (SpB S w R ao L cap (.int .i64 s) (.int .i64 nu) (.string tx) (.slice na nl nc) (.slice ka kl kc) (p1 + 1) w6) := hQ6
      have HOf : Hid (∀ (cs : Array Value), cs.size = 3 → cs.toList.all okLit = true → Calls Tryz.prog 29 #[.pointer (some ⟨R, 0, none⟩), .slice (some ⟨w6.heap.size, 0, none⟩) 3 3] (w6.alloc (.cells cs 9)) _) := fun cs h1 h2 => of_lit w6 R ao L cap (p1 + 1) HQ6.out.dr (by omega) cs 3 h1 (by omega) (by omega) h2
      have hg1 : w5.heap.size ≤ g1 := by omega
      clear hown1 hgrow1 hG1 hQ6 yE HXN hat1
      go_wp2_with fail
      refine (HOf.out _ rfl rfl).mono ?_
      rintro e w8 ⟨x, rfl, hxs, hn8, hD8⟩
      have hz8 := hn8.size
      have HO8 : Hid (w8.ownsRow w5.heap.size 9 1 (.slice (some ⟨g1, 0, none⟩) nl cap1) nl ((Nd.names t).map .string)) := owns_keep HO1.out fun g hg => by
        have := owns_lt HO1.out g hg
        exact hn8.block g (by omega) (by omega)
      have HQ8 : Hid (SpB S w R ao L cap (.int .i64 s) (.int .i64 nu) (.string tx) (.slice na nl nc) (.slice ka kl kc) (p1 + 1 + 1) w8) := HQ6.out.keep HD0.out HSS.out hn8 hD8
      clear HOf HO1 HQ6 hn8 hD8
      go_wp2_with (at_builtin; refine wpList_append_lies _ rfl (.tmp 88) (.tmp 92) 23 rfl w5.heap.size 9 is0 _ 1 16 Tryz.underlying23 HIS.out.1 HIS.out.2.1 HIS.out.2.2.1 HIS.out.2.2.2 rfl (by decide) (.slice (some ⟨g1, 0, none⟩) nl cap1) nl ((Nd.names t).map .string) rfl (HO8.out.alloc _) ⟨w8.heap.size, 0, none⟩ 1 1 [.string x] rfl rfl (World.news_of_block (heap_alloc_new w8 _)) (by simp [Value.oneCell']) (by decide) (by unfold maxLen; omega) (by omega) (by simp; omega) (w8.heap.size + 1) (by simp) ?_)
      intro g2 cap2 w9 hown2 hgrow2 hat2 hlt2
      have hz9 := hgrow2.size
      rw [World.size_alloc] at hz9
      have hg2 : w5.heap.size ≤ g2 := by
        simp only [Value.ownBlock, Option.some.injEq] at hat2
        omega
      have hG9 : ∀ b, b < w8.heap.size → b ≠ g1 → w9.heap[b]? = w8.heap[b]? := fun b hb hne => (hgrow2.block b (by simp; omega) (by simp [Value.ownBlock]; omega)).trans (Below.heap_alloc _ _ _ hb)
      have hsz8 := HQ8.out.sz
      have hQ9 : SpB S w R ao L cap (.int .i64 s) (.int .i64 nu) (.string tx) (.slice na nl nc) (.slice ka kl kc) (p1 + 1 + 1) w9 := by
        have hn8 := HQ8.out.near
        have hlow : ∀ b, b < w.heap.size + 2 → w9.heap[b]? = w8.heap[b]? := fun b hb => hG9 b (by omega) (by omega)
        have hn9 : Near R w w9 := ⟨hgrow2.os.trans hn8.os, hgrow2.tape.trans hn8.tape, hgrow2.output.trans hn8.output, by omega, fun b h1 hne => (hlow b (by omega)).trans (hn8.block b h1 hne)⟩
        exact ⟨hn9, by omega, (hlow _ (by omega)).trans HQ8.out.box, (hlow _ (by omega)).trans HQ8.out.zero, fun b hb => (hlow b (by have := HSL.out b hb; omega)).trans (HQ8.out.same b hb), HD0.out.keep hn9 ((hlow R (by omega)).trans HQ8.out.dr.box)⟩
      have hN9 : ∀ S8 : Nat → Prop, (∀ b, w5.heap.size ≤ b → b < w9.heap.size → S8 b) → StrsIn S8 w9 (Nd.names t ++ [x]) (.slice (some ⟨g2, 0, none⟩) (nl + 1) cap2) := fun S8 h8 => by
        refine strs_of_owns (M := w5.heap.size) (e := 9) (by simpa [HLn.out.2] using hown2) (by simp [HLn.out.2]; omega) (fun y hy => ?_) (fun g hg => ?_)
        · rcases List.mem_append.1 hy with hy | hy
          · exact HNs.out y hy
          · rw [List.mem_singleton] at hy; subst hy; exact hxs
        · have hg : g2 = g := by simpa [Value.ownBlock] using hg
          exact h8 g (by omega) (by omega)
      obtain ⟨⟨y0, y1, y2, y3, y4⟩, e0, e1, e2, e3, e4⟩ := five_cells hQ9.box
      obtain ⟨⟨r0, r1, r2, r3, r4⟩, f0, f1, f2, f3, f4⟩ := five_cells hQ9.zero
      obtain ⟨B9, hB9⟩ : ∃ B9, B9 = w9.setCell ⟨w.heap.size, 3, none⟩ (.slice (some ⟨g2, 0, none⟩) (nl + 1) cap2) := ⟨_, rfl⟩
      have hzB : B9.heap.size = w9.heap.size := by rw [hB9]; simp
      have HQ9 : Hid (SpB S w R ao L cap (.int .i64 s) (.int .i64 nu) (.string tx) (.slice (some ⟨g2, 0, none⟩) (nl + 1) cap2) (.slice ka kl kc) (p1 + 1 + 1) B9) := by rw [hB9]; exact hQ9.set3 HD0.out HSS.out _
      have HN9 : Hid (StrsIn (fun b => w.heap.size + 2 ≤ b ∧ b < B9.heap.size) B9 (Nd.names t ++ [x]) (.slice (some ⟨g2, 0, none⟩) (nl + 1) cap2)) := by
        refine (hN9 (fun b => w.heap.size + 2 ≤ b ∧ b < B9.heap.size) (fun b h1 h2 => ⟨by omega, by omega⟩)).keep (fun b hb => ?_) (fun _ h => h)
        rw [hB9]; exact Below.heap_setCell _ _ _ _ (by show b ≠ w.heap.size; omega)
      have hszB : w.heap.size + 2 ≤ B9.heap.size := HQ9.out.sz
      clear hown2 hgrow2 hat2 HO8 HQ8 HIS hQ9 hN9 hG9 HQ r0 r1 r2 r3 r4 f0 f1 f2 f3 f4
      obtain ⟨m2, rfl⟩ : ∃ m2, m = m2 + 1 := ⟨m - 1, by omega⟩
      have yK : (B9.alloc (.cells #[] 26)).cell? ⟨w.heap.size, 4, none⟩ = some (.slice ka kl kc) := (World.cell?_of_block (Below.heap_alloc _ _ _ (by show w.heap.size < _; omega))).trans (five_cells HQ9.out.box).1.2.2.2.2
      have yK9 : ((w9.setCell ⟨w.heap.size, 3, none⟩ (.slice (some ⟨g2, 0, none⟩) (nl + 1) cap2)).alloc (.cells #[] 26)).cell? ⟨w.heap.size, 4, none⟩ = some (.slice ka kl kc) := by rw [← hB9]; exact yK
      obtain ⟨xs, hxl, hx1, hxn, hxk⟩ := kids_newsT HLn.out.1 HKd.out
      have HXK : Hid ((xs.length = kl * 5 ∧ (∀ u ∈ xs, u.oneCell' = true) ∧ (0 < kl → ∃ ad, ka = some ad ∧ ∀ j u, xs[j]? = some u → (B9.alloc (.cells #[] 26)).cell? (ad.add j) = some u)) ∧ (∀ j (h : j < (Nd.kids t).length), ∃ c0 c1 c2 c3 c4, (xs[j * 5]? = some c0 ∧ xs[j * 5 + 1]? = some c1 ∧ xs[j * 5 + 2]? = some c2 ∧ xs[j * 5 + 3]? = some c3 ∧ xs[j * 5 + 4]? = some c4) ∧ TreeIn S w (m2 + 1) (Nd.kids t)[j] c0 c1 c2 c3 c4)) :=
        ⟨⟨hxl, hx1, hxn _ (fun b hb => (Below.heap_alloc _ _ _ (by have := HSL.out b hb; omega)).trans (HQ9.out.same b hb))⟩, hxk⟩
      obtain ⟨ik0, hi0, hy0, hy1, hyb⟩ := info_parts Tryz.info_treeR
      have HIK : Hid (_ ∧ _ ∧ _ ∧ _) := ⟨hi0, hy0, hy1, hyb⟩
      clear hxl hx1 hxn hxk hi0 hy0 hy1 hyb
      go_wp2_with (at_builtin; rw [← hB9]; (try rw [← hzB]); refine wpList_copy _ rfl (.tmp 95) (.tmp 97) 24 rfl B9.heap.size 26 ik0 _ 5 80 Tryz.underlying24 HIK.out.1 HIK.out.2.1 HIK.out.2.2.1 HIK.out.2.2.2 rfl (by decide) B9.heap.size rfl (heap_alloc_new B9 _) (Nat.le_refl _) ka kl kc xs rfl HXK.out.1.1 HXK.out.1.2.2 HXK.out.1.2.1 (by unfold maxLen; omega) (by omega) (B9.heap.size + 1) (by simp) ?_)
      intro k1 kap1 v6 kown1 kgrow1 kat1 klt1
      rw [← hB9, ← hzB] at kgrow1
      rw [← hzB] at kown1 kat1
      clear hB9 hzB yK9
      have kz6 := kgrow1.size
      rw [World.size_alloc] at kz6
      have KO1 : Hid (v6.ownsRow B9.heap.size 26 5 (.slice (some ⟨k1, 0, none⟩) kl kap1) kl xs) := kown1
      have KG1 : Hid ((v6.os = B9.os ∧ v6.tape = B9.tape ∧ v6.output = B9.output) ∧ ∀ b, b < B9.heap.size → v6.heap[b]? = B9.heap[b]?) := ⟨⟨kgrow1.os, kgrow1.tape, kgrow1.output⟩, fun b hb => (kgrow1.block b (by simp; omega) (by simp; omega)).trans (Below.heap_alloc _ _ _ hb)⟩
      have kg1 : B9.heap.size ≤ k1 := by omega
      clear kown1 kgrow1 yK kat1
      go_wp2_with (at_builtin; refine wpList_append_lies _ rfl (.tmp 98) (.tmp 100) 24 rfl B9.heap.size 26 ik0 _ 5 80 Tryz.underlying24 HIK.out.1 HIK.out.2.1 HIK.out.2.2.1 HIK.out.2.2.2 rfl (by decide) (.slice (some ⟨k1, 0, none⟩) kl kap1) kl xs rfl (KO1.out.alloc _) ⟨v6.heap.size, 0, none⟩ 1 1 [.int .i64 1, .int .i64 0, .string ⟨#[]⟩, .slice none 0 0, .slice none 0 0] rfl rfl (World.news_of_block (heap_alloc_new v6 _)) (by simp [Value.oneCell']) (by decide) (by unfold maxLen; omega) (by omega) (by simp; omega) (v6.heap.size + 1) (by simp) ?_)
      intro k2 kap2 v8 kown2 kgrow2 kat2 klt2
      have kz8 := kgrow2.size
      rw [World.size_alloc] at kz8
      have kfar : ∀ b, b < B9.heap.size → v8.heap[b]? = B9.heap[b]? := fun b hb => ((kgrow2.block b (by simp; omega) (by simp [Value.ownBlock]; omega)).trans (Below.heap_alloc _ _ _ (by omega))).trans (KG1.out.2 b hb)
      have hQK := HQ9.out.next (u' := v8) HD0.out HSS.out ⟨kgrow2.os.trans KG1.out.1.1, kgrow2.tape.trans KG1.out.1.2.1, kgrow2.output.trans KG1.out.1.2.2⟩ (by omega) (fun b hb _ => kfar b hb) ((kfar R (by omega)).trans HQ9.out.dr.box)
      have hK8 : ∀ S8 : Nat → Prop, (∀ b, S b → S8 b) → (∀ b, B9.heap.size ≤ b → b < v8.heap.size → S8 b) → RowIn S8 v8 (TreeIn S8 v8 (m2 + 1)) (Nd.kids t ++ [numT m2]) (.slice (some ⟨k2, 0, none⟩) (kl + 1) kap2) := fun S8 h8 h9 =>
        kids_moreT (t := numT m2) HLn.out.1 HXK.out.1.1 HXK.out.2 hQK.same h8 (numT_in _ _ m2) kown2 hkl (fun g hg => by
          have hg : k2 = g := by simpa [Value.ownBlock] using hg
          simp only [Value.ownBlock, Option.some.injEq] at kat2
          exact h9 g (by omega) (by omega))
      obtain ⟨⟨y0, y1, y2, y3, y4⟩, e0, e1, e2, e3, e4⟩ := five_cells hQK.box
      obtain ⟨⟨r0, r1, r2, r3, r4⟩, f0, f1, f2, f3, f4⟩ := five_cells hQK.zero
      have HP : Hid (SpoilPostT (m2 + 1 + 1) S w R ao L cap p (10 * (d + 1)) (.returned (.agg #[.int .i64 s, .int .i64 nu, .string tx, .slice (some ⟨g2, 0, none⟩) (nl + 1) cap2, .slice (some ⟨k2, 0, none⟩) (kl + 1) kap2])) (put5 (v8.setCell ⟨w.heap.size, 4, none⟩ (.slice (some ⟨k2, 0, none⟩) (kl + 1) kap2)) (w.heap.size + 1) 0 (.int .i64 s) (.int .i64 nu) (.string tx) (.slice (some ⟨g2, 0, none⟩) (nl + 1) cap2) (.slice (some ⟨k2, 0, none⟩) (kl + 1) kap2))) :=
        spt_exit (m := m2 + 1 + 1) (t := (⟨s, nu, tx, Nd.names t ++ [x], Nd.kids t ++ [numT m2]⟩ : Nd (T (m2 + 1)))) HD0.out HSL.out hQK.near hQK.dr.box (by omega) ⟨rfl, rfl, rfl, htx, hwf, hwn, HN9.out.keep (fun b hb => kfar b hb.2) (fun b hb => Or.inr ⟨hb.1, by omega⟩), hK8 _ (fun b hb => Or.inl hb) (fun b h1 h2 => Or.inr ⟨by omega, h2⟩)⟩ (set_below _ _ _ _) (fun b hb => Below.heap_setCell _ _ _ _ hb) (by simp)
      clear kown2 kgrow2 kat2 KO1 KG1 HIK HXK hQK hK8 kfar HQ9 HN9
      go_wp2_with fail
      refine bodyPost_ret (v := .agg #[.int .i64 s, .int .i64 nu, .string tx, .slice (some ⟨g2, 0, none⟩) (nl + 1) cap2, .slice (some ⟨k2, 0, none⟩) (kl + 1) kap2]) (by simp [results, Tryz.results35, go_sem, r0, r1, r2, r3, r4]) rfl ?_
      exact HP.out
    · obtain ⟨m2, rfl⟩ : ∃ m2, m = m2 + 1 := ⟨m - 1, by omega⟩
      have hab : Below w5.heap.size w5 (w5.alloc (.cells #[] 26)) := (Below.refl _ _).alloc (Nat.le_refl _) _
      have hboxa := (hab.block w.heap.size (by omega)).trans HQ.out.box
      obtain ⟨⟨-, -, -, -, y4⟩, -, -, -, -, e4⟩ := five_cells hboxa
      obtain ⟨E6, hE6⟩ : ∃ E6, E6 = (w5.alloc (.cells #[] 26)).setCell ⟨w.heap.size, 4, none⟩ (.slice (some ⟨w5.heap.size, 0, none⟩) 0 0) := ⟨_, rfl⟩
      have HF0 : Hid (Fill w.heap.size w5 E6 (.int .i64 s) (.int .i64 nu) (.string tx) (.slice na nl nc) (.int .i64 1) (.int .i64 0) (.string ⟨#[]⟩) (.slice none 0 0) (.slice none 0 0) 0 (.slice (some ⟨w5.heap.size, 0, none⟩) 0 0)) := by
        rw [hE6]
        refine ⟨rfl, rfl, rfl, by simp, fun b hb hne => (Below.heap_setCell _ _ _ _ hne).trans (Below.heap_alloc _ _ _ hb), by simp [World.setCell, Array.getElem?_modify, hboxa], ?_, fun g hg => ?_⟩
        · refine owns_keep (owns_empty (heap_alloc_new w5 _) (by omega)) fun g hg => ?_
          have : w5.heap.size = g := by simpa [Value.ownBlock] using hg
          exact Below.heap_setCell _ _ _ _ (by show g ≠ w.heap.size; omega)
        · have : w5.heap.size = g := by simpa [Value.ownBlock] using hg
          omega
      clear hab hboxa
      go_wp2_with fail
      rw [← hE6]
      clear hE6 y4 e4
      obtain ⟨ik0, hi0, hy0, hy1, hyb⟩ := info_parts Tryz.info_treeR
      have HIK : Hid (_ ∧ _ ∧ _ ∧ _) := ⟨hi0, hy0, hy1, hyb⟩
      clear hi0 hy0 hy1 hyb
      go_loopw [7] (fun iv wr => ∃ (ln : Nat) (ka' : Option Addr) (kc' : Nat), ln ≤ 21 ∧ iv = .int .i64 ln ∧ Fill w.heap.size w5 wr (.int .i64 s) (.int .i64 nu) (.string tx) (.slice na nl nc) (.int .i64 1) (.int .i64 0) (.string ⟨#[]⟩) (.slice none 0 0) (.slice none 0 0) ln (.slice ka' ln kc')) (fun iv _ => 21 - (intOf iv).toNat)
      case atStart => exact ⟨0, _, _, by omega, rfl, HF0.out⟩
      case round =>
        obtain ⟨ln, ka', kc', hln, rfl, hF⟩ := hrel
        have hzr := hF.size
        have HF : Hid (Fill w.heap.size w5 wr (.int .i64 s) (.int .i64 nu) (.string tx) (.slice na nl nc) (.int .i64 1) (.int .i64 0) (.string ⟨#[]⟩) (.slice none 0 0) (.slice none 0 0) ln (.slice ka' ln kc')) := hF
        by_cases hlt : ln ≤ 20
        · have hlti : (ln : Int) ≤ 20 := by omega
          have x4 := hF.cells.1.2.2.2.2
          clear hF HF0
          go_wp2_with (at_builtin; refine wpList_append_lies _ rfl (.tmp 112) (.tmp 114) 24 rfl (w.heap.size + 1) 26 ik0 _ 5 80 Tryz.underlying24 HIK.out.1 HIK.out.2.1 HIK.out.2.2.1 HIK.out.2.2.2 rfl (by decide) (.slice ka' ln kc') ln _ rfl (HF.out.row.alloc _) ⟨wr.heap.size, 0, none⟩ 1 1 [.int .i64 1, .int .i64 0, .string ⟨#[]⟩, .slice none 0 0, .slice none 0 0] rfl rfl (World.news_of_block (heap_alloc_new wr _)) (by simp [Value.oneCell']) (by decide) (by unfold maxLen; omega) (by omega) (by simp; omega) (wr.heap.size + 1) (by simp) ?_; intro g2 cap2 w9 hown2 hgrow2 hat2 hlt2; refine Hid.out ?_)
          refine Lib.hid ?_
          have hF9 := HF.out.more (by omega) hown2 hgrow2 hat2
          have hb9 := ((hgrow2.block w.heap.size (by simp; omega) (fun e => by have := HF.out.new _ e.symm; omega)).trans (Below.heap_alloc _ _ _ (by omega))).trans HF.out.box
          have x4'' : w9.cell? ⟨w.heap.size, 4, none⟩ = some (.slice ka' ln kc') := (by simp [World.cell?, hb9])
          have xf'' : w9.frozen? ⟨w.heap.size, 4, none⟩ = false := (by simp [World.frozen?, hb9])
          have HF9 : Hid (Fill w.heap.size w5 (w9.setCell ⟨w.heap.size, 4, none⟩ (.slice (some ⟨g2, 0, none⟩) (ln + 1) cap2)) (.int .i64 s) (.int .i64 nu) (.string tx) (.slice na nl nc) (.int .i64 1) (.int .i64 0) (.string ⟨#[]⟩) (.slice none 0 0) (.slice none 0 0) (ln + 1) (.slice (some ⟨g2, 0, none⟩) (ln + 1) cap2)) := hF9
          clear hF9 hown2 hgrow2 hat2 hlt2 hb9 x4
          go_wp2_with fail
          go_roundw
          case rel => exact ⟨ln + 1, some ⟨g2, 0, none⟩, cap2, by omega, by go_num, HF9.out⟩
          case measure => simp [intOf]; omega
        · have hlti : ¬ (ln : Int) ≤ 20 := by omega
          obtain ⟨⟨y0, y1, y2, y3, y4⟩, -⟩ := hF.cells
          obtain ⟨⟨r0, r1, r2, r3, r4⟩, f0, f1, f2, f3, f4⟩ := five_cells ((hF.block (w.heap.size + 1) (by omega) (by omega)).trans HQ.out.zero)
          have HP : Hid (SpoilPostT (m2 + 1 + 1) S w R ao L cap p (10 * (d + 1)) (.returned (.agg #[.int .i64 s, .int .i64 nu, .string tx, .slice na nl nc, .slice ka' ln kc'])) (put5 (wr) (w.heap.size + 1) 0 (.int .i64 s) (.int .i64 nu) (.string tx) (.slice na nl nc) (.slice ka' ln kc'))) := by
            have hsame : Same S w wr := fun b hb => (hF.block b (by have := HSL.out b hb; omega) (by have := HSL.out b hb; omega)).trans (HQ.out.same b hb)
            have hn := HQ.out.near
            exact spt_exit (m := m2 + 1 + 1) (t := (⟨s, nu, tx, Nd.names t, List.replicate ln (numT m2)⟩ : Nd (T (m2 + 1)))) HD0.out HSL.out ⟨hF.os.trans hn.os, hF.tape.trans hn.tape, hF.output.trans hn.output, by omega, fun b hb hne => (hF.block b (by omega) (by omega)).trans (hn.block b hb hne)⟩ ((hF.block R (by omega) (by omega)).trans HQ.out.dr.box) (by omega) ⟨rfl, rfl, rfl, htx, hwf, hwn, HNm.out.keep hsame (fun b hb => Or.inl hb), hF.row_in (by omega) (fun b h1 h2 => Or.inr ⟨by omega, h2⟩) (numT_in _ _ m2)⟩ (Below.refl _ _) (fun _ _ => rfl) rfl
          clear hF HF HF0 HIK HQ
          go_wp2_with fail
          refine bodyPost_ret (v := .agg #[.int .i64 s, .int .i64 nu, .string tx, .slice na nl nc, .slice ka' ln kc']) (by simp [results, Tryz.results35, go_sem, r0, r1, r2, r3, r4]) rfl ?_
          exact HP.out
    · obtain ⟨W6, hW6⟩ : ∃ W6, W6 = w5.alloc (.cells #[] 9) := ⟨_, rfl⟩
      have hb6 : Below w5.heap.size w5 W6 := by rw [hW6]; exact (Below.refl _ _).alloc (Nat.le_refl _) _
      have hQ := HQ.out.keep HD0.out HSS.out (Near.of_below hb6) (HQ.out.dr.same hb6)
      obtain ⟨⟨y0, y1, y2, y3, y4⟩, e0, e1, e2, e3, e4⟩ := five_cells hQ.box
      obtain ⟨⟨r0, r1, r2, r3, r4⟩, f0, f1, f2, f3, f4⟩ := five_cells hQ.zero
      have HP : Hid (SpoilPostT (m + 1) S w R ao L cap p (10 * (d + 1)) (.returned (.agg #[.int .i64 s, .int .i64 nu, .string tx, .slice (some ⟨w5.heap.size, 0, none⟩) 0 0, .slice ka kl kc])) (put5 (W6.setCell ⟨w.heap.size, 3, none⟩ (.slice (some ⟨w5.heap.size, 0, none⟩) 0 0)) (w.heap.size + 1) 0 (.int .i64 s) (.int .i64 nu) (.string tx) (.slice (some ⟨w5.heap.size, 0, none⟩) 0 0) (.slice ka kl kc))) :=
        spt_exit (m := m + 1) (t := (⟨s, nu, tx, [], Nd.kids t⟩ : Nd (T m))) HD0.out HSL.out hQ.near hQ.dr.box (by omega) ⟨rfl, rfl, rfl, htx, hwf, hwn, ⟨some ⟨w5.heap.size, 0, none⟩, 0, rfl, by simp [maxLen], fun s h => (by cases h), fun h => absurd rfl h⟩, (HKd.out.keepT hQ.same (fun b hb => Or.inl hb))⟩ (set_below _ _ _ _) (fun b hb => Below.heap_setCell _ _ _ _ hb) (by simp)
      clear hQ HQ hb6
      subst hW6
      go_wp2_with fail
      refine bodyPost_ret (v := .agg #[.int .i64 s, .int .i64 nu, .string tx, .slice (some ⟨w5.heap.size, 0, none⟩) 0 0, .slice ka kl kc]) (by simp [results, Tryz.results35, go_sem, r0, r1, r2, r3, r4]) rfl ?_
      exact HP.out

end Go.Proofs.YtnpckelaileooaaGreatDoor

/-
  What the specification draws: l5Any.
-/
namespace Go.Proofs.YtnpckelaileooaaGreatDoor
open Go.RowKit

theorem spoilT_any : ∀ d, SpoilTSaid d := by
  intro d
  induction d with
  | zero =>
    intro m R ao L cap p S t c0 c1 c2 c3 c4 w hm hdt
    obtain ⟨m, rfl⟩ : ∃ m', m = m' + 1 := ⟨m - 1, by omega⟩
    exact absurd hdt.1 (by omega)
  | succ d ih => exact spoilT_step d ih

/-- What drawing any tree makes. -/
def AnyPostT (m : Nat) (w : World) (R : Nat) (ao : Option Addr) (L cap p q : Nat) (e : Ending) (w' : World) : Prop :=
  Near R w w' ∧ ∃ (p' : Nat) (t : T m) (c0 c1 c2 c3 c4 : Value), p' ≤ p + q ∧ Dr w' R ao L cap p' ∧ e = .returned (.agg #[c0, c1, c2, c3, c4]) ∧ TreeIn (fun b => w.heap.size ≤ b ∧ b < w'.heap.size) w' m t c0 c1 c2 c3 c4

theorem anyT_exit {m R L cap p p' q : Nat} {ao : Option Addr} {w W : World} {t : T m} {g0 g1 g2 g3 g4 : Value} (h : Dr w R ao L cap p) (hn : Near R w W) (hb : W.heap[R]? = some (.cells #[.slice ao L cap, .int .i64 (p' : Int)] 67 (0, 0))) (hp : p' ≤ p + q) (hk : TreeIn (fun b => w.heap.size + 1 ≤ b ∧ b < W.heap.size) W m t g0 g1 g2 g3 g4) :
    AnyPostT m w R ao L cap p q (.returned (.agg #[g0, g1, g2, g3, g4])) (put5 W w.heap.size 0 g0 g1 g2 g3 g4) := by
  have hR := h.lt
  have qq : ∀ b, b ≠ w.heap.size → (put5 W w.heap.size 0 g0 g1 g2 g3 g4).heap[b]? = W.heap[b]? := fun b h => put5_other h
  have hz : (put5 W w.heap.size 0 g0 g1 g2 g3 g4).heap.size = W.heap.size := put5_size
  have hbl : Below 0 W (put5 W w.heap.size 0 g0 g1 g2 g3 g4) := put5_below (Below.refl 0 W) (Nat.zero_le _)
  have hn' : Near R w (put5 W w.heap.size 0 g0 g1 g2 g3 g4) := ⟨by rw [hbl.os]; exact hn.os, by rw [hbl.tape]; exact hn.tape, by rw [hbl.output]; exact hn.output, by rw [hz]; exact hn.size, fun b hb hne => (qq b (by omega)).trans (hn.block b hb hne)⟩
  exact ⟨hn', p', t, _, _, _, _, _, hp, h.keep hn' ((qq R (by omega)).trans hb), rfl, hk.keep (fun b hb => qq b (by omega)) (fun b hb => ⟨by omega, by rw [hz]; exact hb.2⟩)⟩

theorem pt4 : pt 4 = 262564 := by decide

set_option maxRecDepth 20000 in
set_option maxHeartbeats 4000000 in
theorem l5Any_any (m R : Nat) (ao : Option Addr) (L cap p : Nat) (w : World) (hm : 8 ≤ m) (h : Dr w R ao L cap p) (hp : p ≤ 100000) :
    Calls Tryz.prog 15 #[.pointer (some ⟨R, 0, none⟩)] w (AnyPostT m w R ao L cap p 300000) := by
  have hR := h.lt
  have HD0 : Hid (Dr w R ao L cap p) := h
  obtain ⟨W1, hW1⟩ : ∃ W1, W1 = w.alloc (.cells #[.int .i64 0, .int .i64 0, .string ⟨#[]⟩, .slice none 0 0, .slice none 0 0] 26) := ⟨_, rfl⟩
  have hz1 : W1.heap.size = w.heap.size + 1 := by rw [hW1]; simp
  have hb1 : Below w.heap.size w W1 := by rw [hW1]; exact (Below.refl _ _).alloc (Nat.le_refl _) _
  have hzero : W1.heap[w.heap.size]? = some (.cells #[.int .i64 0, .int .i64 0, .string ⟨#[]⟩, .slice none 0 0, .slice none 0 0] 26 (0, 0)) := by rw [hW1]; exact heap_alloc_new _ _
  have HZ : Hid (∀ W, Near R W1 W → Near R w W ∧ W.heap[w.heap.size]? = some (.cells #[.int .i64 0, .int .i64 0, .string ⟨#[]⟩, .slice none 0 0, .slice none 0 0] 26 (0, 0))) := fun W hW =>
    ⟨(Near.of_below hb1).trans hW, (hW.block _ (by omega) (by omega)).trans hzero⟩
  have HPk : Hid (Calls Tryz.prog 28 #[.pointer (some ⟨R, 0, none⟩), .int .i64 24] W1 (PickPost W1 R ao L cap p 24)) := pick_any W1 R ao L cap p 24 (h.same hb1) (by omega) (by omega) (by omega)
  clear h hb1 hzero
  go_enter Tryz.func15, Tryz.ntmps15
  go_wp2_with fail
  rw [← hW1]
  clear hW1
  refine HPk.out.mono ?_
  rintro e w2 ⟨y, rfl, hy, hn2, hD2, -⟩
  have HN2 : Hid (Near R W1 w2 ∧ Dr w2 R ao L cap (p + 1)) := ⟨hn2, hD2⟩
  have hz2 := hn2.size
  clear HPk hn2 hD2
  have HMade : Hid (∀ (d : Nat) (w3 w4 : World) (c0 c1 c2 c3 c4 : Value), d ≤ 8 → Near R w2 w3 → Dr w3 R ao L cap (p + 1 + 1) → Below w3.heap.size w3 w4 → (∀ m, d ≤ m → ∃ t : T m, TreeIn (fun b => w3.heap.size ≤ b ∧ b < w4.heap.size) w4 m t c0 c1 c2 c3 c4 ∧ depT m t d) → AnyPostT m w R ao L cap p 300000 (.returned (.agg #[c0, c1, c2, c3, c4])) (put5 w4 w.heap.size 0 c0 c1 c2 c3 c4)) := fun d w3 w4 c0 c1 c2 c3 c4 hd hn3 hD3 hb4 ht => by
    obtain ⟨t, ht, -⟩ := ht m (by omega)
    have hs3 := hn3.size
    have hn4 := (HN2.out.1.trans hn3).trans (Near.of_below hb4)
    exact anyT_exit HD0.out (HZ.out _ hn4).1 (hD3.same hb4).box (by omega) (ht.keep (fun _ _ => rfl) (fun b hb => ⟨by omega, hb.2⟩))
  by_cases y0 : y = 0
  · subst y0
    have HP2 : Hid (Calls Tryz.prog 28 #[.pointer (some ⟨R, 0, none⟩), .int .i64 2] w2 (PickPost w2 R ao L cap (p + 1) 2)) := pick_any w2 R ao L cap (p + 1) 2 HN2.out.2 (by omega) (by omega) (by omega)
    go_wp2_with fail
    refine HP2.out.mono ?_
    rintro e w3 ⟨a, rfl, ha, hn3, hD3, -⟩
    have hw : IntKind.i64.wrap (120 + (a : Int)) = ((120 + a : Nat) : Int) := by rw [IntKind.wrap_i64]; omega
    have HF : Hid (Calls Tryz.prog 33 #[.int .i64 (120 + (a : Int))] w3 (MadeT 4 w3)) := by
      have := l5Full_any (120 + a) w3 (by omega) (by omega)
      rw [show ((120 + a : Nat) : Int) = 120 + (a : Int) by omega] at this; exact this
    rw [show ((120 + a : Nat) : Int) = 120 + (a : Int) by omega] at hw
    clear HP2
    go_wp2_with fail
    refine HF.out.mono ?_
    rintro e w4 ⟨hb4, c0, c1, c2, c3, c4, rfl, ht⟩
    obtain ⟨t4, ht4, -⟩ := ht 4 (Nat.le_refl _)
    obtain ⟨t0, t1, t2, ta, tl, tc, ua, ul, uc, rfl, rfl, rfl, rfl, rfl⟩ := ht4.shape
    have HP : Hid (AnyPostT m w R ao L cap p 300000 (.returned (.agg #[.int .i64 t0, .int .i64 t1, .string t2, .slice ta tl tc, .slice ua ul uc])) (put5 w4 w.heap.size 0 (.int .i64 t0) (.int .i64 t1) (.string t2) (.slice ta tl tc) (.slice ua ul uc))) := HMade.out 4 w3 w4 _ _ _ _ _ (by omega) hn3 hD3 hb4 ht
    obtain ⟨⟨r0, r1, r2, r3, r4⟩, f0, f1, f2, f3, f4⟩ := five_cells (HZ.out w4 ((HN2.out.1.trans hn3).trans (Near.of_below hb4))).2
    clear HF ht ht4 hb4 hn3 hD3 HMade
    go_wp2_with fail
    refine bodyPost_ret (v := .agg #[.int .i64 t0, .int .i64 t1, .string t2, .slice ta tl tc, .slice ua ul uc]) (by simp [results, Tryz.results15, go_sem, r0, r1, r2, r3, r4]) rfl ?_
    exact HP.out
  by_cases y1 : y = 1
  · subst y1
    have HP2 : Hid (Calls Tryz.prog 28 #[.pointer (some ⟨R, 0, none⟩), .int .i64 2] w2 (PickPost w2 R ao L cap (p + 1) 2)) := pick_any w2 R ao L cap (p + 1) 2 HN2.out.2 (by omega) (by omega) (by omega)
    go_wp2_with fail
    refine HP2.out.mono ?_
    rintro e w3 ⟨a, rfl, ha, hn3, hD3, -⟩
    have hw : IntKind.i64.wrap (6 + (a : Int)) = 6 + (a : Int) := by rw [IntKind.wrap_i64]; omega
    have HF : Hid (Calls Tryz.prog 34 #[.int .i64 (6 + (a : Int))] w3 (MadeT (6 + a) w3)) := by
      have := l5Deep_any (6 + a) w3 (by omega) (by omega)
      rw [show ((6 + a : Nat) : Int) = 6 + (a : Int) by omega] at this; exact this
    clear HP2
    go_wp2_with fail
    refine HF.out.mono ?_
    rintro e w4 ⟨hb4, c0, c1, c2, c3, c4, rfl, ht⟩
    obtain ⟨t4, ht4, -⟩ := ht (6 + a) (Nat.le_refl _)
    obtain ⟨t0, t1, t2, ta, tl, tc, ua, ul, uc, rfl, rfl, rfl, rfl, rfl⟩ := ht4.shape
    have HP : Hid (AnyPostT m w R ao L cap p 300000 (.returned (.agg #[.int .i64 t0, .int .i64 t1, .string t2, .slice ta tl tc, .slice ua ul uc])) (put5 w4 w.heap.size 0 (.int .i64 t0) (.int .i64 t1) (.string t2) (.slice ta tl tc) (.slice ua ul uc))) := HMade.out (6 + a) w3 w4 _ _ _ _ _ (by omega) hn3 hD3 hb4 ht
    obtain ⟨⟨r0, r1, r2, r3, r4⟩, f0, f1, f2, f3, f4⟩ := five_cells (HZ.out w4 ((HN2.out.1.trans hn3).trans (Near.of_below hb4))).2
    clear HF ht ht4 hb4 hn3 hD3 HMade
    go_wp2_with fail
    refine bodyPost_ret (v := .agg #[.int .i64 t0, .int .i64 t1, .string t2, .slice ta tl tc, .slice ua ul uc]) (by simp [results, Tryz.results15, go_sem, r0, r1, r2, r3, r4]) rfl ?_
    exact HP.out
  clear HMade
  have e0 : ((y : Int) == 0) = false := by simp; omega
  have e1 : ((y : Int) == 1) = false := by simp; omega
  have HTree : Hid (∀ (p4 : Nat) (w3 w4 : World) (k : K m) (c0 c1 c2 : Value), p4 ≤ p + 21070 → Near R w2 w3 → Near R w3 w4 → Dr w4 R ao L cap p4 → KindIn (fun b => w3.heap.size ≤ b ∧ b < w4.heap.size) w4 m k c0 c1 c2 → depK m k 4 → okK m k = true →
      Calls Tryz.prog 36 #[.pointer (some ⟨R, 0, none⟩), .agg #[c0, c1, c2]] w4 (DTPost m 4 w4 R ao L cap p4 262564)) := fun p4 w3 w4 k c0 c1 c2 hq h23 h34 hD4 hk hdk hok => by
    have hs := h23.size
    simp only [okK, Bool.and_eq_true, decide_eq_true_eq] at hok
    have := l5Tree_any 4 m R ao L cap p4 k _ 1 c0 c1 c2 w4 hdk hok.1 hok.2 hk (fun b hb => ⟨hb.2, by omega⟩) hD4 (by rw [pt4]; omega)
    rw [pt4] at this; exact this
  by_cases y23 : y = 2 ∨ y = 3
  · have HSm : Hid (Calls Tryz.prog 37 #[.pointer (some ⟨R, 0, none⟩), .bool true] w2 (DSPost m w2 R ao L cap (p + 1) 21064)) := l5SomeOk_any m R ao L cap (p + 1) true w2 (by omega) HN2.out.2 (by omega)
    rcases y23 with rfl | rfl
    all_goals
      clear e0 e1 y0 y1
      go_wp2_with fail
      refine HSm.out.mono ?_
      rintro e w4 ⟨hn4, p4, k, c0, c1, c2, hp4, hD4, rfl, hk, hdk, hok⟩
      obtain ⟨u0, ua, ul, uc, ya, yl, yc, rfl, rfl, rfl⟩ := hk.shape
      have HT : Hid (Calls Tryz.prog 36 #[.pointer (some ⟨R, 0, none⟩), .agg #[.int .i64 u0, .slice ua ul uc, .slice ya yl yc]] w4 (DTPost m 4 w4 R ao L cap p4 262564)) := HTree.out p4 w2 w4 k _ _ _ (by omega) (Near.refl _ _) hn4 hD4 hk hdk hok
      have HN4 : Hid (Near R W1 w4) := HN2.out.1.trans hn4
      have hz4 := hn4.size
      clear HSm hn4 hD4 hk hdk hok
      go_wp2_with fail
      refine HT.out.mono ?_
      rintro e w5 ⟨hn5, p5, t5, d0, d1, d2, d3, d4, hp5, hD5, rfl, ht5, hdt⟩
      obtain ⟨s0, s1, s2, sa, sl, sc, sb, sm, sd, rfl, rfl, rfl, rfl, rfl⟩ := ht5.shape
      have hz5 := hn5.size
      have HSp : Hid (Calls Tryz.prog 35 #[.pointer (some ⟨R, 0, none⟩), .agg #[.int .i64 s0, .int .i64 s1, .string s2, .slice sa sl sc, .slice sb sm sd]] w5 (SpoilPostT m (fun b => w4.heap.size ≤ b ∧ b < w5.heap.size) w5 R ao L cap p5 (10 * 4))) :=
        spoilT_any 4 m R ao L cap p5 _ t5 _ _ _ _ _ w5 (by omega) hdt ht5 (fun b hb => ⟨hb.2, by omega⟩) hD5 (by omega)
      have HN5 : Hid (Near R W1 w5) := HN4.out.trans hn5
      clear HT hn5 hD5 ht5 hdt
      go_wp2_with fail
      refine HSp.out.mono ?_
      rintro e w6 ⟨hn6, p6, t6, c0, c1, c2, c3, c4, hp6, hD6, rfl, ht6⟩
      obtain ⟨t0, t1, t2, ta, tl, tc, va, vl, vc, rfl, rfl, rfl, rfl, rfl⟩ := ht6.shape
      have hz6 := hn6.size
      have hnn := HZ.out w6 (HN5.out.trans hn6)
      have HP : Hid (AnyPostT m w R ao L cap p 300000 (.returned (.agg #[.int .i64 t0, .int .i64 t1, .string t2, .slice ta tl tc, .slice va vl vc])) (put5 w6 w.heap.size 0 (.int .i64 t0) (.int .i64 t1) (.string t2) (.slice ta tl tc) (.slice va vl vc))) :=
        anyT_exit HD0.out hnn.1 hD6.box (by omega) (ht6.keep (fun _ _ => rfl) (fun b hb => hb.elim (fun h => ⟨by omega, by omega⟩) (fun h => ⟨by omega, h.2⟩)))
      obtain ⟨⟨r0, r1, r2, r3, r4⟩, f0, f1, f2, f3, f4⟩ := five_cells hnn.2
      clear HSp hn6 hD6 ht6 hnn HTree
      go_wp2_with fail
      refine bodyPost_ret (v := .agg #[.int .i64 t0, .int .i64 t1, .string t2, .slice ta tl tc, .slice va vl vc]) (by simp [results, Tryz.results15, go_sem, r0, r1, r2, r3, r4]) rfl ?_
      exact HP.out
  · have e2 : ((y : Int) == 2) = false := by simp; omega
    have e3 : ((y : Int) == 3) = false := by simp; omega
    have HP2 : Hid (Calls Tryz.prog 28 #[.pointer (some ⟨R, 0, none⟩), .int .i64 2] w2 (PickPost w2 R ao L cap (p + 1) 2)) := pick_any w2 R ao L cap (p + 1) 2 HN2.out.2 (by omega) (by omega) (by omega)
    go_wp2_with fail
    refine HP2.out.mono ?_
    rintro e w3 ⟨a, rfl, ha, hn3, hD3, -⟩
    have HSm : Hid (∀ top, Calls Tryz.prog 37 #[.pointer (some ⟨R, 0, none⟩), .bool top] w3 (DSPost m w3 R ao L cap (p + 1 + 1) 21064)) := fun top => l5SomeOk_any m R ao L cap (p + 1 + 1) top w3 (by omega) hD3 (by omega)
    have HN3 : Hid (Near R w2 w3) := hn3
    have hz3 := hn3.size
    clear HP2 hn3 hD3
    go_wp2_with fail
    refine (HSm.out _).mono ?_
    rintro e w4 ⟨hn4, p4, k, c0, c1, c2, hp4, hD4, rfl, hk, hdk, hok⟩
    obtain ⟨u0, ua, ul, uc, ya, yl, yc, rfl, rfl, rfl⟩ := hk.shape
    have HT : Hid (Calls Tryz.prog 36 #[.pointer (some ⟨R, 0, none⟩), .agg #[.int .i64 u0, .slice ua ul uc, .slice ya yl yc]] w4 (DTPost m 4 w4 R ao L cap p4 262564)) := HTree.out p4 w3 w4 k _ _ _ (by omega) HN3.out hn4 hD4 hk hdk hok
    have HN4 : Hid (Near R W1 w4) := (HN2.out.1.trans HN3.out).trans hn4
    have hz4 := hn4.size
    clear HSm hn4 hD4 hk hdk hok
    go_wp2_with fail
    refine HT.out.mono ?_
    rintro e w5 ⟨hn5, p5, t5, d0, d1, d2, d3, d4, hp5, hD5, rfl, ht5, hdt⟩
    obtain ⟨t0, t1, t2, ta, tl, tc, va, vl, vc, rfl, rfl, rfl, rfl, rfl⟩ := ht5.shape
    have hnn := HZ.out w5 (HN4.out.trans hn5)
    have HP : Hid (AnyPostT m w R ao L cap p 300000 (.returned (.agg #[.int .i64 t0, .int .i64 t1, .string t2, .slice ta tl tc, .slice va vl vc])) (put5 w5 w.heap.size 0 (.int .i64 t0) (.int .i64 t1) (.string t2) (.slice ta tl tc) (.slice va vl vc))) :=
      anyT_exit HD0.out hnn.1 hD5.box (by omega) (ht5.keep (fun _ _ => rfl) (fun b hb => ⟨by omega, hb.2⟩))
    obtain ⟨⟨r0, r1, r2, r3, r4⟩, f0, f1, f2, f3, f4⟩ := five_cells hnn.2
    clear HT hn5 hD5 ht5 hdt hnn HTree
    go_wp2_with fail
    refine bodyPost_ret (v := .agg #[.int .i64 t0, .int .i64 t1, .string t2, .slice ta tl tc, .slice va vl vc]) (by simp [results, Tryz.results15, go_sem, r0, r1, r2, r3, r4]) rfl ?_
    exact HP.out

end Go.Proofs.YtnpckelaileooaaGreatDoor

/-
  What the specification draws: DrawTreeWrite.
-/
namespace Go.Proofs.YtnpckelaileooaaGreatDoor
open Go.RowKit

/-- What drawing a tree out of a code makes. -/
def DrawnT (m : Nat) (w : World) (e : Ending) (w' : World) : Prop :=
  Below w.heap.size w w' ∧ ∃ (t : T m) (c0 c1 c2 c3 c4 : Value), e = .returned (.agg #[c0, c1, c2, c3, c4]) ∧ TreeIn (fun b => w.heap.size ≤ b ∧ b < w'.heap.size) w' m t c0 c1 c2 c3 c4

set_option maxRecDepth 20000 in
set_option maxHeartbeats 4000000 in
theorem drawTWrite_any (m : Nat) (hm : 8 ≤ m) (S : Nat → Prop) (w : World) (ao : Option Addr) (L cap : Nat) (h : CodeIn S w ao L cap) (hS : ∀ b, S b → b < w.heap.size) :
    Calls Tryz.prog 5 #[.slice ao L cap] w (DrawnT m w) := by
  obtain ⟨W1, hW1⟩ : ∃ W1, W1 = w.alloc (.cells #[.int .i64 0, .int .i64 0, .string ⟨#[]⟩, .slice none 0 0, .slice none 0 0] 26) := ⟨_, rfl⟩
  have hz1 : W1.heap.size = w.heap.size + 1 := by rw [hW1]; simp
  have hb1 : Below w.heap.size w W1 := by rw [hW1]; exact (Below.refl _ _).alloc (Nat.le_refl _) _
  have hzero : W1.heap[w.heap.size]? = some (.cells #[.int .i64 0, .int .i64 0, .string ⟨#[]⟩, .slice none 0 0, .slice none 0 0] 26 (0, 0)) := by rw [hW1]; exact heap_alloc_new _ _
  have HO : Hid (Calls Tryz.prog 16 #[.slice ao L cap] W1 _) := l6Open_any S W1 ao L cap ⟨h.1, h.2.1, fun h0 => by
      obtain ⟨b, off, ha, hb, hc⟩ := h.2.2 h0
      exact ⟨b, off, ha, hb, fun j hj => by
        obtain ⟨u, hu, hcell⟩ := hc j hj
        exact ⟨u, hu, (World.cell?_of_block (hb1.block b (hS b hb))).trans hcell⟩⟩⟩ (fun b hb => by have := hS b hb; omega)
  have HZ : Hid (Below w.heap.size w W1 ∧ W1.heap[w.heap.size]? = some (.cells #[.int .i64 0, .int .i64 0, .string ⟨#[]⟩, .slice none 0 0, .slice none 0 0] 26 (0, 0))) := ⟨hb1, hzero⟩
  clear h hb1 hzero
  go_enter Tryz.func5, Tryz.ntmps5
  go_wp2_with fail
  rw [← hW1]
  clear hW1
  refine HO.out.mono ?_
  rintro e w1 ⟨hb1, R, rfl, hR, L', hD⟩
  have HA : Hid (Calls Tryz.prog 15 #[.pointer (some ⟨R, 0, none⟩)] w1 (AnyPostT m w1 R ao L' cap 0 300000)) := l5Any_any m R ao L' cap 0 w1 hm hD (by omega)
  have HB : Hid (Below W1.heap.size W1 w1) := hb1
  have hs1 := hb1.size
  clear HO hb1 hD
  go_wp2_with fail
  refine HA.out.mono ?_
  rintro e w2 ⟨hn2, p', t, c0, c1, c2, c3, c4, -, -, rfl, hk⟩
  obtain ⟨t0, t1, t2, ta, tl, tc, va, vl, vc, rfl, rfl, rfl, rfl, rfl⟩ := hk.shape
  have hs2 := hn2.size
  have hb2 : Below W1.heap.size W1 w2 := near_new HB.out hR hn2
  obtain ⟨⟨r0, r1, r2, r3, r4⟩, f0, f1, f2, f3, f4⟩ := five_cells ((hb2.block w.heap.size (by omega)).trans HZ.out.2)
  have HP : Hid (DrawnT m w (.returned (.agg #[.int .i64 t0, .int .i64 t1, .string t2, .slice ta tl tc, .slice va vl vc])) (put5 w2 w.heap.size 0 (.int .i64 t0) (.int .i64 t1) (.string t2) (.slice ta tl tc) (.slice va vl vc))) := by
    refine ⟨put5_below (HZ.out.1.trans (hb2.mono (by omega))) (Nat.le_refl _), t, _, _, _, _, _, rfl, hk.keep (fun b hb => put5_other (by omega)) (fun b hb => ⟨by omega, by rw [put5_size]; exact hb.2⟩)⟩
  clear HA hn2 hk hb2 HB HZ
  go_wp2_with fail
  refine bodyPost_ret (v := .agg #[.int .i64 t0, .int .i64 t1, .string t2, .slice ta tl tc, .slice va vl vc]) (by simp [results, Tryz.results5, go_sem, r0, r1, r2, r3, r4]) rfl ?_
  exact HP.out

end Go.Proofs.YtnpckelaileooaaGreatDoor

/-
  What the specification draws: DrawTreeRead.
-/
namespace Go.Proofs.YtnpckelaileooaaGreatDoor
open Go.RowKit

theorem textF_10000 (n : Nat) (t : T n) : (textF n t).size ≤ 10000 := by
  unfold textF
  split
  · next h => rw [bs_size]; have := txtL_len n t 1 (okT_get h).1; have := (okT_get h).2; omega
  · rw [bs_size]; simp

/-- What drawing a text of a tree makes. -/
def DrawnST (w : World) (e : Ending) (w' : World) : Prop :=
  Below w.heap.size w w' ∧ ∃ x : ByteArray, x.size ≤ 30000 ∧ e = .returned (.string x)

set_option maxRecDepth 20000 in
set_option maxHeartbeats 8000000 in
theorem drawTRead_any (S : Nat → Prop) (w : World) (ao : Option Addr) (L cap : Nat) (h : CodeIn S w ao L cap) (hS : ∀ b, S b → b < w.heap.size) :
    Calls Tryz.prog 13 #[.slice ao L cap] w (DrawnST w) := by
  have HO : Hid (Calls Tryz.prog 16 #[.slice ao L cap] w _) := l6Open_any S w ao L cap h hS
  clear h
  go_enter Tryz.func13, Tryz.ntmps13
  go_wp2_with fail
  refine HO.out.mono ?_
  rintro e w1 ⟨hb1, R, rfl, hR, L', hD⟩
  have HPk : Hid (Calls Tryz.prog 28 #[.pointer (some ⟨R, 0, none⟩), .int .i64 30] w1 (PickPost w1 R ao L' cap 0 30)) := pick_any w1 R ao L' cap 0 30 hD (by omega) (by omega) (by omega)
  have HB1 : Hid (Below w.heap.size w w1) := hb1
  clear HO hb1 hD
  go_wp2_with fail
  refine HPk.out.mono ?_
  rintro e w2 ⟨v, rfl, hv, hn2, hD2, -⟩
  have HB2 : Hid (Below w.heap.size w w2) := near_new HB1.out hR hn2
  have HD2 : Hid (Dr w2 R ao L' cap (0 + 1)) := hD2
  clear HPk HB1 hn2 hD2
  by_cases hv0 : v = 0
  · subst hv0
    have HOf : Hid (∀ (cs : Array Value), cs.size = 20 → cs.toList.all okLit = true → Calls Tryz.prog 29 #[.pointer (some ⟨R, 0, none⟩), .slice (some ⟨w2.heap.size, 0, none⟩) 20 20] (w2.alloc (.cells cs 9)) _) := fun cs h1 h2 => of_lit w2 R ao L' cap (0 + 1) HD2.out (by omega) cs 20 h1 (by omega) (by omega) h2
    go_wp2_with fail
    refine (HOf.out _ rfl rfl).mono ?_
    rintro e w4 ⟨y, rfl, hy, hn4, -⟩
    have HB4 : Hid (Below w.heap.size w w4) := near_new HB2.out hR hn4
    clear HOf hn4
    go_wp2_with fail
    go_ret
    exact ⟨HB4.out, y, by omega, rfl⟩
  by_cases hv1 : v = 1
  · subst hv1
    have HPk : Hid (Calls Tryz.prog 28 #[.pointer (some ⟨R, 0, none⟩), .int .i64 3] w2 (PickPost w2 R ao L' cap (0 + 1) 3)) := pick_any w2 R ao L' cap (0 + 1) 3 HD2.out (by omega) (by omega) (by omega)
    go_wp2_with fail
    refine HPk.out.mono ?_
    rintro e w3 ⟨a, rfl, ha, hn3, -, -⟩
    have HB3 : Hid (Below w.heap.size w w3) := near_new HB2.out hR hn3
    have hw : IntKind.i64.wrap (5000 + (a : Int)) = 5000 + (a : Int) := by rw [IntKind.wrap_i64]; omega
    have HM1 : Hid (Calls Tryz.prog 30 #[.string ⟨#[91]⟩, .int .i64 (5000 + (a : Int))] w3 fun e w' => ∃ x : ByteArray, e = .returned (.string x) ∧ x.size ≤ 10000 ∧ w' = w3) := by
      have := l6Many_any ⟨#[91]⟩ (5000 + a) w3 (by have : (⟨#[91]⟩ : ByteArray).size = 1 := rfl
                                                   rw [this]; omega) (by omega)
      rw [show ((5000 + a : Nat) : Int) = 5000 + (a : Int) by omega] at this; exact this
    have HM2 : Hid (Calls Tryz.prog 30 #[.string ⟨#[93]⟩, .int .i64 5000] w3 fun e w' => ∃ x : ByteArray, e = .returned (.string x) ∧ x.size ≤ 10000 ∧ w' = w3) := l6Many_any ⟨#[93]⟩ 5000 w3 (by decide) (by omega)
    clear HPk hn3
    go_wp2_with fail
    refine HM1.out.mono ?_
    rintro e w4 ⟨x1, rfl, hx1, rfl⟩
    have hs1 : (⟨#[91]⟩ ++ x1 : ByteArray).size ≤ 10001 := by rw [ByteArray.size_append]; have : (⟨#[91]⟩ : ByteArray).size = 1 := rfl; omega
    clear HM1
    go_wp2_with fail
    refine HM2.out.mono ?_
    rintro e w5 ⟨x2, rfl, hx2, rfl⟩
    have hs2 : (⟨#[91]⟩ ++ x1 ++ x2 : ByteArray).size ≤ 20001 := by rw [ByteArray.size_append]; omega
    clear HM2
    go_wp2_with fail
    go_ret
    exact ⟨HB3.out, _, by omega, rfl⟩
  · have hvi : ((v : Int) == 0) = false := by simp; omega
    have hvj : ((v : Int) == 1) = false := by simp; omega
    have HA : Hid (Calls Tryz.prog 15 #[.pointer (some ⟨R, 0, none⟩)] w2 (AnyPostT 8 w2 R ao L' cap (0 + 1) 300000)) := l5Any_any 8 R ao L' cap (0 + 1) w2 (Nat.le_refl _) HD2.out (by omega)
    go_wp2_with fail
    refine HA.out.mono ?_
    rintro e w3 ⟨hn3, p3, t, c0, c1, c2, c3, c4, hp3, hD3, rfl, hk⟩
    have hz3 := hn3.size
    have HB3 : Hid (Below w.heap.size w w3) := near_new HB2.out hR hn3
    have HW : Hid (Calls Tryz.prog 6 #[.agg #[c0, c1, c2, c3, c4]] w3 _) := specWrite_any 8 _ t c0 c1 c2 c3 c4 w3 hk (fun b hb => hb.2)
    have HD3 : Hid (Dr w3 R ao L' cap p3) := hD3
    have hsz := textF_10000 8 t
    clear HA HB2 HD2 hn3 hD3 hk
    go_wp2_with fail
    refine HW.out.mono ?_
    rintro e w4 ⟨rfl, hb4⟩
    have HB4 : Hid (Below w.heap.size w w4) := below_step HB3.out HB3.out.size hb4
    have HD4 : Hid (Dr w4 R ao L' cap p3) := HD3.out.same hb4
    have HPk : Hid (Calls Tryz.prog 28 #[.pointer (some ⟨R, 0, none⟩), .int .i64 3] w4 (PickPost w4 R ao L' cap p3 3)) := pick_any w4 R ao L' cap p3 3 HD4.out (by omega) (by omega) (by omega)
    generalize textF 8 t = tx at *
    clear HW HB3 HD3 hb4 HD4
    go_wp2_with fail
    refine HPk.out.mono ?_
    rintro e w5 ⟨z, rfl, hz, hn5, hD5, -⟩
    have HB5 : Hid (Below w.heap.size w w5) := near_new HB4.out hR hn5
    by_cases hz0 : z = 0
    · subst hz0
      have HBd : Hid (Calls Tryz.prog 31 #[.pointer (some ⟨R, 0, none⟩), .string tx] w5 _) := l5Bend_any w5 R ao L' cap (p3 + 1) tx hD5 (by omega) (by omega)
      clear HPk HB4 hn5 hD5
      go_wp2_with fail
      refine HBd.out.mono ?_
      rintro e w6 ⟨x, rfl, hx, hn6, -⟩
      have HB6 : Hid (Below w.heap.size w w6) := near_new HB5.out hR hn6
      clear HBd hn6
      go_wp2_with fail
      go_ret
      exact ⟨HB6.out, x, by omega, rfl⟩
    · have hzi : ((z : Int) == 0) = false := by simp; omega
      clear HPk HB4 hn5 hD5
      go_wp2_with fail
      go_ret
      exact ⟨HB5.out, tx, by omega, rfl⟩

end Go.Proofs.YtnpckelaileooaaGreatDoor
