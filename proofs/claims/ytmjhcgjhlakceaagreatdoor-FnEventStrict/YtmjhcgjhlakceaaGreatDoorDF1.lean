import Derived.Test.YtmjhcgjhlakceaaGreatDoorB26
import Derived.Test.YtmjhcgjhlakceaaGreatDoorB10
import Derived.Lib.Hide
namespace Go.Proofs.YtmjhcgjhlakceaaGreatDoor
open Go.RowKit
def oneT (m : Nat) : T (m + 1) := (⟨1, 7, ByteArray.empty, [], []⟩ : Nd (T m))
def fourT (m : Nat) : T (m + 2) := (⟨4, 0, ByteArray.empty, [], [oneT m, oneT m, oneT m, oneT m]⟩ : Nd (T (m + 1)))
theorem four_in {S : Nat -> Prop} {w : World} {B : Nat} (m : Nat) (hS : S B) (h : w.heap[B]? = some (.cells #[.int .i64 1, .int .i64 7, .string ⟨#[]⟩, .slice none 0 0, .slice none 0 0, .int .i64 1, .int .i64 7, .string ⟨#[]⟩, .slice none 0 0, .slice none 0 0, .int .i64 1, .int .i64 7, .string ⟨#[]⟩, .slice none 0 0, .slice none 0 0, .int .i64 1, .int .i64 7, .string ⟨#[]⟩, .slice none 0 0, .slice none 0 0] 27 (0, 0))) :
  TreeIn S w (m + 2) (fourT m) (.int .i64 4) (.int .i64 0) (.string ByteArray.empty) (.slice none 0 0) (.slice (some ⟨B, 0, none⟩) 4 4) := by
 refine ⟨rfl, rfl, rfl, by simp [fourT, maxLen], by rfl, by rfl, ⟨none, 0, rfl, by simp [fourT, maxLen], fun s h => (by cases h), fun h => absurd rfl h⟩, ⟨some ⟨B, 0, none⟩, 4, rfl, by simp [fourT, maxLen], fun _ => ⟨B, 0, rfl, hS, fun i hi => ?_⟩⟩⟩
 have hi4 : i < 4 := hi
 have hl : TreeIn S w (m + 1) (oneT m) (.int .i64 1) (.int .i64 7) (.string ByteArray.empty) (.slice none 0 0) (.slice none 0 0) := leafDT_in S w m 1 7 ByteArray.empty (by rfl) (by rfl) (by simp)
 have hc : i = 0 ∨ i = 1 ∨ i = 2 ∨ i = 3 := by omega
 rcases hc with rfl | rfl | rfl | rfl
 all_goals exact ⟨_, _, _, _, _, by simp [World.cell?, h], by simp [World.cell?, h], by simp [World.cell?, h]; rfl, by simp [World.cell?, h], by simp [World.cell?, h], hl⟩
def listT (m k : Nat) (t : T (m + 2)) : T (m + 3) := (⟨4, 0, ByteArray.empty, [], List.replicate k t⟩ : Nd (T (m + 2)))
def fullT (m l k : Nat) : T (m + 4) := (⟨5, 0, ByteArray.empty, [⟨#[97]⟩, ⟨#[98]⟩], [listT m l (fourT m), listT m k (oneT (m + 1))]⟩ : Nd (T (m + 3)))
theorem list_in {S : Nat -> Prop} {w : World} {m k : Nat} {t : T (m + 2)} {kv : Value} (h : RowIn S w (TreeIn S w (m + 2)) (List.replicate k t) kv) : TreeIn S w (m + 3) (listT m k t) (.int .i64 4) (.int .i64 0) (.string ⟨#[]⟩) (.slice none 0 0) kv :=
 ⟨rfl, rfl, rfl, by simp [listT, maxLen], by rfl, by rfl, ⟨none, 0, rfl, by simp [listT, maxLen], fun s h => (by cases h), fun h => absurd rfl h⟩, h⟩
theorem full_in {S : Nat -> Prop} {w : World} {m l k bn bk : Nat} {ka kb : Value} (hA : RowIn S w (TreeIn S w (m + 2)) (List.replicate l (fourT m)) ka) (hB : RowIn S w (TreeIn S w (m + 2)) (List.replicate k (oneT (m + 1))) kb) (hbn : S bn) (hbk : S bk)
  (hn : w.heap[bn]? = some (.cells #[.string ⟨#[97]⟩, .string ⟨#[98]⟩] 9 (0, 0))) (hk : w.heap[bk]? = some (.cells #[.int .i64 4, .int .i64 0, .string ⟨#[]⟩, .slice none 0 0, ka, .int .i64 4, .int .i64 0, .string ⟨#[]⟩, .slice none 0 0, kb] 27 (0, 0))) :
  TreeIn S w (m + 4) (fullT m l k) (.int .i64 5) (.int .i64 0) (.string ⟨#[]⟩) (.slice (some ⟨bn, 0, none⟩) 2 2) (.slice (some ⟨bk, 0, none⟩) 2 2) := by
 refine ⟨rfl, rfl, rfl, by simp [fullT, maxLen], by rfl, by rfl, ⟨some ⟨bn, 0, none⟩, 2, rfl, by simp [fullT, maxLen], fun s h => ?_, fun _ => ⟨bn, 0, rfl, hbn, fun i hi => ?_⟩⟩, ⟨some ⟨bk, 0, none⟩, 2, rfl, by simp [fullT, maxLen], fun _ => ⟨bk, 0, rfl, hbk, fun i hi => ?_⟩⟩⟩
 ·have hs : s = ⟨#[97]⟩ ∨ s = ⟨#[98]⟩ := by simpa [fullT] using h
  rcases hs with rfl | rfl <;> decide
 ·have hi2 : i < 2 := hi
  have hc : i = 0 ∨ i = 1 := by omega
  rcases hc with rfl | rfl
  ·simp [World.cell?, hn, fullT]
  ·simp [World.cell?, hn, fullT]
 ·have hi2 : i < 2 := hi
  have hc : i = 0 ∨ i = 1 := by omega
  rcases hc with rfl | rfl
  ·exact ⟨_, _, _, _, _, by simp [World.cell?, hk], by simp [World.cell?, hk], by simp [World.cell?, hk], by simp [World.cell?, hk], by simp [World.cell?, hk], list_in hA⟩
  ·exact ⟨_, _, _, _, _, by simp [World.cell?, hk], by simp [World.cell?, hk], by simp [World.cell?, hk], by simp [World.cell?, hk], by simp [World.cell?, hk], list_in hB⟩
theorem full_dep (m l k : Nat) (hl : l <= 1000) (hk : k <= 1000) : depT (m + 4) (fullT m l k) 4 := by
 have hone : ∀ m d, depT (m + 1) (oneT m) (d + 1) := fun m d => depT.leaf m 1 7 ByteArray.empty d
 have hfour : depT (m + 2) (fourT m) 2 := ⟨by omega, by simp [fourT], fun s h => (by cases h), by simp [fourT], fun x hx => by
  have : x = oneT m := by simpa [fourT] using hx
  subst this; exact hone m 0⟩
 refine ⟨by omega, by simp [fullT], fun s h => ?_, by simp [fullT], fun x hx => ?_⟩
 ·have hs : s = ⟨#[97]⟩ ∨ s = ⟨#[98]⟩ := by simpa [fullT] using h
  rcases hs with rfl | rfl <;> decide
 ·have hx2 : x = listT m l (fourT m) ∨ x = listT m k (oneT (m + 1)) := by simpa [fullT] using hx
  rcases hx2 with rfl | rfl
  ·exact ⟨by omega, by simp [listT], fun s h => (by cases h), by simp [listT]; exact hl, fun y hy => by
    have : y = fourT m := List.eq_of_mem_replicate hy
    subst this; exact hfour⟩
  ·exact ⟨by omega, by simp [listT], fun s h => (by cases h), by simp [listT]; exact hk, fun y hy => by
    have : y = oneT (m + 1) := List.eq_of_mem_replicate hy
    subst this; exact hone (m + 1) 1⟩
theorem five_cells {w : World} {N : Nat} {a b c d e : Value} (h : w.heap[N]? = some (.cells #[a, b, c, d, e] 27 (0, 0))) :
  (w.cell? ⟨N, 0, none⟩ = some a /\ w.cell? ⟨N, 1, none⟩ = some b /\ w.cell? ⟨N, 2, none⟩ = some c /\ w.cell? ⟨N, 3, none⟩ = some d /\ w.cell? ⟨N, 4, none⟩ = some e) /\
   w.frozen? ⟨N, 0, none⟩ = false /\ w.frozen? ⟨N, 1, none⟩ = false /\ w.frozen? ⟨N, 2, none⟩ = false /\ w.frozen? ⟨N, 3, none⟩ = false /\ w.frozen? ⟨N, 4, none⟩ = false := by
 refine ⟨⟨?_, ?_, ?_, ?_, ?_⟩, ?_, ?_, ?_, ?_, ?_⟩ <;> simp [World.cell?, World.frozen?, h]
set_option maxRecDepth 20000 in
set_option maxHeartbeats 4000000 in
theorem l5Full_any (n : Nat) (w : World) (hn1 : 103 <= n) (hn : n <= 1000) : Calls Tryz.prog 46 #[.int .i64 (n : Int)] w (MadeT 4 w) := by
 obtain ⟨W5, hW5⟩ : ∃ W5, W5 = ((((w.alloc (.cells #[.int .i64 0, .int .i64 0, .string ⟨#[]⟩, .slice none 0 0, .slice none 0 0] 27)).alloc (.cells #[.int .i64 1, .int .i64 7, .string ⟨#[]⟩, .slice none 0 0, .slice none 0 0] 27)).alloc (.cells #[.int .i64 1, .int .i64 7, .string ⟨#[]⟩, .slice none 0 0, .slice none 0 0, .int .i64 1, .int .i64 7, .string ⟨#[]⟩, .slice none 0 0, .slice none 0 0, .int .i64 1, .int .i64 7, .string ⟨#[]⟩, .slice none 0 0, .slice none 0 0, .int .i64 1, .int .i64 7, .string ⟨#[]⟩, .slice none 0 0, .slice none 0 0] 27)).alloc (.cells #[.int .i64 4, .int .i64 0, .string ⟨#[]⟩, .slice none 0 0, .slice (some ⟨w.heap.size + 2, 0, none⟩) 4 4] 27)).alloc (.cells #[.int .i64 4, .int .i64 0, .string ⟨#[]⟩, .slice none 0 0, .slice none 0 0] 27) := ⟨_, rfl⟩
 have hz5 : W5.heap.size = w.heap.size + 5 := by rw [hW5]; simp
 have HW : Hid (Below w.heap.size w W5 /\ W5.heap[w.heap.size]? = some (.cells #[.int .i64 0, .int .i64 0, .string ⟨#[]⟩, .slice none 0 0, .slice none 0 0] 27 (0, 0)) /\ W5.heap[w.heap.size + 1]? = some (.cells #[.int .i64 1, .int .i64 7, .string ⟨#[]⟩, .slice none 0 0, .slice none 0 0] 27 (0, 0)) /\ W5.heap[w.heap.size + 2]? = some (.cells #[.int .i64 1, .int .i64 7, .string ⟨#[]⟩, .slice none 0 0, .slice none 0 0, .int .i64 1, .int .i64 7, .string ⟨#[]⟩, .slice none 0 0, .slice none 0 0, .int .i64 1, .int .i64 7, .string ⟨#[]⟩, .slice none 0 0, .slice none 0 0, .int .i64 1, .int .i64 7, .string ⟨#[]⟩, .slice none 0 0, .slice none 0 0] 27 (0, 0)) /\
   W5.heap[w.heap.size + 3]? = some (.cells #[.int .i64 4, .int .i64 0, .string ⟨#[]⟩, .slice none 0 0, .slice (some ⟨w.heap.size + 2, 0, none⟩) 4 4] 27 (0, 0)) /\ W5.heap[w.heap.size + 4]? = some (.cells #[.int .i64 4, .int .i64 0, .string ⟨#[]⟩, .slice none 0 0, .slice none 0 0] 27 (0, 0))) := by
  have new : ∀ (W : World) (o : List Value) (N : Nat), W.heap.size = N -> (W.alloc (.cells o.toArray 27)).heap[N]? = some (.cells o.toArray 27 (0, 0)) := fun W o N h => by rw [<- h]; exact heap_alloc_new _ _
  have old : ∀ (W : World) (o : Obj) (N : Nat), N < W.heap.size -> (W.alloc o).heap[N]? = W.heap[N]? := fun W o N h => Below.heap_alloc _ _ _ h
  refine ⟨?_, ?_, ?_, ?_, ?_, ?_⟩
  ·rw [hW5]; exact (((((Below.refl _ _).alloc (Nat.le_refl _) _).alloc (by simp) _).alloc (by simp; omega) _).alloc (by simp; omega) _).alloc (by simp; omega) _
  ·rw [hW5, old _ _ _ (by simp <;> omega), old _ _ _ (by simp <;> omega), old _ _ _ (by simp <;> omega), old _ _ _ (by simp)]; exact new _ [_, _, _, _, _] _ rfl
  ·rw [hW5, old _ _ _ (by simp <;> omega), old _ _ _ (by simp <;> omega), old _ _ _ (by simp)]; exact new _ [_, _, _, _, _] _ (by simp)
  ·rw [hW5, old _ _ _ (by simp <;> omega), old _ _ _ (by simp)]; exact new _ [_, _, _, _, _, _, _, _, _, _, _, _, _, _, _, _, _, _, _, _] _ (by simp)
  ·rw [hW5, old _ _ _ (by simp)]; exact new _ [_, _, _, _, _] _ (by simp)
  ·rw [hW5]; exact new _ [_, _, _, _, _] _ (by simp)
 go_enter Tryz.func46, Tryz.ntmps46
 go_wp2_with fail
 rw [<- hW5]
 clear hW5
 generalize hXe : w.heap.size + 4 = X at *
 obtain ⟨ik0, hi0, hy0, hy1, hyb⟩ := info_parts Tryz.info_treeR
 have HIK : Hid (_ /\ _ /\ _ /\ _) := ⟨hi0, hy0, hy1, hyb⟩
 clear hi0 hy0 hy1 hyb
 go_loopw [6] (fun iv wr => ∃ (ln : Nat) (ka : Option Addr) (kc : Nat), ln <= 20 /\ iv = .int .i64 ln /\ Fill X W5 wr (.int .i64 4) (.int .i64 0) (.string ⟨#[]⟩) (.slice none 0 0) (.int .i64 4) (.int .i64 0) (.string ⟨#[]⟩) (.slice none 0 0) (.slice (some ⟨w.heap.size + 2, 0, none⟩) 4 4) ln (.slice ka ln kc)) (fun iv _ => 20 - (intOf iv).toNat)
 case atStart => exact ⟨0, none, 0, by omega, rfl, Fill.start _ _ _ _ _ HW.out.2.2.2.2.2⟩
 case round =>
  obtain ⟨ln, ka, kc, hln, rfl, hF⟩ := hrel
  have hzr := hF.size
  have HF := hidF hF
  by_cases hlt : ln < 20
  ·have hlti : (ln : Int) < 20 := by omega
   have x4 := hF.cells.1.2.2.2.2
   obtain ⟨⟨f0, f1, f2, f3, f4⟩, -⟩ := five_cells ((hF.block (w.heap.size + 3) (by omega) (by omega)).trans HW.out.2.2.2.2.1)
   clear hF
   go_wp2_with (at_builtin; refine wpList_append_lies _ rfl (.tmp 22) (.tmp 24) 25 rfl (X + 1) 27 ik0 _ 5 80 Tryz.underlying25 HIK.out.1 HIK.out.2.1 HIK.out.2.2.1 HIK.out.2.2.2 rfl (by decide) (.slice ka ln kc) ln _ rfl (HF.out.row.alloc _) ⟨wr.heap.size, 0, none⟩ 1 1 [.int .i64 4, .int .i64 0, .string ⟨#[]⟩, .slice none 0 0, .slice (some ⟨w.heap.size + 2, 0, none⟩) 4 4] rfl rfl (World.news_of_block (heap_alloc_new wr _)) (by simp [Value.oneCell']) (by decide) (by unfold maxLen; omega) (by omega) (by simp; omega) (wr.heap.size + 1) (by simp) ?_; intro g2 cap2 w9 hown2 hgrow2 hat2 hlt2; refine Hid.out ?_)
   refine Lib.hid ?_
   have hF9 := HF.out.more (by omega) hown2 hgrow2 hat2
   have hb9 := ((hgrow2.block X (by simp; omega) (fun e => by have := HF.out.new _ e.symm; omega)).trans (Below.heap_alloc _ _ _ (by omega))).trans HF.out.box
   have x4'' : w9.cell? ⟨X, 4, none⟩ = some (.slice ka ln kc) := (by simp [World.cell?, hb9])
   have xf'' : w9.frozen? ⟨X, 4, none⟩ = false := (by simp [World.frozen?, hb9])
   have HF9 : Hid _ := hF9
   clear hF9 hown2 hgrow2 hat2 hlt2 hb9 x4 f0 f1 f2 f3 f4
   go_wp2_with fail
   go_roundw
   case rel => exact ⟨ln + 1, some ⟨g2, 0, none⟩, cap2, by omega, by go_num, HF9.out⟩
   case measure => simp [intOf]; omega
  ·have hlti : ¬ (ln : Int) < 20 := by omega
   obtain ⟨H1, rfl⟩ : ∃ H1, H1 = wr := ⟨_, rfl⟩
   obtain ⟨W6, hW6⟩ : ∃ W6, W6 = H1.alloc (.cells #[.int .i64 4, .int .i64 0, .string ⟨#[]⟩, .slice none 0 0, .slice none 0 0] 27) := ⟨_, rfl⟩
   have hz6 : W6.heap.size = H1.heap.size + 1 := by rw [hW6]; simp
   have hb6 : Below H1.heap.size H1 W6 := by rw [hW6]; exact (Below.refl _ _).alloc (Nat.le_refl _) _
   have HX2 : Hid (Below H1.heap.size H1 W6 /\ W6.heap[H1.heap.size]? = some (.cells #[.int .i64 4, .int .i64 0, .string ⟨#[]⟩, .slice none 0 0, .slice none 0 0] 27 (0, 0))) := ⟨hb6, by rw [hW6]; exact heap_alloc_new _ _⟩
   have hnp : IntKind.i64.wrap (103 : Int) = 103 := by rw [IntKind.wrap_i64]; omega
   clear hF hb6 hlt hnp
   go_wp2_with fail
   rw [<- hW6]
   clear hW6
   generalize hX2e : H1.heap.size = X2 at *
   go_loopw [8] (fun iv wv => ∃ (i j : Nat) (ka2 : Option Addr) (kc2 : Nat), i = 103 + j /\ i <= n /\ iv = .int .i64 i /\ Fill X2 W6 wv (.int .i64 4) (.int .i64 0) (.string ⟨#[]⟩) (.slice none 0 0) (.int .i64 1) (.int .i64 7) (.string ⟨#[]⟩) (.slice none 0 0) (.slice none 0 0) j (.slice ka2 j kc2)) (fun iv _ => n - (intOf iv).toNat)
   case atStart => exact ⟨103, 0, none, 0, rfl, by omega, rfl, Fill.start _ _ _ _ _ HX2.out.2⟩
   case round =>
    obtain ⟨i, j, ka2, kc2, hij, hin, rfl, hG⟩ := hrel
    have HIJ : Hid (i = 103 + j) := hij
    have hjn : j <= 900 := by omega
    clear hij
    have hzv := hG.size
    have HG := hidF hG
    by_cases hlt : i < n
    ·have hltj : (i : Int) < (n : Int) := by omega
     have x4 := hG.cells.1.2.2.2.2
     obtain ⟨⟨f0, f1, f2, f3, f4⟩, -⟩ := five_cells ((hG.block (w.heap.size + 1) (by omega) (by omega)).trans ((HX2.out.1.block _ (by omega)).trans ((HF.out.block (w.heap.size + 1) (by omega) (by omega)).trans HW.out.2.2.1)))
     clear hG
     go_wp2_with (at_builtin; refine wpList_append_lies _ rfl (.tmp 34) (.tmp 36) 25 rfl (X2 + 1) 27 ik0 _ 5 80 Tryz.underlying25 HIK.out.1 HIK.out.2.1 HIK.out.2.2.1 HIK.out.2.2.2 rfl (by decide) (.slice ka2 j kc2) j _ rfl (HG.out.row.alloc _) ⟨wr.heap.size, 0, none⟩ 1 1 [.int .i64 1, .int .i64 7, .string ⟨#[]⟩, .slice none 0 0, .slice none 0 0] rfl rfl (World.news_of_block (heap_alloc_new wr _)) (by simp [Value.oneCell']) (by decide) (by unfold maxLen; omega) (by omega) (by simp; omega) (wr.heap.size + 1) (by simp) ?_; intro g2 cap2 w9 hown2 hgrow2 hat2 hlt2; refine Hid.out ?_)
     refine Lib.hid ?_
     have hG9 := HG.out.more (by omega) hown2 hgrow2 hat2
     have hb9 := ((hgrow2.block X2 (by simp; omega) (fun e => by have := HG.out.new _ e.symm; omega)).trans (Below.heap_alloc _ _ _ (by omega))).trans HG.out.box
     have x4'' : w9.cell? ⟨X2, 4, none⟩ = some (.slice ka2 j kc2) := (by simp [World.cell?, hb9])
     have xf'' : w9.frozen? ⟨X2, 4, none⟩ = false := (by simp [World.frozen?, hb9])
     have HG9 := hidF hG9
     clear hG9 hown2 hgrow2 hat2 hlt2 hb9 x4 f0 f1 f2 f3 f4
     go_wp2_with fail
     go_roundw
     case rel => exact ⟨i + 1, j + 1, some ⟨g2, 0, none⟩, cap2, by rw [HIJ.out]; omega, by omega, by go_num, HG9.out⟩
     case measure => simp [intOf]; omega
    ·have hltj : ¬ (i : Int) < (n : Int) := by omega
     obtain ⟨Wn, hWn⟩ : ∃ Wn, Wn = wr.alloc (.cells #[.string ⟨#[97]⟩, .string ⟨#[98]⟩] 9) := ⟨_, rfl⟩
     have hzn : Wn.heap.size = wr.heap.size + 1 := by rw [hWn]; simp
     have hbn : Below wr.heap.size wr Wn := by rw [hWn]; exact (Below.refl _ _).alloc (Nat.le_refl _) _
     have hnn : Wn.heap[wr.heap.size]? = some (.cells #[.string ⟨#[97]⟩, .string ⟨#[98]⟩] 9 (0, 0)) := by rw [hWn]; exact heap_alloc_new _ _
     obtain ⟨Wk, hWk⟩ : ∃ Wk, Wk = Wn.alloc (.cells #[.int .i64 4, .int .i64 0, .string ⟨#[]⟩, .slice none 0 0, .slice ka ln kc, .int .i64 4, .int .i64 0, .string ⟨#[]⟩, .slice none 0 0, .slice ka2 j kc2] 27) := ⟨_, rfl⟩
     have hzk : Wk.heap.size = wr.heap.size + 2 := by rw [hWk]; simp [hzn]
     have hbk : Below Wn.heap.size Wn Wk := by rw [hWk]; exact (Below.refl _ _).alloc (Nat.le_refl _) _
     have hkk : Wk.heap[wr.heap.size + 1]? = some (.cells #[.int .i64 4, .int .i64 0, .string ⟨#[]⟩, .slice none 0 0, .slice ka ln kc, .int .i64 4, .int .i64 0, .string ⟨#[]⟩, .slice none 0 0, .slice ka2 j kc2] 27 (0, 0)) := by rw [hWk, <- hzn]; exact heap_alloc_new _ _
     have hold : ∀ b, b < X2 -> wr.heap[b]? = H1.heap[b]? := fun b hb => (hG.block b (by omega) (by omega)).trans (HX2.out.1.block b hb)
     have hlow : ∀ b, b < W5.heap.size -> b ≠ X -> wr.heap[b]? = W5.heap[b]? := fun b hb hne => (hold b (by omega)).trans (HF.out.block b hb hne)
     obtain ⟨⟨x0, x1, x2, x3, x4⟩, -⟩ := five_cells ((hbn.block X (by omega)).trans ((hold X (by omega)).trans HF.out.box))
     obtain ⟨⟨y0, y1, y2, y3, y4⟩, -⟩ := five_cells ((hbn.block X2 (by omega)).trans hG.box)
     obtain ⟨⟨z0, z1, z2, z3, z4⟩, u0, u1, u2, u3, u4⟩ := five_cells ((hbk.block w.heap.size (by omega)).trans ((hbn.block w.heap.size (by omega)).trans ((hlow w.heap.size (by omega) (by omega)).trans HW.out.2.1)))
     have HP : Hid (MadeT 4 w (.returned (.agg #[.int .i64 5, .int .i64 0, .string ⟨#[]⟩, .slice (some ⟨wr.heap.size, 0, none⟩) 2 2, .slice (some ⟨wr.heap.size + 1, 0, none⟩) 2 2])) (put5 Wk w.heap.size 0 (.int .i64 5) (.int .i64 0) (.string ⟨#[]⟩) (.slice (some ⟨wr.heap.size, 0, none⟩) 2 2) (.slice (some ⟨wr.heap.size + 1, 0, none⟩) 2 2))) := by
      have qq : ∀ b, b ≠ w.heap.size -> (put5 Wk w.heap.size 0 (.int .i64 5) (.int .i64 0) (.string ⟨#[]⟩) (.slice (some ⟨wr.heap.size, 0, none⟩) 2 2) (.slice (some ⟨wr.heap.size + 1, 0, none⟩) 2 2)).heap[b]? = Wk.heap[b]? := fun b h => put5_other h
      have hzp : (put5 Wk w.heap.size 0 (.int .i64 5) (.int .i64 0) (.string ⟨#[]⟩) (.slice (some ⟨wr.heap.size, 0, none⟩) 2 2) (.slice (some ⟨wr.heap.size + 1, 0, none⟩) 2 2)).heap.size = Wk.heap.size := put5_size
      have hbw : Below w.heap.size w Wk := by
       refine ⟨?_, ?_, ?_, ?_, ?_⟩
       ·rw [hbk.os, hbn.os, hG.os, HX2.out.1.os, HF.out.os]; exact HW.out.1.os
       ·rw [hbk.tape, hbn.tape, hG.tape, HX2.out.1.tape, HF.out.tape]; exact HW.out.1.tape
       ·rw [hbk.output, hbn.output, hG.output, HX2.out.1.output, HF.out.output]; exact HW.out.1.output
       ·omega
       ·intro b hb
        rw [hbk.block b (by omega), hbn.block b (by omega), hlow b (by omega) (by omega)]; exact HW.out.1.block b hb
      refine ⟨put5_below hbw (Nat.le_refl _), _, _, _, _, _, rfl, fun m hm => ?_⟩
      obtain ⟨m', rfl⟩ : ∃ m', m = m' + 4 := ⟨m - 4, by omega⟩
      refine ⟨fullT m' ln j, full_in ?_ ?_ ⟨by omega, by rw [hzp]; omega⟩ ⟨by omega, by rw [hzp]; omega⟩ ((qq _ (by omega)).trans ((hbk.block _ (by omega)).trans hnn)) ((qq _ (by omega)).trans hkk), full_dep m' ln j (by omega) (by omega)⟩
      ·have hA := HF.out.row_in (S := fun b => w.heap.size + 1 <= b /\ b < H1.heap.size) (t := fourT m') (by omega) (fun b h1 h2 => ⟨by omega, h2⟩) (four_in m' ⟨by omega, by omega⟩ ((HF.out.block _ (by omega) (by omega)).trans HW.out.2.2.2.1))
       exact hA.keepT (fun b hb => (qq b (by omega)).trans ((hbk.block b (by omega)).trans ((hbn.block b (by omega)).trans (hold b (by omega))))) (fun b hb => ⟨by omega, by rw [hzp]; omega⟩)
      ·have hB := hG.row_in (S := fun b => w.heap.size + 1 <= b /\ b < wr.heap.size) (n := m' + 2) (t := oneT (m' + 1)) (by omega) (fun b h1 h2 => ⟨by omega, h2⟩) (leafDT_in _ _ (m' + 1) 1 7 ByteArray.empty (by rfl) (by rfl) (by simp))
       exact hB.keepT (fun b hb => (qq b (by omega)).trans ((hbk.block b (by omega)).trans (hbn.block b (by omega)))) (fun b hb => ⟨by omega, by rw [hzp]; omega⟩)
     clear hG HG hbn hnn hbk hkk hold hlow HF HX2 HW
     subst hWk hWn
     go_wp2_with fail
     refine bodyPost_ret (v := .agg #[.int .i64 5, .int .i64 0, .string ⟨#[]⟩, .slice (some ⟨wr.heap.size, 0, none⟩) 2 2, .slice (some ⟨wr.heap.size + 1, 0, none⟩) 2 2]) (by simp [results, Tryz.results46, go_sem, z0, z1, z2, z3, z4]) rfl ?_
     exact HP.out
end Go.Proofs.YtmjhcgjhlakceaaGreatDoor
