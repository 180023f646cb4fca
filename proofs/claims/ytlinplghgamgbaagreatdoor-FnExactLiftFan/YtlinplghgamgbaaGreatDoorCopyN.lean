/-
  What the program copies out: copyNames.
-/
import Derived.Test.YtlinplghgamgbaaGreatDoorRow1
import Derived.Test.YtlinplghgamgbaaGreatDoorShelf
import Derived.Lib.Hide
namespace Go.Proofs.YtlinplghgamgbaaGreatDoor
open Go.RowKit

theorem Tryz.info_strO : (Tryz.prog.info? 9).map (fun i => (i.zero, i.size, i.bytes)) = some (some (.string ⟨#[]⟩), 1, 16) := by kernel_rfl
set_option maxHeartbeats 400000 in
theorem stringsClone_any (s : ByteArray) (w : World) (h : s.size ≤ 10000) : Calls Tryz.prog 116 #[.string s] w fun e w' => e = .returned (.string s) ∧ Below w.heap.size w w' := by
  have HC : Hid (Calls Tryz.prog 130 _ _ _) := Tryz.stringslite_Clone s w (by omega)
  go_enter Tryz.func116, Tryz.ntmps116
  go_wp2_with fail
  refine HC.out.mono ?_
  rintro e w1 ⟨rfl, hb⟩
  clear HC
  go_wp2_with fail
  go_ret
  exact ⟨rfl, hb⟩

set_option maxRecDepth 100000 in
set_option maxHeartbeats 2000000 in
theorem copyNames_any (S : Nat → Prop) (l : List ByteArray) (v : Value) (w : World) (hl : StrsIn S w l v) (hB : ∀ b, S b → b < w.heap.size) (hlen : l.length ≤ 10000) (hs : ∀ s, s ∈ l → s.size ≤ 10000) :
    Calls Tryz.prog 98 #[v] w fun e w' => ∃ v', e = .returned v' ∧ w'.ownsRow w.heap.size 9 1 v' l.length (l.map .string) ∧ Below w.heap.size w w' := by
  obtain ⟨ao, cap, rfl, -, -, hcell⟩ := hl
  obtain ⟨i0, hi, hzz0, hzz1, hzz2⟩ := info_parts Tryz.info_strO
  have HI : Hid (_ ∧ _ ∧ _ ∧ _) := ⟨hi, hzz0, hzz1, hzz2⟩
  have HS := hidF hs
  clear hi hzz0 hzz1 hzz2 hs
  go_enter Tryz.func98, Tryz.ntmps98
  go_wp2_with fail
  go_loopw [3, 8] (fun v i wr => ∃ k : Nat, k ≤ l.length ∧ i = .int .i64 k ∧ wr.ownsRow w.heap.size 9 1 v k ((l.take k).map .string) ∧ Below w.heap.size w wr) (fun _ i _ => l.length - (intOf i).toNat)
  case atStart => exact ⟨0, Nat.zero_le _, rfl, World.ownsRow_nil _ _ _ _, Below.refl _ _⟩
  case round =>
    obtain ⟨k, hk, rfl, hown, hbel⟩ := hrel
    obtain ⟨va, vc, rfl⟩ := r1_shape hown
    have hzr := hbel.size
    have HX := hidF hown
    clear hown
    by_cases hlt : k < l.length
    · obtain ⟨b, off, rfl, hbB, hcl⟩ := hcell (by intro h; rw [h] at hlt; simp at hlt)
      have f0 := (hbel.cell (p := ⟨b, off + k, none⟩) (hB b hbB)).trans (hcl k hlt)
      have HC : Hid (Calls Tryz.prog 116 _ _ _) := stringsClone_any l[k] wr (HS.out _ (List.getElem_mem hlt))
      have HT : Hid ((l.take (k + 1)).map Value.string = (l.take k).map .string ++ [.string l[k]]) := by show _ = _; rw [List.take_succ_eq_append_getElem hlt, List.map_append]; rfl
      clear hcell hcl
      generalize l[k] = nm at *
      go_wp2_with fail
      refine HC.out.mono ?_
      rintro e w2 ⟨rfl, hb2⟩
      have hsz2 := hb2.size
      have HO2 : Hid (w2.ownsRow w.heap.size 9 1 (.slice va k vc) k ((l.take k).map .string)) := r1_keep HX.out (fun g' hg' => hb2.block g' (r1_lt HX.out g' hg').2)
      have HB2 : Hid (Below w.heap.size w w2) := hbel.trans (hb2.mono hzr)
      clear hb2 f0 HC
      go_wp2_with (at_builtin; refine wpList_append_lies _ rfl (.tmp 12) (.tmp 15) 22 rfl w.heap.size 9 i0 _ 1 16 Tryz.underlying22 HI.out.1 HI.out.2.1 HI.out.2.2.1 HI.out.2.2.2 rfl (by decide) (.slice va k vc) k ((l.take k).map .string) rfl (HO2.out.alloc _) ⟨w2.heap.size, 0, none⟩ 1 1 [.string nm] rfl rfl (World.news_of_block (heap_alloc_new w2 _)) (by simp [Value.oneCell']) (by decide) (by unfold maxLen; omega) (by omega) (by simp; omega) (w2.heap.size + 1) (by simp) ?_; intro g cap w3 hown3 hgrow3 hat3 hlt3; refine Hid.out ?_)
      refine Lib.hid ?_
      have HF : Hid (w3.ownsRow w.heap.size 9 1 (.slice (some ⟨g, 0, none⟩) (k + 1) cap) (k + 1) ((l.take (k + 1)).map .string)) := by
        show w3.ownsRow _ _ _ _ _ _
        rw [HT.out]; exact hown3
      have HB3 : Hid (Below w.heap.size w w3) := (HB2.out.alloc (by omega) (.cells #[.string nm] 9)).grown hgrow3 (by simp; omega) (fun q hq => (r1_lt HO2.out q hq).1)
      clear hown3 hgrow3 hat3 HO2 HX HB2
      go_wp2_with fail
      go_roundw
      case rel => exact ⟨k + 1, by omega, by go_num, HF.out, HB3.out⟩
      case measure => simp [intOf]; omega
    · have hkl : k = l.length := by omega
      have HP : Hid (wr.ownsRow w.heap.size 9 1 (.slice va k vc) l.length (l.map .string)) := by
        have h1 := HX.out
        rw [hkl, List.take_length] at h1
        rw [hkl]; exact h1
      clear hkl hcell HX
      go_wp2_with fail
      go_ret
      exact ⟨_, rfl, HP.out, hbel⟩

theorem sumL_snoc {α : Type} (f : α → Nat) (l : List α) (x : α) : sumL f (l ++ [x]) = sumL f l + f x := by
  induction l with
  | nil => simp [sumL]
  | cons a r ih => simp only [List.cons_append, sumL, ih]; omega

end Go.Proofs.YtlinplghgamgbaaGreatDoor
