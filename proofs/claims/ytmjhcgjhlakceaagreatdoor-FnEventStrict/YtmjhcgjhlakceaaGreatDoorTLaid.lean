import Derived.Test.YtmjhcgjhlakceaaGreatDoorB29
import Derived.Test.YtmjhcgjhlakceaaGreatDoorRows
import Derived.Test.YtmjhcgjhlakceaaGreatDoorChecked
import Derived.ProofKit
import Derived.LaidMore
import Derived.LaidLaws
import Derived.OpenShut
import Derived.WalkSmall
import Derived.Stop.Joined
import Derived.Stop.LaidErr
import Derived.Lib.LaidTab
import Derived.Lib.AppendIntMem
namespace Go.Proofs.YtmjhcgjhlakceaaGreatDoor
open Go.ChangeShapes Go.WideShapes Go.ChangeAt Go.RowKit
theorem gPow : Tryz.prog.globalNamed "internal/strconv.uint64pow10" = some 0 := by kernel_rfl
theorem gSyn : Tryz.prog.globalNamed "strconv.ErrSyntax" = some 1 := by kernel_rfl
theorem gRan : Tryz.prog.globalNamed "strconv.ErrRange" = some 2 := by kernel_rfl
theorem tPow : (Tryz.prog.globals[0]?).map (·.type) = some 177 := by kernel_rfl
theorem tSyn : (Tryz.prog.globals[1]?).map (·.type) = some 142 := by kernel_rfl
theorem tRan : (Tryz.prog.globals[2]?).map (·.type) = some 142 := by kernel_rfl
theorem cPow : Tryz.prog.cellsOf 177 = 20 := by kernel_rfl
theorem cU64 : Tryz.prog.cellsOf 164 = 1 := by kernel_rfl
theorem cErr : Tryz.prog.cellsOf 192 = 1 := by kernel_rfl
theorem cStr : Tryz.prog.cellsOf 9 = 1 := by kernel_rfl
theorem dPow : (Rows.laid_internal_strconv_uint64pow10 : DataW Unit) = Lib.tabData .u64 Lib.pow10Tab := rfl
theorem starErr : "*" ++ "errors.errorString" = "*errors.errorString" := by decide
theorem rowErr (u : TypeId) (h : Tryz.prog.typeName? 3 u = some "*errors.errorString") : u = 190 :=
 typeName_ptr_named (nm := "errors.errorString") (by rw [starErr]; kernel_rfl) (by kernel_rfl) (by decide) u (by rw [starErr]; exact h)
def laidAll : List (String × DataW Unit) := [("math/bits.deBruijn32tab", Rows.laid_math_bits_deBruijn32tab), ("math/bits.deBruijn64tab", Rows.laid_math_bits_deBruijn64tab), ("internal/strconv.uint64pow10", Rows.laid_internal_strconv_uint64pow10), ("strconv.ErrRange", Rows.laid_strconv_ErrRange), ("strconv.ErrSyntax", Rows.laid_strconv_ErrSyntax)]
theorem laidU_of {W : World} (h : laidMetH Tryz.prog laidAll W) : LaidU W.heap.size W := by
 rw [MakeChecks.laidMetH_plain _ _ _ (by kernel_rfl)] at h
 have h2 := h.tail.tail
 have h3 := h2.tail
 have h4 := h3.tail
 obtain ⟨a1, s1, hv1, -⟩ := laid_sentinel h3 gRan tRan Tryz.underlying142 rowErr Tryz.underlying190 Tryz.underlying192 rfl rfl Tryz.underlying9 cErr cStr
 obtain ⟨a2, s2, hv2, -⟩ := laid_sentinel h4 gSyn tSyn Tryz.underlying142 rowErr Tryz.underlying190 Tryz.underlying192 rfl rfl Tryz.underlying9 cErr cStr
 have hlt : ∀ {n : String} {g : Nat} {cs : Array Value}, Tryz.prog.globalNamed n = some g -> W.var? Tryz.prog n = some cs -> g < W.heap.size := by
  intro n g cs hg hv
  unfold World.var? at hv
  rw [hg] at hv
  simp only [Option.bind_some] at hv
  rcases Nat.lt_or_ge g W.heap.size with h' | h'
  ·exact h'
  ·rw [Array.getElem?_eq_none h'] at hv; simp at hv
 refine ⟨?_, ⟨_, _, fun w' hb => var?_below hb gSyn (hlt gSyn hv2) hv2⟩, ⟨_, _, fun w' hb => var?_below hb gRan (hlt gRan hv1) hv1⟩⟩
 obtain ⟨ps, ⟨g2, t2, cs2, f2, p2, q2, hg2, ht2, hvv, hd2, -⟩, -⟩ := h2
 obtain rfl := Option.some.inj (gPow.symm.trans hg2)
 obtain rfl := Option.some.inj (tPow.symm.trans ht2)
 have hcs := Lib.cells_of_tab Tryz.underlying177 Tryz.underlying164 cU64 cPow (by rw [<- dPow]; exact hd2)
 refine Lib.tabBelow_of_tabIs ?_
 unfold Lib.TabIs
 rw [hvv, <- hcs]
set_option maxRecDepth 100000 in
theorem doorAll_met (os : Os) (args : Array Value) : laidMetH Tryz.prog laidAll ((World.doorLaid Tryz.prog 400 os).forCall (fun _ _ => 0) ⟨#[], args, []⟩).memory :=
 laidMetH_of_parts3 (fuel := 8) (laidMet_of_run' 8 (by kernel_rfl) (by kernel_rfl)) (by kernel_rfl) (by kernel_rfl)
end Go.Proofs.YtmjhcgjhlakceaaGreatDoor
