/-
  Proved: at every pair of arguments the law of KindHas answers true and leaves the arguments as they were: KindHas of the program answers as that of the specification.
  Conditions: none but the row's own (what can be read as data).
-/
import Derived.Test.YtkaannpoldenkagKLawHas
import Derived.Test.YtkaannpoldenkagKProofKitT
import Derived.Test.YtkaannpoldenkagProofKitT
import Derived.ProofKit
namespace Go.Proofs.Ytkaannpoldenkag
open Go.ChangeShapes Go.WideShapes Go.ChangeAt Go.RowKit

set_option maxRecDepth 100000 in
theorem khas_lifted (os : Os) (started : os.Started) (H : Type) (enc : TypeId × Value → H) :
    ReturnsInHanded {} Try.checked os 5 .any (Rows.fnExactKindHasSpec.pre6 enc Try.prog Try.f5 Rows.fnExactKindHasRow.domain false) (Rows.fnExactKindHasSpec.post enc Try.prog Try.f5 false true false false) := by
  refine returnsInHanded_of_change (C := Try.checked) Try.ownk started (by kernel_rfl) Try.func5
    (ChangeSpec.witness6 (enc := enc) (C := Try.checked) false ⟨#[], #[.agg #[.int .i64 0, .slice none 0 0, .slice none 0 0], .agg #[.int .i64 0, .int .i64 0, .string ByteArray.empty, .slice none 0 0, .slice none 0 0]], []⟩ 8 (by kernel_rfl) (by kernel_rfl) (by kernel_rfl) (by kernel_rfl)) ?_
  intro W base args ds gs before hval0 hW hcnd _
  have hval : ∀ (j : Nat) t v, Try.f5.params[j]? = some t → args[j]? = some v → Value.okWide Try.prog W .any base t v := hval0
  have hW' := hW
  obtain ⟨p, q, hA0, hV, rfl, hfz, hnd⟩ := hW
  have hA : DataW.TrodAll enc Try.prog W 0 (fun _ => true) true Try.f5.params.toList args.toList ds p := hA0
  rw [Try.params5] at hA hval
  obtain ⟨v0, v1, d0, d1, p0, p1, rfl, rfl, rfl, h0, h1⟩ := trodAll_two hA
  obtain ⟨rfl, rfl⟩ := trodVars_none hV
  obtain ⟨cs, rfl, hsz⟩ := okWide_struct Try.underlying25 (hval 0 25 v0 rfl rfl)
  obtain ⟨cs', rfl, hsz'⟩ := okWide_struct Try.underlying40 (hval 1 40 v1 rfl rfl)
  have h0k := h0
  have h1k := h1
  obtain ⟨fuel, hf⟩ := h0
  obtain ⟨fuel', hf'⟩ := h1
  obtain ⟨fs, hT⟩ := Try.kindType
  obtain ⟨fs', hT'⟩ := Try.treeType
  obtain ⟨k, c0, c1, c2, hcs, hin⟩ := open_kind hT fuel fuel (Nat.le_refl _) _ _ hf
  obtain ⟨t, e0, e1, e2, e3, e4, hes, hin'⟩ := open_tree hT' fuel' fuel' (Nat.le_refl _) _ _ hf'
  have hcs' : cs = #[c0, c1, c2] := by
    have : cs.toList = [c0, c1, c2] := by simpa [Value.cells] using hcs
    rw [← Array.toArray_toList (xs := cs), this]
  have hes' : cs' = #[e0, e1, e2, e3, e4] := by
    have : cs'.toList = [e0, e1, e2, e3, e4] := by simpa [Value.cells] using hes
    rw [← Array.toArray_toList (xs := cs'), this]
  subst hcs' hes'
  clear hA0 hval0
  simp only [List.append_nil] at hW'
  have hlt : ∀ x ∈ p0 ++ p1, x.block < W.heap.size := fun x hx => by simpa using hW'.lt x hx
  refine (lawKHas_any fuel fuel' _ k t c0 c1 c2 e0 e1 e2 e3 e4 W hin hin' (fun b hb => hb)).mono fun e W' ⟨he, hb⟩ => ?_
  subst he
  refine ⟨_, rfl, _, _, _, [], p0 ++ p1, [], hW', ?_, ?_, rfl, hb.frame _, fun h => by cases h⟩
  · exact trodAll_mk1 (shut_bool Try.underlying4 true)
  · exact trodAll_mk2 (Below.trod Try.laidOutk (by kernel_rfl) (of_decide_eq_true (by kernel_rfl)) h0k hb (fun x hx => hlt x (List.mem_append_left _ hx)))
      (Below.trod Try.laidOutk (by kernel_rfl) (of_decide_eq_true (by kernel_rfl)) h1k hb (fun x hx => hlt x (List.mem_append_right _ hx)))

theorem khas_holds : Rows.FnExactKindHasSaid :=
  OpenClaim.holds_of_wide 5 Try.f5 rfl rfl rfl rfl rfl rfl rfl ⟨rfl, rfl, rfl, rfl, rfl⟩ rfl rfl rfl rfl rfl (by kernel_rfl) Try.func5 (by kernel_rfl)
    (of_decide_eq_true (by kernel_rfl)) (by unfold Func.isWrapper; rw [if_neg (of_decide_eq_false (by kernel_rfl))]; exact ⟨rfl, rfl⟩)
    (fun os started H enc _ => khas_lifted os started H enc)

end Go.Proofs.Ytkaannpoldenkag
