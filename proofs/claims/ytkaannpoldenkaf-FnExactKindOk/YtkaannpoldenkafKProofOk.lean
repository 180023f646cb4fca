/-
  Proved: at every argument the law of KindOk answers true and leaves the argument as it was: KindOk of the program answers as that of the specification.
  Conditions: none but the row's own (what can be read as data).
-/
import Derived.Test.YtkaannpoldenkafKLawOk
import Derived.Test.YtkaannpoldenkafKProofKitT
import Derived.ProofKit
namespace Go.Proofs.Ytkaannpoldenkaf
open Go.ChangeShapes Go.WideShapes Go.ChangeAt Go.RowKit

set_option maxRecDepth 100000 in
theorem kok_lifted (os : Os) (started : os.Started) (H : Type) (enc : TypeId × Value → H) :
    ReturnsInHanded {} Try.checked os 5 .any (Rows.fnExactKindOkSpec.pre6 enc Try.prog Try.f5 Rows.fnExactKindOkRow.domain false) (Rows.fnExactKindOkSpec.post enc Try.prog Try.f5 false true false false) := by
  refine returnsInHanded_of_change (C := Try.checked) Try.ownk started (by kernel_rfl) Try.func5
    (ChangeSpec.witness6 (enc := enc) (C := Try.checked) false ⟨#[], #[.agg #[.int .i64 0, .slice none 0 0, .slice none 0 0]], []⟩ 8 (by kernel_rfl) (by kernel_rfl) (by kernel_rfl) (by kernel_rfl)) ?_
  intro W base args ds gs before hval0 hW hcnd _
  have hval : ∀ (j : Nat) t v, Try.f5.params[j]? = some t → args[j]? = some v → Value.okWide Try.prog W .any base t v := hval0
  have hW' := hW
  obtain ⟨p, q, hA0, hV, rfl, hfz, hnd⟩ := hW
  have hA : DataW.TrodAll enc Try.prog W 0 (fun _ => true) true Try.f5.params.toList args.toList ds p := hA0
  rw [Try.params5] at hA hval
  obtain ⟨v0, d0, rfl, rfl, h0⟩ := trodAll_one hA
  obtain ⟨rfl, rfl⟩ := trodVars_none hV
  obtain ⟨cs, rfl, hsz⟩ := okWide_struct Try.underlying37 (hval 0 37 v0 rfl rfl)
  have h0k := h0
  obtain ⟨fuel, hf⟩ := h0
  obtain ⟨fs, hT⟩ := Try.kindType
  obtain ⟨t, c0, c1, c2, hcs, hin⟩ := open_kind hT fuel fuel (Nat.le_refl _) _ _ hf
  have hcs' : cs = #[c0, c1, c2] := by
    have : cs.toList = [c0, c1, c2] := by simpa [Value.cells] using hcs
    rw [← Array.toArray_toList (xs := cs), this]
  subst hcs'
  clear hA0 hval0
  simp only [List.append_nil] at hW'
  have hlt : ∀ x ∈ p, x.block < W.heap.size := fun x hx => by simpa using hW'.lt x hx
  refine (lawKOk_any fuel _ t c0 c1 c2 W hin (fun b hb => hb)).mono fun e W' ⟨he, hb⟩ => ?_
  subst he
  refine ⟨_, rfl, _, _, _, [], p, [], hW', ?_, ?_, rfl, hb.frame _, fun h => by cases h⟩
  · exact trodAll_mk1 (shut_bool Try.underlying4 true)
  · exact trodAll_mk1 (Below.trod Try.laidOutk (by kernel_rfl) (of_decide_eq_true (by kernel_rfl)) h0k hb hlt)

theorem kok_holds : Rows.FnExactKindOkSaid :=
  OpenClaim.holds_of_wide 5 Try.f5 rfl rfl rfl rfl rfl rfl rfl ⟨rfl, rfl, rfl, rfl, rfl⟩ rfl rfl rfl rfl rfl (by kernel_rfl) Try.func5 (by kernel_rfl)
    (of_decide_eq_true (by kernel_rfl)) (by unfold Func.isWrapper; rw [if_neg (of_decide_eq_false (by kernel_rfl))]; exact ⟨rfl, rfl⟩)
    (fun os started H enc _ => kok_lifted os started H enc)

end Go.Proofs.Ytkaannpoldenkaf
