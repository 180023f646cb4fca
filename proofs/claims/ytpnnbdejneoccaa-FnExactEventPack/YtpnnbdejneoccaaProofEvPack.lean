/-
  Proved: at every argument the law of EventPack answers true and leaves the argument as it was: EventPack of the program answers as that of the specification, writes into no argument, and its answer owns its memory.
  Conditions: none but the row's own (what can be read as data).
-/
import Derived.Test.YtpnnbdejneoccaaLawEvPack
import Derived.Test.YtpnnbdejneoccaaB2
import Derived.ProofKit
namespace Go.Proofs.Ytpnnbdejneoccaa
open Go.ChangeShapes Go.WideShapes Go.ChangeAt Go.RowKit

set_option maxRecDepth 100000 in
theorem evpack_lifted (os : Os) (started : os.Started) (H : Type) (enc : TypeId × Value → H) :
    ReturnsInHanded {} Try.checked os 3 .any (Rows.fnExactEventPackSpec.pre6 enc Try.prog Try.f3 Rows.fnExactEventPackRow.domain false) (Rows.fnExactEventPackSpec.post enc Try.prog Try.f3 false true false false) := by
  refine returnsInHanded_of_change (C := Try.checked) Try.own started (by kernel_rfl) Try.func3
    (ChangeSpec.witness6 (enc := enc) (C := Try.checked) false ⟨#[], #[.agg #[.string ByteArray.empty, .int .i64 0, .int .i64 0, .int .i64 0, .string ByteArray.empty, .slice none 0 0, .slice none 0 0]], []⟩ 8 (by kernel_rfl) (by kernel_rfl) (by kernel_rfl) (by kernel_rfl)) ?_
  intro W base args ds gs before hval0 hW hcnd _
  have hval : ∀ (j : Nat) t v, Try.f3.params[j]? = some t → args[j]? = some v → Value.okWide Try.prog W .any base t v := hval0
  have hW' := hW
  obtain ⟨p, q, hA0, hV, rfl, hfz, hnd⟩ := hW
  have hA : DataW.TrodAll enc Try.prog W 0 (fun _ => true) true Try.f3.params.toList args.toList ds p := hA0
  rw [Try.params3] at hA hval
  obtain ⟨v0, d0, rfl, rfl, h0⟩ := trodAll_one hA
  obtain ⟨rfl, rfl⟩ := trodVars_none hV
  obtain ⟨cs, rfl, hsz⟩ := okWide_struct Try.underlying27 (hval 0 27 v0 rfl rfl)
  have h0k := h0
  obtain ⟨fuel, hf⟩ := h0
  obtain ⟨fs, hE⟩ := Try.eventType
  obtain ⟨fs', hT⟩ := Try.treeType
  obtain ⟨x, v, t, c0, c1, c2, c3, c4, hcs, hx, hv, hin⟩ := open_event hE hT hf
  have hcs' : cs = #[.string x, .int .i64 v, c0, c1, c2, c3, c4] := by
    have : cs.toList = [.string x, .int .i64 v, c0, c1, c2, c3, c4] := by simpa [Value.cells] using hcs
    rw [← Array.toArray_toList (xs := cs), this]
  subst hcs'
  clear hA0 hval0
  simp only [List.append_nil] at hW'
  have hlt : ∀ x ∈ p, x.block < W.heap.size := fun x hx => by simpa using hW'.lt x hx
  refine (lawEvPack_any fuel _ x v t c0 c1 c2 c3 c4 W hx hin (fun b hb => hb)).mono fun e W' ⟨he, hb⟩ => ?_
  subst he
  refine ⟨_, rfl, _, _, _, [], p, [], hW', ?_, ?_, rfl, hb.frame _, fun h => by cases h⟩
  · exact trodAll_mk1 (shut_bool Try.underlying4 true)
  · exact trodAll_mk1 (Below.trod Try.laidOut (by kernel_rfl) (of_decide_eq_true (by kernel_rfl)) h0k hb hlt)

theorem evpack_holds : Rows.FnExactEventPackSaid :=
  OpenClaim.holds_of_wide 3 Try.f3 rfl rfl rfl rfl rfl rfl rfl ⟨rfl, rfl, rfl, rfl, rfl⟩ rfl rfl rfl rfl rfl (by kernel_rfl) Try.func3 (by kernel_rfl)
    (of_decide_eq_true (by kernel_rfl)) (by unfold Func.isWrapper; rw [if_neg (of_decide_eq_false (by kernel_rfl))]; exact ⟨rfl, rfl⟩)
    (fun os started H enc _ => evpack_lifted os started H enc)

end Go.Proofs.Ytpnnbdejneoccaa
