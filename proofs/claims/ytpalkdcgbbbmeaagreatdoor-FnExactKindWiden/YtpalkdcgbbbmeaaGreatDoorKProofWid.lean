/-
  Proved: at all arguments the law of KindWiden answers true and leaves the arguments as they were: KindWiden of the program answers as that of the specification, writes into no argument, and its answer owns its memory.
  Conditions: none but the row's own (what can be read as data; the library's variable errors.errorType as the program's text lays it, which the card ties).
-/
import Derived.Test.YtpalkdcgbbbmeaaGreatDoorKLawWid
import Derived.Test.YtpalkdcgbbbmeaaGreatDoorB5
import Derived.Test.YtpalkdcgbbbmeaaGreatDoorCards
import Derived.Test.YtpalkdcgbbbmeaaGreatDoorTie
import Derived.ProofKit
import Derived.LaidMore
import Derived.LaidHandle
import Derived.LaidSub
import Derived.OpenShut
import Derived.Stop.Joined
import Derived.SevenTiedAt
namespace Go.Proofs.YtpalkdcgbbbmeaaGreatDoor
open Go.ChangeShapes Go.WideShapes Go.ChangeAt Go.RowKit

theorem hEt : Tryz.prog.globalNamed "errors.errorType" = some 0 := by kernel_rfl
theorem hRt : (Tryz.prog.cutTypes.find? (·.1 == "internal/reflectlite.rtype")).map (·.2) = some 176 := by kernel_rfl
theorem hRow : ((List.range 225).filter fun t => Tryz.prog.rowNamed t [101, 114, 114, 111, 114]) = [78] := by kernel_rfl
theorem hSize : Tryz.prog.types.size = 225 := by kernel_rfl

theorem handle_of_laid {W : World} (h : laidMetH Tryz.prog Rows.fnExactKindWidenRow.laid W) : HandleIn W := by
  have h' : laidMet Tryz.prog [] W ∧ handlesMet Tryz.prog Rows.fnExactKindWidenRow.laid W := h
  obtain ⟨name, u, ty, e1, e2, e3, e4, e5⟩ := h'.2 _ (List.mem_singleton.2 rfl)
  have en : name = [101, 114, 114, 111, 114] := (Option.some.inj e1).symm
  subst en
  obtain rfl := Option.some.inj (hRt.symm.trans e2)
  have hm : ty ∈ (List.range 225).filter fun t => Tryz.prog.rowNamed t [101, 114, 114, 111, 114] := List.mem_filter.2 ⟨List.mem_range.2 (by rw [← hSize]; exact e3), e4⟩
  rw [hRow] at hm
  obtain rfl := List.mem_singleton.1 hm
  have hh : typeHandle Tryz.prog 78 = .pointer (some ⟨1, 78, none⟩) := by kernel_rfl
  rw [hh] at e5
  unfold HandleIn
  simpa using World.var?_cell hEt e5 0

set_option maxRecDepth 100000 in
theorem door_metW (os : Os) (args : Array Value) : laidMetH Tryz.prog Rows.fnExactKindWidenRow.laid ((World.doorLaid Tryz.prog 400 os).forCall (fun _ _ => 0) ⟨#[], args, []⟩).memory :=
  laidMetH_of_parts3 (fuel := 8) (laidMet_of_run' 8 (by kernel_rfl) (by kernel_rfl)) (by kernel_rfl) (by kernel_rfl)

set_option maxRecDepth 100000 in
theorem kwiden_lifted (os : Os) (started : os.Started) (H : Type) (enc : TypeId × Value → H) :
    ReturnsInHanded {} Tryz.checked os 4 .any (fun w args => (Rows.fnExactKindWidenSpec.pre enc Tryz.prog Tryz.f4 [] false w args ∧ laidMetH Tryz.prog Rows.fnExactKindWidenRow.laid w) ∧ sizedMet enc Tryz.prog Tryz.f4 (OpenSpec.ofChange Rows.fnExactKindWidenSpec) false w args)
      (Rows.fnExactKindWidenSpec.post enc Tryz.prog Tryz.f4 false true false false) := by
  refine returnsInHanded_of_change_and (C := Tryz.checked) (X := fun w _ => laidMetH Tryz.prog Rows.fnExactKindWidenRow.laid w) (fun _ _ _ hh h => h.of_heap hh) Tryz.ownk started (by kernel_rfl) Tryz.func4
    (ChangeSpec.witness_shaped (enc := enc) (C := Tryz.checked) (os := os) (X := fun w _ => laidMetH Tryz.prog Rows.fnExactKindWidenRow.laid w) false (World.doorLaid Tryz.prog 400 os) #[.agg #[.int .i64 0, .slice none 0 0, .slice none 0 0], .agg #[.int .i64 0, .slice none 0 0, .slice none 0 0], .agg #[.int .i64 0, .int .i64 0, .string ByteArray.empty, .slice none 0 0, .slice none 0 0]] 8 rfl (World.shaped_of_RefB (by kernel_rfl) (by kernel_rfl)) (by kernel_rfl) (by kernel_rfl) (by kernel_rfl) (door_metW os _)) ?_
  intro W base args ds gs before hval0 hW _ _ hL _
  have hval : ∀ (j : Nat) t v, Tryz.f4.params[j]? = some t → args[j]? = some v → Value.okWide Tryz.prog W .any base t v := hval0
  have hW' := hW
  obtain ⟨p, q, hA0, hV, rfl, hfz, hnd⟩ := hW
  have hA : DataW.TrodAll enc Tryz.prog W 0 (fun _ => true) true Tryz.f4.params.toList args.toList ds p := hA0
  rw [Tryz.params4] at hA hval
  obtain ⟨v0, v1, v2, d0, d1, d2, p0, p1, p2, rfl, rfl, rfl, h0, h1, h2⟩ := trodAll_three hA
  obtain ⟨rfl, rfl⟩ := trodVars_none hV
  obtain ⟨cs, rfl, hsz⟩ := okWide_struct Tryz.underlying41 (hval 0 41 v0 rfl rfl)
  obtain ⟨cs', rfl, hsz'⟩ := okWide_struct Tryz.underlying41 (hval 1 41 v1 rfl rfl)
  obtain ⟨cs2, rfl, hsz2⟩ := okWide_struct Tryz.underlying44 (hval 2 44 v2 rfl rfl)
  have h0k := h0
  have h1k := h1
  have h2k := h2
  obtain ⟨fuel, hf⟩ := h0
  obtain ⟨fuel', hf'⟩ := h1
  obtain ⟨fuel2, hf2⟩ := h2
  obtain ⟨fs, hT⟩ := Tryz.kindType
  obtain ⟨fs', hT'⟩ := Tryz.treeType
  obtain ⟨k, c0, c1, c2, hcs, hin⟩ := open_kind hT fuel fuel (Nat.le_refl _) _ _ hf
  obtain ⟨t, e0, e1, e2, hes, hin'⟩ := open_kind hT fuel' fuel' (Nat.le_refl _) _ _ hf'
  obtain ⟨t2, f0, f1, f2, f3, f4, hfs, hin2⟩ := open_tree hT' fuel2 fuel2 (Nat.le_refl _) _ _ hf2
  have hcs' : cs = #[c0, c1, c2] := by
    have : cs.toList = [c0, c1, c2] := by simpa [Value.cells] using hcs
    rw [← Array.toArray_toList (xs := cs), this]
  have hes' : cs' = #[e0, e1, e2] := by
    have : cs'.toList = [e0, e1, e2] := by simpa [Value.cells] using hes
    rw [← Array.toArray_toList (xs := cs'), this]
  have hfs' : cs2 = #[f0, f1, f2, f3, f4] := by
    have : cs2.toList = [f0, f1, f2, f3, f4] := by simpa [Value.cells] using hfs
    rw [← Array.toArray_toList (xs := cs2), this]
  subst hcs' hes' hfs'
  clear hA0 hval0
  simp only [List.append_nil, List.append_assoc] at hW'
  have hlt : ∀ x ∈ p0 ++ (p1 ++ p2), x.block < W.heap.size := fun x hx => by simpa using hW'.lt x hx
  refine (lawKWiden_any fuel fuel' fuel2 _ k t t2 c0 c1 c2 e0 e1 e2 f0 f1 f2 f3 f4 W hin hin' hin2 (fun b hb => hb) (handle_of_laid hL)).mono fun e W' ⟨he, hb⟩ => ?_
  subst he
  refine ⟨_, rfl, _, _, _, [], p0 ++ (p1 ++ p2), [], hW', ?_, ?_, rfl, hb.frame _, fun h => by cases h⟩
  · exact trodAll_mk1 (shut_bool Tryz.underlying4 true)
  · exact trodAll_mk3 (Below.trod Tryz.laidOutk (by kernel_rfl) (of_decide_eq_true (by kernel_rfl)) h0k hb (fun x hx => hlt x (by simp [hx])))
      (Below.trod Tryz.laidOutk (by kernel_rfl) (of_decide_eq_true (by kernel_rfl)) h1k hb (fun x hx => hlt x (by simp [hx])))
      (Below.trod Tryz.laidOutk (by kernel_rfl) (of_decide_eq_true (by kernel_rfl)) h2k hb (fun x hx => hlt x (by simp [hx])))

theorem kwiden_holds : Rows.FnExactKindWidenSaid :=
  OpenClaim.holds_of_wide 4 Tryz.f4 rfl rfl rfl rfl rfl rfl rfl ⟨rfl, rfl, rfl, rfl, rfl⟩ rfl rfl rfl rfl rfl (by kernel_rfl) Tryz.func4 (by kernel_rfl)
    (of_decide_eq_true (by kernel_rfl)) (by unfold Func.isWrapper; rw [if_neg (of_decide_eq_false (by kernel_rfl))]; exact ⟨rfl, rfl⟩)
    (fun os started H enc _ => kwiden_lifted os started H enc)

theorem kwiden_card : Rows.FnExactKindWidenCardSaid :=
  Claim7.holds_tied_plain_at .later [] [.handle] true Rows.fnExactKindWidenCard.stood.harness true
    kwiden_holds (fun _ h => by cases h) (by kernel_rfl) (fun _ h => by cases h) fnExactKindWiden_row_tie rfl ⟨rfl, rfl⟩ (by kernel_rfl) rfl
    (fun f fn hf hfn => by
      obtain rfl : f = 4 := Option.some.inj ((show Tryz.prog.funcNamed Rows.fnExactKindWidenRow.func = some 4 by kernel_rfl).symm.trans hf) |>.symm
      obtain rfl : fn = Tryz.f4 := (Option.some.inj (Tryz.func4.symm.trans hfn)).symm
      exact ⟨by kernel_rfl, fun j t ht => by
        rw [Tryz.params4] at ht
        have hm : t ∈ [41, 41, 44] := by simpa using Array.mem_of_getElem? ht
        have hall : ([41, 41, 44].all fun u => !Tryz.prog.wantsStandIn u) = true := by kernel_rfl
        exact (show Tryz.prog.wantsStandIn t = false by simpa using List.all_eq_true.1 hall t hm)⟩)
    (by kernel_rfl)

end Go.Proofs.YtpalkdcgbbbmeaaGreatDoor
