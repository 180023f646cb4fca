/-
  Proved: at every row of bytes the law of EventUnpack answers true and leaves the argument as it was: EventUnpack of the program answers as that of the specification, every field, writes into no argument, keeps nothing of one, and its answer owns its memory.
  Conditions: none but the row's own (what can be read as data).
-/
import Derived.Test.YtpnnbdejneoccaaLawEvUnp
import Derived.Test.YtpnnbdejneoccaaEC9
import Derived.ProofKit
import Derived.OpenShut
namespace Go.Proofs.Ytpnnbdejneoccaa
open Go.ChangeShapes Go.WideShapes Go.ChangeAt Go.RowKit

theorem Try.ownu : ownKnob Try.prog.godebug = none := by kernel_rfl
theorem Try.laidOutu : laidOutB Try.prog = true := by kernel_rfl
theorem Try.cells_byteu : Try.prog.cellsOf 5 = 1 := by kernel_rfl

/-- Bytes that came in. -/
theorem open_bytes {H : Type} {enc : TypeId × Value → H} {W : World} {base fuel : Nat} {v : Value} {x : DataW H × List MemPlace} (hval : Value.okWide Try.prog W .any base 29 v)
    (hf : DataW.trod enc Try.prog W 0 (fun _ => true) true fuel 29 v.cells.toList = some x) :
    ∃ ao l cap, v = .slice ao (List.length l) cap ∧ BytesA (fun b => b < W.heap.size) W ao l cap := by
  obtain ⟨a1, len, cap, rfl⟩ := okWide_slice Try.underlying29 hval
  rcases open_ints Try.underlying29 Try.underlying5 Try.cells_byteu hf with ⟨hcs, hx⟩ | ⟨a, len', cap', zs, hcs, _, hl, hm, hz, hx, hcell, hwz⟩
  · simp [Value.cells] at hcs
    obtain ⟨rfl, rfl, rfl⟩ := hcs
    exact ⟨none, [], 0, rfl, ⟨Nat.le_refl _, Nat.zero_le _⟩, fun j hj => absurd hj (Nat.not_lt_zero _)⟩
  · simp [Value.cells] at hcs
    obtain ⟨rfl, rfl, rfl⟩ := hcs
    simp only [if_true] at hz
    obtain ⟨ab, ao, spot⟩ := a
    refine ⟨_, (List.range len).map (fun j => UInt8.ofNat (zs.getD j 0).toNat), cap, by rw [List.length_map, List.length_range], ⟨by rw [List.length_map, List.length_range]; exact hl, hm⟩, fun j hj => ?_⟩
    rw [List.length_map, List.length_range] at hj
    have hspot : spot = none := by simpa [Addr.add] using World.cell?_spot (hcell 0 (by omega))
    subst hspot
    have hb : ab < W.heap.size := World.block_lt_of_cell? W ⟨ab, ao, none⟩ (by have := hcell 0 (by omega); simpa [Addr.add] using this)
    refine ⟨ab, ao, rfl, hb, ?_⟩
    have h1 := hcell j (by omega)
    rw [Addr.add_lit] at h1
    have := range_u8 hwz j
    rw [← List.getD_eq_getElem?_getD] at this
    rw [h1]
    simp only [List.getElem_map, List.getElem_range]
    rw [UInt8.toNat_ofNat_of_lt' (by show (zs.getD j 0).toNat < 256; omega), Int.toNat_of_nonneg this.1]

theorem lawEUnp_any (l : List UInt8) (ao : Option Addr) (cap : Nat) (w : World) (h : BytesA (fun b => b < w.heap.size) w ao l cap) :
    Calls Try.prog 4 #[.slice ao l.length cap] w fun e w' => e = .returned (.bool true) ∧ Below w.heap.size w w' := by
  by_cases hl : l.length ≤ 1048576
  · exact lawEUnp_of (l.length + 6) (treeC_any _) (by omega) l (by omega) ao cap w h hl
  · have hlc := h.lc
    obtain ⟨ln, hln⟩ : ∃ ln, l.length = ln := ⟨_, rfl⟩
    rw [hln] at hl hlc
    rw [hln]
    have hgt : (1048576 : Int) < (ln : Int) := by omega
    clear h hln
    go_enter Try.func4, Try.ntmps4
    go_wp2_with fail
    go_ret
    exact ⟨rfl, Below.refl _ _⟩

set_option maxRecDepth 100000 in
theorem evunp_lifted (os : Os) (started : os.Started) (H : Type) (enc : TypeId × Value → H) :
    ReturnsInHanded {} Try.checked os 4 .any (Rows.fnExactEventUnpackSpec.pre6 enc Try.prog Try.f4 Rows.fnExactEventUnpackRow.domain false) (Rows.fnExactEventUnpackSpec.post enc Try.prog Try.f4 false true false false) := by
  refine returnsInHanded_of_change (C := Try.checked) Try.ownu started (by kernel_rfl) Try.func4
    (ChangeSpec.witness6 (enc := enc) (C := Try.checked) false ⟨#[], #[.slice none 0 0], []⟩ 8 (by kernel_rfl) (by kernel_rfl) (by kernel_rfl) (by kernel_rfl)) ?_
  intro W base args ds gs before hval0 hW hcnd _
  have hval : ∀ (j : Nat) t v, Try.f4.params[j]? = some t → args[j]? = some v → Value.okWide Try.prog W .any base t v := hval0
  have hW' := hW
  obtain ⟨p, q, hA0, hV, rfl, hfz, hnd⟩ := hW
  have hA : DataW.TrodAll enc Try.prog W 0 (fun _ => true) true Try.f4.params.toList args.toList ds p := hA0
  rw [Try.params4] at hA hval
  obtain ⟨v0, d0, rfl, rfl, h0⟩ := trodAll_one hA
  obtain ⟨rfl, rfl⟩ := trodVars_none hV
  have h0k := h0
  obtain ⟨fuel, hf⟩ := h0
  obtain ⟨ao, l, cap, rfl, hin⟩ := open_bytes (hval 0 29 v0 rfl rfl) hf
  clear hA0 hval0
  simp only [List.append_nil] at hW'
  have hlt : ∀ x ∈ p, x.block < W.heap.size := fun x hx => by simpa using hW'.lt x hx
  refine (lawEUnp_any l ao cap W hin).mono fun e W' ⟨he, hb⟩ => ?_
  subst he
  refine ⟨_, rfl, _, _, _, [], p, [], hW', ?_, ?_, rfl, hb.frame _, fun h => by cases h⟩
  · exact trodAll_mk1 (shut_bool Try.underlying4 true)
  · exact trodAll_mk1 (Below.trod Try.laidOutu (by kernel_rfl) (of_decide_eq_true (by kernel_rfl)) h0k hb hlt)

theorem evunp_holds : Rows.FnExactEventUnpackSaid :=
  OpenClaim.holds_of_wide 4 Try.f4 rfl rfl rfl rfl rfl rfl rfl ⟨rfl, rfl, rfl, rfl, rfl⟩ rfl rfl rfl rfl rfl (by kernel_rfl) Try.func4 (by kernel_rfl)
    (of_decide_eq_true (by kernel_rfl)) (by unfold Func.isWrapper; rw [if_neg (of_decide_eq_false (by kernel_rfl))]; exact ⟨rfl, rfl⟩)
    (fun os started H enc _ => evunp_lifted os started H enc)

end Go.Proofs.Ytpnnbdejneoccaa
