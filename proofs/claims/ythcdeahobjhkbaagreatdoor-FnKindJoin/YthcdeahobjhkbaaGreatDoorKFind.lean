/-
  Where a name stands: the map of places, asked; the program's field.
-/
import Derived.Test.YthcdeahobjhkbaaGreatDoorKMade
import Derived.Test.YthcdeahobjhkbaaGreatDoorB1
import Derived.Maps.Views
import Derived.Maps.OwnSet
namespace Go.Proofs.YthcdeahobjhkbaaGreatDoor
open Go.RowKit Go.WideMaps Go.Maps

theorem placesTo_map (l : List ByteArray) : ∀ k, IsMap (placesTo l k) := by
  intro k
  induction k with
  | zero => exact ⟨_, rfl⟩
  | succ k ih => exact ih.put _ _

theorem key_lit (s : ByteArray) : WideAt.IsKeyLit (.string s.data.toList) := trivial

theorem key_ne {a b : ByteArray} (h : a ≠ b) : (Lit.string a.data.toList) ≠ .string b.data.toList := by
  intro e
  apply h
  exact WideShapes.bytes_inj (by injection e)

theorem places_not (l : List ByteArray) (s : ByteArray) : ∀ k, (∀ i, i < k → l.getD i ByteArray.empty ≠ s) → has (placesTo l k) (.string s.data.toList) = false := by
  intro k
  induction k with
  | zero => intro _; rfl
  | succ k ih =>
    intro h
    rw [placesTo, has_put_other (key_ne (fun e => h k (by omega) e.symm))]
    exact ih (fun i hi => h i (by omega))

theorem places_at (l : List ByteArray) (i : Nat) : ∀ k, i < k → (∀ j, j < k → j ≠ i → l.getD j ByteArray.empty ≠ l.getD i ByteArray.empty) →
    has (placesTo l k) (.string (l.getD i ByteArray.empty).data.toList) = true ∧ ∀ z, (placesTo l k).atKey (.string (l.getD i ByteArray.empty).data.toList) z = .lit (.int .i64 i) := by
  intro k
  induction k with
  | zero => intro h; exact absurd h (Nat.not_lt_zero _)
  | succ k ih =>
    intro hi h
    by_cases hik : i = k
    · subst hik
      exact ⟨has_put_same (placesTo_map l i) (key_lit _) _, fun z => atKey_put_same (placesTo_map l i) (key_lit _) _ z⟩
    · have hne : (Lit.string (l.getD i ByteArray.empty).data.toList) ≠ .string (l.getD k ByteArray.empty).data.toList := key_ne (fun e => h k (by omega) (fun e => hik e.symm) e.symm)
      have := ih (by omega) (fun j hj hji => h j (by omega) hji)
      exact ⟨by rw [placesTo, has_put_other hne]; exact this.1, fun z => by rw [placesTo, atKey_put_other hne]; exact this.2 z⟩

theorem zero_int (w : World) : (zeroValue 3).run Tryz.prog w = .ok (.int .i64 0) w := by kernel_rfl

/-- The map, asked for a name that is there. -/
theorem lit_int {a b : Int} (h : (DataW.lit (Lit.int .i64 a) : DataW Unit) = .lit (.int .i64 b)) : a = b := by
  cases h; rfl

theorem look_yes {S : Nat → Prop} {w : World} {l : List ByteArray} {v : Value} (h : PlacesIn S w l v) (ha : Asc l) (i : Nat) (hi : i < l.length) (hs : l[i].size ≤ maxLen) :
    (Instr.lookup 82 v (.string l[i]) true).run Tryz.prog w = .ok (.tuple #[.int .i64 i, .bool true]) w := by
  obtain ⟨mb, rfl, -, hown⟩ := h
  have hg : ∀ j (h : j < l.length), l.getD j ByteArray.empty = l[j] := fun j h => by simp [List.getD, h]
  obtain ⟨p1, p2⟩ := places_at l i l.length hi (fun j hj hji e => hji (asc_inj ha j i hj hi (by rw [← hg j hj, ← hg i hi]; exact e)))
  rw [hg i hi] at p1 p2
  obtain ⟨c, ps, hrun, hv⟩ := hown.look_ok Tryz.skeyed Tryz.underlying82 (zero_int w) (plainElem_int Tryz.underlying3 (a := 0) (by decide)) (keyOf_string_mk Tryz.underlying9 hs)
  obtain ⟨c', rfl, hc, -⟩ := plainElem_int_inv Tryz.underlying3 hv
  rw [p1] at hrun
  have e := congrArg Prod.fst hc
  rw [p2] at e
  have e2 := lit_int e
  subst e2
  exact hrun

theorem look_no {S : Nat → Prop} {w : World} {l : List ByteArray} {v : Value} (h : PlacesIn S w l v) (s : ByteArray) (hn : s ∉ l) (hs : s.size ≤ maxLen) :
    ∃ c, (Instr.lookup 82 v (.string s) true).run Tryz.prog w = .ok (.tuple #[.int .i64 c, .bool false]) w := by
  obtain ⟨mb, rfl, -, hown⟩ := h
  have p1 := places_not l s l.length (fun i hi e => hn (by rw [← e]; simp [List.getD, hi]))
  obtain ⟨c, ps, hrun, hv⟩ := hown.look_ok Tryz.skeyed Tryz.underlying82 (zero_int w) (plainElem_int Tryz.underlying3 (a := 0) (by decide)) (keyOf_string_mk Tryz.underlying9 hs)
  obtain ⟨c', rfl, hc, -⟩ := plainElem_int_inv Tryz.underlying3 hv
  rw [p1] at hrun
  exact ⟨c', hrun⟩

set_option maxRecDepth 20000 in
set_option maxHeartbeats 1000000 in
theorem field_yes (S : Nat → Prop) (w : World) (l : List ByteArray) (pv : Value) (b g o len cap kb i : Nat) (h2 : w.cell? ⟨b, 2, none⟩ = some pv) (hp : PlacesIn S w l pv) (ha : Asc l) (hi : i < l.length) (hs : l[i].size ≤ maxLen)
    (h3 : w.cell? ⟨b, 3, none⟩ = some (.slice (some ⟨g, o, none⟩) len cap)) (hil : i < len) (hk : w.cell? ⟨g, o + i, none⟩ = some (.pointer (some ⟨kb, 0, none⟩))) :
    Calls Tryz.prog 69 #[.pointer (some ⟨b, 0, none⟩), .string l[i]] w fun e w' => e = .returned (.pointer (some ⟨kb, 0, none⟩)) ∧ w' = w := by
  have hrun := look_yes hp ha i hi hs
  obtain ⟨mb, rfl, -⟩ := hp
  clear ha
  generalize l[i] = s at *
  go_enter Tryz.func69, Tryz.ntmps69
  go_wp2_with fail
  go_ret
  exact ⟨rfl, rfl⟩

set_option maxRecDepth 20000 in
set_option maxHeartbeats 1000000 in
theorem field_no (S : Nat → Prop) (w : World) (l : List ByteArray) (pv : Value) (b : Nat) (s : ByteArray) (h2 : w.cell? ⟨b, 2, none⟩ = some pv) (hp : PlacesIn S w l pv) (hn : s ∉ l) (hs : s.size ≤ maxLen) :
    Calls Tryz.prog 69 #[.pointer (some ⟨b, 0, none⟩), .string s] w fun e w' => e = .returned (.pointer none) ∧ w' = w := by
  obtain ⟨c, hrun⟩ := look_no hp s hn hs
  obtain ⟨mb, rfl, -⟩ := hp
  go_enter Tryz.func69, Tryz.ntmps69
  go_wp2_with fail
  go_ret
  exact ⟨rfl, rfl⟩

end Go.Proofs.YthcdeahobjhkbaaGreatDoor
