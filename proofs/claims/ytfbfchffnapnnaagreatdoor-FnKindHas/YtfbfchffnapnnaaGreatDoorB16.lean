/-
  Several texts in one, in their order.
-/
import Derived.Test.YtfbfchffnapnnaaGreatDoorKW2
import Derived.Test.YtfbfchffnapnnaaGreatDoorKW3
import Derived.Test.YtfbfchffnapnnaaGreatDoorKW4
import Derived.Test.YtfbfchffnapnnaaGreatDoorKW6
import Derived.Test.YtfbfchffnapnnaaGreatDoorB15
import Derived.Test.YtfbfchffnapnnaaGreatDoorB1
import Derived.Deep.RegionLaw

/-
  The program's widenings: of two schemas that are ok a widening is made just if the first fits into the second.
-/
namespace Go.Proofs.YtfbfchffnapnnaaGreatDoor
open Go.RowKit

theorem end_to {r : Bool} {e : Ending} (h : EndB r e) : ∃ v u, e = .returned (.tuple #[v, u]) ∧ (r = true ∧ (∃ fn first cap, v = .func fn first cap) ∧ u = .nilIface ∨ r = false ∧ v = .nilFunc ∧ ∃ y : ByteArray, u = .iface 140 (.agg #[.string y])) := by
  rcases h with ⟨h, fn, first, cap, rfl⟩ | ⟨h, y, rfl⟩
  · exact ⟨_, _, rfl, .inl ⟨h, ⟨_, _, _, rfl⟩, rfl⟩⟩
  · exact ⟨_, _, rfl, .inr ⟨h, rfl, _, rfl⟩⟩

theorem end_from {r : Bool} {e : Ending} (h : ∃ v u, e = .returned (.tuple #[v, u]) ∧ (r = true ∧ (∃ fn first cap, v = .func fn first cap) ∧ u = .nilIface ∨ r = false ∧ v = .nilFunc ∧ ∃ y : ByteArray, u = .iface 140 (.agg #[.string y]))) : EndB r e := by
  obtain ⟨v, u, rfl, ⟨h, ⟨fn, first, cap, rfl⟩, rfl⟩ | ⟨h, rfl, y, rfl⟩⟩ := h
  · exact .inl ⟨h, _, _, _, rfl⟩
  · exact .inr ⟨h, _, rfl⟩

theorem sort_nat {n : Nat} {k : K (n + 1)} {d : Int} (h : goodK (n + 1) k d = true) : ∃ i : Nat, 1 ≤ i ∧ i ≤ 6 ∧ Kd.sort k = (i : Int) := by
  rcases goodK_kids h with ⟨h | h | h, -⟩ | ⟨h | h, -⟩ | ⟨h, -⟩
  · exact ⟨1, by omega, by omega, h⟩
  · exact ⟨2, by omega, by omega, h⟩
  · exact ⟨3, by omega, by omega, h⟩
  · exact ⟨4, by omega, by omega, h⟩
  · exact ⟨6, by omega, by omega, h⟩
  · exact ⟨5, by omega, by omega, h⟩

theorem fit_step (m : Nat) (hm : FitSaid m) : FitSaid (m + 1) := by
  intro S n a b va vb d d' R x w ha hb hB hT hR hga hgb hc40 hd hx
  cases n with
  | zero => exact ha.elim
  | succ n =>
    obtain ⟨i, hi1, hi6, hi⟩ := sort_nat hga
    obtain ⟨j, hj1, hj6, hj⟩ := sort_nat hgb
    have hina := ha
    have hinb := hb
    obtain ⟨pa, nva, pva, kva, rfl, hSa, hca, -⟩ := ha
    obtain ⟨pb, nvb, pvb, kvb, rfl, hSb, hcb, -⟩ := hb
    have hla := hB pa hSa
    have hlb := hB pb hSb
    have ea : w.cell? ⟨pa, 0, none⟩ = some (.int .i64 (i : Int)) := by rw [zeroD_W4 hca, hi]
    have eb : w.cell? ⟨pb, 0, none⟩ = some (.int .i64 (j : Int)) := by rw [zeroD_W4 hcb, hj]
    have eT := hT i j hi1 hi6 hj1 hj6
    have key : ∀ {W : World}, Below w.heap.size w W → InnerK S W (n + 1) a (.pointer (some ⟨pa, 0, none⟩)) ∧ InnerK S W (m + 1) b (.pointer (some ⟨pb, 0, none⟩)) ∧ (∀ b, S b → b < W.heap.size) ∧ TabW W R ∧ R < W.heap.size := fun hW =>
      ⟨hina.keep (same_below hW hB) (fun _ h => h), hinb.keep (same_below hW hB) (fun _ h => h), fun b hb => Nat.lt_of_lt_of_le (hB b hb) hW.size, hT.keep (hW.block R hR), Nat.lt_of_lt_of_le hR hW.size⟩
    by_cases hj' : j = 6
    · by_cases hi' : i = 6
      · have e : widV R i j = widF R 82 := by unfold widV; rw [if_pos hj', if_pos hi']
        rw [e] at eT
        refine (of_ofMaybes R pa pb i j (fitsK (m + 1) b (n + 1) a) x w hi1 hi6 hj1 hj6 ea eb eT hla hlb hR fun W hW => ?_).mono fun e w' h => ⟨h.1, end_from h.2⟩
        obtain ⟨k1, k2, k3, k4, k5⟩ := key hW
        exact (ofMaybes_any m n hm S a b _ _ d d' R x W k1 k2 k3 k4 k5 hga hgb hc40 hd hx (by omega) (by omega)).mono fun e w' h => ⟨h.1, end_to h.2⟩
      · have e : widV R i j = widF R 81 := by unfold widV; rw [if_pos hj', if_neg hi']
        rw [e] at eT
        refine (of_intoMaybe R pa pb i j (fitsK (m + 1) b (n + 1) a) x w hi1 hi6 hj1 hj6 ea eb eT hla hlb hR fun W hW => ?_).mono fun e w' h => ⟨h.1, end_from h.2⟩
        obtain ⟨k1, k2, k3, k4, k5⟩ := key hW
        exact (intoMaybe_any m n hm S a b _ _ d d' R x W k1 k2 k3 k4 k5 hga hgb hc40 hd hx (by omega) (by omega)).mono fun e w' h => ⟨h.1, end_to h.2⟩
    · by_cases hij : i = j
      · by_cases h4 : i = 4
        · have e : widV R i j = widF R 79 := by unfold widV; rw [if_neg hj', if_pos hij, if_pos h4]
          rw [e] at eT
          refine (of_ofLists R pa pb i j (fitsK (m + 1) b (n + 1) a) x w hi1 hi6 hj1 hj6 ea eb eT hla hlb hR fun W hW => ?_).mono fun e w' h => ⟨h.1, end_from h.2⟩
          obtain ⟨k1, k2, k3, k4, k5⟩ := key hW
          exact (ofLists_any m n hm S a b _ _ d d' R x W k1 k2 k3 k4 k5 hga hgb hc40 hd hx (by omega) (by omega)).mono fun e w' h => ⟨h.1, end_to h.2⟩
        · by_cases h5 : i = 5
          · have e : widV R i j = widF R 80 := by unfold widV; rw [if_neg hj', if_pos hij, if_neg h4, if_pos h5]
            rw [e] at eT
            refine (of_ofForms R pa pb i j (fitsK (m + 1) b (n + 1) a) x w hi1 hi6 hj1 hj6 ea eb eT hla hlb hR fun W hW => ?_).mono fun e w' h => ⟨h.1, end_from h.2⟩
            obtain ⟨k1, k2, k3, k4, k5⟩ := key hW
            exact (ofForms_any m n hm S a b _ _ d d' R x W k1 k2 k3 k4 k5 hga hgb hc40 hd hx (by omega) (by omega)).mono fun e w' h => ⟨h.1, end_to h.2⟩
          · have e : widV R i j = widF R 78 := by unfold widV; rw [if_neg hj', if_pos hij, if_neg h4, if_neg h5]
            rw [e] at eT
            have hna : Kd.names a = [] := by
              rcases goodK_kids hga with ⟨-, h, -⟩ | ⟨-, h, -⟩ | ⟨h, -⟩
              · exact h
              · exact h
              · omega
            have hnb : Kd.names b = [] := by
              rcases goodK_kids hgb with ⟨-, h, -⟩ | ⟨-, h, -⟩ | ⟨h, -⟩
              · exact h
              · exact h
              · omega
            have hf : fitsK (m + 1) b (n + 1) a = true := fitsK_leaf (by omega) (by omega) hna hnb
            refine (of_ofLeaves R pa pb i j (fitsK (m + 1) b (n + 1) a) x w hi1 hi6 hj1 hj6 ea eb eT hla hlb hR fun W hW => ?_).mono fun e w' h => ⟨h.1, end_from h.2⟩
            refine (ofLeaves_any R _ _ x W ⟨_, rfl⟩ ⟨_, rfl⟩).mono fun e w' h => ?_
            obtain ⟨⟨fn, first, cap, rfl⟩, hb⟩ := h
            exact ⟨hb, _, _, rfl, .inl ⟨hf, ⟨_, _, _, rfl⟩, rfl⟩⟩
      · have e : widV R i j = .nilFunc := by unfold widV; rw [if_neg hj', if_neg hij]
        rw [e] at eT
        have hf : fitsK (m + 1) b (n + 1) a = false := fitsK_no (by omega) (by omega)
        exact (of_nil R pa pb i j x w hi1 hi6 hj1 hj6 ea eb eT hla hlb hR).mono fun e w' h => ⟨h.1, .inr ⟨hf, h.2⟩⟩

theorem fit_any : ∀ m, FitSaid m := by
  intro m
  induction m with
  | zero => intro S n a b va vb d d' R x w _ hb; exact hb.elim
  | succ m ih => exact fit_step m ih

end Go.Proofs.YtfbfchffnapnnaaGreatDoor

/-
  KindFits of the program, where the first schema fits into the second.
-/
namespace Go.Proofs.YtfbfchffnapnnaaGreatDoor
open Go.RowKit

set_option maxRecDepth 20000 in
set_option maxHeartbeats 400000 in
theorem asNil_any (v : Value) (w : World) : Calls Tryz.prog 83 #[.nilIface, v] w fun e w' => e = .returned (.bool false) ∧ w' = w := by
  go_enter Tryz.func83, Tryz.ntmps83
  go_wp2_with fail
  go_ret
  exact ⟨rfl, rfl⟩

set_option maxRecDepth 20000 in
set_option maxHeartbeats 400000 in
theorem isMisfit_nil (w : World) : Calls Tryz.prog 39 #[.nilIface] w fun e w' => e = .returned (.bool false) ∧ Below w.heap.size w w' := by
  go_enter Tryz.func39, Tryz.ntmps39
  go_wp2_with fail
  refine (asNil_any _ _).mono ?_
  rintro e w1 ⟨rfl, rfl⟩
  go_wp2_with fail
  go_ret
  exact ⟨rfl, (Below.refl _ _).alloc (Nat.le_refl _) _⟩

set_option maxRecDepth 20000 in
set_option maxHeartbeats 1000000 in
theorem innerPair_yes (n m : Nat) (S : Nat → Prop) (a : K n) (b : K m) (x0 z0 : Int) (xa ya za ua : Option Addr) (xl xc yl yc zl zc ul uc : Nat) (w : World) (ha : KindIn S w n a (.int .i64 x0) (.slice xa xl xc) (.slice ya yl yc)) (hb : KindIn S w m b (.int .i64 z0) (.slice za zl zc) (.slice ua ul uc)) (hB : ∀ b, S b → b < w.heap.size) (hoa : okK n a = true) (hob : okK m b = true) :
    Calls Tryz.prog 36 #[.agg #[.int .i64 x0, .slice xa xl xc, .slice ya yl yc], .agg #[.int .i64 z0, .slice za zl zc, .slice ua ul uc]] w fun e w' => Below w.heap.size w w' ∧ ∃ pa pb, e = .returned (.tuple #[.agg #[.pointer (some ⟨pa, 0, none⟩), .pointer (some ⟨pb, 0, none⟩), .string ⟨#[]⟩], .bool true]) ∧
      InnerK (fun b => b < w'.heap.size) w' n a (.pointer (some ⟨pa, 0, none⟩)) ∧ InnerK (fun b => b < w'.heap.size) w' m b (.pointer (some ⟨pb, 0, none⟩)) := by
  obtain ⟨W1, hW1⟩ : ∃ W1, W1 = ((w.alloc (.cells #[.int .i64 x0, .slice xa xl xc, .slice ya yl yc] 26)).alloc (.cells #[.int .i64 z0, .slice za zl zc, .slice ua ul uc] 26)).alloc (.cells #[.pointer none, .pointer none, .string ⟨#[]⟩] 72) := ⟨_, rfl⟩
  have hb1 : Below w.heap.size w W1 := by rw [hW1]; exact (((Below.refl _ _).alloc (Nat.le_refl _) _).alloc (by simp) _).alloc (by simp; omega) _
  have hz1 : W1.heap.size = w.heap.size + 3 := by rw [hW1]; simp
  have kA : W1.heap[w.heap.size + 1]? = some (.cells #[.int .i64 z0, .slice za zl zc, .slice ua ul uc] 26 (0, 0)) := by
    rw [hW1, Below.heap_alloc _ _ _ (by simp)]
    have := heap_alloc_new (w.alloc (.cells #[.int .i64 x0, .slice xa xl xc, .slice ya yl yc] 26)) (.cells #[.int .i64 z0, .slice za zl zc, .slice ua ul uc] 26)
    simpa using this
  have kZ : W1.heap[w.heap.size + 2]? = some (.cells #[.pointer none, .pointer none, .string ⟨#[]⟩] 72 (0, 0)) := by
    have := heap_alloc_new ((w.alloc (.cells #[.int .i64 x0, .slice xa xl xc, .slice ya yl yc] 26)).alloc (.cells #[.int .i64 z0, .slice za zl zc, .slice ua ul uc] 26)) (.cells #[.pointer none, .pointer none, .string ⟨#[]⟩] 72)
    rw [hW1]; simpa using this
  obtain ⟨ha1, hB1⟩ := ha.step hB hb1
  obtain ⟨hb1', -⟩ := hb.step hB hb1
  have HA : Hid (Calls Tryz.prog 22 #[.agg #[.int .i64 x0, .slice xa xl xc, .slice ya yl yc]] W1 fun e w' => Below W1.heap.size W1 w' ∧ ∃ pa, e = .returned (.tuple #[.pointer (some ⟨pa, 0, none⟩), .bool true]) ∧ InnerK (fun b => b < w'.heap.size ∧ b ≠ w.heap.size + 2) w' n a (.pointer (some ⟨pa, 0, none⟩))) := (innerKind_any n S a _ _ _ W1 ha1 hB1).mono fun e w' h => by
    obtain ⟨h1, ⟨-, v, rfl, hin⟩ | ⟨h2, -⟩⟩ := h
    · obtain ⟨p, rfl, -⟩ := id hin.ptr
      exact ⟨h1, p, rfl, hin.keep (fun _ _ => rfl) (fun b hb => hb.elim (fun h => ⟨Nat.lt_of_lt_of_le (hB1 b h) h1.size, by have := hB b h; omega⟩) (fun h => ⟨h.2, by omega⟩))⟩
    · rw [hoa] at h2; cases h2
  have HBk : Hid (∀ W, Below W1.heap.size W1 W → Calls Tryz.prog 22 #[.agg #[.int .i64 z0, .slice za zl zc, .slice ua ul uc]] W fun e w' => Below W.heap.size W w' ∧ ∃ pb, e = .returned (.tuple #[.pointer (some ⟨pb, 0, none⟩), .bool true]) ∧ InnerK (fun b => b < w'.heap.size ∧ b ≠ w.heap.size + 2) w' m b (.pointer (some ⟨pb, 0, none⟩))) := fun W hW => by
    obtain ⟨hb2, hB2⟩ := hb1'.step hB1 hW
    refine (innerKind_any m S b _ _ _ W hb2 hB2).mono fun e w' h => ?_
    obtain ⟨h1, ⟨-, v, rfl, hin⟩ | ⟨h2, -⟩⟩ := h
    · obtain ⟨p, rfl, -⟩ := id hin.ptr
      exact ⟨h1, p, rfl, hin.keep (fun _ _ => rfl) (fun b hb => hb.elim (fun h => ⟨Nat.lt_of_lt_of_le (hB2 b h) h1.size, by have := hB b h; omega⟩) (fun h => ⟨h.2, by have := hW.size; omega⟩))⟩
    · rw [hob] at h2; cases h2
  have HB1 : Hid (Below w.heap.size w W1) := hb1
  clear ha hb ha1 hb1' hb1 hoa hob hB1
  go_enter Tryz.func36, Tryz.ntmps36
  go_wp2_with fail
  rw [← hW1]
  clear hW1
  refine HA.out.mono ?_
  rintro e w2 ⟨hb2, pa, rfl, hia⟩
  have HA2 : Hid (Below W1.heap.size W1 w2 ∧ InnerK (fun b => b < w2.heap.size ∧ b ≠ w.heap.size + 2) w2 n a (.pointer (some ⟨pa, 0, none⟩))) := ⟨hb2, hia⟩
  have kA2 := (hb2.block (w.heap.size + 1) (by omega)).trans kA
  have q0 : w2.cell? ⟨w.heap.size + 1, 0, none⟩ = some (.int .i64 z0) := by simp [World.cell?, kA2]
  have q1 : w2.cell? ⟨w.heap.size + 1, 1, none⟩ = some (.slice za zl zc) := by simp [World.cell?, kA2]
  have q2 : w2.cell? ⟨w.heap.size + 1, 2, none⟩ = some (.slice ua ul uc) := by simp [World.cell?, kA2]
  have HB2 : Hid (Calls Tryz.prog 22 _ w2 _) := HBk.out w2 hb2
  clear hb2 hia kA2 HA
  go_wp2_with fail
  refine HB2.out.mono ?_
  rintro e w3 ⟨hb3, pb, rfl, hib⟩
  have hbW := HA2.out.1
  have kZ3 := (hb3.block (w.heap.size + 2) (by have := hbW.size; omega)).trans ((hbW.block (w.heap.size + 2) (by omega)).trans kZ)
  have z0' : w3.cell? ⟨w.heap.size + 1 + 1, 0, none⟩ = some (.pointer none) := by simp [World.cell?, kZ3]
  have z1' : w3.cell? ⟨w.heap.size + 1 + 1, 1, none⟩ = some (.pointer none) := by simp [World.cell?, kZ3]
  have z2' : w3.cell? ⟨w.heap.size + 1 + 1, 2, none⟩ = some (.string ⟨#[]⟩) := by simp [World.cell?, kZ3]
  have f0' : w3.frozen? ⟨w.heap.size + 1 + 1, 0, none⟩ = false := by simp [World.frozen?, kZ3]
  have f1' : w3.frozen? ⟨w.heap.size + 1 + 1, 1, none⟩ = false := by simp [World.frozen?, kZ3]
  have f2' : w3.frozen? ⟨w.heap.size + 1 + 1, 2, none⟩ = false := by simp [World.frozen?, kZ3]
  have HEnd : Hid (Below w.heap.size w (put3 w3 (w.heap.size + 1 + 1) 0 (.pointer (some ⟨pa, 0, none⟩)) (.pointer (some ⟨pb, 0, none⟩)) (.string ⟨#[]⟩)) ∧ InnerK (fun b => b < (put3 w3 (w.heap.size + 1 + 1) 0 (.pointer (some ⟨pa, 0, none⟩)) (.pointer (some ⟨pb, 0, none⟩)) (.string ⟨#[]⟩)).heap.size) (put3 w3 (w.heap.size + 1 + 1) 0 (.pointer (some ⟨pa, 0, none⟩)) (.pointer (some ⟨pb, 0, none⟩)) (.string ⟨#[]⟩)) n a (.pointer (some ⟨pa, 0, none⟩)) ∧
      InnerK (fun b => b < (put3 w3 (w.heap.size + 1 + 1) 0 (.pointer (some ⟨pa, 0, none⟩)) (.pointer (some ⟨pb, 0, none⟩)) (.string ⟨#[]⟩)).heap.size) (put3 w3 (w.heap.size + 1 + 1) 0 (.pointer (some ⟨pa, 0, none⟩)) (.pointer (some ⟨pb, 0, none⟩)) (.string ⟨#[]⟩)) m b (.pointer (some ⟨pb, 0, none⟩))) := by
    refine ⟨?_, HA2.out.2.keep (fun b hb => (put3_other (by omega)).trans (hb3.block b hb.1)) (fun b hb => by rw [put3_size]; have := hb3.size; omega), hib.keep (fun b hb => put3_other (by omega)) (fun b hb => by rw [put3_size]; exact hb.1)⟩
    have h3 : Below w.heap.size w w3 := (HB1.out.trans (hbW.mono (by omega))).trans (hb3.mono (by have := hbW.size; omega))
    exact ((h3.setCell (by show _ ≤ w.heap.size + 1 + 1; omega) _).setCell (by show _ ≤ w.heap.size + 1 + 1; omega) _).setCell (by show _ ≤ w.heap.size + 1 + 1; omega) _
  clear q0 q1 q2 kZ3 HB2 hb3 hib hbW
  go_wp2_with fail
  refine bodyPost_ret (v := .tuple #[.agg #[.pointer (some ⟨pa, 0, none⟩), .pointer (some ⟨pb, 0, none⟩), .string ⟨#[]⟩], .bool true]) (by simp [results, Tryz.results36, go_sem, z0', z1', z2']) rfl ?_
  exact ⟨HEnd.out.1, pa, pb, rfl, HEnd.out.2.1, HEnd.out.2.2⟩

end Go.Proofs.YtfbfchffnapnnaaGreatDoor

/-
  KindFits of the program at two schemas that are ok, the first of which fits: it answers yes.
-/
namespace Go.Proofs.YtfbfchffnapnnaaGreatDoor
open Go.RowKit

set_option maxRecDepth 20000 in
set_option maxHeartbeats 2000000 in
theorem implKFits_yes (n m : Nat) (S : Nat → Prop) (a : K n) (b : K m) (a0 a1 a2 b0 b1 b2 : Value) (w : World) (ha : KindIn S w n a a0 a1 a2) (hb : KindIn S w m b b0 b1 b2) (hB : ∀ b, S b → b < w.heap.size) (hoa : okK n a = true) (hob : okK m b = true) (hf : fitsK m b n a = true) :
    Calls Tryz.prog 11 #[.agg #[a0, a1, a2], .agg #[b0, b1, b2]] w fun e w' => e = .returned (.bool true) ∧ Below w.heap.size w w' := by
  obtain ⟨x0, xa, xl, xc, ya, yl, yc, rfl, rfl, rfl⟩ := ha.shape
  obtain ⟨z0, za, zl, zc, ua, ul, uc, rfl, rfl, rfl⟩ := hb.shape
  have hb1 : Below w.heap.size w ((w.alloc (.cells #[.int .i64 x0, .slice xa xl xc, .slice ya yl yc] 26)).alloc (.cells #[.int .i64 z0, .slice za zl zc, .slice ua ul uc] 26)) := ((Below.refl _ _).alloc (Nat.le_refl _) _).alloc (by simp) _
  obtain ⟨ha1, hB1⟩ := ha.step hB hb1
  obtain ⟨hb1', -⟩ := hb.step hB hb1
  have HP : Hid (Calls Tryz.prog 36 _ _ _) := innerPair_yes n m S a b x0 z0 xa ya za ua xl xc yl yc zl zc ul uc _ ha1 hb1' hB1 hoa hob
  have HG : Hid (goodK n a 1 = true ∧ goodK m b 1 = true ∧ cntK m b ≤ 40) := ⟨(okK_get hoa).1, (okK_get hob).1, (okK_get hob).2⟩
  have HF : Hid (fitsK m b n a = true) := hf
  have HB1 : Hid (Below w.heap.size w _) := hb1
  clear ha hb ha1 hb1' hb1 hoa hob hf
  go_enter Tryz.func11, Tryz.ntmps11
  go_wp2_with fail
  refine HP.out.mono ?_
  rintro e w2 ⟨hb2, pa, pb, rfl, hia, hib⟩
  have HB2 : Hid (Below w.heap.size w w2) := below_step HB1.out HB1.out.size hb2
  obtain ⟨W3, hW3⟩ : ∃ W3, W3 = w2.alloc (.cells #[.pointer (some ⟨pa, 0, none⟩), .pointer (some ⟨pb, 0, none⟩), .string ⟨#[]⟩] 72) := ⟨_, rfl⟩
  have hb3 : Below w2.heap.size w2 W3 := by rw [hW3]; exact (Below.refl _ _).alloc (Nat.le_refl _) _
  have hk3 : W3.heap[w2.heap.size]? = some (.cells #[.pointer (some ⟨pa, 0, none⟩), .pointer (some ⟨pb, 0, none⟩), .string ⟨#[]⟩] 72 (0, 0)) := by rw [hW3]; exact heap_alloc_new _ _
  have hz3 : W3.heap.size = w2.heap.size + 1 := by rw [hW3]; simp
  have HB3 : Hid (Below w.heap.size w W3) := below_step HB2.out HB2.out.size hb3
  have HNW : Hid (Calls Tryz.prog 37 #[] W3.drew fun e w' => e = .returned (.pointer (some ⟨W3.heap.size, 0, none⟩)) ∧ Below W3.heap.size W3 w' ∧ TabW w' W3.heap.size ∧ W3.heap.size < w'.heap.size) := (newWidenings_any W3.drew).mono fun e w' h => ⟨h.1, ((Below.refl W3.heap.size W3).drew).trans h.2.1, h.2.2.1, h.2.2.2⟩
  have HOf : Hid (∀ W, Below W3.heap.size W3 W → TabW W W3.heap.size → W3.heap.size < W.heap.size → Calls Tryz.prog 38 #[.pointer (some ⟨W3.heap.size, 0, none⟩), .agg #[.pointer (some ⟨pa, 0, none⟩), .pointer (some ⟨pb, 0, none⟩), .string ⟨#[]⟩]] W fun e w' => Below w.heap.size w w' ∧ ∃ fn first cap, e = .returned (.tuple #[.func fn first cap, .nilIface])) := fun W hW hT hl => by
    have hw2 : Below w2.heap.size w2 W := hb3.trans (hW.mono (by omega))
    refine (fit_any m (fun b => b < w2.heap.size) n a b _ _ 1 1 W3.heap.size ⟨#[]⟩ W (hia.keep (same_below hw2 (fun _ h => h)) (fun _ h => h)) (hib.keep (same_below hw2 (fun _ h => h)) (fun _ h => h)) (fun b hb => Nat.lt_of_lt_of_le hb hw2.size) hT hl HG.out.1 HG.out.2.1 HG.out.2.2 (by omega) (by show ((0 : Nat) : Int) ≤ 20 * 1; omega)).mono fun e w' h => ?_
    refine ⟨below_step (below_step HB2.out HB2.out.size hw2) (by have := HB2.out.size; have := hw2.size; omega) h.1, ?_⟩
    rcases h.2 with ⟨-, h2⟩ | ⟨h2, -⟩
    · exact h2
    · rw [HF.out] at h2; cases h2
  have c0 : W3.cell? ⟨w2.heap.size, 0, none⟩ = some (.pointer (some ⟨pa, 0, none⟩)) := by simp [World.cell?, hk3]
  have c1 : W3.cell? ⟨w2.heap.size, 1, none⟩ = some (.pointer (some ⟨pb, 0, none⟩)) := by simp [World.cell?, hk3]
  have c2 : W3.cell? ⟨w2.heap.size, 2, none⟩ = some (.string ⟨#[]⟩) := by simp [World.cell?, hk3]
  have HK : Hid (∀ W, Below W3.heap.size W3 W → W.cell? ⟨w2.heap.size, 0, none⟩ = some (.pointer (some ⟨pa, 0, none⟩)) ∧ W.cell? ⟨w2.heap.size, 1, none⟩ = some (.pointer (some ⟨pb, 0, none⟩)) ∧ W.cell? ⟨w2.heap.size, 2, none⟩ = some (.string ⟨#[]⟩)) := fun W hW => pair_kept ⟨c0, c1, c2⟩ hW
  clear hia hib hb2 hk3 HP hb3 hz3
  go_upto_region 4 with fail
  rw [← hW3]
  clear hW3
  go_region_law (first
    | (go_simp; go_at_call 37; refine HNW.out.mono ?_; rintro e w5 ⟨rfl, hb5, hT5, hl5⟩; obtain ⟨k0, k1, k2⟩ := HK.out w5 hb5)
    | (go_simp; go_at_call 38; refine (HOf.out w5 hb5 hT5 hl5).mono ?_; rintro e w6 ⟨hb6, fn, first, cap, rfl⟩))
  all_goals
    have HM : Hid (Calls Tryz.prog 39 #[.nilIface] w6 _) := isMisfit_nil w6
    go_wp2_with fail
    refine HM.out.mono ?_
    rintro e w7 ⟨rfl, hb7⟩
    go_wp2_with fail
    go_ret
    exact ⟨rfl, below_step hb6 hb6.size hb7⟩

end Go.Proofs.YtfbfchffnapnnaaGreatDoor
