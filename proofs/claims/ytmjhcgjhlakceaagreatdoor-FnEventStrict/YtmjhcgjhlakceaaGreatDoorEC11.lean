import Derived.Test.YtmjhcgjhlakceaaGreatDoorB22
import Derived.Defers
import Derived.Recover
namespace Go.Proofs.YtmjhcgjhlakceaaGreatDoor
open Go.RowKit
set_option maxRecDepth 20000 in
set_option maxHeartbeats 2000000 in
theorem wholeC_any (L : Nat) (hT : TrCSaid L) (w : World) (R : Nat) (ao : Option Addr) (l : List UInt8) (cap : Nat) (h : Cu w R ao l cap 0) (hL : l.length <= L) :
  Calls Tryz.prog 24 #[.pointer (some ⟨R, 0, none⟩)] w (WholeC L w R l) := by
 obtain ⟨W1, hW1⟩ : ∃ W1, W1 = (w.alloc (.cells #[.string ⟨#[]⟩, .int .i64 0, .int .i64 0, .int .i64 0, .string ⟨#[]⟩, .slice none 0 0, .slice none 0 0] 29)).alloc (.cells #[.string ⟨#[]⟩, .int .i64 0, .int .i64 0, .int .i64 0, .string ⟨#[]⟩, .slice none 0 0, .slice none 0 0] 29) := ⟨_, rfl⟩
 have hz1 : W1.heap.size = w.heap.size + 2 := by rw [hW1]; simp
 have hb1 : Below w.heap.size w W1 := by rw [hW1]; exact ((Below.refl _ _).alloc (Nat.le_refl _) _).alloc (by simp) _
 have hE1 : EW w W1 R ao l cap 0 (.string ⟨#[]⟩) (.int .i64 0) (.int .i64 0) (.int .i64 0) (.string ⟨#[]⟩) (.slice none 0 0) (.slice none 0 0) := by
  refine ⟨h, Near.of_below hb1, ?_, ?_, h.same hb1⟩
  ·rw [hW1, Below.heap_alloc _ _ _ (by simp)]; exact heap_alloc_new _ _
  ·rw [hW1]
   have := heap_alloc_new (w.alloc (.cells #[.string ⟨#[]⟩, .int .i64 0, .int .i64 0, .int .i64 0, .string ⟨#[]⟩, .slice none 0 0, .slice none 0 0] 29)) (.cells #[.string ⟨#[]⟩, .int .i64 0, .int .i64 0, .int .i64 0, .string ⟨#[]⟩, .slice none 0 0, .slice none 0 0] 29)
   simpa using this
 have HT := Lib.hid hT
 have HE1 := Lib.hid hE1
 have HC := Lib.hid (typeC_any W1 R ao l cap 0 hE1.cu)
 clear hT h hb1 hE1
 go_enter Tryz.func24, Tryz.ntmps24
 go_wp2_with fail
 rw [<- hW1]
 refine HC.out.mono ?_
 rintro e w2 ⟨hn2, ⟨x, i1, hts, -, rfl, hx, hcu2, hii⟩ | ⟨hno, rfl⟩⟩
 case inr => exact ⟨rfl, HE1.out.near.trans hn2, .inr ⟨took_type hno, rfl⟩⟩
 have hE2 := HE1.out.step hn2 hcu2
 have hs2 := hn2.size
 obtain ⟨⟨s0, s1, s2, s3, s4, s5, s6⟩, g0, g1, g2, g3, g4, g5, g6⟩ := ev7_cells hE2.box
 obtain ⟨W3, hW3⟩ : ∃ W3, W3 = w2.setCell ⟨w.heap.size + 1, 0, none⟩ (.string x) := ⟨_, rfl⟩
 have hE3 := hE2.set0 (.string x)
 rw [<- hW3] at hE3
 have hz3 : W3.heap.size = w2.heap.size := by rw [hW3]; simp
 have HE3 := Lib.hid hE3
 have HTs := Lib.hid hts
 have HC2 := Lib.hid (takeC_any W3 R ao l cap i1 hE3.cu)
 clear HC hn2 hcu2 hE2 hE3 hts HE1 hW1
 go_wp2_with fail
 rw [<- hW3]
 clear hW3 s0 s1 s2 s3 s4 s5 s6 g0 g1 g2 g3 g4 g5 g6
 refine HC2.out.mono ?_
 rintro e w4 ⟨hn4, ⟨hi, rfl, hcu4⟩ | ⟨hi, rfl⟩⟩
 case inr => exact ⟨rfl, HE3.out.near.trans hn4, .inr ⟨took_version HTs.out hi, rfl⟩⟩
 have hE4 := HE3.out.step hn4 hcu4
 have hs4 := hn4.size
 have hv := l[i1].toNat_lt
 have HTree : Hid ((∀ t', decI L (l.drop (i1 + 1)) ≠ some (t', [])) -> ∀ (x' : ByteArray) (v' : Int) (t' : T L), okE L x' v' t' = true -> packE L x' v' t' ≠ l) := fun ht => took_tree HTs.out hi ht
 have HAll : Hid (∀ t, decI L (l.drop (i1 + 1)) = some (t, []) -> TookE L l x (l[i1].toNat : Int) t) := fun t ht => took_all HTs.out hi ht
 obtain ⟨v, hvv⟩ : ∃ v, l[i1].toNat = v := ⟨_, rfl⟩
 rw [hvv] at hv HAll
 rw [hvv]
 obtain ⟨⟨s0, s1, s2, s3, s4, s5, s6⟩, g0, g1, g2, g3, g4, g5, g6⟩ := ev7_cells hE4.box
 obtain ⟨W5, hW5⟩ : ∃ W5, W5 = w4.setCell ⟨w.heap.size + 1, 1, none⟩ (.int .i64 (v : Int)) := ⟨_, rfl⟩
 have hE5 := hE4.set1 (.int .i64 (v : Int))
 rw [<- hW5] at hE5
 have hz5 : W5.heap.size = w4.heap.size := by rw [hW5]; simp
 have HE5 := Lib.hid hE5
 have HC3 := Lib.hid (HT.out R ao l cap (i1 + 1) W5 (by omega) hE5.cu)
 have hwv : IntKind.i64.wrap (v : Int) = (v : Int) := by rw [IntKind.wrap_i64]; omega
 clear HC2 hn4 hcu4 hE4 hE5 HTs hvv HE3 HT hi
 go_wp2_with fail
 rw [<- hW5]
 clear hW5 s0 s1 s2 s3 s4 s5 s6 g0 g1 g2 g3 g4 g5 g6
 refine HC3.out.mono ?_
 rintro e w6 ⟨hn6, ⟨t, q0, q1, q2, q3, q4, i3, hde, rfl, ht, ho, hcu6, hlt⟩ | ⟨hde, rfl⟩⟩
 case inr => exact ⟨rfl, HE5.out.near.trans hn6, .inr ⟨HTree.out (fun t' e => by rw [hde] at e; cases e), rfl⟩⟩
 obtain ⟨t0, t1, t2, ta, tl, tc, ua, ul, uc, rfl, rfl, rfl, rfl, rfl⟩ := ht.shape
 have hE6 := HE5.out.step hn6 hcu6
 have hs6 := hn6.size
 obtain ⟨⟨s0, s1, s2, s3, s4, s5, s6⟩, g0, g1, g2, g3, g4, g5, g6⟩ := ev7_cells hE6.box
 obtain ⟨V, hV⟩ : ∃ V, V = put5 w6 (w.heap.size + 1) 2 (.int .i64 t0) (.int .i64 t1) (.string t2) (.slice ta tl tc) (.slice ua ul uc) := ⟨_, rfl⟩
 have hE7 := hE6.put (.int .i64 t0) (.int .i64 t1) (.string t2) (.slice ta tl tc) (.slice ua ul uc)
 rw [<- hV] at hE7
 have hzV : V.heap.size = w6.heap.size := by rw [hV]; exact put5_size
 have HIn : Hid (TreeIn (fun b => w.heap.size + 2 <= b /\ b < V.heap.size) V L t (.int .i64 t0) (.int .i64 t1) (.string t2) (.slice ta tl tc) (.slice ua ul uc) /\ OwnT (fun b => w.heap.size + 2 <= b /\ b < V.heap.size) V L t (.slice ta tl tc) (.slice ua ul uc)) :=
  ⟨ht.keep (fun b hb => by rw [hV]; exact put5_other (by omega)) (fun b hb => ⟨by omega, by omega⟩), ho.keep (fun b hb => by rw [hV]; exact put5_other (by omega)) (fun b hb => ⟨by omega, by omega⟩)⟩
 have HE := Lib.hid hE7
 have HDe := Lib.hid hde
 have HV : Hid (put5 w6 (w.heap.size + 1) 2 (.int .i64 t0) (.int .i64 t1) (.string t2) (.slice ta tl tc) (.slice ua ul uc) = V) := hV.symm
 clear HC3 hn6 ht ho hcu6 hde hE6 hE7 hV HE5 hlt
 go_upto_region 5 with fail
 have HV2 := HV.out
 unfold put5 at HV2
 try rw [HV2]
 clear HV HV2 s0 s1 s2 s3 s4 s5 s6 g0 g1 g2 g3 g4 g5 g6
 obtain ⟨⟨k0, k1⟩, -⟩ := HE.out.cu.cells
 have hle := HE.out.cu.le
 obtain ⟨ln, hln⟩ : ∃ ln, l.length = ln := ⟨_, rfl⟩
 have HLn := Lib.hid hln
 rw [hln] at hle k1
 clear hln
 by_cases hi3 : i3 = ln
 case neg =>
  have hi3' : ¬ (i3 : Int) = (ln : Int) := by omega
  have hi3b : ((i3 : Int) == (ln : Int)) = false := by simp; omega
  have HP : Hid (∀ W, Near R V W -> WholeC L w R l (.panicked refusal) W) := fun W hW => ⟨HE.out.near.trans hW, .inr ⟨HTree.out (fun t' e => by
   rw [HDe.out] at e
   injection e with e
   have h2 := congrArg List.length (congrArg Prod.snd e)
   simp only [List.length_drop, List.length_nil] at h2
   have := HLn.out
   omega), rfl⟩⟩
  clear HE HDe HIn HTree HAll HLn
  go_region_dies
  all_goals (go_at_call 55; refine (demand_no _).mono ?_; rintro e w' ⟨rfl, rfl⟩; exact ⟨rfl, HP.out _ (nearC_drewN (Near.refl R V) 1)⟩)
 case pos =>
  subst hi3
  have hi3b : ((i3 : Int) == (i3 : Int)) = true := by simp
  have HP : Hid (∀ n, WholeC L w R l (.returned (.agg #[.string x, .int .i64 (v : Int), .int .i64 t0, .int .i64 t1, .string t2, .slice ta tl tc, .slice ua ul uc])) (put7 (V.drewN n) w.heap.size (.string x) (.int .i64 (v : Int)) (.int .i64 t0) (.int .i64 t1) (.string t2) (.slice ta tl tc) (.slice ua ul uc))) := fun n =>
   whole_out (t := t) (HE.out.drewN n) hx (HIn.out.1.keep (S := fun b => w.heap.size + 2 <= b /\ b < V.heap.size) (w := V) (w' := V.drewN n) (fun _ _ => rfl) (fun _ h => h)) (HIn.out.2.keep (P := fun b => w.heap.size + 2 <= b /\ b < V.heap.size) (w := V) (w' := V.drewN n) (fun _ _ => rfl) (fun _ h => h)) (HAll.out t (by rw [HDe.out, List.drop_eq_nil_of_le (by have := HLn.out; omega)]))
  obtain ⟨⟨s0, s1, s2, s3, s4, s5, s6⟩, -⟩ := ev7_cells HE.out.box
  obtain ⟨⟨z0, z1, z2, z3, z4, z5, z6⟩, f0, f1, f2, f3, f4, f5, f6⟩ := ev7_cells HE.out.zero
  clear HE HDe HIn HTree HAll HLn
  go_quiet (first | (go_at_call 55; refine Calls.quiet_of_same (demand_yes _)))
  go_wp2_with fail
  refine bodyPost_ret (v := .agg #[.string x, .int .i64 (v : Int), .int .i64 t0, .int .i64 t1, .string t2, .slice ta tl tc, .slice ua ul uc]) (by simp [results, Tryz.results24, go_sem, z0, z1, z2, z3, z4, z5, z6]) rfl ?_
  exact HP.out _
end Go.Proofs.YtmjhcgjhlakceaaGreatDoor
