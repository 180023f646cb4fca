import Derived.Test.YtmjhcgjhlakceaaGreatDoorB12
import Derived.Deep.RegionWith
namespace Go.Proofs.YtmjhcgjhlakceaaGreatDoor
open Go.RowKit
set_option maxRecDepth 20000 in
set_option maxHeartbeats 2000000 in
theorem outer_maybe (n : Nat) (hn : OutSaid n) (S : Nat -> Prop) (t : T (n + 1)) (kv : Value) (w : World) (hs : Nd.sort t = 6) (hr : Row1 S w (InnerT S w n) (Nd.kids t) kv) (hB : ∀ b, S b -> b < w.heap.size) (hc : cleanT (n + 1) t) :
  Calls Tryz.prog 79 #[.iface 133 kv] w (OutPost (n + 1) t w) := by
 obtain ⟨-, -, -, -, -, c1, n0, n1, t0, -, -, hkl, hkc⟩ := hc
 obtain ⟨e1, e2, e3⟩ := c1 hs
 have hno0 := Tryz.no_num_maybe
 have hno1 := Tryz.no_text_maybe
 have hno2 := Tryz.no_flag_maybe
 have hno3 := Tryz.no_list_maybe
 have hno4 := Tryz.no_form_maybe
 have hyes := Tryz.yes_maybe
 have hb0 := (Below.refl w.heap.size w).alloc (Nat.le_refl _) (.cells #[.int .i64 0, .int .i64 0, .string ⟨#[]⟩, .slice none 0 0, .slice none 0 0] 27)
 have hz := heap_alloc_new w (.cells #[.int .i64 0, .int .i64 0, .string ⟨#[]⟩, .slice none 0 0, .slice none 0 0] 27)
 have HC : Hid (Calls Tryz.prog 110 _ _ _) := outerTrees_any n hn S (Nd.kids t) kv (w.alloc (.cells #[.int .i64 0, .int .i64 0, .string ⟨#[]⟩, .slice none 0 0, .slice none 0 0] 27)) (hr.keep (same_below hb0 hB) (fun _ h => h) (fun _ _ _ hx => hx.keep (same_below hb0 hB) (fun _ h => h))) (fun b hb => by have := hB b hb; simp; omega) hkl hkc
 have HP : Hid (∀ W v' L, Below w.heap.size w W -> RowIn (fun b => w.heap.size + 1 <= b /\ b < W.heap.size) W (TreeIn (fun b => w.heap.size + 1 <= b /\ b < W.heap.size) W n) (Nd.kids t) v' -> SpR W n v' L -> Own (fun b => w.heap.size + 1 <= b /\ b < W.heap.size) L -> L.length = sumL (fun x => 3 + spL n x) (Nd.kids t) ->
   OutPost (n + 1) t w (.returned (.agg #[.int .i64 6, .int .i64 0, .string ⟨#[]⟩, .slice none 0 0, v'])) (put5 W w.heap.size 0 (.int .i64 6) (.int .i64 0) (.string ⟨#[]⟩) (.slice none 0 0) v')) := fun W v' L hW h1 h2 h3 h4 => by
  have := out_put (t := t) (L3 := []) (L4 := L) (c3 := .slice none 0 0) (c4 := v') hW (by rw [hs]; rfl) (wf_i64 _ n0 n1) t0 (by rw [e3]; exact ⟨none, 0, rfl, by simp [maxLen], fun s h => (by cases h), fun h => absurd rfl h⟩) h1 (SpN.no _) h2 h3 (by simp only [spL, e3]; simp [h4])
  rw [hs, e1, e2] at this; exact this
 obtain ⟨ka, kc, rfl, -⟩ := hr
 clear c1 e1 e2 e3 t0
 go_enter Tryz.func79, Tryz.ntmps79
 go_wp2_with fail
 refine HC.out.mono ?_
 rintro e w1 ⟨hb1, v', L, rfl, q1, q2, q3, q4⟩
 obtain ⟨va, vc, rfl, -⟩ := id q1
 obtain ⟨⟨r0, r1, r2, r3, r4⟩, f0, f1, f2, f3, f4⟩ := zero_tree ((hb1.block w.heap.size (by simp)).trans hz)
 have hbw := below_step hb0 (by simp) hb1
 simp only [World.size_alloc] at q1 q3
 have HQ : Hid _ := HP.out _ _ L hbw q1 q2 q3 q4
 clear HC HP hb0 hb1 hz hbw q1 q2 q3 q4
 go_wp2_with fail
 refine bodyPost_ret (v := .agg #[.int .i64 6, .int .i64 0, .string ⟨#[]⟩, .slice none 0 0, .slice va (Nd.kids t).length vc]) (by simp [results, Tryz.results79, go_sem, r0, r1, r2, r3, r4]) rfl ?_
 exact HQ.out
set_option maxRecDepth 20000 in
set_option maxHeartbeats 4000000 in
theorem outer_form (n : Nat) (hn : OutSaid n) (S : Nat -> Prop) (t : T (n + 1)) (nv kv : Value) (w : World) (hs : Nd.sort t = 5) (hN : StrsIn S w (Nd.names t) nv) (hr : Row1 S w (InnerT S w n) (Nd.kids t) kv) (hB : ∀ b, S b -> b < w.heap.size) (hc : cleanT (n + 1) t) :
  Calls Tryz.prog 79 #[.iface 140 (.agg #[nv, kv])] w (OutPost (n + 1) t w) := by
 obtain ⟨-, -, -, -, c1, -, n0, n1, t0, nl, ns, hkl, hkc⟩ := hc
 obtain ⟨e1, e2⟩ := c1 hs
 have hno0 := Tryz.no_num_form
 have hno1 := Tryz.no_text_form
 have hno2 := Tryz.no_flag_form
 have hno3 := Tryz.no_list_form
 have hyes := Tryz.yes_form
 obtain ⟨na, nc, rfl, -⟩ := id hN
 obtain ⟨ka, kc, rfl, -⟩ := id hr
 obtain ⟨W1, hW1⟩ : ∃ W1, W1 = (w.alloc (.cells #[.int .i64 0, .int .i64 0, .string ⟨#[]⟩, .slice none 0 0, .slice none 0 0] 27)).alloc (.cells #[.slice na (Nd.names t).length nc, .slice ka (Nd.kids t).length kc] 140) := ⟨_, rfl⟩
 have hz1 : W1.heap.size = w.heap.size + 2 := by rw [hW1]; simp
 have hb1 : Below w.heap.size w W1 := by rw [hW1]; exact ((Below.refl _ _).alloc (Nat.le_refl _) _).alloc (by simp) _
 have hzero : W1.heap[w.heap.size]? = some (.cells #[.int .i64 0, .int .i64 0, .string ⟨#[]⟩, .slice none 0 0, .slice none 0 0] 27 (0, 0)) := by
  rw [hW1, Below.heap_alloc _ _ _ (by simp)]; exact heap_alloc_new _ _
 have hform : W1.heap[w.heap.size + 1]? = some (.cells #[.slice na (Nd.names t).length nc, .slice ka (Nd.kids t).length kc] 140 (0, 0)) := by
  have := heap_alloc_new (w.alloc (.cells #[.int .i64 0, .int .i64 0, .string ⟨#[]⟩, .slice none 0 0, .slice none 0 0] 27)) (.cells #[.slice na (Nd.names t).length nc, .slice ka (Nd.kids t).length kc] 140)
  rw [hW1]; simpa using this
 have HCN : Hid (Calls Tryz.prog 111 #[.slice na (Nd.names t).length nc] W1.drew fun e w' => ∃ va vl vc, e = .returned (.slice va vl vc) /\ Below W1.heap.size W1 w' /\ w'.cell? ⟨w.heap.size + 1, 1, none⟩ = some (.slice ka (Nd.kids t).length kc) /\
   w'.ownsRow (w.heap.size + 2) 9 1 (.slice va vl vc) (Nd.names t).length ((Nd.names t).map .string)) := by
  refine (copyNames_any S (Nd.names t) _ W1.drew (hN.keep (same_below hb1.drew hB) (fun _ h => h)) (fun b hb => by have := hB b hb; simp; omega) nl ns).mono ?_
  rintro e w' ⟨v', rfl, hown, hb⟩
  have hb' : Below W1.heap.size W1 w' := ((Below.refl _ _).drew).trans hb
  obtain ⟨a, c, rfl⟩ := owns_shape hown
  refine ⟨_, _, _, rfl, hb', ?_, ?_⟩
  ·have := (hb'.block (w.heap.size + 1) (by omega)).trans hform
   simp [World.cell?, this]
  ·have h := hown
   simp only [World.size_drew, hz1] at h
   exact h
 have HCT : Hid (∀ (W : World) (va : Option Addr) (vl vc : Nat), Below W1.heap.size W1 W -> W.ownsRow (w.heap.size + 2) 9 1 (.slice va vl vc) (Nd.names t).length ((Nd.names t).map .string) -> Calls Tryz.prog 110 #[.slice ka (Nd.kids t).length kc] W fun e w' => ∃ ya yl yc, e = .returned (.slice ya yl yc) /\
   w'.heap[w.heap.size]? = some (.cells #[.int .i64 0, .int .i64 0, .string ⟨#[]⟩, .slice none 0 0, .slice none 0 0] 27 (0, 0)) /\
   OutPost (n + 1) t w (.returned (.agg #[.int .i64 5, .int .i64 0, .string ⟨#[]⟩, .slice va vl vc, .slice ya yl yc])) (put5 w' w.heap.size 0 (.int .i64 5) (.int .i64 0) (.string ⟨#[]⟩) (.slice va vl vc) (.slice ya yl yc))) := by
  intro W va vl vc hW hown
  have hbW : Below w.heap.size w W := hb1.trans (hW.mono hb1.size)
  have hzW := hW.size
  refine (outerTrees_any n hn S (Nd.kids t) _ W (hr.keep (same_below hbW hB) (fun _ h => h) (fun _ _ _ hx => hx.keep (same_below hbW hB) (fun _ h => h))) (fun b hb => by have := hB b hb; omega) hkl hkc).mono ?_
  rintro e w' ⟨hb, v', L, rfl, q1, q2, q3, q4⟩
  obtain ⟨ya, yc, rfl, -⟩ := id q1
  have hzw := hb.size
  have hown' : w'.ownsRow (w.heap.size + 2) 9 1 (.slice va vl vc) (Nd.names t).length ((Nd.names t).map .string) := owns_keep hown (fun g hg => hb.block g (owns_lt hown g hg).2)
  have hol := owns_lt hown
  obtain ⟨L3, p1, p2, p3⟩ := spn_of_owns hown' (by omega)
  refine ⟨_, _, _, rfl, (hb.block _ (by omega)).trans ((hW.block _ (by omega)).trans hzero), ?_⟩
  have := out_put (t := t) (w := w) (W := w') (L3 := L3) (L4 := L) (c3 := .slice va vl vc) (c4 := .slice ya (Nd.kids t).length yc) (hbW.trans (hb.mono (by omega))) (by rw [hs]; rfl) (wf_i64 _ n0 n1) t0
   (strs_of_owns hown' (by omega) ns (fun g hg => by have := hol g hg; omega)) (q1.keepT (fun _ _ => rfl) (fun b h => by omega)) p1 q2
   (p3.app q3 (fun b h => by have := hol b h; omega) (fun b h => by omega) (fun b h1 h2 => by have := hol b h1; omega)) (by rw [List.length_append, p2, q4]; rfl)
  rw [hs, e1, e2] at this; exact this
 have x0 : W1.cell? ⟨w.heap.size + 1, 0, none⟩ = some (.slice na (Nd.names t).length nc) := by simp [World.cell?, hform]
 have x1 : W1.cell? ⟨w.heap.size + 1, 1, none⟩ = some (.slice ka (Nd.kids t).length kc) := by simp [World.cell?, hform]
 clear c1 e1 e2 t0 hN hr hn hkc ns hzero hform
 go_enter Tryz.func79, Tryz.ntmps79
 go_wp2_with fail
 rw [<- hW1]
 clear hW1
 go_region_with (first
  | (go_at_call 111; refine HCN.out.mono ?_; rintro e w2 ⟨va, vl, vc, rfl, hb2, x1', hown2⟩)
  | (go_at_call 110; refine (HCT.out _ _ _ _ (by assumption) (by assumption)).mono ?_; rintro e w3 ⟨ya, yl, yc, rfl, hz3, hP⟩; obtain ⟨⟨r0, r1, r2, r3, r4⟩, f0, f1, f2, f3, f4⟩ := zero_tree hz3))
 all_goals
  have HQ : Hid _ := hP
  clear hP hown2 hb2 hz3 HCN HCT
  go_wp2_with fail
  refine bodyPost_ret (v := .agg #[.int .i64 5, .int .i64 0, .string ⟨#[]⟩, .slice va vl vc, .slice ya yl yc]) (by simp [results, Tryz.results79, go_sem, r0, r1, r2, r3, r4]) rfl ?_
  exact HQ.out
theorem outer_step (n : Nat) (hn : OutSaid n) : OutSaid (n + 1) := by
 intro S t iv w h hB hc
 rcases h with ⟨hs, rfl⟩ | ⟨hs, rfl⟩ | ⟨hs, rfl⟩ | ⟨hs, kv, rfl, hk⟩ | ⟨hs, nv, kv, rfl, hnm, hk⟩ | ⟨hs, kv, rfl, hk⟩
 ·exact outer_num n t w hs hc
 ·exact outer_text n t w hs hc
 ·exact outer_flag n t w hs hc
 ·exact outer_list n hn S t kv w hs hk hB hc
 ·exact outer_form n hn S t nv kv w hs hnm hk hB hc
 ·exact outer_maybe n hn S t kv w hs hk hB hc
theorem outerTree_any : ∀ n, OutSaid n := by
 intro n
 induction n with
 | zero => intro S t iv w h; exact h.elim
 | succ n ih => exact outer_step n ih
end Go.Proofs.YtmjhcgjhlakceaaGreatDoor
