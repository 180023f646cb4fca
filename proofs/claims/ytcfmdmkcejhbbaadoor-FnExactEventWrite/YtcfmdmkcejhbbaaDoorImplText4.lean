/-
  The text of any tree, by the program: appendTree, TreeWrite.
-/
import Derived.Test.YtcfmdmkcejhbbaaDoorImplText3
import Derived.Test.YtcfmdmkcejhbbaaDoorAsrt
namespace Go.Proofs.YtcfmdmkcejhbbaaDoor
open Go.RowKit

set_option maxRecDepth 20000 in
set_option maxHeartbeats 1000000 in
theorem appendTree_num (B : Nat) (w0 w : World) (v : Value) (l : List UInt8) (x : Int) (hb : Buf B w0 w v l) (h0 : -999999999 ≤ x) (h1 : x ≤ 999999999) (hl : l.length ≤ 20000) (hT : Tens B w) :
    Calls Tryd.prog 29 #[v, .iface 64 (.int .i64 x)] w fun e w' => ∃ v', e = .returned v' ∧ Buf B w0 w' v' (l ++ Lib.itoa x) := by
  have hyes := Tryd.yes_num
  obtain ⟨va, vn, vc, rfl⟩ := hb.shape
  have HQ : Hid (Calls Tryd.prog 38 _ w _) := buf_int B w0 w _ l x (by omega) (by omega) hb (by omega) hT
  clear hb hT
  go_enter Tryd.func29, Tryd.ntmps29
  go_wp2_with fail
  refine HQ.out.mono ?_
  rintro e w1 ⟨v1, rfl, hb1⟩
  obtain ⟨va1, vn1, vc1, rfl⟩ := hb1.shape
  have HB1 : Hid _ := hb1
  clear hb1 HQ
  go_wp2_with fail
  go_ret
  exact ⟨_, rfl, HB1.out⟩

set_option maxRecDepth 20000 in
set_option maxHeartbeats 1000000 in
theorem appendTree_text (B : Nat) (w0 w : World) (v : Value) (l : List UInt8) (x : ByteArray) (hb : Buf B w0 w v l) (hx : x.size ≤ 60) (hl : l.length ≤ 20000) :
    Calls Tryd.prog 29 #[v, .iface 66 (.string x)] w fun e w' => ∃ v', e = .returned v' ∧ Buf B w0 w' v' (l ++ (34 :: x.data.toList ++ [34])) := by
  have hno0 := Tryd.no_num_text
  have hyes := Tryd.yes_text
  obtain ⟨va, vn, vc, rfl⟩ := hb.shape
  have hxl : x.data.toList.length = x.size := by simp
  have HB : Hid _ := hb
  clear hb
  go_enter Tryd.func29, Tryd.ntmps29
  go_wp2_with (at_builtin; refine wpList_buf_byte rfl (.tmp 21) (.tmp 22) rfl B (.slice va vn vc) _ rfl w0 w 34 34 rfl HB.out rfl (by omega) ?_; intro v1 w1 hb1; obtain ⟨va1, vn1, vc1, rfl⟩ := hb1.shape; refine Hid.out ?_)
  refine Lib.hid ?_
  have HB1 : Hid _ := hb1
  clear hb1 HB
  go_wp2_with (at_builtin; refine wpList_buf_text rfl (.tmp 24) (.tmp 25) 66 rfl Tryd.underlying66 B (.slice va1 vn1 vc1) _ rfl w0 HB1.out x rfl (by simp; omega) ?_; intro v2 w2 hb2; obtain ⟨va2, vn2, vc2, rfl⟩ := hb2.shape; refine Hid.out ?_)
  refine Lib.hid ?_
  have HB2 : Hid _ := hb2
  clear hb2 HB1
  go_wp2_with (at_builtin; refine wpList_buf_byte rfl (.tmp 27) (.tmp 28) rfl B (.slice va2 vn2 vc2) _ rfl w0 w2 34 34 rfl HB2.out rfl (by simp; omega) ?_; intro v3 w3 hb3; obtain ⟨va3, vn3, vc3, rfl⟩ := hb3.shape; refine Hid.out ?_)
  refine Lib.hid ?_
  have HB3 : Hid _ := buf_cast hb3 (l' := l ++ (34 :: x.data.toList ++ [34])) (by simp)
  clear hb3 HB2
  go_wp2_with fail
  go_ret
  exact ⟨_, rfl, HB3.out⟩

set_option maxHeartbeats 400000 in
theorem flagWord_any (x : Bool) (w : World) : Calls Tryd.prog 39 #[.bool x] w fun e w' => e = .returned (.string (bs (if x = true then [121, 101, 115] else [110, 111]))) ∧ w = w' := by
  cases x
  all_goals
    go_enter Tryd.func39, Tryd.ntmps39
    go_wp2
    go_ret
    exact ⟨rfl, rfl⟩

set_option maxRecDepth 20000 in
set_option maxHeartbeats 1000000 in
theorem appendTree_flag (B : Nat) (w0 w : World) (v : Value) (l : List UInt8) (x : Bool) (hb : Buf B w0 w v l) (hl : l.length ≤ 20000) :
    Calls Tryd.prog 29 #[v, .iface 67 (.bool x)] w fun e w' => ∃ v', e = .returned v' ∧ Buf B w0 w' v' (l ++ (if x = true then [121, 101, 115] else [110, 111])) := by
  have hno0 := Tryd.no_num_flag
  have hno1 := Tryd.no_text_flag
  have hyes := Tryd.yes_flag
  obtain ⟨va, vn, vc, rfl⟩ := hb.shape
  have HB : Hid _ := hb
  have hfl : (if x = true then [121, 101, 115] else [110, 111] : List UInt8).length ≤ 3 := by split <;> simp
  have HE : Hid (∀ u : List UInt8, u = (if x = true then [121, 101, 115] else [110, 111]) → Buf B w0 w (.slice va vn vc) l) := fun _ _ => hb
  obtain ⟨fw, hfw⟩ : ∃ fw : List UInt8, fw = (if x = true then [121, 101, 115] else [110, 111]) := ⟨_, rfl⟩
  rw [← hfw] at hfl ⊢
  have HQ : Hid (Calls Tryd.prog 39 #[.bool x] w fun e w' => e = .returned (.string (bs fw)) ∧ w = w') := by rw [hfw]; exact flagWord_any x w
  have hsz : (bs fw).size = fw.length := bs_size fw
  have hsl : (bs fw).data.toList = fw := bs_toList fw
  clear hb hfw HE
  go_enter Tryd.func29, Tryd.ntmps29
  go_wp2_with fail
  refine HQ.out.mono ?_
  rintro e w1 ⟨rfl, rfl⟩
  go_wp2_with (at_builtin; refine wpList_buf_text rfl (.tmp 33) (.tmp 35) 9 rfl Tryd.underlying9 B (.slice va vn vc) _ rfl w0 HB.out (bs fw) rfl (by omega) ?_; intro v2 w2 hb2; obtain ⟨va2, vn2, vc2, rfl⟩ := hb2.shape; refine Hid.out ?_)
  refine Lib.hid ?_
  have HB3 : Hid _ := buf_cast hb2 (l' := l ++ fw) (by rw [bs_toList])
  clear hb2 HB
  go_wp2_with fail
  go_ret
  exact ⟨_, rfl, HB3.out⟩

set_option maxRecDepth 20000 in
set_option maxHeartbeats 1000000 in
theorem appendTree_list (B : Nat) (w0 w : World) (v : Value) (l r : List UInt8) (ka : Option Addr) (kl kc : Nat) (hb : Buf B w0 w v l) (HQ : Hid (Calls Tryd.prog 40 #[v, .slice ka kl kc] w fun e w' => ∃ v', e = .returned v' ∧ Buf B w0 w' v' r)) :
    Calls Tryd.prog 29 #[v, .iface 70 (.slice ka kl kc)] w fun e w' => ∃ v', e = .returned v' ∧ Buf B w0 w' v' r := by
  have hno0 := Tryd.no_num_list
  have hno1 := Tryd.no_text_list
  have hno2 := Tryd.no_flag_list
  have hyes := Tryd.yes_list
  obtain ⟨va, vn, vc, rfl⟩ := hb.shape
  clear hb
  go_enter Tryd.func29, Tryd.ntmps29
  go_wp2_with fail
  refine HQ.out.mono ?_
  rintro e w1 ⟨v1, rfl, hb1⟩
  obtain ⟨va1, vn1, vc1, rfl⟩ := hb1.shape
  have HB1 : Hid _ := hb1
  clear hb1 HQ
  go_wp2_with fail
  go_ret
  exact ⟨_, rfl, HB1.out⟩

set_option maxRecDepth 20000 in
set_option maxHeartbeats 1000000 in
theorem appendTree_form (B : Nat) (w0 w : World) (v : Value) (l r : List UInt8) (na ka : Option Addr) (nl nc kl kc : Nat) (hb : Buf B w0 w v l)
    (HQ : Hid (Calls Tryd.prog 41 #[v, .slice na nl nc, .slice ka kl kc, .func (.func 29) #[] #[]] (w.alloc (.cells #[.slice na nl nc, .slice ka kl kc] 73)) fun e w' => ∃ v', e = .returned v' ∧ Buf B w0 w' v' r)) :
    Calls Tryd.prog 29 #[v, .iface 73 (.agg #[.slice na nl nc, .slice ka kl kc])] w fun e w' => ∃ v', e = .returned v' ∧ Buf B w0 w' v' r := by
  have hno0 := Tryd.no_num_form
  have hno1 := Tryd.no_text_form
  have hno2 := Tryd.no_flag_form
  have hno3 := Tryd.no_list_form
  have hyes := Tryd.yes_form
  obtain ⟨va, vn, vc, rfl⟩ := hb.shape
  clear hb
  go_enter Tryd.func29, Tryd.ntmps29
  go_wp2_with fail
  refine HQ.out.mono ?_
  rintro e w1 ⟨v1, rfl, hb1⟩
  obtain ⟨va1, vn1, vc1, rfl⟩ := hb1.shape
  have HB1 : Hid _ := hb1
  clear hb1 HQ
  go_wp2_with fail
  go_ret
  exact ⟨_, rfl, HB1.out⟩

set_option maxRecDepth 20000 in
set_option maxHeartbeats 1000000 in
theorem appendTree_maybe (B : Nat) (w0 w : World) (v : Value) (l r : List UInt8) (ka : Option Addr) (kl kc : Nat) (hb : Buf B w0 w v l) (HQ : Hid (Calls Tryd.prog 42 #[v, .slice ka kl kc] w fun e w' => ∃ v', e = .returned v' ∧ Buf B w0 w' v' r)) :
    Calls Tryd.prog 29 #[v, .iface 75 (.slice ka kl kc)] w fun e w' => ∃ v', e = .returned v' ∧ Buf B w0 w' v' r := by
  have hno0 := Tryd.no_num_maybe
  have hno1 := Tryd.no_text_maybe
  have hno2 := Tryd.no_flag_maybe
  have hno3 := Tryd.no_list_maybe
  have hno4 := Tryd.no_form_maybe
  have hyes := Tryd.yes_maybe
  obtain ⟨va, vn, vc, rfl⟩ := hb.shape
  clear hb
  go_enter Tryd.func29, Tryd.ntmps29
  go_wp2_with fail
  refine HQ.out.mono ?_
  rintro e w1 ⟨v1, rfl, hb1⟩
  obtain ⟨va1, vn1, vc1, rfl⟩ := hb1.shape
  have HB1 : Hid _ := hb1
  clear hb1 HQ
  go_wp2_with fail
  go_ret
  exact ⟨_, rfl, HB1.out⟩

end Go.Proofs.YtcfmdmkcejhbbaaDoor
