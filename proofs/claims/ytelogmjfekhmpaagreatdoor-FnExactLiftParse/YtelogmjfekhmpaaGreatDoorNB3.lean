import Derived.Test.YtelogmjfekhmpaaGreatDoorNB2
import Derived.BigQuiet
namespace Go.Proofs.YtelogmjfekhmpaaGreatDoor
set_option maxRecDepth 100000
set_option maxHeartbeats 16000000
open Go.RowKit
theorem StrsIn.tail {S:Nat->Prop} {w:World} {a:ByteArray} {q:List ByteArray} {ao:Option Addr} {n cap:Nat} (h:StrsIn S w (a :: q) (.slice ao n cap)) (hc1:n<=cap):StrsIn S w q (sliced ao 1 n cap 1):=by
 obtain⟨ao',cap',hv,hl,hs,hc⟩:=h
 cases hv
 obtain⟨b,off,rfl,hB,aA⟩:=hc (by simp)
 simp only[List.length_cons]at hl hc1 ⊢
 unfold sliced
 refine⟨if cap=1 then some ⟨b,off,none⟩ else some ((⟨b,off,none⟩:Addr).add 1),cap - 1,by simp,by omega,fun s hm=>hs s (List.mem_cons_of_mem _ hm),fun hne=>?_⟩
 have hq:0<q.length:=List.length_pos_iff.2 hne
 refine⟨b,off+1,by rw[if_neg (by omega)];simp[Addr.add],hB,fun i hi=>?_⟩
 have:=aA (i+1) (by simp;omega)
 rw[show off+1+i=off+(i+1) by omega]
 simpa using this
theorem RowIn.tail {α:Type} {S:Nat->Prop} {w:World} {R:α->Value->Value->Value->Value->Value->Prop} {a:α} {q:List α} {ao:Option Addr} {n cap:Nat} (h:RowIn S w R (a :: q) (.slice ao n cap)) (hc1:n<=cap):RowIn S w R q (sliced ao 1 n cap 5):=by
 obtain⟨ao',cap',hv,hl,hc⟩:=h
 cases hv
 obtain⟨b,off,rfl,hB,aA⟩:=hc (by simp)
 simp only[List.length_cons]at hl hc1 ⊢
 unfold sliced
 refine⟨if cap=1 then some ⟨b,off,none⟩ else some ((⟨b,off,none⟩:Addr).add 5),cap - 1,by simp,by omega,fun hne=>?_⟩
 have hq:0<q.length:=List.length_pos_iff.2 hne
 refine⟨b,off+5,by rw[if_neg (by omega)];simp[Addr.add],hB,fun i hi=>?_⟩
 have:=aA (i+1) (by simp;omega)
 rw[show off+5+i*5=off+(i+1)*5 by omega]
 simpa using this
theorem xcC (S:Nat->Prop) (l:List ByteArray) (v:Value) (x:ByteArray) (w:World) (hl:StrsIn S w l v) :
  Calls Tryz.prog 146 #[v,.string x] w fun e w'=>w'=w/\∃ i:Int,e=.returned (.int .i64 i)/\decide (0<=i)=l.contains x:=by
 obtain⟨ao,cap,rfl,aC,hs,hc⟩:=hl
 unfold maxLen at aC
 go_enter Tryz.func146,Tryz.ntmps146
 go_wp2_with fail
 go_loop [8] (fun i=>∃ k:Nat,k<=l.length/\i=.int .i64 k/\Hid ((l.take k).contains x=false)) (fun i=>l.length - (intOf i).toNat)
 case atStart=>exact⟨0,Nat.zero_le _,rfl,rfl⟩
 case round=>
  obtain⟨k,hk,rfl,HA⟩:=hrel
  by_cases aB:k<l.length
  ·obtain⟨b,off,rfl,-,aA⟩:=hc (by intro h;rw[h]at aB;simp at aB)
   have aE:=aA k aB
   cases hq:(x==l[k]) with
   | true=>
    have aD:=(qcN x l[k]).trans hq
    have HF:Hid (decide (0<=(k:Int))=l.contains x):=by
     show _=_
     rw[decide_eq_true (by omega)]
     have:x=l[k]:=by rw[xbA]at hq;simpa using hq
     rw[this]
     symm
     rw[List.contains_eq_any_beq,List.any_eq_true]
     exact⟨l[k],List.getElem_mem aB,by rw[xbA];simp⟩
    clear hc aA hq HA
    go_wp2_with fail
    go_ret
    exact⟨rfl,_,rfl,HF.out⟩
   | false=>
    have aD:=(qcN x l[k]).trans hq
    have HF:Hid ((l.take (k+1)).contains x=false):=by
     show _=_
     have h1:=HA.out
     rw[List.contains_eq_any_beq]at h1 ⊢
     rw[List.take_succ_eq_append_getElem aB,List.any_append,h1]
     simp[hq]
    clear hc aA hq HA
    go_wp2_with fail
    go_round
    case rel=>exact⟨k+1,by omega,by go_num,HF⟩
    case measure=>simp[intOf];omega
  ·have HF:Hid (decide (0<=(-1:Int))=l.contains x):=by
    show _=_
    have h1:=HA.out
    rw[List.take_of_length_le (by omega)]at h1
    rw[h1];rfl
   clear hc hs HA
   go_wp2_with fail
   go_ret
   exact⟨rfl,_,rfl,HF.out⟩
theorem qrY (S:Nat->Prop) (l:List ByteArray) (v:Value) (x:ByteArray) (w:World) (hl:StrsIn S w l v) :
  Calls Tryz.prog 116 #[v,.string x] w fun e w'=>w'=w/\e=.returned (.bool (l.contains x)):=by
 obtain⟨ao,cap,hv,-⟩:=id hl
 subst hv
 have HC:Hid (Calls Tryz.prog 146 _ _ _):=xcC S l _ x w hl
 go_enter Tryz.func116,Tryz.ntmps116
 go_wp2_with fail
 refine HC.out.mono ?_
 rintro e w1 ⟨rfl,i,rfl,hi⟩
 have HI:=hidF hi
 clear hi HC hl
 by_cases h:0<=i
 ·go_wp2_with fail
  go_ret
  exact⟨rfl,qaD (by rw[<- HI.out];simp[h])⟩
 ·go_wp2_with fail
  go_ret
  exact⟨rfl,qaD HI.out⟩
theorem qrZ (S:Nat->Prop) (b:Nat) (p:UInt8) (s:ByteArray) (ahead:List ByteArray) (v:Value) (w:World) (hs:s.size<=maxLen) (hb:Book w b) (hl:StrsIn S w ahead v) :
  Calls Tryz.prog 90 #[.pointer (some ⟨b,0,none⟩),.int .i32 (p.toNat:Int),.string s,v] w fun e w'=>e=.returned (.bool (qbA p s ahead))/\w'=w:=by
 obtain⟨ao,cap,hv,-⟩:=id hl
 subst hv
 have aB:Hid (Calls Tryz.prog 106 _ _ _):=qgD s w hs
 have aA:Hid (Calls Tryz.prog 84 _ _ _):=qgS b s w hs hb
 have aC:Hid (Calls Tryz.prog 116 _ _ _):=qrY S ahead _ s w hl
 clear hb hl
 by_cases hp:p=78
 ·have h1:((p.toNat:Int)==78)=true:=by subst hp;rfl
  have HF:Hid (qbA p s ahead=nameB s):=by show _=_;unfold qbA;rw[if_pos hp]
  clear hp
  go_enter Tryz.func90,Tryz.ntmps90
  go_wp2_with fail
  refine aB.out.mono ?_
  rintro e w1 ⟨rfl,rfl⟩
  go_wp2_with fail
  go_ret
  exact⟨qaD HF.out.symm,rfl⟩
 ·have h1:((p.toNat:Int)==78)=false:=by
   have:¬ p.toNat=78:=fun e=>hp (UInt8.toNat_inj.1 e)
   simp;omega
  have HF:Hid (qbA p s ahead=(freeB s && !(ahead.contains s))):=by show _=_;unfold qbA;rw[if_neg hp]
  clear hp
  cases hf:freeB s with
  | false=>
   rw[hf]at HF aA
   go_enter Tryz.func90,Tryz.ntmps90
   go_wp2_with fail
   refine aA.out.mono ?_
   rintro e w1 ⟨rfl,rfl⟩
   go_wp2_with fail
   go_ret
   exact⟨qaD (by rw[HF.out];rfl),rfl⟩
  | true=>
   rw[hf]at HF aA
   go_enter Tryz.func90,Tryz.ntmps90
   go_wp2_with fail
   refine aA.out.mono ?_
   rintro e w1 ⟨rfl,rfl⟩
   go_wp2_with fail
   refine aC.out.mono ?_
   rintro e w1 ⟨rfl,rfl⟩
   go_wp2_with fail
   go_ret
   exact⟨qaD (by rw[HF.out];simp),rfl⟩
end Go.Proofs.YtelogmjfekhmpaaGreatDoor
