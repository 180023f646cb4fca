import Derived.Test.YtelogmjfekhmpaaGreatDoorTI0
import Derived.Test.YtelogmjfekhmpaaGreatDoorKForm
namespace Go.Proofs.YtelogmjfekhmpaaGreatDoor
set_option maxRecDepth 100000
set_option maxHeartbeats 16000000
open Go.RowKit
theorem pu_num {m:Nat} {l:List UInt8} (h:digC (l.headD 0)=true∨l.headD 0=45):(numOf (numW l)=none->qaH (m+1) l=none)/\(∀ v,numOf (numW l)=some v->qaH (m+1) l=some ((⟨1,v,ByteArray.empty,[],[]⟩:Nd (T m)),l.drop (numW l).length)):=by
 refine⟨fun h1=>?_,fun v h1=>?_⟩ <;> rw[qaH,if_pos h,h1] <;> rfl
theorem xdE {m:Nat} {l:List UInt8} (h:l.headD 0=34):(qbS 34 (l.drop 1)=none->qaH (m+1) l=none)/\(∀ x r,qbS 34 (l.drop 1)=some (x,r)->qaH (m+1) l=some ((⟨2,0,bs x,[],[]⟩:Nd (T m)),r.drop 1)):=by
 refine⟨fun h1=>?_,fun x r h1=>?_⟩ <;> rw[qaH,if_neg (by rw[h];decide),if_pos h,h1] <;> rfl
theorem pu_yes {m:Nat} {l r:List UInt8} (h:l.headD 0=121∨l.headD 0=110) (h1:eatP [121,101,115] l=some r):qaH (m+1) l=some ((⟨3,1,ByteArray.empty,[],[]⟩:Nd (T m)),r):=by
 rw[qaH,if_neg (by rcases h with h|h <;> rw[h] <;> decide),if_neg (by rcases h with h|h <;> rw[h] <;> decide),if_pos h,h1];rfl
theorem pu_no {m:Nat} {l:List UInt8} (h:l.headD 0=121∨l.headD 0=110) (h1:eatP [121,101,115] l=none):(eatP [110,111] l=none->qaH (m+1) l=none)/\(∀ r,eatP [110,111] l=some r->qaH (m+1) l=some ((⟨3,0,ByteArray.empty,[],[]⟩:Nd (T m)),r)):=by
 refine⟨fun h2=>?_,fun r h2=>?_⟩ <;> rw[qaH,if_neg (by rcases h with h|h <;> rw[h] <;> decide),if_neg (by rcases h with h|h <;> rw[h] <;> decide),if_pos h,h1] <;> simp only[h2] <;> rfl
theorem xjA {m:Nat} {l:List UInt8} (h:l.headD 0=91):(listQ (qaH m) ((l.drop 1).length+1) [] (l.drop 1)=none->qaH (m+1) l=none)/\(∀ ks r,listQ (qaH m) ((l.drop 1).length+1) [] (l.drop 1)=some (ks,r)->qaH (m+1) l=some ((⟨4,0,ByteArray.empty,[],ks⟩:Nd (T m)),r)):=by
 refine⟨fun h1=>?_,fun ks r h1=>?_⟩ <;> rw[qaH,if_neg (by rw[h];decide),if_neg (by rw[h];decide),if_neg (by rw[h];decide),if_pos h,h1] <;> rfl
theorem xjB {m:Nat} {l:List UInt8} (h:l.headD 0=123):(formQ (qaH m) ((l.drop 1).length+1) [] [] (l.drop 1)=none->qaH (m+1) l=none)/\(∀ ns ks r,formQ (qaH m) ((l.drop 1).length+1) [] [] (l.drop 1)=some (ns,ks,r)->qaH (m+1) l=some ((⟨5,0,ByteArray.empty,ns,ks⟩:Nd (T m)),r)):=by
 refine⟨fun h1=>?_,fun ns ks r h1=>?_⟩ <;> rw[qaH,if_neg (by rw[h];decide),if_neg (by rw[h];decide),if_neg (by rw[h];decide),if_neg (by rw[h];decide),if_pos h,h1] <;> rfl
theorem xjC {m:Nat} {l:List UInt8} (h:l.headD 0=126):qaH (m+1) l=some ((⟨6,0,ByteArray.empty,[],[]⟩:Nd (T m)),l.drop 1):=by
 rw[qaH,if_neg (by rw[h];decide),if_neg (by rw[h];decide),if_neg (by rw[h];decide),if_neg (by rw[h];decide),if_neg (by rw[h];decide),if_pos h];rfl
theorem xjD {m:Nat} {l:List UInt8} (h:l.headD 0=63):(qaH m (l.drop 1)=none->qaH (m+1) l=none)/\(∀ t r,qaH m (l.drop 1)=some (t,r)->qaH (m+1) l=some ((⟨6,0,ByteArray.empty,[],[t]⟩:Nd (T m)),r)):=by
 refine⟨fun h1=>?_,fun t r h1=>?_⟩ <;> rw[qaH,if_neg (by rw[h];decide),if_neg (by rw[h];decide),if_neg (by rw[h];decide),if_neg (by rw[h];decide),if_neg (by rw[h];decide),if_neg (by rw[h];decide),if_pos h,h1] <;> rfl
theorem xdF {m:Nat} {l:List UInt8} (h1:¬ (digC (l.headD 0)=true∨l.headD 0=45)) (h2:¬ l.headD 0=34) (h3:¬ (l.headD 0=121∨l.headD 0=110)) (h4:¬ l.headD 0=91) (h5:¬ l.headD 0=123) (h6:¬ (l.headD 0=126∨l.headD 0=63)):qaH (m+1) l=none:=by
 rw[qaH,if_neg h1,if_neg h2,if_neg h3,if_neg h4,if_neg h5,if_neg (fun e=>h6 (.inl e)),if_neg (fun e=>h6 (.inr e))]
theorem qjI {l:List UInt8} {c:UInt8} (h:l.headD 0=c) (hc:c≠0):eatP [c] l=some (l.drop 1):=by
 conv=>lhs;rw[qhK h hc]
 exact qaE _ _
theorem quT (m R:Nat) (s:ByteArray) (i:Nat) (w:World) (h:Sc w R s i) (hi:i<=s.size) (hs:s.size<=10000) (hc:(s.data.toList.drop i).headD 0=34) :
  Calls Tryz.prog 130 #[.pointer (some ⟨R,0,none⟩)] w (TRPost R s i (m+1) w):=by
 have HP:Hid (_/\_):=xdE (m:=m) hc
 have HE:Hid (eatP [34] (s.data.toList.drop i)=some ((s.data.toList.drop i).drop 1)):=qjI hc (by decide)
 have HW:Hid (Calls Tryz.prog 157 #[.pointer (some ⟨R,0,none⟩),.string ⟨#[34]⟩] w _):=qcY w R s ⟨#[34]⟩ i h hs (by decide) hi
 have aD:Hid (Sc w R s i):=h
 clear h hc
 go_enter Tryz.func130,Tryz.ntmps130
 go_wp2_with fail
 refine HW.out.mono ?_
 rintro e w1 (⟨h1,rfl,h2,h3⟩|⟨h1,rfl,h2⟩)
 case inr=>
  have h1:eatP [34] (s.data.toList.drop i)=none:=h1
  rw[HE.out]at h1;cases h1
 have h2:Scan R w w1 (i+1):=h2
 have h3:i+1<=s.size:=h3
 have aA:Hid (Scan R w w1 (i+1)):=h2
 have HU:Hid (Calls Tryz.prog 158 #[.pointer (some ⟨R,0,none⟩),.int .u8 34] w1 (qjB 34 w1 R s (i+1))):=qmH 34 w1 R s (i+1) (h2.sc aD.out) hs h3
 clear h1 h2 HW
 go_wp2_with fail
 refine HU.out.mono ?_
 rintro e w2 (⟨x,u1,rfl,u2,u3⟩|⟨u1,rfl,u2⟩)
 case inr=>exact⟨rfl,.inr ⟨HP.out.1 (by rw[List.drop_drop];exact u1),rfl,aA.out.near.trans u2⟩⟩
 have aB:Hid (Scan R w w2 (i+1+x.length)):=aA.out.trans u2
 have aE:Hid (Calls Tryz.prog 157 #[.pointer (some ⟨R,0,none⟩),.string ⟨#[34]⟩] w2 _):=qcY w2 R s ⟨#[34]⟩ (i+1+x.length) (aB.out.sc aD.out) hs (by decide) (by omega)
 have aC:Hid (qbS 34 (s.data.toList.drop (i+1))=some (x,s.data.toList.drop (i+1+x.length))):=u1
 clear u1 u2 HU aA
 go_wp2_with fail
 refine aE.out.mono ?_
 rintro e w3 (⟨v1,rfl,v2,v3⟩|⟨v1,rfl,v2⟩)
 case inr=>
  have v1:eatP [34] (s.data.toList.drop (i+1+x.length))=none:=v1
  obtain⟨r',e1,-⟩:=qdM aC.out
  rw[e1,qaE]at v1
  cases v1
 have v2:Scan R w2 w3 (i+1+x.length+1):=v2
 have v3:i+1+x.length+1<=s.size:=v3
 have HF:Hid (TRPost R s i (m+1) w (.returned (.iface 167 (.string (bs x)))) w3):=by
  refine .inl ⟨(⟨2,0,bs x,[],[]⟩:Nd (T m)),i+1+x.length+1,_,?_,by omega,v3,rfl,.inr (.inl ⟨rfl,rfl⟩),aB.out.trans v2⟩
  have:=HP.out.2 x (s.data.toList.drop (i+1+x.length)) (by rw[List.drop_drop];exact aC.out)
  rw[this,List.drop_drop];rfl
 clear v1 v2 v3 aE aC aB
 go_wp2_with fail
 go_ret
 exact HF.out
theorem xdG (m R:Nat) (s:ByteArray) (i:Nat) (w:World) (h:Sc w R s i) (hi:i<=s.size) (hs:s.size<=10000) (hc:(s.data.toList.drop i).headD 0=121∨(s.data.toList.drop i).headD 0=110) :
  Calls Tryz.prog 128 #[.pointer (some ⟨R,0,none⟩)] w (TRPost R s i (m+1) w):=by
 have aB:Hid ((s.data.toList.drop i).headD 0=121∨(s.data.toList.drop i).headD 0=110):=hc
 have HW:Hid (Calls Tryz.prog 155 #[.pointer (some ⟨R,0,none⟩),.string ⟨#[121,101,115]⟩] w _):=qdJ w R s ⟨#[121,101,115]⟩ i h hs (by decide) hi
 have aD:Hid (Sc w R s i):=h
 clear h hc
 go_enter Tryz.func128,Tryz.ntmps128
 go_wp2_with fail
 refine HW.out.mono ?_
 rintro e w1 (⟨h1,rfl,h2,h3⟩|⟨h1,rfl,h2⟩)
 ·have h1:eatP [121,101,115] (s.data.toList.drop i)=some (s.data.toList.drop (i+3)):=h1
  have h2:Scan R w w1 (i+3):=h2
  have h3:i+3<=s.size:=h3
  have HF:Hid (TRPost R s i (m+1) w (.returned (.iface 168 (.bool true))) w1):=
   .inl ⟨_,i+3,_,pu_yes aB.out h1,by omega,h3,rfl,.inr (.inr (.inl ⟨rfl,rfl⟩)),h2⟩
  clear h1 h2 h3 HW
  go_wp2_with fail
  go_ret
  exact HF.out
 ·have h1:eatP [121,101,115] (s.data.toList.drop i)=none:=h1
  have HP:Hid (_/\_):=pu_no (m:=m) aB.out h1
  have aA:Hid (Scan R w w1 i):=h2
  have aC:Hid (Calls Tryz.prog 157 #[.pointer (some ⟨R,0,none⟩),.string ⟨#[110,111]⟩] w1 _):=qcY w1 R s ⟨#[110,111]⟩ i (h2.sc aD.out) hs (by decide) hi
  clear h1 h2 HW
  go_wp2_with fail
  refine aC.out.mono ?_
  rintro e w2 (⟨v1,rfl,v2,v3⟩|⟨v1,rfl,v2⟩)
  case inr=>exact⟨rfl,.inr ⟨HP.out.1 v1,rfl,aA.out.near.trans v2⟩⟩
  have v2:Scan R w1 w2 (i+2):=v2
  have v3:i+2<=s.size:=v3
  have HF:Hid (TRPost R s i (m+1) w (.returned (.iface 168 (.bool false))) w2):=
   .inl ⟨_,i+2,_,HP.out.2 _ v1,by omega,v3,rfl,.inr (.inr (.inl ⟨rfl,rfl⟩)),aA.out.trans v2⟩
  clear v1 v2 v3 aC aA
  go_wp2_with fail
  go_ret
  exact HF.out
theorem qyL (m:Nat) (hm:qgY m) (B R:Nat) (s:ByteArray) (i:Nat) (w:World) (hL:LaidU B w) (hBR:B<=R) (h:Sc w R s i) (hM:Meth w R) (hi:i<=s.size) (hs:s.size<=10000) (hlt:s.size - i<=m) (hc:(s.data.toList.drop i).headD 0=126∨(s.data.toList.drop i).headD 0=63) :
  Calls Tryz.prog 129 #[.pointer (some ⟨R,0,none⟩)] w (TRPost R s i (m+1) w):=by
 have hR:=h.lt
 have HW:Hid (Calls Tryz.prog 155 #[.pointer (some ⟨R,0,none⟩),.string ⟨#[126]⟩] w _):=qdJ w R s ⟨#[126]⟩ i h hs (by decide) hi
 have aD:Hid (Sc w R s i):=h
 have aC:Hid (LaidU B w/\Meth w R/\qgY m):=⟨hL,hM,hm⟩
 have aG:Hid ((s.data.toList.drop i).headD 0=126∨(s.data.toList.drop i).headD 0=63):=hc
 clear h hL hM hm hc
 go_enter Tryz.func129,Tryz.ntmps129
 go_wp2_with fail
 refine HW.out.mono ?_
 rintro e w1 (⟨h1,rfl,h2,h3⟩|⟨h1,rfl,h2⟩)
 ·have h1:eatP [126] (s.data.toList.drop i)=some (s.data.toList.drop (i+1)):=h1
  have h2:Scan R w w1 (i+1):=h2
  have h3:i+1<=s.size:=h3
  have HF:Hid (TRPost R s i (m+1) w (.returned (.iface 175 (.slice none 0 0))) w1):=by
   have hh:(s.data.toList.drop i).headD 0=126:=by rw[qbR h1];rfl
   refine .inl ⟨(⟨6,0,ByteArray.empty,[],[]⟩:Nd (T m)),i+1,_,?_,by omega,h3,rfl,.inr (.inr (.inr (.inr (.inr ⟨rfl,_,rfl,none,0,rfl,by simp[maxLen],fun h=>absurd rfl h⟩)))),h2⟩
   rw[xjC hh,List.drop_drop];rfl
  clear h1 h2 h3 HW
  go_wp2_with fail
  go_ret
  exact HF.out
 ·have h1:eatP [126] (s.data.toList.drop i)=none:=h1
  have hh:(s.data.toList.drop i).headD 0=63:=by
   rcases aG.out with h|h
   ·rw[qjI h (by decide)]at h1;cases h1
   ·exact h
  have HP:Hid (_/\_):=xjD (m:=m) hh
  have HE:Hid (eatP [63] (s.data.toList.drop i)=some ((s.data.toList.drop i).drop 1)):=qjI hh (by decide)
  have aE:Hid (Scan R w w1 i):=h2
  have aF:Hid (Calls Tryz.prog 157 #[.pointer (some ⟨R,0,none⟩),.string ⟨#[63]⟩] w1 _):=qcY w1 R s ⟨#[63]⟩ i (h2.sc aD.out) hs (by decide) hi
  clear h1 h2 HW hh
  go_wp2_with fail
  refine aF.out.mono ?_
  rintro e w2 (⟨v1,rfl,v2,v3⟩|⟨v1,rfl,v2⟩)
  case inr=>
   have v1:eatP [63] (s.data.toList.drop i)=none:=v1
   rw[HE.out]at v1;cases v1
  have v2:Scan R w1 w2 (i+1):=v2
  have v3:i+1<=s.size:=v3
  have aA:=aE.out.trans v2
  have aB:Hid (Scan R w w2 (i+1)):=aA
  have HK:Hid (Calls Tryz.prog 133 #[.pointer (some ⟨R,0,none⟩)] w2 (TRPost R s (i+1) m w2)):=aC.out.2.2 B R s (i+1) w2 (aC.out.1.near aA.near hBR hR) hBR (aA.sc aD.out) (aC.out.2.1.scan aA) v3 hs (by omega)
  clear v1 v2 aF aE aA HE
  go_wp2_with fail
  refine HK.out.mono ?_
  rintro e w3 (⟨t,q,v,y1,y2,y3,rfl,y4,y5⟩|⟨y1,rfl,y2⟩)
  case inr=>exact⟨rfl,.inr ⟨HP.out.1 (by rw[List.drop_drop];exact y1),rfl,aB.out.near.trans y2⟩⟩
  obtain⟨u,x,rfl⟩:=id y4.iface
  have aI:=aB.out.near.size
  have aJ:=y5.near.size
  have HF:Hid (TRPost R s i (m+1) w (.returned (.iface 175 (.slice (some ⟨w3.heap.size,0,none⟩) 1 1))) (w3.alloc (.cells #[.iface u x] 133))):=by
   have aH:Below w3.heap.size w3 (w3.alloc (.cells #[.iface u x] 133)):=(Below.refl _ _).alloc (Nat.le_refl _) _
   refine .inl ⟨_,q,_,HP.out.2 t _ (by rw[List.drop_drop];exact y1),by omega,y3,rfl,.inr (.inr (.inr (.inr (.inr ⟨rfl,_,rfl,some ⟨w3.heap.size,0,none⟩,1,rfl,by simp[maxLen],fun _=>⟨w3.heap.size,0,rfl,⟨by omega,by simp⟩,fun j hj=>?_⟩⟩)))),(aB.out.trans y5).below aH (by omega)⟩
   have:j=0:=by simpa using hj
   subst this
   exact⟨.iface u x,by simp[go_sem],y4.keep (fun b hb=>Below.heap_alloc _ _ _ hb.2) (fun b hb=>⟨by omega,by simp;omega⟩)⟩
  clear y1 y4 y5 HK aB
  go_wp2_with fail
  go_ret
  exact HF.out
end Go.Proofs.YtelogmjfekhmpaaGreatDoor
