import Derived.Test.YtelogmjfekhmpaaGreatDoorKText
import Derived.Test.YtelogmjfekhmpaaGreatDoorKSpec
import Derived.Deep.RegionLaw
namespace Go.Proofs.YtelogmjfekhmpaaGreatDoor
set_option maxRecDepth 100000
set_option maxHeartbeats 16000000
open Go.RowKit
def qhB (n:Nat):Prop:=∀ (S:Nat->Prop) (t:K n) (c0 c1 c2:Value) (d:Int) (w:World),KindIn S w n t c0 c1 c2->(∀ b,S b->b<w.heap.size)->goodK n t d=true->cntK n t<=40 ->
 Calls Tryz.prog 43 #[.agg #[c0,c1,c2]] w fun e w'=>e=.returned (.string (bs (txtK n t)))/\Below w.heap.size w w'
theorem qkI (s:Int) (x:List UInt8) (na ka:Option Addr) (nl nc kl kc:Nat) (w:World) (hs:(s=1/\x=[110,117,109])∨(s=2/\x=[116,101,120,116])∨(s=3/\x=[102,108,97,103])) :
  Calls Tryz.prog 43 #[.agg #[.int .i64 s,.slice na nl nc,.slice ka kl kc]] w fun e w'=>e=.returned (.string (bs x))/\Below w.heap.size w w':=by
 rcases hs with ⟨rfl,rfl⟩|⟨rfl,rfl⟩|⟨rfl,rfl⟩
 all_goals
  go_enter Tryz.func43,Tryz.ntmps43
  go_wp2_with fail
  go_ret
  exact⟨rfl,(Below.refl _ _).alloc (Nat.le_refl _) _⟩
theorem qtB (n:Nat) (hn:qhB n) (S:Nat->Prop) (s:Int) (ks:List (K n)) (na:Option Addr) (nl nc:Nat) (kv:Value) (d:Int) (w:World) (hs:s=4∨s=6) (hr:RowIn3 S w (KindIn S w n) ks kv) (hB:∀ b,S b->b<w.heap.size)
  (hk1:ks.length=1) (hg:ks.all (fun x=>goodK n x d)=true) (hc:1+sumL (fun x=>cntK n x) ks<=40) :
  Calls Tryz.prog 43 #[.agg #[.int .i64 s,.slice na nl nc,kv]] w fun e w'=>e=.returned (.string (bs (if s=4 then 91 :: headL (txtK n) ks++[93] else 63 :: headL (txtK n) ks)))/\Below w.heap.size w w':=by
 obtain⟨ao,cap,rfl,aK,aB⟩:=hr
 match ks,hk1 with
 | [k],_=>
  obtain⟨b,off,rfl,aL,aI⟩:=aB (by simp)
  obtain⟨y0,y1,y2,e0,e1,e2,aH⟩:=aI 0 (by simp)
  simp only[Nat.zero_mul,Nat.add_zero,List.getElem_cons_zero]at e0 e1 e2 aH
  have aA:=(Below.refl w.heap.size w).alloc (Nat.le_refl _) (.cells #[.int .i64 s,.slice na nl nc,.slice (some ⟨b,off,none⟩) 1 cap] 55)
  have aF:=hB b aL
  have f0:=(aA.cell (p:=⟨b,off,none⟩) aF).trans e0
  have f1:=(aA.cell (p:=⟨b,off+1,none⟩) aF).trans e1
  have f2:=(aA.cell (p:=⟨b,off+2,none⟩) aF).trans e2
  have aC:=aH.keep (qaB aA hB) (fun _ h=>h)
  simp only[List.all_cons,Bool.and_eq_true]at hg
  simp only[sumL]at hc
  have aD:=qpE n k d hg.1
  have aM:(bs (txtK n k)).size<=960:=by rw[qaJ];omega
  have HQ:Hid (Calls Tryz.prog 43 #[.agg #[y0,y1,y2]] _ _):=hn S k y0 y1 y2 d _ aC (fun b hb=>by have:=hB b hb;simp;omega) hg.1 (by omega)
  have HA:Hid (bs [91]++bs (txtK n k)++bs [93]=bs (91 :: headL (txtK n) [k]++[93])):=by show _=_;rw[qaU,qaU];rfl
  have aJ:Hid (bs [63]++bs (txtK n k)=bs (63 :: headL (txtK n) [k])):=by show _=_;rw[qaU];rfl
  have aN:(bs [91]).size=1:=by rw[qaJ];rfl
  have aO:(bs [91]++bs (txtK n k)).size<=961:=by rw[ByteArray.size_append];omega
  clear aB aI e0 e1 e2 aH aC hg aD hn
  rw[List.length_singleton]
  rcases hs with rfl|rfl
  ·rw[if_pos rfl]
   go_enter Tryz.func43,Tryz.ntmps43
   go_wp2_with fail
   refine HQ.out.mono ?_
   rintro e w1 ⟨rfl,aE⟩
   have aG:=qaA aA (by simp) aE
   clear aA aE f0 f1 f2 HQ
   go_wp2_with fail
   go_ret
   exact⟨qpG HA.out,aG⟩
  ·rw[if_neg (by decide)]
   go_enter Tryz.func43,Tryz.ntmps43
   go_wp2_with fail
   refine HQ.out.mono ?_
   rintro e w1 ⟨rfl,aE⟩
   have aG:=qaA aA (by simp) aE
   clear aA aE f0 f1 f2 HQ
   go_wp2_with fail
   go_ret
   exact⟨qpG aJ.out,aG⟩
theorem qzC (n:Nat) (hn:qhB n) (S:Nat->Prop) (ks:List (K n)) (l:List ByteArray) (na:Option Addr) (nc:Nat) (kv:Value) (d:Int) (w:World) (hl:StrsIn S w l (.slice na l.length nc)) (hll:l.length=ks.length) (hl8:∀ s,s∈l->s.size<=8) (hr:RowIn3 S w (KindIn S w n) ks kv) (hB:∀ b,S b->b<w.heap.size)
  (hg:ks.all (fun x=>goodK n x d)=true) (hc:1+sumL (fun x=>cntK n x) ks<=40) (hjl:(joinL (zipL l (ks.map (txtK n)))).length<=960) :
  Calls Tryz.prog 43 #[.agg #[.int .i64 5,.slice na l.length nc,kv]] w fun e w'=>e=.returned (.string (bs (123 :: joinL (zipL l (ks.map (txtK n)))++[125])))/\Below w.heap.size w w':=by
 obtain⟨ao,cap,rfl,aR,aD⟩:=hr
 obtain⟨no,ncap,bI,-,aV,aA⟩:=hl
 cases bI
 unfold maxLen at aR
 have aS:=(Below.refl w.heap.size w).alloc (Nat.le_refl _) (.cells #[.int .i64 5,.slice na l.length nc,.slice ao ks.length cap] 55)
 have bA:=Box3.new w (.int .i64 5) (.slice na l.length nc) (.slice ao ks.length cap) 55
 have bK:(w.alloc (.cells #[.int .i64 5,.slice na l.length nc,.slice ao ks.length cap] 55)).heap.size=w.heap.size+1:=by simp
 have bB:Hid (∀ k,(qeP (zipL l (ks.map (txtK n))) k).size<=960):=fun k=>by
  have:=qdD (zipL l (ks.map (txtK n))) k
  unfold qeP;rw[qaJ];omega
 have HG:Hid (∀ k (h:k<ks.length),goodK n ks[k] d=true/\cntK n ks[k]<=40):=fun k h=>by
  refine⟨List.all_eq_true.1 hg _ (List.getElem_mem h),?_⟩
  have:=qcB (fun x=>cntK n x) ks _ (List.getElem_mem h)
  omega
 have aO:Hid (l.length=ks.length):=hll
 clear hg hll
 go_enter Tryz.func43,Tryz.ntmps43
 go_wp2_with fail
 generalize hW:w.alloc (.cells #[.int .i64 5,.slice na l.length nc,.slice ao ks.length cap] 55)=W at *
 clear hW
 go_loopw [3,4] (fun a i wr=>∃ k:Nat,k<=ks.length/\i=.int .i64 k/\a=.string (qeP (zipL l (ks.map (txtK n))) k)/\Below W.heap.size W wr) (fun _ i _=>ks.length - (intOf i).toNat)
 case atStart=>exact⟨0,Nat.zero_le _,rfl,rfl,Below.refl _ _⟩
 case round=>
  obtain⟨k,hk,rfl,rfl,aB⟩:=hrel
  have bC:=bB.out k
  obtain⟨i0,i1,i2⟩:=bA.keep aB
  have aT:=aB.size
  by_cases aF:k<ks.length
  ·obtain⟨b,off,rfl,bJ,aW⟩:=aD (by intro h;rw[h]at aF;simp at aF)
   obtain⟨y0,y1,y2,e0,e1,e2,aX⟩:=aW k aF
   have aP:=hB b bJ
   have aE:Below w.heap.size w wr:=qaA aS (by omega) aB
   have f0:=(aE.cell (p:=⟨b,off+k*3,none⟩) aP).trans e0
   have f1:=(aE.cell (p:=⟨b,off+k*3+1,none⟩) aP).trans e1
   have f2:=(aE.cell (p:=⟨b,off+k*3+2,none⟩) aP).trans e2
   have aG:=aX.keep (w':=wr.drew) (qaB aE.drew hB) (fun _ h=>h)
   have aL:=HG.out k aF
   have aH:=qpE n ks[k] d aL.1
   have bL:(bs (txtK n ks[k])).size<=960:=by rw[qaJ];omega
   have aI:k<l.length:=by rw[aO.out];exact aF
   obtain⟨nb,noff,rfl,aY,aZ⟩:=aA (by intro h;rw[h]at aI;simp at aI)
   have q0:=(aE.cell (p:=⟨nb,noff+k,none⟩) (hB nb aY)).trans (aZ k aI)
   have bD:=hl8 l[k] (List.getElem_mem aI)
   have bM:=hB nb aY
   have aJ:k<(zipL l (ks.map (txtK n))).length:=by rw[qbP _ _ (by simpa using aO.out)];simpa using aF
   have aM:bs (zipL l (ks.map (txtK n)))[k]=l[k]++bs [58]++bs (txtK n ks[k]):=by
    rw[qiJ l (ks.map (txtK n)) k aI (by simpa using aF) aJ,List.getElem_map,<- bs_of l[k],qaU,qaU,qcC]
    simp
   have HQ:Hid (Calls Tryz.prog 43 #[.agg #[y0,y1,y2]] wr.drew fun e w'=>e=.returned (.string (bs (txtK n ks[k])))/\Below wr.heap.size wr w' /\ w'.cell? ⟨w.heap.size,1,none⟩=some (.slice (some ⟨nb,noff,none⟩) l.length nc)/\w'.cell? ⟨w.heap.size,2,none⟩=some (.slice (some ⟨b,off,none⟩) ks.length cap)/\w'.cell? ⟨nb,noff+k,none⟩=some (.string l[k])):=by
    refine (hn S ks[k] y0 y1 y2 d wr.drew aG (fun b hb=>by have:=hB b hb;simp;omega) aL.1 aL.2).mono ?_
    rintro e w' ⟨rfl,hb⟩
    have aN:Below wr.heap.size wr w':=((Below.refl _ _).drew).trans hb
    exact⟨rfl,aN,(aN.cell (p:=⟨w.heap.size,1,none⟩) (by show w.heap.size<_;omega)).trans i1,(aN.cell (p:=⟨w.heap.size,2,none⟩) (by show w.heap.size<_;omega)).trans i2,(aN.cell (p:=⟨nb,noff+k,none⟩) (by show nb<_;omega)).trans q0⟩
   clear aD aW e0 e1 e2 aX aG aL aH aE aA aZ aV
   rcases Nat.eq_zero_or_pos k with rfl|bP
   ·have HS:Hid (qeP (zipL l (ks.map (txtK n))) (0+1)=bs []++(l[0]++bs [58]++bs (txtK n ks[0]))):=by show _=_;rw[qrK _ aJ,aM]
    have HE:Hid (qeP (zipL l (ks.map (txtK n))) 0=bs []):=rfl
    clear aJ aM
    rw[Nat.zero_mul,Nat.add_zero]at f0
    rw[Nat.zero_mul,Nat.add_zero]at f1 f2
    rw[HE.out]
    rw[HE.out]at bC
    generalize hac:bs []=acc at *
    generalize bs (txtK n ks[0])=tk at *
    generalize l[0]=nm at *
    rw[Nat.add_zero]at q0
    rw[Nat.add_zero]at HQ
    have bE:(acc++nm).size<=968:=by rw[ByteArray.size_append];omega
    have aQ:(acc++nm++bs [58]).size<=969:=by rw[ByteArray.size_append,qaJ];show _+1<=969;omega
    clear hac
    have bF:(9223372036854775807<acc.size+nm.size)=False:=eq_false (by omega)
    have bG:(9223372036854775807<acc.size+nm.size+1)=False:=eq_false (by omega)
    have bH:(9223372036854775807<acc.size+nm.size+1+tk.size)=False:=eq_false (by omega)
    go_wp2_with fail
    go_region_law (go_simp;go_at_call 43;refine HQ.out.mono ?_;rintro e w1 ⟨rfl,aK,j1,j2,p0⟩)
    all_goals
     have aC:=qaA aB aT aK
     clear aK f0 f1 f2
     go_wp2_with fail
     go_roundw
     case rel=>exact⟨0+1,by omega,by go_num,by rw[HS.out];exact congrArg Value.string (by rw[<- ByteArray.append_assoc,<- ByteArray.append_assoc];rfl),aC⟩
     case measure=>simp[intOf];omega
   ·have HS:Hid (qeP (zipL l (ks.map (txtK n))) (k+1)=qeP (zipL l (ks.map (txtK n))) k++bs [44]++(l[k]++bs [58]++bs (txtK n ks[k]))):=by show _=_;rw[qtZ _ _ aJ (by omega),aM]
    have bN:decide ((0:Int)<(k:Int))=true:=decide_eq_true (by omega)
    clear aJ aM
    generalize qeP (zipL l (ks.map (txtK n))) k=acc at *
    generalize bs (txtK n ks[k])=tk at *
    generalize l[k]=nm at *
    have bO:(acc++bs [44]).size<=961:=by rw[ByteArray.size_append,qaJ];simp;omega
    have bE:(acc++bs [44]++nm).size<=969:=by rw[ByteArray.size_append];omega
    have aQ:(acc++bs [44]++nm++bs [58]).size<=970:=by rw[ByteArray.size_append,qaJ];show _+1<=970;omega
    have bF:(9223372036854775807<acc.size+1+nm.size)=False:=eq_false (by omega)
    have bG:(9223372036854775807<acc.size+1+nm.size+1)=False:=eq_false (by omega)
    have bH:(9223372036854775807<acc.size+1+nm.size+1+tk.size)=False:=eq_false (by omega)
    go_wp2_with fail
    go_region_law (go_simp;go_at_call 43;refine HQ.out.mono ?_;rintro e w1 ⟨rfl,aK,j1,j2,p0⟩)
    all_goals
     have aC:=qaA aB aT aK
     clear aK f0 f1 f2
     go_wp2_with fail
     go_roundw
     case rel=>exact⟨k+1,by omega,by go_num,by rw[HS.out];exact congrArg Value.string (by rw[<- ByteArray.append_assoc,<- ByteArray.append_assoc];rfl),aC⟩
     case measure=>simp[intOf];omega
  ·have aU:k=ks.length:=by omega
   have HE:Hid (bs [123]++qeP (zipL l (ks.map (txtK n))) k++bs [125]=bs (123 :: joinL (zipL l (ks.map (txtK n)))++[125])):=by
    show _=_
    unfold qeP
    have e:ks.length=(zipL l (ks.map (txtK n))).length:=by rw[qbP _ _ (by simpa using aO.out)];simp
    rw[aU,e,List.take_length,qaU,qaU];rfl
   have aE:Below w.heap.size w wr:=qaA aS (by omega) aB
   clear aU aD aA aV
   generalize qeP (zipL l (ks.map (txtK n))) k=acc at *
   go_wp2_with fail
   go_ret
   exact⟨qpG HE.out,aE⟩
theorem qzD (n:Nat) (hn:qhB n):qhB (n+1):=by
 intro S t c0 c1 c2 d w ht hB hg hc
 have aA:=qpE (n+1) t d hg
 obtain⟨rfl,-,h3,h4⟩:=ht
 obtain⟨na,nc,rfl,-,-,-⟩:=id h3
 obtain⟨ka,kc,aC,-,-⟩:=id h4
 simp only[goodK,Bool.and_eq_true]at hg
 have ha:qbK (Kd.sort t) (Kd.names t) (Kd.kids t).length=true:=hg.1.2
 have aB:1+sumL (fun x=>cntK n x) (Kd.kids t)<=40:=by simpa only[cntK] using hc
 unfold qbK at ha
 simp only[txtK]at aA ⊢
 by_cases h1:Kd.sort t=1
 ·rw[if_pos h1,aC]
  exact qkI _ _ _ _ _ _ _ _ w (.inl ⟨h1,rfl⟩)
 rw[if_neg h1]at ha aA ⊢
 by_cases h2:Kd.sort t=2
 ·rw[if_pos h2,aC]
  exact qkI _ _ _ _ _ _ _ _ w (.inr (.inl ⟨h2,rfl⟩))
 rw[if_neg h2]at ha aA ⊢
 by_cases h3':Kd.sort t=3
 ·rw[if_pos h3',aC]
  exact qkI _ _ _ _ _ _ _ _ w (.inr (.inr ⟨h3',rfl⟩))
 rw[if_neg h3']at ha aA ⊢
 by_cases h4':Kd.sort t=4
 ·rw[if_pos h4']at ha ⊢
  simp only[Bool.and_eq_true,beq_iff_eq]at ha
  have:=qtB n hn S (Kd.sort t) (Kd.kids t) na (Kd.names t).length nc c2 (d+1) w (.inl h4') h4 hB (by omega) hg.2 aB
  rw[if_pos h4']at this
  exact this
 rw[if_neg h4']at ha aA ⊢
 by_cases h6:Kd.sort t=6
 ·rw[if_neg (by omega),if_pos h6]at ha
  rw[if_pos h6]
  simp only[Bool.and_eq_true,beq_iff_eq]at ha
  have:=qtB n hn S (Kd.sort t) (Kd.kids t) na (Kd.names t).length nc c2 (d+1) w (.inr h6) h4 hB (by omega) hg.2 aB
  rw[if_neg h4']at this
  exact this
 rw[if_neg h6]at aA ⊢
 by_cases h5:Kd.sort t=5
 ·rw[if_pos h5]at ha
  rw[h5]
  simp only[Bool.and_eq_true,beq_iff_eq]at ha
  simp only[List.length_append,List.length_cons,List.length_nil]at aA
  exact qzC n hn S (Kd.kids t) (Kd.names t) _ _ _ (d+1) w h3 (by omega) (qfA _ ha.2) h4 hB hg.2 aB (by omega)
 ·rw[if_neg h5,if_neg h6]at ha;cases ha
theorem qzE:∀ n,qhB n:=by
 intro n
 induction n with
 | zero=>intro S t c0 c1 c2 d w ht;exact ht.elim
 | succ n ih=>exact qzD n ih
end Go.Proofs.YtelogmjfekhmpaaGreatDoor
