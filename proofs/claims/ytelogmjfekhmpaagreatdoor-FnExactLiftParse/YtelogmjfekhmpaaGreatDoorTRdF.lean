import Derived.Test.YtelogmjfekhmpaaGreatDoorTRdF0
import Derived.Deep.Cut
import Derived.Deep.CutRange
namespace Go.Proofs.YtelogmjfekhmpaaGreatDoor
set_option maxRecDepth 100000
set_option maxHeartbeats 16000000
open Go.RowKit
theorem Tryz.info_stringR:(Tryz.prog.info? 9).map (fun i=>(i.zero,i.size,i.bytes))=some (some (.string ⟨#[]⟩),1,16):=by kernel_rfl
def qlG (m n:Nat) (w:World) (R:Nat) (s:ByteArray) (i:Nat) (e:Ending) (w':World):Prop:=
 Near R w w' /\ ∃ (ns:List ByteArray) (ks:List (T m)) (nv kv:Value) (i':Nat) (bad':Bool),e=.returned (.agg #[.int .i64 5,.int .i64 0,.string ByteArray.empty,nv,kv]) /\
  TreeIn (fun b=>w.heap.size<=b/\b<w'.heap.size) w' (m+1) (⟨5,0,ByteArray.empty,ns,ks⟩:Nd (T m)) (.int .i64 5) (.int .i64 0) (.string ByteArray.empty) nv kv/\RdS w' R s i' bad' /\
  i<i' /\ (bad'=false->i'<=s.size)/\i'<=s.size+n+1 /\
  (∀ (ns0:List ByteArray) (ks0:List (T m)) post,ns0.length=ks0.length->(∀ x,x∈ns0->nameB x=true)->s.data.toList.drop (i+1)=joinL (zipL ns0 (ks0.map (txtL m)))++125 :: post->(∀ k,k∈ks0->goodT m k (7 - (n:Int))=true) ->
   ns=ns0/\ks=ks0/\bad'=false/\i'=i+(joinL (zipL ns0 (ks0.map (txtL m)))).length+2)
theorem xgC {m n:Nat} {w Wb wr:World} {R:Nat} {s:ByteArray} {i i':Nat} {bad':Bool} {ns:List ByteArray} {ks:List (T m)} {nv kv:Value} (h:Many R (w.heap.size+1) m Wb wr 5 ns ks nv kv) (hR:R<w.heap.size) (hwb:Near R w Wb)
  (hbs:Wb.heap.size=w.heap.size+1) (hr:RdS wr R s i' bad') (hI:qlU m n s i ns ks i' bad') (hs:s.size<=10000) (hn6:n<=5) (hend:bad'=false->lookB s i'=125) :
  qlG m n w R s i (.returned (.agg #[.int .i64 5,.int .i64 0,.string ByteArray.empty,nv,kv])) (put5 (wr.setCell ⟨R,1,none⟩ (.int .i64 ((i':Int)+1))) w.heap.size 0 (.int .i64 5) (.int .i64 0) (.string ByteArray.empty) nv kv):=by
 obtain⟨h1,h2,h3,h4,h6,h5⟩:=hI
 have hl:ks.length<=20000:=by cases bad' <;> simp at h4 <;> omega
 obtain⟨q1,q2,q3⟩:=qwC h hR hwb hbs hr (by rfl) (by omega) hl
 refine⟨q1,ns,ks,nv,kv,i'+1,bad',rfl,q3,q2,by omega,fun hb=>?_,by omega,fun ns0 ks0 post hlen hnm he hg=>?_⟩
 ·have:=h2 hb
  have aA:=hend hb
  refine Classical.byContradiction fun hge=>?_
  rw[qbW s i' (by omega)]at aA
  exact absurd aA (by decide)
 ·obtain⟨k,hk,aH,aI,hb,hd⟩:=h5 ns0 ks0 post hlen hnm he hg
  have aA:=hend hb
  have aG:(zipL ns0 (ks0.map (txtL m))).length=ks0.length:=by rw[qbP _ _ (by simpa using hlen)];simp
  have aC:k=ks0.length:=by
   refine Classical.byContradiction fun hne=>?_
   have aE:k<ks0.length:=by omega
   have aB:k<(zipL ns0 (ks0.map (txtL m))).length:=by omega
   have aF:k<ns0.length:=by omega
   unfold lookB at aA
   rw[hd,List.drop_eq_getElem_cons aB,qiJ _ _ _ aF (by simpa using aE) aB,tailL]at aA
   obtain⟨c,r,e,aD⟩:=qrQ (hnm ns0[k] (List.getElem_mem aF))
   by_cases hk0:k=0
   ·simp only[hk0,decide_true,if_true]at aA
    simp only[hk0]at e
    rw[e]at aA
    simp only[List.cons_append,List.headD_cons]at aA
    exact (nm_ne aD).2.1 aA
   ·simp only[hk0,decide_false,Bool.false_eq_true,if_false,List.cons_append,List.headD_cons]at aA
    exact absurd aA (by decide)
  refine⟨by rw[aI,aC,<- hlen,List.take_length],by rw[aH,aC,List.take_length],hb,?_⟩
  have aJ:=h2 hb
  have e1:=congrArg List.length hd
  have e2:=congrArg List.length he
  rw[aC,<- aG,List.drop_length]at e1
  simp[tailL]at e1 e2
  have aE:i'<s.size:=by
   refine Classical.byContradiction fun hge=>?_
   rw[qbW s i' (by omega)]at aA
   exact absurd aA (by decide)
  omega
theorem xbO (n:Nat) (hn:qeI n) (hn6:n<=5) (m R:Nat) (hm:n+1<=m) (s:ByteArray) (i:Nat) (w:World) (h:RdS w R s i false) (hs:s.size<=10000) (hi:i<s.size) :
  Calls Tryz.prog 72 #[.pointer (some ⟨R,0,none⟩),.int .i64 5,.int .u8 125,.int .i64 (6 - n)] w (qlG m n w R s i):=by
 have c0:=h.cell0
 have c1:=h.cell1
 have c2:=h.cell2
 have f1:=h.free 1
 have hR:=h.lt
 have cW:IntKind.i64.wrap ((i:Int)+1)=(i:Int)+1:=by rw[IntKind.wrap_i64];omega
 have bS:Near R w ((w.setCell ⟨R,1,none⟩ (.int .i64 ((i:Int)+1))).alloc (.cells #[.int .i64 0,.int .i64 0,.string ⟨#[]⟩,.slice none 0 0,.slice none 0 0] 67)):=(Near.set R 1 w _).trans (Near.alloc _ _ _)
 have bT:RdS ((w.setCell ⟨R,1,none⟩ (.int .i64 ((i:Int)+1))).alloc (.cells #[.int .i64 0,.int .i64 0,.string ⟨#[]⟩,.slice none 0 0,.slice none 0 0] 67)) R s ((i+1:Nat):Int) false:=
  (Below.heap_alloc _ _ _ (by simpa using hR)).trans (h.set1 ((i:Int)+1))
 have aL:((w.setCell ⟨R,1,none⟩ (.int .i64 ((i:Int)+1))).alloc (.cells #[.int .i64 0,.int .i64 0,.string ⟨#[]⟩,.slice none 0 0,.slice none 0 0] 67)).heap[w.heap.size]?=some (.cells #[.int .i64 0,.int .i64 0,.string ⟨#[]⟩,.slice none 0 0,.slice none 0 0] 67 (0,0)):=by
  have:=heap_alloc_new (w.setCell ⟨R,1,none⟩ (.int .i64 ((i:Int)+1))) (.cells #[.int .i64 0,.int .i64 0,.string ⟨#[]⟩,.slice none 0 0,.slice none 0 0] 67)
  simpa using this
 have bU:((w.setCell ⟨R,1,none⟩ (.int .i64 ((i:Int)+1))).alloc (.cells #[.int .i64 0,.int .i64 0,.string ⟨#[]⟩,.slice none 0 0,.slice none 0 0] 67)).heap.size=w.heap.size+1:=by simp
 go_enter Tryz.func72,Tryz.ntmps72
 go_wp2_with fail
 generalize ((w.setCell ⟨R,1,none⟩ (.int .i64 ((i:Int)+1))).alloc (.cells #[.int .i64 0,.int .i64 0,.string ⟨#[]⟩,.slice none 0 0,.slice none 0 0] 67))=Wb at *
 have HN:Hid (qeI n):=hn
 have bV:Hid (Near R w Wb/\Wb.heap[w.heap.size]?=some (.cells #[.int .i64 0,.int .i64 0,.string ⟨#[]⟩,.slice none 0 0,.slice none 0 0] 67 (0,0))):=⟨bS,aL⟩
 clear hn bS aL c0 c1 c2 f1 h
 go_loopw [23] (fun _ wr=>∃ (ns:List ByteArray) (ks:List (T m)) (j ln:Nat) (bad':Bool) (na:Option Addr) (nc:Nat) (ka:Option Addr) (kc:Nat),ns.length=ln/\ks.length=ln/\Many R (w.heap.size+1) m Wb wr 5 ns ks (.slice na ln nc) (.slice ka ln kc)/\RdS wr R s j bad' /\ qlU m n s i ns ks j bad') (fun _ wr=>qwD wr R s.size)
 case atStart=>
  refine⟨[],[],i+1,0,false,none,0,none,0,rfl,rfl,⟨Near.alloc _ _ _,?_,⟨rfl,.inl ⟨rfl,rfl⟩⟩,by simp,⟨[],⟨rfl,.inl ⟨rfl,rfl⟩⟩,fun j hj=>absurd hj (Nat.not_lt_zero _)⟩,fun b hb=>by cases hb⟩,?_,?_⟩
  ·rw[<- bU];exact heap_alloc_new _ _
  ·exact (Below.heap_alloc _ _ _ (by omega)).trans bT
  ·refine⟨by omega,fun _=>by omega,by omega,by simp,rfl,fun ns0 ks0 post bF hnm he hg=>⟨0,Nat.zero_le _,by simp,by simp,rfl,?_⟩⟩
   rw[he];simp[qcV]
 case round=>
  obtain⟨ns,ks,j,ln,bad',na,nc,ka,kc,cC,bN,hM,hr,hI⟩:=hrel
  have hX:=hM.lt
  have cX:=hM.near.size
  have x0:wr.cell? ⟨w.heap.size+1,0,none⟩=some (.int .i64 5):=by simp[World.cell?,hM.box]
  have x1:wr.cell? ⟨w.heap.size+1,1,none⟩=some (.int .i64 0):=by simp[World.cell?,hM.box]
  have x2:wr.cell? ⟨w.heap.size+1,2,none⟩=some (.string ByteArray.empty):=by simp[World.cell?,hM.box]
  have x3:wr.cell? ⟨w.heap.size+1,3,none⟩=some (.slice na ln nc):=by simp[World.cell?,hM.box]
  have x4:wr.cell? ⟨w.heap.size+1,4,none⟩=some (.slice ka ln kc):=by simp[World.cell?,hM.box]
  have d1:=hr.cell1
  have d2:=hr.cell2
  have df:=hr.free 1
  have cN:=hI
  obtain⟨dC,cD,dD,bE,-,-⟩:=cN
  rw[bN]at bE
  have aF:Hid (ns.length=ln/\ks.length=ln):=⟨cC,bN⟩
  have HM:Hid (Many R (w.heap.size+1) m Wb wr 5 ns ks (.slice na ln nc) (.slice ka ln kc)):=hM
  have HR:Hid (RdS wr R s j bad'):=hr
  have HI:Hid (qlU m n s i ns ks j bad'):=hI
  have cY:IntKind.i64.wrap ((j:Int)+1)=(j:Int)+1:=by rw[IntKind.wrap_i64];omega
  have bF:ln<=10010:=by cases bad' <;> simp at bE <;> omega
  have gb:wr.heap[w.heap.size]?=_:=(hM.near.block w.heap.size (by omega) (by omega)).trans bV.out.2
  have g0:wr.cell? ⟨w.heap.size,0,none⟩=some (.int .i64 0):=by simp[World.cell?,gb]
  have g1:wr.cell? ⟨w.heap.size,1,none⟩=some (.int .i64 0):=by simp[World.cell?,gb]
  have g2:wr.cell? ⟨w.heap.size,2,none⟩=some (.string ⟨#[]⟩):=by simp[World.cell?,gb]
  have g3:wr.cell? ⟨w.heap.size,3,none⟩=some (.slice none 0 0):=by simp[World.cell?,gb]
  have g4:wr.cell? ⟨w.heap.size,4,none⟩=some (.slice none 0 0):=by simp[World.cell?,gb]
  have gf:∀ o,wr.frozen? ⟨w.heap.size,o,none⟩=false:=fun o=>by simp[World.frozen?,gb]
  have gf0:=gf 0
  have gf1:=gf 1
  have gf2:=gf 2
  have gf3:=gf 3
  have gf4:=gf 4
  have aE:Hid ((bad'=false->lookB s j=125)->∀ q,qlG m n w R s i (.returned (.agg #[.int .i64 5,.int .i64 0,.string ByteArray.empty,.slice na ln nc,.slice ka ln kc])) (put5 ((wr.drewN q).setCell ⟨R,1,none⟩ (.int .i64 ((j:Int)+1))) w.heap.size 0 (.int .i64 5) (.int .i64 0) (.string ByteArray.empty) (.slice na ln nc) (.slice ka ln kc))):=fun he q=>
   xgC (HM.out.keep (by omega) ((Near.refl R wr).drewN q)) hR bV.out.1 bU (HR.out.drewN q) HI.out hs hn6 he
  clear hM hr hI cC bN gb gf bT
  cases bad' with
  | true=>
   have HZ:Hid _:=aE.out (fun h=>by cases h) 0
   clear aE
   go_wp2_with fail
   refine bodyPost_ret (v:=.agg #[.int .i64 5,.int .i64 0,.string ByteArray.empty,.slice na ln nc,.slice ka ln kc]) (by simp[results,Tryz.results72,go_sem,g0,g1,g2,g3,g4]) rfl ?_
   exact HZ.out
  | false=>
   have bG:j<=s.size:=cD rfl
   have cZ:ln<=j:=by simpa using bE
   clear cD bE
   have HL:Hid (Calls Tryz.prog 56 #[.pointer (some ⟨R,0,none⟩)] wr fun e w'=>e=.returned (.int .u8 ((lookB s j).toNat:Int))/\∃ m',w'=wr.drewN m'):=qbL wr R s j false HR.out
   by_cases aC:lookB s j=125
   ·have hc:((lookB s j).toNat:Nat)=125:=by rw[aC];rfl
    rw[hc]at HL
    have HZ:Hid (∀ q,_):=aE.out (fun _=>aC)
    clear aE aC hc
    go_wp2_with (go_at_call 56;refine HL.out.mono ?_;rintro e w' ⟨rfl,nq,rfl⟩)
    refine bodyPost_ret (v:=.agg #[.int .i64 5,.int .i64 0,.string ByteArray.empty,.slice na ln nc,.slice ka ln kc]) (by simp[results,Tryz.results72,go_sem,g0,g1,g2,g3,g4]) rfl ?_
    exact HZ.out nq
   ·have cO:((((lookB s j).toNat:Nat):Int)==125)=false:=by
     rw[beq_eq_false_iff_ne]
     intro e;apply aC;apply UInt8.toNat_inj.1
     have cP:(125:UInt8).toNat=125:=rfl
     omega
    have cQ:((((lookB s j).toNat:Nat):Int) != 125)=true:=by simp[bne,cO]
    have HE:Hid (¬ lookB s j=125):=aC
    have dA:(((lookB s j).toNat:Nat):Int)<=255:=by have:=(lookB s j).toNat_lt;omega
    have dB:IntKind.i64.wrap (6 - (n:Int)+1)=7 - (n:Int):=by rw[IntKind.wrap_i64];omega
    clear aC aE g0 g1 g2 g3 g4 gf0 gf1 gf2 gf3 gf4 x0 x1 x2
    generalize ((lookB s j).toNat:Nat)=c at *
    rcases Nat.eq_zero_or_pos ln with h0|h0
    case' inl=>
     have hd:(0<ln)=False:=eq_false (by omega)
     have cR:((0:Int)<(ln:Int))=False:=eq_false (by omega)
     have aW:Hid (Comma s ln j j false):=.inl ⟨h0,rfl,rfl⟩
     clear h0
     go_wp2_with (go_at_call 56;refine HL.out.mono ?_;rintro e w' ⟨rfl,nq,rfl⟩)
     have bH:Near R wr (wr.drewN nq):=(Near.refl R wr).drewN nq
     have aM:RdS (wr.drewN nq) R s j false:=HR.out.drewN nq
     generalize wr.drewN nq=w1 at *
     obtain⟨i1,bad1,aM,aW,aG⟩:∃ (i1:Nat) (bad1:Bool),RdS w1 R s i1 bad1/\Hid (Comma s ln j i1 bad1)/\i1<=s.size:=⟨j,false,aM,aW,bG⟩
     clear hd cR
    case' inr=>
     have hd:(0:Int)<(ln:Int):=by omega
     go_wp2_with (go_at_call 56;refine HL.out.mono ?_;rintro e w' ⟨rfl,nq,rfl⟩)
     refine (qcK _ R s ⟨#[44]⟩ j false (HR.out.drewN nq) hs (by decide) bG).mono ?_
     rintro e w1 ⟨rfl,cE,aO⟩
     obtain⟨i1,bad1,aM,aW,aG⟩:∃ (i1:Nat) (bad1:Bool),RdS w1 R s i1 bad1/\Hid (Comma s ln j i1 bad1)/\i1<=s.size:=by
      rcases aO with ⟨he,hz,h⟩|⟨he,h⟩
      ·exact⟨j+1,false,h,.inr ⟨by omega,.inl ⟨he,hz,rfl,rfl⟩⟩,hz⟩
      ·exact⟨j,true,h,.inr ⟨by omega,.inr ⟨he,rfl,rfl⟩⟩,bG⟩
     have bH:Near R wr w1:=((Near.refl R wr).drewN nq).trans cE
     clear aO cE hd h0
    all_goals
     have aI:Hid (Many R (w.heap.size+1) m Wb w1 5 ns ks (.slice na ln nc) (.slice ka ln kc)):=HM.out.keep (by omega) bH
     have bI:=aI.out.lt
     have x3w:w1.cell? ⟨w.heap.size+1,3,none⟩=some (.slice na ln nc):=by simp[World.cell?,aI.out.box]
     obtain⟨x,bO⟩:∃ x,Hid (bs ((s.data.toList.drop i1).takeWhile qaV)=x):=⟨_,rfl⟩
     obtain⟨j1,HJ⟩:∃ j1,Hid (i1+((s.data.toList.drop i1).takeWhile qaV).length=j1):=⟨_,rfl⟩
     have bW:Hid (Calls Tryz.prog 58 #[.pointer (some ⟨R,0,none⟩)] w1.drew fun e w'=>e=.returned (.string x)/\Near R w1.drew w' /\ RdS w' R s (j1:Int) bad1):=
      (qwA w1.drew R s i1 bad1 (aM.drewN 1) hs aG).mono fun e w' ⟨h1,h2,h3,_⟩=>⟨by rw[h1,bO.out],h2,by rw[HJ.out]at h3;exact h3⟩
     have HT:Hid ((bs ((s.data.toList.drop i1).takeWhile qaV)).size<=10000/\i1+((s.data.toList.drop i1).takeWhile qaV).length<=s.size):=by
      have h1:((s.data.toList.drop i1).takeWhile qaV).length<=(s.data.toList.drop i1).length:=(List.takeWhile_prefix _).length_le
      rw[List.length_drop]at h1
      have h2:s.data.toList.length=s.size:=by simp
      exact⟨by rw[qaJ];omega,by omega⟩
     rw[bO.out,HJ.out]at HT
     have bX:=HT.out.2
     have aX:Hid (w1.ownsRow (w.heap.size+1+1) 9 1 (.slice na ln nc) ln (ns.map .string)):=by
      have:=aI.out.names
      rw[aF.out.1]at this;exact this
     obtain⟨is0,aP,aQ,aR,aS⟩:=info_parts Tryz.info_stringR
     have aY:Hid (_/\_/\_/\_):=⟨aP,aQ,aR,aS⟩
     clear aP aQ aR aS aM x3 x4 d1 d2 df HL HM bH
     go_upto_region 7 with fail
     go_cut [23] from 20 to 56 (fun _ wx=>∃ g cap,Many R (w.heap.size+1) m Wb wx 5 (ns++[x]) ks (.slice (some ⟨g,0,none⟩) (ln+1) cap) (.slice ka ln kc)/\RdS wx R s (j1:Int) bad1)
     case first=>
      go_region_law (first
       | (refine step_append_lies _ (by rfl) (.tmp 40) (.tmp 43) 22 (by rfl) (w.heap.size+1+1) 9 is0 _ 1 16 Tryz.underlying22 aY.out.1 aY.out.2.1 aY.out.2.2.1 aY.out.2.2.2 rfl (by decide) (.slice na ln nc) ln (ns.map .string) (by rfl) (bY _) ⟨w2.heap.size,0,none⟩ 1 1 [.string x] (by rfl) rfl (World.news_of_block (heap_alloc_new w2 _)) (by simp[Value.oneCell']) (by decide) (by unfold maxLen;omega) (by omega) (by simp;omega) (w2.heap.size+1) (by simp) ?_;intro g cap w3' aT aB cF dE;have bJ:=(qiP (W:=w1.drew) aX.out bI (by omega) aK aB).trans aI.out.box;have x3'':w3'.cell? ⟨w.heap.size+1,3,none⟩=some (.slice na ln nc):=(by simp[World.cell?,bJ]);have xf'':w3'.frozen? ⟨w.heap.size+1,3,none⟩=false:=(by simp[World.frozen?,bJ]))
       | (go_simp;go_at_call 58;refine bW.out.mono ?_;rintro e w2 ⟨rfl,aK,cG⟩;have bK:w1.heap.size<=w2.heap.size:=aK.size;have bY:=fun o=>qiA (R:=R) (X:=w.heap.size+1) (W:=w1.drew) aX.out (by omega) aK o;have x3':w2.cell? ⟨w.heap.size+1,3,none⟩=some (.slice na ln nc):=(World.cell?_of_block (aK.block (w.heap.size+1) (by simpa using bI) (by omega))).trans x3w;have x3a:(w2.alloc (.cells #[.string x] 9)).cell? ⟨w.heap.size+1,3,none⟩=some (.slice na ln nc):=(World.cell?_of_block (Below.heap_alloc _ _ _ (by show w.heap.size+1<_;omega))).trans x3'))
      all_goals
       have aJ:=Many.name (W:=w2) (Wa:=w2.alloc (.cells #[.string x] 9)) (one:=.cells #[.string x] 9) (aI.out.keep (by omega) (((Near.refl R w1).drewN 1).trans aK)) (by omega) rfl ⟨rfl,rfl,rfl⟩ HT.out.1 (by rw[aF.out.1];exact aT) aB cF
       rw[aF.out.1]at aJ
       have aZ:Hid (Many R (w.heap.size+1) m Wb (w3'.setCell ⟨w.heap.size+1,3,none⟩ (.slice (some ⟨g,0,none⟩) (ln+1) cap)) 5 (ns++[x]) ks (.slice (some ⟨g,0,none⟩) (ln+1) cap) (.slice ka ln kc)):=aJ
       have bA:Hid (RdS (w3'.setCell ⟨w.heap.size+1,3,none⟩ (.slice (some ⟨g,0,none⟩) (ln+1) cap)) R s (j1:Int) bad1):=qlE (X:=w.heap.size+1) (q:=3) (W:=w1.drew) cG aX.out (by omega) aB
       clear aJ aT aB cF aK cG bY x3' x3a x3'' xf'' bJ
       go_wp2_with fail
       go_meet
       exact⟨_,_,aZ.out,bA.out⟩
     case rest=>
      obtain⟨g,cap,aJ,cH⟩:=hcut
      have aZ:Hid (Many R (w.heap.size+1) m Wb wc 5 (ns++[x]) ks (.slice (some ⟨g,0,none⟩) (ln+1) cap) (.slice ka ln kc)):=aJ
      have bA:Hid (RdS wc R s (j1:Int) bad1):=cH
      clear aJ cH x3w bW aI aX bI
      go_wp2_with fail
      refine (qcK wc R s ⟨#[58]⟩ j1 bad1 bA.out hs (by decide) bX).mono ?_
      rintro e w5 ⟨rfl,cI,aO⟩
      obtain⟨i3,bad3,cJ,cU,bP,aU⟩:∃ (i3:Nat) (bad3:Bool),RdS w5 R s i3 bad3/\Hid (Colon s j1 i3 bad1 bad3)/\(bad3=false->i3<=s.size)/\i3<=20000:=by
       rcases aO with ⟨he,hz,h⟩|⟨he,h⟩
       ·exact⟨j1+1,bad1,h,.inl ⟨he,hz,rfl,rfl⟩,fun _=>hz,by have:(⟨#[58]⟩:ByteArray).size=1:=rfl;omega⟩
       ·exact⟨j1,true,h,.inr ⟨he,rfl,rfl⟩,(fun h=>by cases h),by omega⟩
      have bL:=aZ.out.keep (by omega) cI
      have bB:Hid (Many R (w.heap.size+1) m Wb w5 5 (ns++[x]) ks (.slice (some ⟨g,0,none⟩) (ln+1) cap) (.slice ka ln kc)):=bL
      obtain⟨xs,bQ,cK⟩:=bL.kids
      have cS:Hid (∀ q (h:q<ks.length),_):=cK
      have bC:Hid (w5.ownsRow (w.heap.size+1+1) 67 5 (.slice ka ln kc) ln xs):=by
       rw[aF.out.2]at bQ;exact bQ
      have bZ:=bB.out.lt
      have x4w:w5.cell? ⟨w.heap.size+1,4,none⟩=some (.slice ka ln kc):=by simp[World.cell?,bB.out.box]
      have cT:Hid (Calls Tryz.prog 54 #[.pointer (some ⟨R,0,none⟩),.int .i64 (7 - (n:Int))] w5.drew (qbB m n w5.drew R s i3 bad3)):=HN.out m R s i3 bad3 _ hm (cJ.drewN 1) hs bP aU
      obtain⟨ik0,aP,aQ,aR,aS⟩:=info_parts Tryz.info_treeR
      have bD:Hid (_/\_/\_/\_):=⟨aP,aQ,aR,aS⟩
      clear aP aQ aR aS bQ cK bL aO cJ cI aZ bA
      go_wp2_with fail
      go_region_law (first
       | (refine step_append_lies _ (by rfl) (.tmp 49) (.tmp 54) 65 (by rfl) (w.heap.size+1+1) 67 ik0 _ 5 80 Tryz.underlying65 bD.out.1 bD.out.2.1 bD.out.2.2.1 bD.out.2.2.2 rfl (by decide) (.slice ka ln kc) ln xs (by rfl) (aN _) ⟨v2.heap.size,0,none⟩ 1 1 [.int .i64 y0',.int .i64 y1',.string y2',.slice ya yl yc,.slice za zl zc] (by rfl) rfl (World.news_of_block (heap_alloc_new v2 _)) (by simp[Value.oneCell']) (by decide) (by unfold maxLen;omega) (by omega) (by simp;omega) (v2.heap.size+1) (by simp) ?_;intro g2 cap2 v3 aH aA aV cV;have bM:=(qiP (W:=w5.drew) bC.out bZ (by omega) aD aA).trans bB.out.box;have x4'':v3.cell? ⟨w.heap.size+1,4,none⟩=some (.slice ka ln kc):=(by simp[World.cell?,bM]);have xg'':v3.frozen? ⟨w.heap.size+1,4,none⟩=false:=(by simp[World.frozen?,bM]))
       | (go_simp;go_at_call 54;refine cT.out.mono ?_;rintro e v2 ⟨aD,t2,y0,y1,y2,y3,y4,i2,bad2,rfl,bR,cL,cM⟩;obtain⟨y0',y1',y2',ya,yl,yc,za,zl,zc,rfl,rfl,rfl,rfl,rfl⟩:=bR.shape;have bK:w5.heap.size<=v2.heap.size:=aD.size;have aN:=fun o=>qiA (R:=R) (X:=w.heap.size+1) (W:=w5.drew) bC.out (by omega) aD o;have x4':v2.cell? ⟨w.heap.size+1,4,none⟩=some (.slice ka ln kc):=(World.cell?_of_block (aD.block (w.heap.size+1) (by simpa using bZ) (by omega))).trans x4w;have x4a:(v2.alloc (.cells #[.int .i64 y0',.int .i64 y1',.string y2',.slice ya yl yc,.slice za zl zc] 67)).cell? ⟨w.heap.size+1,4,none⟩=some (.slice ka ln kc):=(World.cell?_of_block (Below.heap_alloc _ _ _ (by show w.heap.size+1<_;omega))).trans x4'))
      all_goals
       have hF:=Many.kidD (g:=g2) (cap:=cap2) (xs:=xs) 1 bB.out (by omega) (by omega) aD bR (by rw[aF.out.2];exact bC.out) cS.out (by rw[aF.out.2];exact aH) aA aV
       rw[aF.out.2]at hF
       have HF:Hid (Many R (w.heap.size+1) m Wb (v3.setCell ⟨w.heap.size+1,4,none⟩ (.slice (some ⟨g2,0,none⟩) (ln+1) cap2)) 5 (ns++[x]) (ks++[t2]) (.slice (some ⟨g,0,none⟩) (ln+1) cap) (.slice (some ⟨g2,0,none⟩) (ln+1) cap2)):=hF
       have cA:Hid (RdS (v3.setCell ⟨w.heap.size+1,4,none⟩ (.slice (some ⟨g2,0,none⟩) (ln+1) cap2)) R s i2 bad2):=qlE (X:=w.heap.size+1) (q:=4) (u:=.slice (some ⟨g2,0,none⟩) (ln+1) cap2) (W:=w5.drew) cL bC.out (by omega) aA
       have HS:=xaU HI.out HE.out (by rw[aF.out.2];exact aW.out) (by rw[HJ.out];exact cU.out) cM (by rw[HJ.out];exact bX)
       rw[bO.out]at HS
       have cB:Hid _:=HS
       clear hF HS aH aA aV bR cL cM aD aN x4' x4a x4'' xg'' bM
       go_wp2_with fail
       go_roundw
       case rel=>exact⟨ns++[x],ks++[t2],i2,ln+1,bad2,some ⟨g,0,none⟩,cap,some ⟨g2,0,none⟩,cap2,by simp[aF.out.1],by simp[aF.out.2],HF.out,cA.out,cB.out.1⟩
       case measure=>rw[RdS.left cA.out,RdS.left HR.out];simpa using cB.out.2
end Go.Proofs.YtelogmjfekhmpaaGreatDoor
