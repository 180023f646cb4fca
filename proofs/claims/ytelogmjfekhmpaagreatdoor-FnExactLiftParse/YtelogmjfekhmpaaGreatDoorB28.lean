import Derived.Test.YtelogmjfekhmpaaGreatDoorB12
import Derived.Deep.Cut
import Derived.Deep.CutRange
import Derived.Test.YtelogmjfekhmpaaGreatDoorB27
import Derived.Test.YtelogmjfekhmpaaGreatDoorB1
import Derived.Test.YtelogmjfekhmpaaGreatDoorB10
import Derived.Test.YtelogmjfekhmpaaGreatDoorB7
namespace Go.Proofs.YtelogmjfekhmpaaGreatDoor
open Go.RowKit Go.Proofs.Tryz
set_option maxRecDepth 100000
set_option maxHeartbeats 16000000
theorem Tryz.info_stringR:(prog.info? 9).map (fun i=>(i.zero,i.size,i.bytes))=some (some (.string ⟨#[]⟩),1,16):=by kernel_rfl
def qlD(m n:Nat)(w:World)(R:Nat)(s:ByteArray)(i:Nat)(e:Ending)(w':World):Prop:=
 Near R w w' /\ ∃(ns:List ByteArray)(ks:List (T m))(nv kv:Value)(i':Nat)(bad':Bool),e=.returned (.agg #[.int .i64 5,.int .i64 0,.string ByteArray.empty,nv,kv]) /\
  TreeIn (fun b=>w.heap.size<=b/\b<w'.heap.size) w' (m+1) (⟨5,0,ByteArray.empty,ns,ks⟩:Nd (T m)) (.int .i64 5) (.int .i64 0) (.string ByteArray.empty) nv kv/\RdS w' R s i' bad' /\
  i<i' /\ (bad'=false->i'<=s.size)/\i'<=s.size+n+1 /\
  (∀(ns0:List ByteArray)(ks0:List (T m)) post,ns0.length=ks0.length->(∀x,x∈ns0->nameB x=true)->s.data.toList.drop (i+1)=joinL (zipL ns0 (ks0.map (txtL m)))++125 :: post->(∀k,k∈ks0->goodT m k (7-(n:Int))=true) ->
   ns=ns0/\ks=ks0/\bad'=false/\i'=i+(joinL (zipL ns0 (ks0.map (txtL m)))).length+2)
theorem xgD {m n:Nat} {w Wb wr:World} {R:Nat} {s:ByteArray} {i i':Nat} {bad':Bool} {ns:List ByteArray} {ks:List (T m)} {nv kv:Value} (h:Many R (w.heap.size+1) m Wb wr 5 ns ks nv kv) (hR:R<w.heap.size) (hwb:Near R w Wb)
  (hbs:Wb.heap.size=w.heap.size+1) (hr:RdS wr R s i' bad') (hI:qlS m n s i ns ks i' bad') (hs:s.size<=10000) (hn6:n<=5) (hend:bad'=false->lookB s i'=125) :
  qlD m n w R s i (.returned (.agg #[.int .i64 5,.int .i64 0,.string ByteArray.empty,nv,kv])) (put5 (wr.setCell ⟨R,1,none⟩ (.int .i64 ((i':Int)+1))) w.heap.size 0 (.int .i64 5) (.int .i64 0) (.string ByteArray.empty) nv kv):=by
 obtain⟨F,u,G,A,H,B⟩:=hI
 have x:ks.length<=20000:=by cases bad'<;>simp at A<;>omega
 obtain⟨C,D,E⟩:=qwC h hR hwb hbs hr (by rfl) (by omega) x
 refine⟨C,ns,ks,nv,kv,i'+1,bad',rfl,E,D,by omega,fun f=>?_,by omega,fun ns0 ks0 post hlen hnm he hg=>?_⟩
 ·have:=u f
  have a:=hend f
  refine Classical.byContradiction fun hge=>?_
  rw[qbU s i' (by omega)]at a
  exact absurd a (by decide)
 ·obtain⟨k,I,p,q,f,v⟩:=B ns0 ks0 post hlen hnm he hg
  have a:=hend f
  have o:(zipL ns0 (ks0.map (txtL m))).length=ks0.length:=by rw[qbN _ _ (by simpa using hlen)];simp
  have d:k=ks0.length:=by
   refine Classical.byContradiction fun hne=>?_
   have g:k<ks0.length:=by omega
   have b:k<(zipL ns0 (ks0.map (txtL m))).length:=by omega
   have j:k<ns0.length:=by omega
   unfold lookB at a
   rw[v,List.drop_eq_getElem_cons b,qiG _ _ _ j (by simpa using g) b,tailL]at a
   obtain⟨c,r,e,l⟩:=qrQ (hnm ns0[k] (List.getElem_mem j))
   by_cases hk0:k=0
   ·simp only[hk0,decide_true,if_true]at a
    simp only[hk0]at e
    rw[e]at a
    simp only[List.cons_append,List.headD_cons]at a
    exact (nm_ne l).2.1 a
   ·simp only[hk0,decide_false,Bool.false_eq_true,if_false,List.cons_append,List.headD_cons]at a
    exact absurd a (by decide)
  refine⟨by rw[q,d,<- hlen,List.take_length],by rw[p,d,List.take_length],f,?_⟩
  have y:=u f
  have t:=congrArg List.length v
  have z:=congrArg List.length he
  rw[d,<- o,List.drop_length]at t
  simp[tailL]at t z
  have g:i'<s.size:=by
   refine Classical.byContradiction fun hge=>?_
   rw[qbU s i' (by omega)]at a
   exact absurd a (by decide)
  omega
theorem xbO (n:Nat) (hn:qeF n) (hn6:n<=5) (m R:Nat) (hm:n+1<=m) (s:ByteArray) (i:Nat) (w:World) (h:RdS w R s i false) (hs:s.size<=10000) (hi:i<s.size) :
  Calls prog 72 #[.pointer (some ⟨R,0,none⟩),.int .i64 5,.int .u8 125,.int .i64 (6-n)] w (qlD m n w R s i):=by
 have c0:=h.cell0
 have c1:=h.cell1
 have c2:=h.cell2
 have f1:=h.free 1
 have hR:=h.lt
 have dB:IntKind.i64.wrap ((i:Int)+1)=(i:Int)+1:=by rw[IntKind.wrap_i64];omega
 have bA:Near R w ((w.setCell ⟨R,1,none⟩ (.int .i64 ((i:Int)+1))).alloc (.cells #[.int .i64 0,.int .i64 0,.string ⟨#[]⟩,.slice none 0 0,.slice none 0 0] 67)):=(Near.set R 1 w _).trans (Near.alloc _ _ _)
 have bB:RdS ((w.setCell ⟨R,1,none⟩ (.int .i64 ((i:Int)+1))).alloc (.cells #[.int .i64 0,.int .i64 0,.string ⟨#[]⟩,.slice none 0 0,.slice none 0 0] 67)) R s ((i+1:Nat):Int) false:=
  (Below.heap_alloc _ _ _ (by simpa using hR)).trans (h.set1 ((i:Int)+1))
 have aK:((w.setCell ⟨R,1,none⟩ (.int .i64 ((i:Int)+1))).alloc (.cells #[.int .i64 0,.int .i64 0,.string ⟨#[]⟩,.slice none 0 0,.slice none 0 0] 67)).heap[w.heap.size]?=some (.cells #[.int .i64 0,.int .i64 0,.string ⟨#[]⟩,.slice none 0 0,.slice none 0 0] 67 (0,0)):=by
  have:=heap_alloc_new (w.setCell ⟨R,1,none⟩ (.int .i64 ((i:Int)+1))) (.cells #[.int .i64 0,.int .i64 0,.string ⟨#[]⟩,.slice none 0 0,.slice none 0 0] 67)
  simpa using this
 have bC:((w.setCell ⟨R,1,none⟩ (.int .i64 ((i:Int)+1))).alloc (.cells #[.int .i64 0,.int .i64 0,.string ⟨#[]⟩,.slice none 0 0,.slice none 0 0] 67)).heap.size=w.heap.size+1:=by simp
 go_enter func72,ntmps72
 go_wp2_with fail
 generalize ((w.setCell ⟨R,1,none⟩ (.int .i64 ((i:Int)+1))).alloc (.cells #[.int .i64 0,.int .i64 0,.string ⟨#[]⟩,.slice none 0 0,.slice none 0 0] 67))=Wb at *
 have HN:Hid (qeF n):=hn
 have bD:Hid (Near R w Wb/\Wb.heap[w.heap.size]?=some (.cells #[.int .i64 0,.int .i64 0,.string ⟨#[]⟩,.slice none 0 0,.slice none 0 0] 67 (0,0))):=⟨bA,aK⟩
 clear hn bA aK c0 c1 c2 f1 h
 go_loopw [23] (fun _ wr=>∃(D:List ByteArray)(E:List (T m))(j a:Nat)(f:Bool)(na:Option Addr)(F:Nat)(y:Option Addr)(z:Nat),D.length=a/\E.length=a/\Many R (w.heap.size+1) m Wb wr 5 D E (.slice na a F) (.slice y a z)/\RdS wr R s j f/\qlS m n s i D E j f) (fun _ wr=>qwD wr R s.size)
 case atStart=>
  refine⟨[],[],i+1,0,false,none,0,none,0,rfl,rfl,⟨Near.alloc _ _ _,?_,⟨rfl,.inl ⟨rfl,rfl⟩⟩,by simp,⟨[],⟨rfl,.inl ⟨rfl,rfl⟩⟩,fun j hj=>absurd hj (Nat.not_lt_zero _)⟩,fun b hb=>by cases hb⟩,?_,?_⟩
  ·rw[<- bC];exact heap_alloc_new _ _
  ·exact (Below.heap_alloc _ _ _ (by omega)).trans bB
  ·refine⟨by omega,fun _=>by omega,by omega,by simp,rfl,fun ns0 ks0 post bE hnm N hg=>⟨0,Nat.zero_le _,by simp,by simp,rfl,?_⟩⟩
   rw[N];simp[qcT]
 case round=>
  obtain⟨D,E,j,a,f,na,F,y,z,bT,aV,Y,hr,hI⟩:=hrel
  have hX:=Y.lt
  have dC:=Y.near.size
  have x0:wr.cell? ⟨w.heap.size+1,0,none⟩=some (.int .i64 5):=by simp[World.cell?,Y.box]
  have x1:wr.cell? ⟨w.heap.size+1,1,none⟩=some (.int .i64 0):=by simp[World.cell?,Y.box]
  have x2:wr.cell? ⟨w.heap.size+1,2,none⟩=some (.string ByteArray.empty):=by simp[World.cell?,Y.box]
  have x3:wr.cell? ⟨w.heap.size+1,3,none⟩=some (.slice na a F):=by simp[World.cell?,Y.box]
  have x4:wr.cell? ⟨w.heap.size+1,4,none⟩=some (.slice y a z):=by simp[World.cell?,Y.box]
  have d1:=hr.cell1
  have d2:=hr.cell2
  have df:=hr.free 1
  have cI:=hI
  obtain⟨dH,bU,dI,aI,-,-⟩:=cI
  rw[aV]at aI
  have l:Hid (D.length=a/\E.length=a):=⟨bT,aV⟩
  have HM:Hid (Many R (w.heap.size+1) m Wb wr 5 D E (.slice na a F) (.slice y a z)):=Y
  have HR:Hid (RdS wr R s j f):=hr
  have HI:Hid (qlS m n s i D E j f):=hI
  have dD:IntKind.i64.wrap ((j:Int)+1)=(j:Int)+1:=by rw[IntKind.wrap_i64];omega
  have bE:a<=10010:=by cases f<;>simp at aI<;>omega
  have gb:wr.heap[w.heap.size]?=_:=(Y.near.block w.heap.size (by omega) (by omega)).trans bD.out.2
  have g0:wr.cell? ⟨w.heap.size,0,none⟩=some (.int .i64 0):=by simp[World.cell?,gb]
  have g1:wr.cell? ⟨w.heap.size,1,none⟩=some (.int .i64 0):=by simp[World.cell?,gb]
  have V:wr.cell? ⟨w.heap.size,2,none⟩=some (.string ⟨#[]⟩):=by simp[World.cell?,gb]
  have g3:wr.cell? ⟨w.heap.size,3,none⟩=some (.slice none 0 0):=by simp[World.cell?,gb]
  have g4:wr.cell? ⟨w.heap.size,4,none⟩=some (.slice none 0 0):=by simp[World.cell?,gb]
  have gf:∀o,wr.frozen? ⟨w.heap.size,o,none⟩=false:=fun o=>by simp[World.frozen?,gb]
  have cJ:=gf 0
  have cK:=gf 1
  have cL:=gf 2
  have cM:=gf 3
  have cN:=gf 4
  have C:Hid ((f=false->lookB s j=125)->∀q,qlD m n w R s i (.returned (.agg #[.int .i64 5,.int .i64 0,.string ByteArray.empty,.slice na a F,.slice y a z])) (put5 ((wr.drewN q).setCell ⟨R,1,none⟩ (.int .i64 ((j:Int)+1))) w.heap.size 0 (.int .i64 5) (.int .i64 0) (.string ByteArray.empty) (.slice na a F) (.slice y a z))):=fun N q=>
   xgD (HM.out.keep (by omega) ((Near.refl R wr).drewN q)) hR bD.out.1 bC (HR.out.drewN q) HI.out hs hn6 N
  clear Y hr hI bT aV gb gf bB
  cases f with
  | true=>
   have HZ:Hid _:=C.out (fun h=>by cases h) 0
   clear C
   go_wp2_with fail
   refine bodyPost_ret (v:=.agg #[.int .i64 5,.int .i64 0,.string ByteArray.empty,.slice na a F,.slice y a z]) (by simp[results,results72,go_sem,g0,g1,V,g3,g4]) rfl ?_
   exact HZ.out
  | false=>
   have aP:j<=s.size:=bU rfl
   have dE:a<=j:=by simpa using aI
   clear bU aI
   have HL:Hid (Calls prog 56 #[.pointer (some ⟨R,0,none⟩)] wr fun e w'=>e=.returned (.int .u8 ((lookB s j).toNat:Int))/\∃m',w'=wr.drewN m'):=qeS wr R s j false HR.out
   by_cases hend:lookB s j=125
   ·have hc:((lookB s j).toNat:Nat)=125:=by rw[hend];rfl
    rw[hc]at HL
    have HZ:Hid (∀q,_):=C.out (fun _=>hend)
    clear C hend hc
    go_wp2_with (go_at_call 56;refine HL.out.mono ?_;rintro e w' ⟨rfl,nq,rfl⟩)
    refine bodyPost_ret (v:=.agg #[.int .i64 5,.int .i64 0,.string ByteArray.empty,.slice na a F,.slice y a z]) (by simp[results,results72,go_sem,g0,g1,V,g3,g4]) rfl ?_
    exact HZ.out nq
   ·have cO:((((lookB s j).toNat:Nat):Int)==125)=false:=by
     rw[beq_eq_false_iff_ne]
     intro e;apply hend;apply UInt8.toNat_inj.1
     have cY:(125:UInt8).toNat=125:=rfl
     omega
    have cZ:((((lookB s j).toNat:Nat):Int) != 125)=true:=by simp[bne,cO]
    have HE:Hid (¬lookB s j=125):=hend
    have dF:(((lookB s j).toNat:Nat):Int)<=255:=by have:=(lookB s j).toNat_lt;omega
    have dG:IntKind.i64.wrap (6-(n:Int)+1)=7-(n:Int):=by rw[IntKind.wrap_i64];omega
    clear hend C g0 g1 V g3 g4 cJ cK cL cM cN x0 x1 x2
    generalize ((lookB s j).toNat:Nat)=c at *
    rcases Nat.eq_zero_or_pos a with h0|h0
    case' inl=>
     have hd:(0<a)=False:=eq_false (by omega)
     have cP:((0:Int)<(a:Int))=False:=eq_false (by omega)
     have aA:Hid (Comma s a j j false):=.inl ⟨h0,rfl,rfl⟩
     clear h0
     go_wp2_with (go_at_call 56;refine HL.out.mono ?_;rintro e w' ⟨rfl,nq,rfl⟩)
     have aQ:Near R wr (wr.drewN nq):=(Near.refl R wr).drewN nq
     have K:RdS (wr.drewN nq) R s j false:=HR.out.drewN nq
     generalize wr.drewN nq=G at *
     obtain⟨B,d,K,aA,L⟩:∃(B:Nat)(d:Bool),RdS G R s B d/\Hid (Comma s a j B d)/\B<=s.size:=⟨j,false,K,aA,aP⟩
     clear hd cP
    case' inr=>
     have hd:(0:Int)<(a:Int):=by omega
     go_wp2_with (go_at_call 56;refine HL.out.mono ?_;rintro e w' ⟨rfl,nq,rfl⟩)
     refine (qcI _ R s ⟨#[44]⟩ j false (HR.out.drewN nq) hs (by decide) aP).mono ?_
     rintro e G ⟨rfl,bV,M⟩
     obtain⟨B,d,K,aA,L⟩:∃(B:Nat)(d:Bool),RdS G R s B d/\Hid (Comma s a j B d)/\B<=s.size:=by
      rcases M with ⟨N,hz,h⟩|⟨N,h⟩
      ·exact⟨j+1,false,h,.inr ⟨by omega,.inl ⟨N,hz,rfl,rfl⟩⟩,hz⟩
      ·exact⟨j,true,h,.inr ⟨by omega,.inr ⟨N,rfl,rfl⟩⟩,aP⟩
     have aQ:Near R wr G:=((Near.refl R wr).drewN nq).trans bV
     clear M bV hd h0
    all_goals
     have H:Hid (Many R (w.heap.size+1) m Wb G 5 D E (.slice na a F) (.slice y a z)):=HM.out.keep (by omega) aQ
     have aR:=H.out.lt
     have bF:G.cell? ⟨w.heap.size+1,3,none⟩=some (.slice na a F):=by simp[World.cell?,H.out.box]
     obtain⟨x,aW⟩:∃x,Hid (bs ((s.data.toList.drop B).takeWhile qaT)=x):=⟨_,rfl⟩
     obtain⟨Z,HJ⟩:∃Z,Hid (B+((s.data.toList.drop B).takeWhile qaT).length=Z):=⟨_,rfl⟩
     have bG:Hid (Calls prog 58 #[.pointer (some ⟨R,0,none⟩)] G.drew fun e w'=>e=.returned (.string x)/\Near R G.drew w' /\ RdS w' R s (Z:Int) d):=
      (qwA G.drew R s B d (K.drewN 1) hs L).mono fun e w' ⟨h1,h2,h3,_⟩=>⟨by rw[h1,aW.out],h2,by rw[HJ.out]at h3;exact h3⟩
     have HT:Hid ((bs ((s.data.toList.drop B).takeWhile qaT)).size<=10000/\B+((s.data.toList.drop B).takeWhile qaT).length<=s.size):=by
      have h1:((s.data.toList.drop B).takeWhile qaT).length<=(s.data.toList.drop B).length:=(List.takeWhile_prefix _).length_le
      rw[List.length_drop]at h1
      have h2:s.data.toList.length=s.size:=by simp
      exact⟨by rw[qaL];omega,by omega⟩
     rw[aW.out,HJ.out]at HT
     have bH:=HT.out.2
     have aB:Hid (G.ownsRow (w.heap.size+1+1) 9 1 (.slice na a F) a (D.map .string)):=by
      have:=H.out.names
      rw[l.out.1]at this;exact this
     obtain⟨cV,O,P,Q,S⟩:=info_parts Tryz.info_stringR
     have aC:Hid (_/\_/\_/\_):=⟨O,P,Q,S⟩
     clear O P Q S K x3 x4 d1 d2 df HL HM aQ
     go_upto_region 7 with fail
     go_cut [23] from 20 to 56 (fun _ wx=>∃g cap,Many R (w.heap.size+1) m Wb wx 5 (D++[x]) E (.slice (some ⟨g,0,none⟩) (a+1) cap) (.slice y a z)/\RdS wx R s (Z:Int) d)
     case first=>
      go_region_law (first
       | (refine step_append_lies _ (by rfl) (.tmp 40) (.tmp 43) 22 (by rfl) (w.heap.size+1+1) 9 cV _ 1 16 underlying22 aC.out.1 aC.out.2.1 aC.out.2.2.1 aC.out.2.2.2 rfl (by decide) (.slice na a F) a (D.map .string) (by rfl) (bL _) ⟨w2.heap.size,0,none⟩ 1 1 [.string x] (by rfl) rfl (World.news_of_block (heap_alloc_new w2 _)) (by simp[Value.oneCell']) (by decide) (by unfold maxLen;omega) (by omega) (by simp;omega) (w2.heap.size+1) (by simp) ?_;intro g cap aJ aM A bW dJ;have aS:=(qiL (W:=G.drew) aB.out aR (by omega) J A).trans H.out.box;have bI:aJ.cell? ⟨w.heap.size+1,3,none⟩=some (.slice na a F):=(by simp[World.cell?,aS]);have bJ:aJ.frozen? ⟨w.heap.size+1,3,none⟩=false:=(by simp[World.frozen?,aS]))
       | (go_simp;go_at_call 58;refine bG.out.mono ?_;rintro e w2 ⟨rfl,J,bX⟩;have bK:G.heap.size<=w2.heap.size:=J.size;have bL:=fun o=>qhX (R:=R) (X:=w.heap.size+1) (W:=G.drew) aB.out (by omega) J o;have bM:w2.cell? ⟨w.heap.size+1,3,none⟩=some (.slice na a F):=(World.cell?_of_block (J.block (w.heap.size+1) (by simpa using aR) (by omega))).trans bF;have cQ:(w2.alloc (.cells #[.string x] 9)).cell? ⟨w.heap.size+1,3,none⟩=some (.slice na a F):=(World.cell?_of_block (Below.heap_alloc _ _ _ (by show w.heap.size+1<_;omega))).trans bM))
      all_goals
       have I:=Many.name (W:=w2) (Wa:=w2.alloc (.cells #[.string x] 9)) (one:=.cells #[.string x] 9) (H.out.keep (by omega) (((Near.refl R G).drewN 1).trans J)) (by omega) rfl ⟨rfl,rfl,rfl⟩ HT.out.1 (by rw[l.out.1];exact aM) A bW
       rw[l.out.1]at I
       have aD:Hid (Many R (w.heap.size+1) m Wb (aJ.setCell ⟨w.heap.size+1,3,none⟩ (.slice (some ⟨g,0,none⟩) (a+1) cap)) 5 (D++[x]) E (.slice (some ⟨g,0,none⟩) (a+1) cap) (.slice y a z)):=I
       have aE:Hid (RdS (aJ.setCell ⟨w.heap.size+1,3,none⟩ (.slice (some ⟨g,0,none⟩) (a+1) cap)) R s (Z:Int) d):=qlB (X:=w.heap.size+1) (q:=3) (W:=G.drew) bX aB.out (by omega) A
       clear I aM A bW J bX bL bM cQ bI bJ aS
       go_wp2_with fail
       go_meet
       exact⟨_,_,aD.out,aE.out⟩
     case rest=>
      obtain⟨g,cap,I,bY⟩:=hcut
      have aD:Hid (Many R (w.heap.size+1) m Wb wc 5 (D++[x]) E (.slice (some ⟨g,0,none⟩) (a+1) cap) (.slice y a z)):=I
      have aE:Hid (RdS wc R s (Z:Int) d):=bY
      clear I bY bF bG H aB aR
      go_wp2_with fail
      refine (qcI wc R s ⟨#[58]⟩ Z d aE.out hs (by decide) bH).mono ?_
      rintro e w5 ⟨rfl,bZ,M⟩
      obtain⟨i3,p,cA,cW,cB,aX⟩:∃(i3:Nat)(p:Bool),RdS w5 R s i3 p/\Hid (Colon s Z i3 d p)/\(p=false->i3<=s.size)/\i3<=20000:=by
       rcases M with ⟨N,hz,h⟩|⟨N,h⟩
       ·exact⟨Z+1,d,h,.inl ⟨N,hz,rfl,rfl⟩,fun _=>hz,by have:(⟨#[58]⟩:ByteArray).size=1:=rfl;omega⟩
       ·exact⟨Z,true,h,.inr ⟨N,rfl,rfl⟩,(fun h=>by cases h),by omega⟩
      have aT:=aD.out.keep (by omega) bZ
      have aF:Hid (Many R (w.heap.size+1) m Wb w5 5 (D++[x]) E (.slice (some ⟨g,0,none⟩) (a+1) cap) (.slice y a z)):=aT
      obtain⟨xs,aY,cC⟩:=aT.kids
      have cR:Hid (∀q (h:q<E.length),_):=cC
      have aG:Hid (w5.ownsRow (w.heap.size+1+1) 67 5 (.slice y a z) a xs):=by
       rw[l.out.2]at aY;exact aY
      have bN:=aF.out.lt
      have cS:w5.cell? ⟨w.heap.size+1,4,none⟩=some (.slice y a z):=by simp[World.cell?,aF.out.box]
      have cT:Hid (Calls prog 54 #[.pointer (some ⟨R,0,none⟩),.int .i64 (7-(n:Int))] w5.drew (qaZ m n w5.drew R s i3 p)):=HN.out m R s i3 p _ hm (cA.drewN 1) hs cB aX
      obtain⟨cX,O,P,Q,S⟩:=info_parts Tryz.info_treeR
      have aH:Hid (_/\_/\_/\_):=⟨O,P,Q,S⟩
      clear O P Q S aY cC aT M cA bZ aD aE
      go_wp2_with fail
      go_region_law (first
       | (refine step_append_lies _ (by rfl) (.tmp 49) (.tmp 54) 65 (by rfl) (w.heap.size+1+1) 67 cX _ 5 80 underlying65 aH.out.1 aH.out.2.1 aH.out.2.2.1 aH.out.2.2.2 rfl (by decide) (.slice y a z) a xs (by rfl) (aL _) ⟨v2.heap.size,0,none⟩ 1 1 [.int .i64 cF,.int .i64 cG,.string cH,.slice ya yl yc,.slice za zl zc] (by rfl) rfl (World.news_of_block (heap_alloc_new v2 _)) (by simp[Value.oneCell']) (by decide) (by unfold maxLen;omega) (by omega) (by simp;omega) (v2.heap.size+1) (by simp) ?_;intro V r v3 U k aN dA;have aU:=(qiL (W:=w5.drew) aG.out bN (by omega) t k).trans aF.out.box;have bO:v3.cell? ⟨w.heap.size+1,4,none⟩=some (.slice y a z):=(by simp[World.cell?,aU]);have bP:v3.frozen? ⟨w.heap.size+1,4,none⟩=false:=(by simp[World.frozen?,aU]))
       | (go_simp;go_at_call 54;refine cT.out.mono ?_;rintro e v2 ⟨t,t2,y0,y1,y2,y3,y4,i2,aO,rfl,aZ,cD,cE⟩;obtain⟨cF,cG,cH,ya,yl,yc,za,zl,zc,rfl,rfl,rfl,rfl,rfl⟩:=aZ.shape;have bK:w5.heap.size<=v2.heap.size:=t.size;have aL:=fun o=>qhX (R:=R) (X:=w.heap.size+1) (W:=w5.drew) aG.out (by omega) t o;have bQ:v2.cell? ⟨w.heap.size+1,4,none⟩=some (.slice y a z):=(World.cell?_of_block (t.block (w.heap.size+1) (by simpa using bN) (by omega))).trans cS;have cU:(v2.alloc (.cells #[.int .i64 cF,.int .i64 cG,.string cH,.slice ya yl yc,.slice za zl zc] 67)).cell? ⟨w.heap.size+1,4,none⟩=some (.slice y a z):=(World.cell?_of_block (Below.heap_alloc _ _ _ (by show w.heap.size+1<_;omega))).trans bQ))
      all_goals
       have hF:=Many.kidD (g:=V) (cap:=r) (xs:=xs) 1 aF.out (by omega) (by omega) t aZ (by rw[l.out.2];exact aG.out) cR.out (by rw[l.out.2];exact U) k aN
       rw[l.out.2]at hF
       have HF:Hid (Many R (w.heap.size+1) m Wb (v3.setCell ⟨w.heap.size+1,4,none⟩ (.slice (some ⟨V,0,none⟩) (a+1) r)) 5 (D++[x]) (E++[t2]) (.slice (some ⟨g,0,none⟩) (a+1) cap) (.slice (some ⟨V,0,none⟩) (a+1) r)):=hF
       have bR:Hid (RdS (v3.setCell ⟨w.heap.size+1,4,none⟩ (.slice (some ⟨V,0,none⟩) (a+1) r)) R s i2 aO):=qlB (X:=w.heap.size+1) (q:=4) (u:=.slice (some ⟨V,0,none⟩) (a+1) r) (W:=w5.drew) cD aG.out (by omega) k
       have HS:=xaU HI.out HE.out (by rw[l.out.2];exact aA.out) (by rw[HJ.out];exact cW.out) cE (by rw[HJ.out];exact bH)
       rw[aW.out]at HS
       have bS:Hid _:=HS
       clear hF HS U k aN aZ cD cE t aL bQ cU bO bP aU
       go_wp2_with fail
       go_roundw
       case rel=>exact⟨D++[x],E++[t2],i2,a+1,aO,some ⟨g,0,none⟩,cap,some ⟨V,0,none⟩,r,by simp[l.out.1],by simp[l.out.2],HF.out,bR.out,bS.out.1⟩
       case measure=>rw[RdS.left bR.out,RdS.left HR.out];simpa using bS.out.2
theorem xiR {S:Nat->Prop} {w:World} {m:Nat} {x:Int} {t:T m} {b c:Nat} {c0 c1 c2 c3 c4:Value} (hx:(Lit.int .i64 x).wf=true) (hb:S b) (h:Box5 w b c0 c1 c2 c3 c4) (ht:TreeIn S w m t c0 c1 c2 c3 c4) :
  TreeIn S w (m+1) (⟨x,0,ByteArray.empty,[],[t]⟩:Nd (T m)) (.int .i64 x) (.int .i64 0) (.string ⟨#[]⟩) (.slice none 0 0) (.slice (some ⟨b,0,none⟩) 1 c):=by
 refine⟨rfl,rfl,rfl,by show ByteArray.empty.size<=_;unfold maxLen;decide,hx,by rfl,⟨none,0,rfl,by simp[maxLen],fun s h=>(by cases h),fun h=>absurd rfl h⟩,⟨some ⟨b,0,none⟩,c,rfl,by simp[maxLen],fun _=>⟨b,0,rfl,hb,fun i hi=>?_⟩⟩⟩
 have:i=0:=by simpa using hi
 subst this
 exact⟨c0,c1,c2,c3,c4,by simpa using h.c0,by simpa using h.c1,by simpa using h.c2,by simpa using h.c3,by simpa using h.c4,ht⟩
theorem xiS (n:Nat) (hn:qeF n) (m R:Nat) (s:ByteArray) (i:Nat) (w:World) (hm:n+1<=m) (hn6:n<=5) (h:RdS w R s i false) (hs:s.size<=10000) (hi:i<=s.size) (hl:lookB s i=63) :
  Calls prog 54 #[.pointer (some ⟨R,0,none⟩),.int .i64 (7-((n+1:Nat):Int))] w (qaZ (m+1) (n+1) w R s i false):=by
 have Z:=h.lt
 obtain⟨W1,B,aD,c2,L⟩:=qbV (k:=63) (.cells #[.int .i64 0,.int .i64 0,.string ⟨#[]⟩,.slice none 0 0,.slice none 0 0] 67) h (by rw[hl];rfl)
 have E:¬(6:Int)<7-((n+1:Nat):Int):=by omega
 have F:Hid (lookB s i=63):=hl
 have q:Hid (eatP [63] (s.data.toList.drop i)=some (s.data.toList.drop (i+1))/\i<s.size):=by
  have a:i<s.size:=Classical.byContradiction fun hge=>by rw[qbU s i (by omega)]at hl;exact absurd hl (by decide)
  refine⟨?_,a⟩
  have G:s[i]=63:=by rw[<- qeR s i a];exact hl
  rw[qjS s i a,G];exact qaE _ _
 have aA:IntKind.i64.wrap (7-((n+1:Nat):Int)+1)=7-(n:Int):=by rw[IntKind.wrap_i64];omega
 have I:Hid (qeF n):=hn
 clear hn
 clear h hl
 generalize hdp:7-((n+1:Nat):Int)=dp at *
 clear hdp
 go_enter func54,ntmps54
 go_wp2_with fail
 rw[<- B]
 clear B c2
 refine L.out.mono ?_
 rintro e w2 ⟨rfl,C,D,aE,f⟩
 have J:Hid (Calls prog 57 #[.pointer (some ⟨R,0,none⟩),.string ⟨#[63]⟩] w2 _):=qcI w2 R s ⟨#[63]⟩ i false D hs (by decide) hi
 clear L D
 go_wp2_with fail
 refine J.out.mono ?_
 rintro e w3 ⟨rfl,g,⟨y,q2,z⟩|⟨y,z⟩⟩
 case inr=>
  have y:eatP [63] (s.data.toList.drop i)=none:=y
  rw[q.out.1]at y
  cases y
 have z:RdS w3 R s ((i+1:Nat):Int) false:=z
 have aB:=g.size
 have c:=(g.block w.heap.size (by omega) (by omega)).trans f
 have l:=C.trans g
 have a:=q.out.2
 have K:Hid (Calls prog 54 #[.pointer (some ⟨R,0,none⟩),.int .i64 (7-(n:Int))] w3 (qaZ m n w3 R s (i+1) false)):=I.out m R s (i+1) false w3 hm z hs (fun _=>by omega) (by omega)
 clear J C g f y q2 z I q
 go_wp2_with fail
 refine K.out.mono ?_
 rintro e u ⟨j,t,d0,d1,d2,d3,d4,i1,M,rfl,H,x,N⟩
 obtain⟨O,P,Q,S,T,U,V,W,X,rfl,rfl,rfl,rfl,rfl⟩:=H.shape
 have aC:=j.size
 have d:=(j.block w.heap.size (by omega) (by omega)).trans c
 have p:=l.trans j
 clear K c l
 obtain⟨o,Y⟩:∃o:Obj,o=.cells #[.int .i64 O,.int .i64 P,.string Q,.slice S T U,.slice V W X] 67:=⟨_,rfl⟩
 have r:=Box5.new u (.int .i64 O) (.int .i64 P) (.string Q) (.slice S T U) (.slice V W X) 67
 rw[<- Y]at r
 have A:Near R w (u.alloc o):=p.trans (Near.alloc _ _ _)
 obtain⟨⟨r0,r1,r2,r3,r4⟩,f0,f1,f2,f3,f4⟩:=qbH ((Below.heap_alloc u o w.heap.size (by omega)).trans d)
 have HP:Hid (qaZ (m+1) (n+1) w R s i false (.returned (.agg #[.int .i64 6,.int .i64 0,.string ⟨#[]⟩,.slice none 0 0,.slice (some ⟨u.heap.size,0,none⟩) 1 1])) (put5 (u.alloc o) w.heap.size 0 (.int .i64 6) (.int .i64 0) (.string ⟨#[]⟩) (.slice none 0 0) (.slice (some ⟨u.heap.size,0,none⟩) 1 1))):=by
  refine qfD A Z ((Below.heap_alloc _ _ _ (by have:=x.lt;omega)).trans x) (xiR (t:=t) rfl ⟨by omega,by simp⟩ r ?_) (xfT F.out N)
  exact H.keep (fun b hb=>Below.heap_alloc _ _ _ hb.2) (fun b hb=>⟨by omega,by simp;omega⟩)
 subst Y
 clear x N H r A d p j
 go_wp2_with fail
 refine bodyPost_ret (v:=.agg #[.int .i64 6,.int .i64 0,.string ⟨#[]⟩,.slice none 0 0,.slice (some ⟨u.heap.size,0,none⟩) 1 1]) (by simp[results,results54,go_sem,r0,r1,r2,r3,r4]) rfl ?_
 exact HP.out
theorem xiT (n:Nat) (hn:qeF n) (m R:Nat) (s:ByteArray) (i:Nat) (w:World) (hm:n+1<=m) (hn6:n<=5) (h:RdS w R s i false) (hs:s.size<=10000) (hi:i<=s.size) (hl:lookB s i=91) :
  Calls prog 54 #[.pointer (some ⟨R,0,none⟩),.int .i64 (7-((n+1:Nat):Int))] w (qaZ (m+1) (n+1) w R s i false):=by
 have F:=h.lt
 obtain⟨W1,g,I,c2,B⟩:=qbV (k:=91) (.cells #[.int .i64 0,.int .i64 0,.string ⟨#[]⟩,.slice none 0 0,.slice none 0 0] 67) h (by rw[hl];rfl)
 have d:¬(6:Int)<7-((n+1:Nat):Int):=by omega
 have q:Hid (lookB s i=91):=hl
 have f:i<s.size:=Classical.byContradiction fun hge=>by rw[qbU s i (by omega)]at hl;exact absurd hl (by decide)
 have r:7-((n+1:Nat):Int)=6-(n:Int):=by omega
 rw[r]at d ⊢
 have z:Hid (qeF n):=hn
 clear hn
 clear h hl
 go_enter func54,ntmps54
 go_wp2_with fail
 rw[<- g]
 clear g c2
 refine B.out.mono ?_
 rintro e w2 ⟨rfl,j,l,J,a⟩
 have A:Hid (Calls prog 72 #[.pointer (some ⟨R,0,none⟩),.int .i64 4,.int .u8 93,.int .i64 (6-(n:Int))] w2 (qiM m n w2 R s i)):=xaT n z.out hn6 m R hm s i w2 l hs f
 clear B l z
 go_wp2_with fail
 refine A.out.mono ?_
 rintro e w3 ⟨c,t,O,P,Q,C,rfl,p,o,D,E,g3,g4⟩
 obtain⟨na,u,rfl,-⟩:=p.2.2.2.2.2.2.1
 obtain⟨x,y,rfl,-⟩:=p.2.2.2.2.2.2.2
 have G:=c.size
 obtain⟨⟨r0,K,L,M,N⟩,S,f1,T,U,V⟩:=qbH ((c.block w.heap.size (by omega) (by omega)).trans a)
 have H:Hid (qaZ (m+1) (n+1) w R s i false (.returned (.agg #[.int .i64 4,.int .i64 0,.string ByteArray.empty,.slice na 0 u,.slice x t.length y])) (put5 w3 w.heap.size 0 (.int .i64 4) (.int .i64 0) (.string ByteArray.empty) (.slice na 0 u) (.slice x t.length y))):=
  qfD (j.trans c) F o (p.keep (fun _ _=>rfl) (fun b hb=>⟨by omega,hb.2⟩)) (xaW q.out D E g3 g4)
 clear A c j a o p D E g3 g4
 go_wp2_with fail
 refine bodyPost_ret (v:=.agg #[.int .i64 4,.int .i64 0,.string ByteArray.empty,.slice na 0 u,.slice x t.length y]) (by simp[results,results54,go_sem,r0,K,L,M,N]) rfl ?_
 exact H.out
theorem xiU (n:Nat) (hn:qeF n) (m R:Nat) (s:ByteArray) (i:Nat) (w:World) (hm:n+1<=m) (hn6:n<=5) (h:RdS w R s i false) (hs:s.size<=10000) (hi:i<=s.size) (hl:lookB s i=123) :
  Calls prog 54 #[.pointer (some ⟨R,0,none⟩),.int .i64 (7-((n+1:Nat):Int))] w (qaZ (m+1) (n+1) w R s i false):=by
 have G:=h.lt
 obtain⟨W1,g,J,c2,C⟩:=qbV (k:=123) (.cells #[.int .i64 0,.int .i64 0,.string ⟨#[]⟩,.slice none 0 0,.slice none 0 0] 67) h (by rw[hl];rfl)
 have d:¬(6:Int)<7-((n+1:Nat):Int):=by omega
 have q:Hid (lookB s i=123):=hl
 have f:i<s.size:=Classical.byContradiction fun hge=>by rw[qbU s i (by omega)]at hl;exact absurd hl (by decide)
 have r:7-((n+1:Nat):Int)=6-(n:Int):=by omega
 rw[r]at d ⊢
 have A:Hid (qeF n):=hn
 clear hn
 clear h hl
 go_enter func54,ntmps54
 go_wp2_with fail
 rw[<- g]
 clear g c2
 refine C.out.mono ?_
 rintro e w2 ⟨rfl,j,l,K,a⟩
 have B:Hid (Calls prog 72 #[.pointer (some ⟨R,0,none⟩),.int .i64 5,.int .u8 125,.int .i64 (6-(n:Int))] w2 (qlD m n w2 R s i)):=xbO n A.out hn6 m R hm s i w2 l hs f
 clear C l A
 go_wp2_with fail
 refine B.out.mono ?_
 rintro e w3 ⟨c,t,u,P,Q,S,D,rfl,p,o,E,F,g3,g4⟩
 obtain⟨na,x,rfl,-⟩:=p.2.2.2.2.2.2.1
 obtain⟨y,z,rfl,-⟩:=p.2.2.2.2.2.2.2
 have H:=c.size
 obtain⟨⟨r0,L,M,N,O⟩,T,f1,U,V,W⟩:=qbH ((c.block w.heap.size (by omega) (by omega)).trans a)
 have I:Hid (qaZ (m+1) (n+1) w R s i false (.returned (.agg #[.int .i64 5,.int .i64 0,.string ByteArray.empty,.slice na t.length x,.slice y u.length z])) (put5 w3 w.heap.size 0 (.int .i64 5) (.int .i64 0) (.string ByteArray.empty) (.slice na t.length x) (.slice y u.length z))):=
  qfD (j.trans c) G o (p.keep (fun _ _=>rfl) (fun b hb=>⟨by omega,hb.2⟩)) (xaX q.out E F g3 g4)
 clear B c j a o p E F g3 g4
 go_wp2_with fail
 refine bodyPost_ret (v:=.agg #[.int .i64 5,.int .i64 0,.string ByteArray.empty,.slice na t.length x,.slice y u.length z]) (by simp[results,results54,go_sem,r0,L,M,N,O]) rfl ?_
 exact I.out
theorem qxX:∀n,n<=6->qeF n:=by
 intro n
 induction n with
 | zero=>
  intro _ m R s i bad w e h c b _
  obtain⟨a,rfl⟩:∃a,m=a+1:=⟨m-1,by omega⟩
  exact xbN 0 a R s i bad w h (.inr rfl) b
 | succ n ih=>
  intro f m R s i bad w e h c b g
  obtain⟨a,rfl⟩:∃a,m=a+1:=⟨m-1,by omega⟩
  have d:=ih (by omega)
  cases bad with
  | true=>exact xbN (n+1) a R s i true w h (.inl rfl) b
  | false=>
   have b:=b rfl
   by_cases h1:lookB s i=34
   ·exact xiQ n a R s i w h c b h1
   by_cases h2:lookB s i=121
   ·exact l1_yes n a R s i w h c b h2
   by_cases h3:lookB s i=110
   ·exact l1_no n a R s i w h c b h3
   by_cases h4:lookB s i=126
   ·exact xiP n a R s i w h c b h4
   by_cases h5:lookB s i=63
   ·exact xiS n d a R s i w (by omega) (by omega) h c b h5
   by_cases h6:lookB s i=91
   ·exact xiT n d a R s i w (by omega) (by omega) h c b h6
   by_cases h7:lookB s i=123
   ·exact xiU n d a R s i w (by omega) (by omega) h c b h7
   ·exact l1_num n a R s i w h c b h1 h2 h3 h4 h5 h6 h7
def qfE(m:Nat)(k:T m)(ok:Bool)(w:World)(e:Ending)(w':World):Prop:=
 Below w.heap.size w w' /\ ∃c0 c1 c2 c3 c4,e=.returned (.tuple #[.agg #[c0,c1,c2,c3,c4],.bool ok])/\TreeIn (fun b=>w.heap.size<=b/\b<w'.heap.size) w' m k c0 c1 c2 c3 c4
theorem qoK{m:Nat}{s:ByteArray}{w w':World}(h:readT (m+1) s=none)(hb:Below w.heap.size w w'):qfE (m+1) (ansU m s) (okU m s) w (.returned (.tuple #[.agg #[.int .i64 0,.int .i64 0,.string ⟨#[]⟩,.slice none 0 0,.slice none 0 0],.bool false])) w':=by
 obtain⟨a,b⟩:=qlV h
 rw[a,b]
 exact⟨hb,_,_,_,_,_,rfl,qdV _ _ m 0 0 _ rfl rfl (by decide)⟩
theorem xcB{m:Nat}{s:ByteArray}{t:T (m+1)}{i':Nat}{bad':Bool}(hg:GotT (m+1) 6 s 0 false t i' bad')(k:T (m+1))(h:readT (m+1) s=some k):t=k/\bad'=false/\i'=s.size/\okT (m+1) t=true/\txtL (m+1) t=s.data.toList:=by
 obtain⟨g,a,b⟩:=qeV h
 obtain⟨-,-,-,-,c⟩:=hg
 obtain⟨d,e,f⟩:=c k [] rfl (by rw[List.drop_zero,List.append_nil,b]) (quN a).1 rfl
 subst d
 refine⟨rfl,e,?_,a,b⟩
 rw[f,b];simp
theorem qiT{m:Nat}{s:ByteArray}{t:T (m+1)}{i':Nat}{bad':Bool}(hg:GotT (m+1) 6 s 0 false t i' bad')(h:bad'=true∨i'≠s.size∨okT (m+1) t=false∨txtL (m+1) t≠s.data.toList):readT (m+1) s=none:=by
 cases hr:readT (m+1) s with
 | none=>rfl
 | some k=>
  obtain⟨-,a,b,c,d⟩:=xcB hg k hr
  rcases h with h|h|h|h
  ·rw[a]at h;cases h
  ·exact absurd b h
  ·rw[c]at h;cases h
  ·exact absurd d h
theorem qiU (s:ByteArray) (m:Nat) (hm:7<=m+1) (hs:s.size<=1048576) (w:World) :
  Calls prog 37 #[.string s] w (qfE (m+1) (ansU m s) (okU m s) w):=by
 obtain⟨W1,z⟩:∃W1,W1=w.alloc (.cells #[.int .i64 0,.int .i64 0,.string ⟨#[]⟩,.slice none 0 0,.slice none 0 0] 67):=⟨_,rfl⟩
 have aA:W1.heap.size=w.heap.size+1:=by rw[z];simp
 have F:Below w.heap.size w W1:=by rw[z];exact (Below.refl _ _).alloc (Nat.le_refl _) _
 have k:W1.heap[w.heap.size]?=some (.cells #[.int .i64 0,.int .i64 0,.string ⟨#[]⟩,.slice none 0 0,.slice none 0 0] 67 (0,0)):=by rw[z];exact heap_alloc_new _ _
 have K:Hid (∀W:World,Below w.heap.size w W->Below w.heap.size w (put5 W w.heap.size 0 (.int .i64 0) (.int .i64 0) (.string ⟨#[]⟩) (.slice none 0 0) (.slice none 0 0))):=fun W h=>qaX h (Nat.le_refl _)
 by_cases h8:s.size<=10000
 case neg=>
  have aG:(10000:Int)<(s.size:Int):=by omega
  have u:Hid (∀o,qfE (m+1) (ansU m s) (okU m s) w (.returned (.tuple #[.agg #[.int .i64 0,.int .i64 0,.string ⟨#[]⟩,.slice none 0 0,.slice none 0 0],.bool false])) (w.alloc o)):=fun o=>qoK (qoG h8) ((Below.refl _ _).alloc (Nat.le_refl _) _)
  clear F k aA h8
  go_enter func37,ntmps37
  go_wp2_with fail
  refine bodyPost_ret (v:=.tuple #[.agg #[.int .i64 0,.int .i64 0,.string ⟨#[]⟩,.slice none 0 0,.slice none 0 0],.bool false]) (by simp[results,results37,go_sem]) rfl ?_
  exact u.out _
 have aH:¬(10000:Int)<(s.size:Int):=by omega
 obtain⟨W2,x⟩:∃W2,W2=W1.alloc (.cells #[.string s,.int .i64 0,.bool false] 72):=⟨_,rfl⟩
 have aI:W2.heap.size=w.heap.size+2:=by rw[x];simp;omega
 have y:Below w.heap.size w W2:=by rw[x];exact F.alloc F.size _
 have aB:RdS W2 (w.heap.size+1) s ((0:Nat):Int) false:=by
  show W2.heap[w.heap.size+1]?=_
  rw[x,<- aA];exact heap_alloc_new _ _
 have p:W2.heap[w.heap.size]?=some (.cells #[.int .i64 0,.int .i64 0,.string ⟨#[]⟩,.slice none 0 0,.slice none 0 0] 67 (0,0)):=by rw[x,Below.heap_alloc _ _ _ (by omega)];exact k
 have HK:Hid (Calls prog 54 #[.pointer (some ⟨w.heap.size+1,0,none⟩),.int .i64 1] W2 (qaZ (m+1) 6 W2 (w.heap.size+1) s 0 false)):=qxX 6 (Nat.le_refl _) (m+1) (w.heap.size+1) s 0 false W2 hm aB (by omega) (fun _=>Nat.zero_le _) (by omega)
 clear aB k F
 go_enter func37,ntmps37
 go_wp2_with fail
 rw[<- z,<- x]
 clear z x
 refine HK.out.mono ?_
 rintro e w3 ⟨l,t,d0,d1,d2,d3,d4,i',A,rfl,ht,Q,hG⟩
 obtain⟨X,Y,Z,ua,ul,uc,ya,yl,yc,rfl,rfl,rfl,rfl,rfl⟩:=ht.shape
 have aJ:=l.size
 have L:Below w.heap.size w w3:=⟨l.os.trans y.os,l.tape.trans y.tape,l.output.trans y.output,by omega,fun b hb=>(l.block b (by omega) (by omega)).trans (y.block b hb)⟩
 have q:w3.heap[w.heap.size]?=some (.cells #[.int .i64 0,.int .i64 0,.string ⟨#[]⟩,.slice none 0 0,.slice none 0 0] 67 (0,0)):=(l.block _ (by omega) (by omega)).trans p
 obtain⟨i,n⟩:∃i,i=w3.alloc (.cells #[.int .i64 X,.int .i64 Y,.string Z,.slice ua ul uc,.slice ya yl yc] 67):=⟨_,rfl⟩
 have aK:i.heap.size=w3.heap.size+1:=by rw[n];simp
 have f:Below w3.heap.size w3 i:=by rw[n];exact (Below.refl _ _).alloc (Nat.le_refl _) _
 have G:=qaA L L.size f
 have r:=(f.block w.heap.size (by omega)).trans q
 obtain⟨j,R⟩:=ht.step (fun b hb=>hb.2) f
 have M:RdS i (w.heap.size+1) s i' A:=(f.block _ Q.lt).trans Q
 have g:Box5 i w3.heap.size (.int .i64 X) (.int .i64 Y) (.string Z) (.slice ua ul uc) (.slice ya yl yc):=by rw[n];exact Box5.new _ _ _ _ _ _ _
 have c1:=M.cell1
 have c2:=M.cell2
 have H:Hid (GotT (m+1) 6 s 0 false t i' A):=hG
 obtain⟨S,T,U,k3,k4⟩:=id g
 have a:Hid (∀W:World,Below i.heap.size i W->readT (m+1) s=none->qfE (m+1) (ansU m s) (okU m s) w (.returned (.tuple #[.agg #[.int .i64 0,.int .i64 0,.string ⟨#[]⟩,.slice none 0 0,.slice none 0 0],.bool false])) (put5 W w.heap.size 0 (.int .i64 0) (.int .i64 0) (.string ⟨#[]⟩) (.slice none 0 0) (.slice none 0 0))):=fun W hW h=>qoK h (K.out W (qaA G G.size hW))
 have I:Hid (∀W:World,Below i.heap.size i W->W.heap[w.heap.size]?=some (.cells #[.int .i64 0,.int .i64 0,.string ⟨#[]⟩,.slice none 0 0,.slice none 0 0] 67 (0,0))):=fun W hW=>(hW.block w.heap.size (by omega)).trans r
 have HB:Hid (Below w.heap.size w i):=G
 clear HK hG ht Q M l L f G p q r y K
 cases A with
 | true=>
  obtain⟨⟨r0,B,C,D,E⟩,f0,f1,f2,f3,f4⟩:=qbH (I.out i (Below.refl _ _))
  have u:Hid _:=a.out i (Below.refl _ _) (qiT H.out (.inl rfl))
  rw[n]at c1 c2 S T U k3 k4 r0 B C D E f0 f1 f2 f3 f4 u
  clear g j a I H
  go_wp2_with fail
  refine bodyPost_ret (v:=.tuple #[.agg #[.int .i64 0,.int .i64 0,.string ⟨#[]⟩,.slice none 0 0,.slice none 0 0],.bool false]) (by simp[results,results37,go_sem,r0,B,C,D,E]) rfl ?_
  exact u.out
 | false=>
  by_cases hat:i'=s.size
  case neg=>
   have aC:((i':Int) != (s.size:Int))=true:=by simp;omega
   obtain⟨⟨r0,B,C,D,E⟩,f0,f1,f2,f3,f4⟩:=qbH (I.out i (Below.refl _ _))
   have u:Hid _:=a.out i (Below.refl _ _) (qiT H.out (.inr (.inl hat)))
   rw[n]at c1 c2 S T U k3 k4 r0 B C D E f0 f1 f2 f3 f4 u
   clear g j a I H hat
   go_wp2_with fail
   refine bodyPost_ret (v:=.tuple #[.agg #[.int .i64 0,.int .i64 0,.string ⟨#[]⟩,.slice none 0 0,.slice none 0 0],.bool false]) (by simp[results,results37,go_sem,r0,B,C,D,E]) rfl ?_
   exact u.out
  have aC:((i':Int) != (s.size:Int))=false:=by simp;omega
  have N:Hid (Calls prog 55 #[.agg #[.int .i64 X,.int .i64 Y,.string Z,.slice ua ul uc,.slice ya yl yc]] i _):=qyA (m+1) _ t _ _ _ _ _ i j R
  rw[n]at c1 c2 S T U k3 k4
  clear hat
  go_wp2_with fail
  rw[<- n]
  clear c1 c2 S T U k3 k4
  refine N.out.mono ?_
  rintro e w5 ⟨rfl,d⟩
  have aD:=d.size
  obtain⟨S,T,U,k3,k4⟩:=g.keep d
  cases hok:okT (m+1) t with
  | false=>
   obtain⟨⟨r0,B,C,D,E⟩,f0,f1,f2,f3,f4⟩:=qbH (I.out w5 d)
   have u:Hid _:=a.out w5 d (qiT H.out (.inr (.inr (.inl hok))))
   clear g j a I H d N hok
   go_wp2_with fail
   refine bodyPost_ret (v:=.tuple #[.agg #[.int .i64 0,.int .i64 0,.string ⟨#[]⟩,.slice none 0 0,.slice none 0 0],.bool false]) (by simp[results,results37,go_sem,r0,B,C,D,E]) rfl ?_
   exact u.out
  | true=>
   have hp:=quN hok
   obtain⟨V,aF⟩:=j.step R d
   have O:Hid (Calls prog 47 _ w5 _):=qoJ (m+1) _ t _ _ _ _ _ 1 w5 V aF hp.1 hp.2
   have P:Hid (okT (m+1) t=true):=hok
   clear hok hp N
   go_wp2_with fail
   refine O.out.mono ?_
   rintro e w6 ⟨rfl,J⟩
   have aL:=J.size
   have c:=qaA d aD J
   clear S T U k3 k4
   obtain⟨S,T,U,k3,k4⟩:=g.keep c
   obtain⟨⟨r0,B,C,D,E⟩,f0,f1,f2,f3,f4⟩:=qbH (I.out w6 c)
   by_cases htx:txtL (m+1) t=s.data.toList
   ·have hq:((bs (txtL (m+1) t)).toList==s.toList)=true:=by rw[htx,bs_of];simp
    have u:Hid (qfE (m+1) (ansU m s) (okU m s) w (.returned (.tuple #[.agg #[.int .i64 X,.int .i64 Y,.string Z,.slice ua ul uc,.slice ya yl yc],.bool true])) (put5 w6 w.heap.size 0 (.int .i64 X) (.int .i64 Y) (.string Z) (.slice ua ul uc) (.slice ya yl yc))):=by
     obtain⟨q1,q2⟩:=qiO (qwG h8 P.out htx)
     rw[q1,q2]
     have aE:=(j.step R c).1
     refine⟨qaX (qaA HB.out HB.out.size c) (Nat.le_refl _),_,_,_,_,_,rfl,aE.keep (fun b hb=>qaQ (by omega)) (fun b hb=>by rw[qbO];omega)⟩
    clear g j V a I H d J c O htx P
    go_wp2_with fail
    refine bodyPost_ret (v:=.tuple #[.agg #[.int .i64 X,.int .i64 Y,.string Z,.slice ua ul uc,.slice ya yl yc],.bool true]) (by simp[results,results37,go_sem,r0,B,C,D,E]) rfl ?_
    exact u.out
   ·have hq:((bs (txtL (m+1) t)).toList==s.toList)=false:=by
     rw[beq_eq_false_iff_ne]
     intro e
     apply htx
     rw[ByteArray.toList_eq,ByteArray.toList_eq,qcB]at e
     exact e
    have u:Hid _:=a.out w6 c (qiT H.out (.inr (.inr (.inr htx))))
    clear g j V a I H d J c O htx P
    go_wp2_with fail
    refine bodyPost_ret (v:=.tuple #[.agg #[.int .i64 0,.int .i64 0,.string ⟨#[]⟩,.slice none 0 0,.slice none 0 0],.bool false]) (by simp[results,results37,go_sem,r0,B,C,D,E]) rfl ?_
    exact u.out
end Go.Proofs.YtelogmjfekhmpaaGreatDoor
