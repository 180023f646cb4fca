import Derived.Test.YtelogmjfekhmpaaGreatDoorB25
import Derived.Test.YtelogmjfekhmpaaGreatDoorPN4
import Derived.Test.YtelogmjfekhmpaaGreatDoorB30
namespace Go.Proofs.YtelogmjfekhmpaaGreatDoor
open Go.RowKit Go.Proofs.Tryz
set_option maxRecDepth 100000
set_option maxHeartbeats 16000000
theorem xjV{α:Type}{rk:Nat->Nat->Rd3 α}{ws:List ByteArray}{f a c:Nat}{n:Nd α}(h:¬a<ws.length):qaR rk ws (f+1) n a c=.error (2,a):=by
 rw[qaR,List.getElem?_eq_none (by omega)]
theorem fR_end{α:Type}{rk:Nat->Nat->Rd3 α}{ws:List ByteArray}{f a c:Nat}{n:Nd α}{s:ByteArray}(hs:ws[a]?=some s)(h:(s==bs [101,110,100])=true):qaR rk ws (f+1) n a c=.ok (n,a+1,c):=by
 rw[qaR,hs];dsimp only;rw[if_pos h]
theorem fR_bad{α:Type}{rk:Nat->Nat->Rd3 α}{ws:List ByteArray}{f a c:Nat}{n:Nd α}{s:ByteArray}(hs:ws[a]?=some s)(h:(s==bs [101,110,100])=false)(hb:qcM (n.names++[s]) n.names.length=false):qaR rk ws (f+1) n a c=.error (2,a):=by
 rw[qaR,hs];dsimp only;rw[if_neg (by rw[h];decide),if_neg (by rw[hb];decide)]
theorem fR_err{α:Type}{rk:Nat->Nat->Rd3 α}{ws:List ByteArray}{f a c:Nat}{n:Nd α}{s:ByteArray}{e:Er}(hs:ws[a]?=some s)(h:(s==bs [101,110,100])=false)(hb:qcM (n.names++[s]) n.names.length=true)(hk:rk (a+1) c=.error e):qaR rk ws (f+1) n a c=.error e:=by
 rw[qaR,hs];dsimp only;rw[if_neg (by rw[h];decide),if_pos hb,hk]
theorem fR_ok{α:Type}{rk:Nat->Nat->Rd3 α}{ws:List ByteArray}{f a c:Nat}{n:Nd α}{s:ByteArray}{r:α×Nat×Nat}(hs:ws[a]?=some s)(h:(s==bs [101,110,100])=false)(hb:qcM (n.names++[s]) n.names.length=true)(hk:rk (a+1) c=.ok r):qaR rk ws (f+1) n a c=qaR rk ws f ⟨n.sort,n.num,n.text,n.names++[s],n.kids++[r.1]⟩ r.2.1 r.2.2:=by
 rw[qaR,hs];dsimp only;rw[if_neg (by rw[h];decide),if_pos hb,hk]
def atR(w:World)(R:Nat):Nat:=match w.cell? ⟨R,2,none⟩ with|some (.int _ n)=>n.toNat|_=>0
theorem Rdr.atR{w:World}{R bk:Nat}{wv:Value}{ws:List ByteArray}{a c:Nat}(h:Rdr w R bk wv ws a c):atR w R=a:=by
 unfold Go.Proofs.YtelogmjfekhmpaaGreatDoor.atR;rw[h.cells.1.2.2.1];simp
theorem qvM {M B R X Y bk m:Nat} {it:Obj} {wv:Value} {ws:List ByteArray} {w0 w:World} {n:Nd (T m)} {a c:Nat} {na:Option Addr} {nc:Nat} {ka:Option Addr} {kc:Nat} (hI:qhA M m) (d:Int) (hd:1<=d) (hdm:d+1+(m:Int)=26) (hc:c<=200)
  (h:PSt B R X Y it bk m wv ws w0 w n a c na nc ka kc) (ha:a<=ws.length) :
  Calls prog 89 #[.pointer (some ⟨R,0,none⟩),.pointer (some ⟨X,0,none⟩),.int .i64 d] w (qaW B R X Y it bk m wv ws w0 (qaR (qaI M ws m false (d+1)) ws (ws.length+1) n a c)):=by
 have aH:=h.rx
 have dE:IntKind.i64.wrap (d+1)=d+1:=by rw[IntKind.wrap_i64];omega
 have HI:=Lib.hid hI
 have cM:=hidF hdm
 have dC:=h.rdr.few
 obtain⟨cY,H,aM,aN,aO⟩:=info_parts Tryz.info_strN
 have aS:Hid (_/\_/\_/\_):=⟨H,aM,aN,aO⟩
 clear H aM aN aO
 obtain⟨cC,H,aM,aN,aO⟩:=info_parts Tryz.info_nodeR
 have F:Hid (_/\_/\_/\_):=⟨H,aM,aN,aO⟩
 clear H aM aN aO
 have H0:Hid (∃(p:Nd (T m))(r c1 f1:Nat)(na:Option Addr)(nc:Nat)(ka:Option Addr)(kc:Nat),PSt B R X Y it bk m wv ws w0 w p r c1 na nc ka kc/\qaR (qaI M ws m false (d+1)) ws f1 p r c1=qaR (qaI M ws m false (d+1)) ws (ws.length+1) n a c/\ws.length<r+f1/\r<=ws.length/\c1<=200):=⟨n,a,c,ws.length+1,na,nc,ka,kc,h,rfl,by omega,ha,hc⟩
 generalize qaR (qaI M ws m false (d+1)) ws (ws.length+1) n a c=res at *
 clear hI hdm h ha hc
 go_enter func89,ntmps89
 go_wp2_with fail
 go_loopw [6] (fun _ wr=>∃(p:Nd (T m))(r c1 f1:Nat)(na:Option Addr)(nc:Nat)(ka:Option Addr)(kc:Nat),PSt B R X Y it bk m wv ws w0 wr p r c1 na nc ka kc/\qaR (qaI M ws m false (d+1)) ws f1 p r c1=res/\ws.length<r+f1/\r<=ws.length/\c1<=200) (fun _ wr=>ws.length-atR wr R)
 case atStart=>exact H0.out
 case round=>
  obtain⟨p,r,c1,f1,na,nc,ka,kc,L,bC,hf,aW,cD⟩:=hrel
  obtain⟨f,rfl⟩:∃f,f1=f+1:=⟨f1-1,by omega⟩
  have N:=Lib.hid L
  have v:=Lib.hid bC
  have aT:=hidF hf
  have aU:=hidF cD
  have bL:=L.rdr.lt
  clear H0 bC hf cD
  by_cases ha:r<ws.length
  case neg=>
   have HW:=Lib.hid (qjB L.rdr ha)
   have HQ:Hid (∀k,qaW B R X Y it bk m wv ws w0 res (.panicked (qbT 2 r)) (wr.drewN k)):=fun k=>.inr ⟨2,r,by rw[<- v.out];exact xjV ha,rfl,L.many.near.trans (qaJ (Near.refl R wr) k)⟩
   clear L N v aT aU ha aW
   go_wp2_with fail
   refine HW.out.mono ?_
   rintro e w1 ⟨rfl,k,rfl⟩
   exact⟨rfl,HQ.out k⟩
  obtain⟨s,P⟩:∃s,ws[r]=s:=⟨_,rfl⟩
  have dF:s.size<=3000:=by rw[<- P];exact L.rdr.short _ (List.getElem_mem ha)
  have bF:Hid (∃h:r<ws.length,ws[r]=s):=⟨ha,P⟩
  have aC:Hid (ws[r]?=some s):=by show _=_;rw[List.getElem?_eq_getElem ha,P]
  have HW:Hid (∀k,Calls prog 66 #[.pointer (some ⟨R,0,none⟩)] (wr.drewN k) fun e w'=>e=.returned (.string s)/\∃n,w'=(wr.drewN k).drewN n):=fun k=>by
   have:=qgC (L.rdr.drewN k) ha
   rw[P]at this
   exact this
  have e1:=qiP s [101,110,100]
  have aI:Hid ((s==bs [101,110,100])=(s==bs [101,110,100])):=rfl
  cases hb1:(s==bs [101,110,100]) with
  | true=>
   rw[hb1]at e1
   have HQ:Hid (∀W,Near R wr W->Rdr W R bk wv ws (r+1) c1->qaW B R X Y it bk m wv ws w0 res (.returned (.tuple #[])) W):=fun W hn hr=>.inl ⟨p,r+1,c1,na,nc,ka,kc,by rw[<- v.out];exact fR_end aC.out hb1,rfl,N.out.on hn hr (by omega)⟩
   have bM:Hid (∀k,Calls prog 68 #[.pointer (some ⟨R,0,none⟩)] (wr.drewN k) fun e w'=>(∃x,e=.returned (.string x))/\Near R wr w' /\ Rdr w' R bk wv ws (r+1) c1):=fun k=>by
    refine (qfJ (L.rdr.drewN k) ha).mono ?_
    rintro e w' ⟨rfl,hn,hr⟩
    exact⟨⟨_,rfl⟩,(qaJ (Near.refl R wr) k).trans hn,hr⟩
   clear L N v aT aU ha aW P bF aC hb1 aI
   go_wp2_with fail
   refine (HW.out 0).mono ?_
   rintro e w1 ⟨rfl,k,rfl⟩
   go_wp2_with fail
   refine (bM.out (k)).mono ?_
   rintro e w2 ⟨⟨x,rfl⟩,Q,cE⟩
   have HF:=Lib.hid (HQ.out w2 Q cE)
   clear Q cE HQ bM HW
   go_wp2_with fail
   exact bodyPost_end (results_none rfl _ _ _) rfl HF.out
  | false=>
   rw[hb1]at e1
   have bG:=hidF hb1
   have aD:Hid (∀k,Calls prog 115 #[.string s,.slice na p.names.length nc] (wr.drewN k) fun e w'=>e=.returned (.bool (qcM (p.names++[s]) p.names.length))/\w'=wr.drewN k):=fun k=>by
    have hl:p.names.length<(p.names++[s]).length:=by simp
    have e:(p.names++[s])[p.names.length]'hl=s:=by simp
    have cN:StrsIn (fun b=>b<wr.heap.size) (wr.drewN k) ((p.names++[s]).take p.names.length) (.slice na p.names.length nc):=by
     rw[List.take_left]
     exact L.names (by omega)
    have:=qmC (fun b=>b<wr.heap.size) (p.names++[s]) p.names.length hl _ (wr.drewN k) cN (by rw[e];unfold maxLen;omega)
    rw[e]at this
    exact this
   obtain⟨nl,aP⟩:∃nl,p.names.length=nl:=⟨_,rfl⟩
   obtain⟨⟨x0,x1,x2,x3,x4⟩,xf⟩:=qaC L.many.box
   rw[aP]at aD x3
   cases hfb:qcM (p.names++[s]) nl with
   | false=>
    rw[hfb]at aD
    have HD:Hid (∀k,Calls prog 52 _ (wr.drewN k) _):=fun k=>qcE (L.rdr.drewN k) 2
    have HQ:Hid (∀k,qaW B R X Y it bk m wv ws w0 res (.panicked (qbT 2 r)) (wr.drewN k)):=fun k=>.inr ⟨2,r,by rw[<- v.out];exact fR_bad aC.out hb1 (by rw[aP];exact hfb),rfl,L.many.near.trans (qaJ (Near.refl R wr) k)⟩
    clear L N v aT aU ha aW P bF aC hb1 aI bG hfb aP x0 x1 x2 x4 xf
    go_wp2_with fail
    refine (HW.out 0).mono ?_
    rintro e w1 ⟨rfl,k,rfl⟩
    go_wp2_with fail
    refine wp_region_held_drew (S:=(fun w'=>w'.cell? ⟨X,3,none⟩=some (.slice na nl nc))) (by kernel_rfl) (by exact x3) (fun hHeld=>?_)
    refine tk 0 ?_
    refine tk 1 ?_
    refine tk 3 ?_
    refine tk 4 ?_
    refine tk 5 ?_
    refine tk 6 ?_
    refine wpAnyH_ready (rs:=[2]) (by kernel_rfl) (by simp) ?_
    refine AllReadyH.cons rfl (fun K hK=>?_) AllReadyH.nil
    go_simp
    go_at_call 66
    refine (HW.out (k+1)).mono ?_
    rintro e w1 ⟨rfl,k1,rfl⟩
    refine hK.out _ _ (hHeld) (fun hHeld=>?_)
    clear hK K
    refine wpAnyH_ready (rs:=[7]) (by kernel_rfl) (by simp) ?_
    refine AllReadyH.cons rfl (fun K hK=>?_) AllReadyH.nil
    go_simp
    go_at_call 115
    refine (aD.out (k+1+k1)).mono ?_
    rintro e w2 ⟨rfl,rfl⟩
    refine hK.out _ _ (hHeld) (fun hHeld=>?_)
    clear hK K
    refine wpAnyH_ready (rs:=[8]) (by kernel_rfl) (by simp) ?_
    refine AllReadyH.cons rfl (fun K hK=>?_) AllReadyH.nil
    go_simp
    go_at_call 52
    refine (HD.out (k+1+k1)).mono ?_
    rintro e w3 ⟨rfl,rfl⟩
    exact⟨rfl,HQ.out (k+1+k1)⟩
   | true=>
    rw[hfb]at aD
    have dD:nl<=3000:=by have:=L.few;omega
    have D:=hidF aP
    have bN:=hidF hfb
    clear L ha aW P hb1 aI hfb aP x0 x1 x2 x4 xf
    go_wp2_with fail
    refine (HW.out 0).mono ?_
    rintro e w1 ⟨rfl,k,rfl⟩
    go_wp2_with fail
    have bH:Hid (∀j,Calls prog 66 #[.pointer (some ⟨R,0,none⟩)] ((wr.drewN (k)).drewN j) fun e w'=>e=.returned (.string s)/\∃n,w'=((wr.drewN (k)).drewN j).drewN n):=fun j=>by have:=HW.out (k+j);rw[<- World.drewN_drewN]at this;exact this
    have aJ:Hid (∀j,Calls prog 115 #[.string s,.slice na nl nc] ((wr.drewN (k)).drewN j) fun e w'=>e=.returned (.bool true)/\w'=(wr.drewN (k)).drewN j):=fun j=>by have:=aD.out (k+j);rw[<- World.drewN_drewN]at this;exact this
    obtain⟨U,hU⟩:∃U,U=wr.drewN (k):=⟨_,rfl⟩
    have HU:Hid (PSt B R X Y it bk m wv ws w0 U p r c1 na nc ka kc):=by rw[hU];exact N.out.on (qaJ (Near.refl R wr) (k)) (N.out.rdr.drewN (k)) (Nat.le_refl _)
    have cO:U.heap.size=wr.heap.size:=by rw[hU];rfl
    have cP:U.cell? ⟨X,3,none⟩=some (.slice na nl nc):=by rw[hU];exact x3
    rw[<- hU]at bH aJ
    show Code.wp _ _ _ _ (wr.drewN (k))
    rw[<- hU]
    clear hU HW aD x3
    go_quiet (first|(go_at_call 66;refine Calls.quiet_of (bH.out _))|(go_at_call 115;refine Calls.quiet_of_same (aJ.out _))|(go_at_call 52;refine Calls.quiet_of_same (qbK _ _ _)))
    go_upto_region 2 with fail
    obtain⟨V,hV⟩:∃V,V=U.drewN nq:=⟨_,rfl⟩
    have J:Hid (PSt B R X Y it bk m wv ws w0 V p r c1 na nc ka kc):=by rw[hV];exact HU.out.on (qaJ (Near.refl R U) nq) (HU.out.rdr.drewN nq) (Nat.le_refl _)
    have aE:X<V.heap.size:=J.out.many.lt
    have O:=J.out.many.xy
    have HK:Hid (Calls prog 68 #[.pointer (some ⟨R,0,none⟩)] V.drew fun e w'=>e=.returned (.string s)/\Near R V.drew w' /\ Rdr w' R bk wv ws (r+1) c1):=by
     obtain⟨hq,cZ⟩:=bF.out
     have:=qfJ (J.out.rdr.drewN 1) hq
     rw[cZ]at this
     exact this
    have HO:Hid (V.ownsRow (Y+1) 9 1 (.slice na nl nc) nl (p.names.map .string)):=by
     have:=J.out.many.names
     rw[D.out]at this
     exact this
    have G:Hid (V.heap[X]?=some (.cells #[.int .i64 p.sort,.int .i64 p.num,.string p.text,.slice na nl nc,.slice ka p.kids.length kc] 25 (0,0))):=by
     have:=J.out.many.box
     rw[D.out]at this
     exact this
    have bI:V.cell? ⟨X,3,none⟩=some (.slice na nl nc):=(qaC G.out).1.2.2.2.1
    rw[<- hV]
    clear hV bH aJ HU cO cP
    go_cut [0] from 6 to 42 (fun rv wx=>rv=.pointer (some ⟨R,0,none⟩)/\∃(g2 A:Nat),PSt B R X Y it bk m wv ws w0 wx ⟨p.sort,p.num,p.text,p.names++[s],p.kids⟩ (r+1) c1 (some ⟨g2,0,none⟩) A ka kc)
    case first=>
     go_region_law (first
      | (refine step_append_lies _ (by rfl) (.tmp 22) (.tmp 25) 22 (by rfl) (Y+1) 9 cY _ 1 16 underlying22 aS.out.1 aS.out.2.1 aS.out.2.2.1 aS.out.2.2.2 rfl (by decide) (.slice na nl nc) nl (p.names.map .string) (by rfl) (bA _) ⟨v2.heap.size,0,none⟩ 1 1 [.string s] (by rfl) rfl (World.news_of_block (heap_alloc_new v2 _)) (by simp[Value.oneCell']) (by decide) (by unfold maxLen;omega) (by omega) (by simp;omega) (v2.heap.size+1) (by simp) ?_;intro g2 A v3 l i y I;have z:=(qkB (W:=V.drew) HO.out aE (by omega) O.1 Z i).trans G.out;have bO:v3.cell? ⟨X,3,none⟩=some (.slice na nl nc):=(by simp[World.cell?,z]);have aB:v3.frozen? ⟨X,3,none⟩=false:=(by simp[World.frozen?,z]))
      | (go_simp;go_at_call 68;refine HK.out.mono ?_;rintro e v2 ⟨rfl,Z,aA⟩;have bP:V.heap.size<=v2.heap.size:=Z.size;have bA:=fun o=>qhX (R:=R) (X:=Y) (W:=V.drew) HO.out (by omega) Z o;have bQ:v2.cell? ⟨X,3,none⟩=some (.slice na nl nc):=(World.cell?_of_block (Z.block X (by simpa using aE) (by omega))).trans bI;have cQ:(v2.alloc (.cells #[.string s] 9)).cell? ⟨X,3,none⟩=some (.slice na nl nc):=(World.cell?_of_block (Below.heap_alloc _ _ _ (by show X<_;omega))).trans bQ))
     all_goals
      have aV:Near R V v2:=(qaJ (Near.refl R V) 1).trans Z
      have hF:=ManyNP.name (W:=v2) (Wa:=v2.alloc (.cells #[.string s] 9)) (one:=.cells #[.string s] 9) (x:=s) (g:=g2) (cap:=A) (J.out.many.keep aH aV) J.out.wx rfl ⟨rfl,rfl,rfl⟩ (by omega) (by rw[D.out];exact l) (by rw[D.out];exact i) (by rw[D.out];exact y)
      rw[D.out]at hF
      have HF:=Lib.hid (J.out.more D.out hF (qoT (W:=V.drew) HO.out aH O.1 aA.lt i _ 3 aA.box) (qoU (W:=V.drew) HO.out O.2 aH J.out.xy Z i _ 3 J.out.iter))
      clear hF l i y I aA Z bA bQ cQ bO aB z aV bI J HK HO G
      go_wp2_with fail
      go_meet
      exact⟨rfl,g2,A,HF.out⟩
    case rest=>
     obtain⟨rfl,g1,bD,u⟩:=hcut
     clear HK HO G bI J aE O
     obtain⟨V,cF⟩:∃V,V=wc:=⟨_,rfl⟩
     rw[<- cF]at u ⊢
     clear cF
     obtain⟨n2,Q⟩:∃n2:Nd (T m),n2=⟨p.sort,p.num,p.text,p.names++[s],p.kids⟩:=⟨_,rfl⟩
     rw[<- Q]at u
     have bR:=Lib.hid Q
     have J:=Lib.hid u
     have aE:=u.many.lt
     have O:=u.many.xy
     have bL:=u.rdr.lt
     have aK:=qtO HI.out false (d+1) u.laidW u.br u.rdr (by omega) cM.out aU.out
     simp only[actI]at aK
     cases hr:qaI M ws m false (d+1) (r+1) c1 with
     | error er=>
      have HK:Hid (∀W,(W=V.drew∨W=V.drew.alloc zeroN)->Calls prog 51 #[.pointer (some ⟨R,0,none⟩),.int .i32 86,.int .i64 (d+1)] W fun e w'=>e=.panicked (qbT er.1 er.2)/\Near R V w'):=fun W hW=>by
       refine (aK W hW).mono ?_
       rintro e w' ⟨aQ,C,⟨t,a',c',c0,c1,c2,c3,c4,E,-⟩|⟨cG,dA,E,rfl⟩⟩
       ·rw[hr]at E;cases E
       ·rw[hr]at E;cases E;exact⟨rfl,C⟩
      have HQ:Hid (∀W,Near R V W->qaW B R X Y it bk m wv ws w0 res (.panicked (qbT er.1 er.2)) W):=fun W hW=>.inr ⟨er.1,er.2,by rw[<- v.out];exact fR_err aC.out bG.out (by rw[D.out];exact bN.out) hr,rfl,u.many.near.trans hW⟩
      obtain⟨⟨x0,x1,x2,x3,x4⟩,-⟩:=qaC u.many.box
      obtain⟨j,hj⟩:∃j,n2.kids.length=j:=⟨_,rfl⟩
      rw[hj]at x4
      clear aK hr u J hj Q bR x0 x1 x2 x3
      go_wp2_with fail
      go_region_dies
      all_goals (go_at_call 51;refine (HK.out _ (by first|exact .inl rfl|exact .inr rfl)).mono ?_;rintro e w' ⟨rfl,aV⟩;exact⟨rfl,HQ.out _ aV⟩)
     | ok q=>
      have cR:=qbS M ws m false (d+1) (r+1) c1 q hr
      have HK:Hid (∀W,(W=V.drew∨W=V.drew.alloc zeroN)->Calls prog 51 #[.pointer (some ⟨R,0,none⟩),.int .i32 86,.int .i64 (d+1)] W fun e w'=>∃(t:T m)(a' c':Nat)(c0 aX c2 c3 c4:Value),e=.returned (.agg #[c0,aX,c2,c3,c4])/\qaI M ws m false (d+1) (r+1) c1=.ok (t,a',c')/\NodeIn (fun b=>V.heap.size<=b/\b<w'.heap.size) w' m t c0 aX c2 c3 c4/\OwnN (fun b=>V.heap.size<=b/\b<w'.heap.size) w' m t c3 c4/\Rdr w' R bk wv ws a' c' /\ r+1<a' /\ Near R W w' /\ Near R V w'):=fun W hW=>by
       refine (aK W hW).mono ?_
       rintro e w' ⟨aQ,C,⟨t,a',c',c0,aX,c2,c3,c4,E,h2,h3,h4,h5,h6⟩|⟨cG,dA,E,-⟩⟩
       ·exact⟨t,a',c',c0,aX,c2,c3,c4,h2,E,h3,h4,h5,h6,aQ,C⟩
       ·rw[hr]at E;cases E
      have HQ:Hid (∀ (t:T m) (a' c':Nat) (W:World) (g cap:Nat),qaI M ws m false (d+1) (r+1) c1=.ok (t,a',c')->PSt B R X Y it bk m wv ws w0 W ⟨n2.sort,n2.num,n2.text,n2.names,n2.kids++[t]⟩ a' c' (some ⟨g1,0,none⟩) bD (some ⟨g,0,none⟩) cap ->
        ((∃(p:Nd (T m))(r c1 f1:Nat)(na:Option Addr)(nc:Nat)(ka:Option Addr)(kc:Nat),PSt B R X Y it bk m wv ws w0 W p r c1 na nc ka kc/\qaR (qaI M ws m false (d+1)) ws f1 p r c1=res/\ws.length<r+f1/\r<=ws.length/\c1<=200)/\atR W R=a' /\ r<a' /\ a'<=ws.length)):=fun t a' c' W g cap E h2=>by
       have hg:=qbS M ws m false (d+1) (r+1) c1 _ E
       dsimp only at hg
       have dG:=aT.out
       refine⟨⟨_,a',c',f,_,_,_,_,h2,?_,by omega,by omega,by omega⟩,h2.rdr.atR,by omega,by omega⟩
       rw[<- v.out,fR_ok aC.out bG.out (by rw[D.out];exact bN.out) E,bR.out]
      obtain⟨j,hj⟩:∃j,n2.kids.length=j:=⟨_,rfl⟩
      have bS:=Lib.hid hj
      have dH:j<=3000:=by have:=u.few;omega
      obtain⟨xs,Ps,aY,cH,cI,cJ⟩:=u.many.own
      have aF:Hid (_/\_/\_):=⟨cH,cI,cJ⟩
      have bT:Hid (xs.length=j*5):=by have E:=aY.1;rw[hj]at E;exact E
      obtain⟨cK,cL,dB⟩:∃cK cL,(cK=ka/\cL=kc):=⟨_,_,rfl,rfl⟩
      have HX:Hid (V.ownsRow (Y+1) 25 5 (.slice ka j kc) j xs):=by
       rw[hj]at aY;exact aY
      have G:Hid (V.heap[X]?=some (.cells #[.int .i64 n2.sort,.int .i64 n2.num,.string n2.text,.slice (some ⟨g1,0,none⟩) n2.names.length bD,.slice ka j kc] 25 (0,0))):=by
       have:=u.many.box
       rw[hj]at this
       exact this
      have bJ:V.cell? ⟨X,4,none⟩=some (.slice ka j kc):=(qaC G.out).1.2.2.2.2
      have dI:(j:Int)<(j:Int)+1:=by omega
      have bU:=hidF N.out.rdr.atR
      clear aK hr u hj Q aY cH cI cJ cR dB
      go_wp2_with fail
      go_region_law (first
       | (go_simp;go_at_call 51;refine (HK.out _ (by first|with_reducible exact .inl rfl|with_reducible exact .inr rfl)).mono ?_;rintro e v2 ⟨t5,a5,c5,f0,f1,f2,f3,f4,rfl,bE,aZ,bK,aA,aR,aQ,C⟩;obtain⟨t0,t1,t2,ta,tl,tc,ua,ul,uc,rfl,rfl,rfl,rfl,rfl⟩:=aZ.shape;have bP:V.heap.size<=v2.heap.size:=C.size;have aL:Near R V (v2.alloc zeroN):=C.trans (Near.alloc R _ _);have cS:v2.cell? ⟨X,4,none⟩=some (.slice ka j kc):=(World.cell?_of_block (C.block X aE (by omega))).trans bJ;have cT:(v2.alloc zeroN).cell? ⟨X,4,none⟩=some (.slice ka j kc):=(World.cell?_of_block (aL.block X aE (by omega))).trans bJ;try (have cU:=qoS aQ bL))
       | (refine step_append_lies _ (by rfl) (.tmp 32) (.tmp 38) 23 (by rfl) (Y+1) 25 cC _ 5 80 underlying23 F.out.1 F.out.2.1 F.out.2.2.1 F.out.2.2.2 rfl (by decide) (.slice ka j kc) j xs (by rfl) (qhM HX.out (by omega) aL) ⟨v2.heap.size,0,none⟩ 1 1 [.int .i64 0,.int .i64 0,.string ⟨#[]⟩,.slice none 0 0,.slice none 0 0] (by rfl) rfl (World.news_of_block (heap_alloc_new v2 _)) (by simp[Value.oneCell']) (by decide) (by unfold maxLen;omega) (by omega) (by simp;omega) (v2.alloc zeroN).heap.size rfl ?_;intro g2 A v3 l i y I;have bV:=qaF l g2 rfl;have cV:g2≠X:=(by omega);have cW:X≠g2:=(by omega);have z:=qgH G.out HX.out aH O.1 aL i;have bB:v3.cell? ⟨X,4,none⟩=some (.slice ka j kc):=(by simp[World.cell?,z]);have aB:v3.frozen? ⟨X,4,none⟩=false:=(by simp[World.frozen?,z]);obtain⟨⟨r0,r1,r2,r3,r4⟩,rf⟩:=qgG l bT.out;have bW:=rf (j*5);have bX:=rf (j*5+1);have bY:=rf (j*5+2);have bZ:=rf (j*5+3);have cA:=rf (j*5+4);have HF:=Lib.hid (qlJ J.out bS.out aL (xeT aZ _) (xeU bK _) HX.out aF.out.1 aF.out.2.1 aF.out.2.2 l i y (aA.same ((Below.refl _ _).alloc (Nat.le_refl _) _)) aR);clear rf l i y z I)
       | (refine step_append_lies _ (by rfl) (.tmp 32) (.tmp 38) 23 (by rfl) (Y+1) 25 cC _ 5 80 underlying23 F.out.1 F.out.2.1 F.out.2.2.1 F.out.2.2.2 rfl (by decide) (.slice ka j kc) j xs (by rfl) (qhM HX.out (by omega) C) ⟨V.heap.size,0,none⟩ 1 1 [.int .i64 0,.int .i64 0,.string ⟨#[]⟩,.slice none 0 0,.slice none 0 0] (by rfl) rfl (World.news_of_block cU) (by simp[Value.oneCell']) (by decide) (by unfold maxLen;omega) (by omega) (by omega) v2.heap.size rfl ?_;intro g2 A v3 l i y I;have bV:=qaF l g2 rfl;have cV:g2≠X:=(by omega);have cW:X≠g2:=(by omega);have z:=qgH G.out HX.out aH O.1 C i;have bB:v3.cell? ⟨X,4,none⟩=some (.slice ka j kc):=(by simp[World.cell?,z]);have aB:v3.frozen? ⟨X,4,none⟩=false:=(by simp[World.frozen?,z]);obtain⟨⟨r0,r1,r2,r3,r4⟩,rf⟩:=qgG l bT.out;have bW:=rf (j*5);have bX:=rf (j*5+1);have bY:=rf (j*5+2);have bZ:=rf (j*5+3);have cA:=rf (j*5+4);have HF:=Lib.hid (qlJ J.out bS.out C aZ bK HX.out aF.out.1 aF.out.2.1 aF.out.2.2 l i y aA aR);clear rf l i y z I))
      all_goals
       have cX:=Lib.hid bE
       have cB:=fun W hW=>HQ.out t5 a5 c5 W g2 A cX.out hW
       clear bE aR aZ bK aA aQ C aL cS cT bB aB r0 r1 r2 r3 r4 bW bX bY bZ cA bJ
       have aG:=Lib.hid cB
       clear cB
       go_wp2_with fail
       go_roundw
       case rel=>
        first
         | with_reducible exact (aG.out _ HF.out.1).1
         | with_reducible exact (aG.out _ HF.out.2).1
       case measure=>
        first
         | (rw[(aG.out _ HF.out.1).2.1,bU.out];have E:=(aG.out _ HF.out.1).2;omega)
         | (rw[(aG.out _ HF.out.2).2.1,bU.out];have E:=(aG.out _ HF.out.2).2;omega)
theorem qqX {α:Type} (ws:List ByteArray) (rk:Bool->Nat->Nat->Rd3 α) (po:α->Int) (good:α->Bool) (cnt:α->Nat) (HK:KidsGood ws rk po good cnt) :
  ∀(f:Nat)(n:Nd α)(a c:Nat)(r:Nd α×Nat×Nat),qaR (rk false) ws f n a c=.ok r->c<=200->r.1.sort=n.sort/\r.2.1<=ws.length/\r.2.2<=200:=by
 intro f
 induction f with
 | zero=>intro n a c r h;simp[qaR]at h
 | succ f ih=>
  intro n a c r h g
  simp only[qaR]at h
  cases hw:ws[a]? with
  | none=>rw[hw]at h;cases h
  | some s=>
   have b:=qeG hw
   rw[hw]at h
   dsimp only at h
   split at h
   ·cases h;exact⟨rfl,b,g⟩
   split at h
   ·cases hk:rk false (a+1) c with
    | error e=>rw[hk]at h;cases h
    | ok q=>
     rw[hk]at h
     dsimp only at h
     obtain⟨-,-,-,g4,-,-⟩:=HK.all _ _ _ _ hk
     have d:=ih _ _ _ _ h g4
     exact d
   ·cases h
theorem qvN {α:Type} (M:Nat) (ws:List ByteArray) (rk:Bool->Nat->Nat->Rd3 α) (po:α->Int) (good:α->Bool) (cnt:α->Nat) (HK:KidsGood ws rk po good cnt) (p:UInt8) (n:Nd α) (a c:Nat) (r:Nd α × Nat × Nat) (h:stepR M rk ws p n a c=.ok r) (hc:c<=200) :
  r.1.sort=n.sort/\r.2.1<=ws.length/\r.2.2<=200:=by
 unfold stepR at h
 split at h
 ·cases hk:rk (p==65) a c with
  | error e=>rw[hk]at h;cases h
  | ok q=>
   rw[hk]at h
   cases h
   obtain⟨-,-,-,g4,-,d⟩:=HK.all _ _ _ _ hk
   exact⟨rfl,d,g4⟩
 split at h
 ·exact qqX ws rk po good cnt HK _ _ _ _ _ h hc
 cases hw:ws[a]? with
 | none=>rw[hw]at h;cases h
 | some s=>
  have b:=qeG hw
  rw[hw]at h
  dsimp only at h
  split at h
  ·cases hl:leafW M s with
   | none=>rw[hl]at h;cases h
   | some l=>rw[hl]at h;cases h;exact⟨rfl,b,hc⟩
  split at h
  ·cases hl:numOf s.data.toList with
   | none=>rw[hl]at h;cases h
   | some v=>
    rw[hl]at h
    dsimp only at h
    split at h
    ·cases h;exact⟨rfl,b,hc⟩
    ·cases h
  split at h
  ·split at h
   ·cases h;exact⟨rfl,b,hc⟩
   ·cases h
  split at h
  ·cases h;exact⟨rfl,b,hc⟩
  ·cases h
theorem xeY(M:Nat)(ws:List ByteArray)(m:Nat)(d:Int):KidsGood ws (fun b=>qaI M ws m b (d+1)) (poT m) (fun t=>goodN m t (d+1)) (cntT m):=⟨fun b a c r h=>qbS M ws m b (d+1) a c r h⟩
theorem qvO {M B R X Y bk m:Nat} {it:Obj} {wv:Value} {ws:List ByteArray} {w0 w:World} {n:Nd (T m)} {a c:Nat} {na:Option Addr} {nc:Nat} {ka:Option Addr} {kc:Nat} (hI:qhA M m) (d:Int) (hd:1<=d) (hdm:d+1+(m:Int)=26) (hc:c<=200) (ha:a<=ws.length)
  (h:PSt B R X Y it bk m wv ws w0 w n a c na nc ka kc) :
  Calls prog 69 #[.pointer (some ⟨R,0,none⟩),.pointer (some ⟨X,0,none⟩),.int .i32 70,.int .i64 d] w (qaW B R X Y it bk m wv ws w0 (stepR M (fun b=>qaI M ws m b (d+1)) ws 70 n a c)):=by
 have k:stepR M (fun b=>qaI M ws m b (d+1)) ws 70 n a c=qaR (qaI M ws m false (d+1)) ws (ws.length+1) n a c:=by
  unfold stepR
  rw[if_neg (by decide),if_pos rfl]
 have l:=Lib.hid (qvM hI d hd hdm hc h ha)
 rw[k]
 generalize qaR (qaI M ws m false (d+1)) ws (ws.length+1) n a c=res at *
 clear h hI k
 go_enter func69,ntmps69
 go_wp2_with fail
 refine l.out.mono ?_
 rintro e p (⟨q,r,s,na,nc,ka,kc,g,rfl,i⟩|⟨f,j,g,rfl,i⟩)
 ·have o:Hid (qaW B R X Y it bk m wv ws w0 res (.returned (.tuple #[])) p):=.inl ⟨q,r,s,na,nc,ka,kc,g,rfl,i⟩
  clear g i l
  go_wp2_with fail
  exact bodyPost_end (results_none rfl _ _ _) rfl o.out
 ·exact⟨rfl,.inr ⟨f,j,g,rfl,i⟩⟩
theorem xhR {M B R X Y bk m:Nat} {it:Obj} {wv:Value} {ws:List ByteArray} {w0 w:World} {n:Nd (T m)} {a c:Nat} {na:Option Addr} {nc:Nat} {ka:Option Addr} {kc:Nat} (hM:3000<=M) (hI:qhA M m) (k:Nat) (hk:n.sort=(k:Int)) (hk44:k<44) (p:UInt8) (hp:letP p) (d:Int) (hd:1<=d) (hdm:d+1+(m:Int)=26) (hc:c<=200) (ha:a<=ws.length)
  (hleaf:p=84->∃(h:a<ws.length)(l:Int×Int×ByteArray),leafW M ws[a]=some l) (h:PSt B R X Y it bk m wv ws w0 w n a c na nc ka kc) :
  Calls prog 69 #[.pointer (some ⟨R,0,none⟩),.pointer (some ⟨X,0,none⟩),.int .i32 (p.toNat:Int),.int .i64 d] w (qaW B R X Y it bk m wv ws w0 (stepR M (fun b=>qaI M ws m b (d+1)) ws p n a c)):=by
 rcases hp with rfl|rfl|rfl|rfl|rfl|rfl|rfl|rfl
 ·obtain⟨e,l,f⟩:=hleaf rfl
  exact xeX M hM _ d h e l f
 ·exact xeW M _ d h
 ·exact qvO hI d hd hdm hc ha h
 ·exact xhP M _ k hk hk44 d h
 ·exact qsT M _ 78 78 rfl (.inl rfl) d h
 ·exact qsT M _ 88 88 rfl (.inr rfl) d h
 ·exact qxH hI 86 false rfl d hd hdm hc h
 ·exact qxH hI 65 true rfl d hd hdm hc h
theorem PSt.turn {B R X Y bk m:Nat} {it it':Obj} {wv:Value} {ws:List ByteArray} {w0 w W:World} {n:Nd (T m)} {a c:Nat} {na:Option Addr} {nc:Nat} {ka:Option Addr} {kc:Nat} (h:PSt B R X Y it bk m wv ws w0 w n a c na nc ka kc) (hz:W.heap.size=w.heap.size) (ho:W.os=w.os/\W.tape=w.tape/\W.output=w.output)
  (hb:∀b,b≠Y->W.heap[b]?=w.heap[b]?) (hi:W.heap[Y]?=some it'):PSt B R X Y it' bk m wv ws w0 W n a c na nc ka kc:=by
 obtain⟨a0,c0,k⟩:=h.rdr0
 have o:=h.xy
 have p:=h.wx
 have q:=h.rx
 have i:Near R w0 W:=⟨ho.1.trans h.many.near.os,ho.2.1.trans h.many.near.tape,ho.2.2.trans h.many.near.output,by rw[hz];exact h.many.near.size,fun b h1 h2=>(hb b (by omega)).trans (h.many.near.block b h1 h2)⟩
 obtain⟨xs,l,r⟩:=h.many.kids
 obtain⟨s,t,u,v,f,x⟩:=h.many.own
 have e:=qaF h.many.names
 have d:=qaF l
 refine⟨⟨⟨i,(hb X (by omega)).trans h.many.box,qaK h.many.names (fun g hg=>hb g (by have:=e g hg;omega)),h.many.short,⟨xs,qaK l (fun g hg=>hb g (by have:=d g hg;omega)),fun j hj=>?_⟩,h.many.apart,⟨h.many.xy.1,by rw[hz];exact h.many.xy.2⟩⟩,s,t,qaK u (fun g hg=>hb g (by have:=d g hg;omega)),v,f.keep (fun b hb2=>hb b (by have:=hb2.1;omega)) (fun b hb2=>⟨hb2.1,by rw[hz];exact hb2.2.1,hb2.2.2⟩),x⟩,
  k.keep i ((hb R (by omega)).trans h.rdr.box),⟨a0,c0,k⟩,h.laid,h.br,h.rx,h.wx,h.few,h.xy,hi⟩
 obtain⟨c0,c1,c2,c3,c4,y,z⟩:=r j hj
 exact⟨c0,c1,c2,c3,c4,y,z.keep (fun b hb2=>hb b (by have:=hb2.1;omega)) (fun b hb2=>⟨hb2.1,by rw[hz];exact hb2.2.1,hb2.2.2⟩)⟩
theorem qzT{s:ByteArray}(h:textB s=true):s.size<=60:=by
 unfold textB at h;simp only[Bool.and_eq_true,decide_eq_true_eq]at h;exact h.1
theorem xjW{m:Nat}{t:T (m+1)}{d:Int}(h:goodN (m+1) t d=true):(Lit.int .i64 (Nd.sort t)).wf=true/\(Lit.int .i64 (Nd.num t)).wf=true/\(Nd.text t).size<=10000:=by
 simp only[goodN,Bool.and_eq_true]at h
 have l:justB (poT m) (show Nd (T m) from t)=true:=h.1.2
 obtain⟨n,p⟩:∃n:Nd (T m),n=t:=⟨t,rfl⟩
 have c:justB (poT m) n=true:=by rw[p];exact l
 show (Lit.int .i64 (Nd.sort (show Nd (T m) from t))).wf=true/\(Lit.int .i64 (Nd.num (show Nd (T m) from t))).wf=true/\(Nd.text (show Nd (T m) from t)).size<=10000
 rw[show (show Nd (T m) from t)=n from p.symm]
 clear l h
 have o:1<=n.sort/\n.sort<=43:=by
  have h:=c
  unfold justB at h;simp only[Bool.and_eq_true,decide_eq_true_eq]at h;exact h.1
 have i:∀x:Int,-999999999<=x->x<=999999999->(Lit.int .i64 x).wf=true:=fun x h0 h1=>qmN x h0 h1
 refine⟨i _ (by omega) (by omega),?_⟩
 by_cases h24:n.sort=24
 ·rw[qdT (poT m) n h24]at c
  simp only[Bool.and_eq_true,beq_iff_eq]at c
  rw[c.2.1,qaG _ c.2.2]
  exact⟨rfl,by omega⟩
 ·rw[qfA (poT m) n o.1 o.2 h24]at c
  simp only[Bool.and_eq_true]at c
  have b:=c.1
  have g:n.sort.toNat<44:=by omega
  have r:lst n.sort.toNat ≥ 0/\mst n.sort.toNat<=99:=by
   have:∀k,k<44->0<=lst k/\mst k<=99:=by decide
   exact this _ g
  rcases (qeA _ g).resolve_left (by omega) with q|q|q|q|q|q|q|q
  ·rw[q]at b;simp only[preC,Bool.and_eq_true,beq_iff_eq]at b
   rw[b.1.1,qaG _ b.1.2];exact⟨rfl,by omega⟩
  ·rw[q]at b;simp only[preC,Bool.and_eq_true]at b
   have f:=b.1
   have j:n.sort=1∨n.sort=2∨n.sort=3:=by
    have:∀k,k<44->3<k->preL k≠[84]:=by decide
    rcases Nat.lt_or_ge 3 n.sort.toNat with j|j
    ·exact absurd q (this _ g j)
    ·omega
   rcases j with e|e|e
   ·rw[e]at f;simp[qaO]at f
    exact⟨i _ f.1.1 f.1.2,by rw[qaG _ (by simp[f.2])];omega⟩
   ·rw[e]at f;simp[qaO]at f
    exact⟨by rw[f.1];rfl,by have:=qzT f.2;omega⟩
   ·rw[e]at f;simp[qaO]at f
    exact⟨i _ (by omega) (by omega),by rw[qaG _ (by simp[f.2])];omega⟩
  ·rw[q]at b;simp only[preC,Bool.and_eq_true,beq_iff_eq]at b
   refine⟨by rw[b.1.1];rfl,?_⟩
   have:=b.1.2
   unfold kindB at this
   obtain⟨z,s⟩:=Option.isSome_iff_exists.1 this
   have:=(qhE s).1
   omega
  ·rw[q]at b;simp only[preC,Bool.and_eq_true,decide_eq_true_eq]at b
   exact⟨i _ (by omega) (by omega),by rw[qaG _ b.1.2];omega⟩
  ·rw[q]at b;simp only[preC,Bool.and_eq_true,beq_iff_eq]at b
   rw[b.1.1,qaG _ b.1.2];exact⟨rfl,by omega⟩
  ·rw[q]at b;simp only[preC,Bool.and_eq_true,beq_iff_eq]at b
   rw[b.1.1,qaG _ b.1.2];exact⟨rfl,by omega⟩
  ·rw[q]at b;simp only[preC,Bool.and_eq_true,beq_iff_eq]at b
   rw[b.1.1,qaG _ b.1.2];exact⟨rfl,by omega⟩
  ·rw[q]at b;simp only[preC,Bool.and_eq_true,decide_eq_true_eq]at b
   exact⟨i _ (by omega) (by omega),by rw[qaG _ b.1.2];omega⟩
structure Gd(R bk:Nat)(wv:Value)(ws:List ByteArray)(a c:Nat)(W1 W:World):Prop where
 rdr:Rdr W R bk wv ws a c
 near:Near R W1 W
theorem Gd.r0{R bk:Nat}{wv:Value}{ws:List ByteArray}{a c:Nat}{W1 W:World}(h:Gd R bk wv ws a c W1 W):W.cell? ⟨R,0,none⟩=some (.pointer (some ⟨bk,0,none⟩)):=h.rdr.cells.1.1
theorem Gd.ge{R bk:Nat}{wv:Value}{ws:List ByteArray}{a c:Nat}{W1 W:World}(h:Gd R bk wv ws a c W1 W):W1.heap.size<=W.heap.size:=h.near.size
theorem Gd.alloc{R bk:Nat}{wv:Value}{ws:List ByteArray}{a c:Nat}{W1 W:World}(h:Gd R bk wv ws a c W1 W)(o:Obj):Gd R bk wv ws a c W1 (W.alloc o):=⟨h.rdr.same ((Below.refl _ _).alloc (Nat.le_refl _) o),h.near.trans (Near.alloc R W o)⟩
theorem Gd.laid5{R bk:Nat}{wv:Value}{ws:List ByteArray}{a c X:Nat}{W1 W:World}(h:Gd R bk wv ws a c W1 W)(hr:Rdr W1 R bk wv ws a c)(hX:W1.heap.size<=X)(k:Nat):Gd R bk wv ws a c W1 (put5 W X 0 (.int .i64 (k:Int)) (.int .i64 0) (.string ⟨#[]⟩) (.slice none 0 0) (.slice none 0 0)):=by
 have g:=hr.lt
 have f:(put5 W X 0 (.int .i64 (k:Int)) (.int .i64 0) (.string ⟨#[]⟩) (.slice none 0 0) (.slice none 0 0)).heap.size=W.heap.size:=qbO
 have d:Below 0 W (put5 W X 0 (.int .i64 (k:Int)) (.int .i64 0) (.string ⟨#[]⟩) (.slice none 0 0) (.slice none 0 0)):=qaX (Below.refl 0 W) (Nat.zero_le _)
 have q:∀b,b≠X->(put5 W X 0 (.int .i64 (k:Int)) (.int .i64 0) (.string ⟨#[]⟩) (.slice none 0 0) (.slice none 0 0)).heap[b]?=W.heap[b]?:=fun b d=>qaQ d
 have e:Near R W1 (put5 W X 0 (.int .i64 (k:Int)) (.int .i64 0) (.string ⟨#[]⟩) (.slice none 0 0) (.slice none 0 0)):=⟨d.os.trans h.near.os,d.tape.trans h.near.tape,d.output.trans h.near.output,by rw[f];exact h.near.size,fun b h1 h2=>(q b (by omega)).trans (h.near.block b h1 h2)⟩
 exact⟨hr.keep e ((q R (by omega)).trans h.rdr.box),e⟩
theorem xhS{W:World}{X:Nat}{z0 z1 z2 z3 z4 c0 c1 c2 c3 c4:Value}{t:TypeId}(h:W.heap[X]?=some (.cells #[z0,z1,z2,z3,z4] t (0,0))):(put5 W X 0 c0 c1 c2 c3 c4).heap[X]?=some (.cells #[c0,c1,c2,c3,c4] t (0,0)):=by
 unfold put5
 simp[World.setCell,Array.getElem?_modify,h]
theorem qtP {S:Nat->Prop} {n:Nat} {w:World} {M:Nat} {e:TypeId} {v:Value} {l:List (T n)} {xs:List Value} (h:w.ownsRow M e 5 v l.length xs) (hl:l.length<=20000) (hS:∀ g,v.ownBlock=some g->S g)
  (hk:∀j (h:j<l.length),∃c0 c1 c2 c3 c4,(xs[j*5]?=some c0/\xs[j*5+1]?=some c1/\xs[j*5+2]?=some c2/\xs[j*5+3]?=some c3/\xs[j*5+4]?=some c4)/\NodeIn S w n l[j] c0 c1 c2 c3 c4):RowIn S w (NodeIn S w n) l v:=by
 have a:l.length<=maxLen:=by unfold maxLen;omega
 rcases id h.2 with ⟨rfl,d⟩|⟨g,cap,f,rfl,k,z,m,o,p,c⟩
 ·exact⟨none,0,by rw[d],a,fun hne=>absurd (List.eq_nil_of_length_eq_zero d) hne⟩
 ·refine⟨_,_,rfl,a,fun _=>⟨g,0,rfl,hS g rfl,fun i hi=>?_⟩⟩
  obtain⟨c0,c1,c2,c3,c4,⟨q,r,s,t,x⟩,y⟩:=hk i hi
  have b:∀j u,xs[j]?=some u->w.cell? ⟨g,0+j,none⟩=some u:=fun j u hu=>by
   have:=h.cells (g:=g) rfl j u hu
   rwa [Addr.add_lit]at this
  exact⟨c0,c1,c2,c3,c4,b _ _ q,b _ _ r,b _ _ s,b _ _ t,b _ _ x,y⟩
theorem qxI{w:World}{M:Nat}{e:TypeId}{z:Nat}{ao:Option Addr}{k c:Nat}{xs:List Value}(h:w.ownsRow M e z (.slice ao k c) k xs):k<=c:=by
 rcases h.2 with ⟨d,m⟩|⟨g,cap,f,d,i,n,a,j,l,b⟩
 ·omega
 ·cases d;exact a
theorem xeZ:∀k,k<44->(((wrd k).size=0)↔k<=4):=by decide
structure NAt(M B R X Y Z bk m k:Nat)(wv:Value)(ws:List ByteArray)(w w0 wr:World)(act:Bool)(d:Int)(a c pos:Nat)(n1:Nd (T m))(a1 c1:Nat)(na:Option Addr)(nc:Nat)(ka:Option Addr)(kc:Nat):Prop where
 st:PSt B R X Y (.stringIter (bs (prt k)) pos) bk m wv ws w0 wr n1 a1 c1 na nc ka kc
 le:pos<=(prt k).length
 rest:qcN M (fun b=>qaI M ws m b (d+1)) ws ((prt k).drop pos) n1 a1 c1=qaI M ws (m+1) act d a c
 sort:n1.sort=(k:Int)
 al:a1<=ws.length
 cl:c1<=200
 leaf:pos=0->k<=3->∃(h:a1<ws.length)(l:Int×Int×ByteArray),leafW M ws[a1]=some l
 zero:wr.heap[Z]?=some (.cells #[.int .i64 0,.int .i64 0,.string ⟨#[]⟩,.slice none 0 0,.slice none 0 0] 25 (0,0))
 zx:Z<w0.heap.size/\Z≠R/\Z=w.heap.size
 near:Near R w w0
 rd:Rdr w R bk wv ws a c
theorem xfA:∀k,k<44->∀p,p∈prt k->p=84->k<=3/\(prt k).length=1:=by decide
theorem NAt.step {M B R X Y Z bk m k:Nat} {wv:Value} {ws:List ByteArray} {w w0 wr:World} {act:Bool} {d:Int} {a c pos:Nat} {n1:Nd (T m)} {a1 c1:Nat} {na:Option Addr} {nc:Nat} {ka:Option Addr} {kc:Nat} (h:NAt M B R X Y Z bk m k wv ws w w0 wr act d a c pos n1 a1 c1 na nc ka kc) (hM:3000<=M) (hI:qhA M m) (hk:k<44) (hd:1<=d) (hdm:d+1+(m:Int)=26) (hp:pos<(prt k).length) :
  Calls prog 69 #[.pointer (some ⟨R,0,none⟩),.pointer (some ⟨X,0,none⟩),.int .i32 ((prt k)[pos].toNat:Int),.int .i64 d] (wr.iterAt Y (bs (prt k)) (pos+1)) fun e w'=>
   (e=.returned (.tuple #[])/\∃n1 a1 c1 na nc ka kc,NAt M B R X Y Z bk m k wv ws w w0 w' act d a c (pos+1) n1 a1 c1 na nc ka kc)∨(∃code at',e=.panicked (qbT code at')/\qaI M ws (m+1) act d a c=.error (code,at')/\Near R w w'):=by
 have s:=h.st.xy
 have t:=h.st.wx
 have u:PSt B R X Y (.stringIter (bs (prt k)) (pos+1)) bk m wv ws w0 (wr.iterAt Y (bs (prt k)) (pos+1)) n1 a1 c1 na nc ka kc:=
  h.st.turn (Lib.iterAt_size _ _ _ _) ⟨rfl,rfl,rfl⟩ (fun b hb=>Lib.iterAt_other wr Y b _ _ hb) (Lib.iterAt_heap wr Y _ _ _ h.st.iter)
 have g:(prt k).drop pos=(prt k)[pos] :: (prt k).drop (pos+1):=List.drop_eq_getElem_cons hp
 have f:=List.getElem_mem hp
 refine (xhR hM hI k h.sort hk (prt k)[pos] (xdE k hk _ f) d hd hdm h.cl h.al (fun e84=>?_) u).mono ?_
 ·have:=xfA k hk _ f e84
  exact h.leaf (by omega) this.1
 ·have i:=h.rest
  rw[g,qcN]at i
  rintro e w' (⟨v,x,y,o,p,q,r,l,rfl,n⟩|⟨code,at',l,rfl,n⟩)
  ·left
   rw[l]at i
   obtain⟨z,A,C⟩:=qvN M ws _ _ _ _ (xeY M ws m d) _ _ _ _ _ l h.cl
   refine⟨rfl,v,x,y,o,p,q,r,n,hp,i,by rw[z];exact h.sort,A,C,fun h0=>absurd h0 (by omega),?_,h.zx,h.near,h.rd⟩
   have j:=h.zx
   rw[n.many.near.block Z j.1 j.2.1,<- h.st.many.near.block Z j.1 j.2.1]
   exact h.zero
  ·right
   rw[l]at i
   exact⟨code,at',rfl,i.symm,h.near.trans n⟩
theorem NAt.out {M B R X Y Z bk m k:Nat} {wv:Value} {ws:List ByteArray} {w w0 wr:World} {act:Bool} {d:Int} {a c pos:Nat} {n1:Nd (T m)} {a1 c1:Nat} {na:Option Addr} {nc:Nat} {ka:Option Addr} {kc:Nat} (h:NAt M B R X Y Z bk m k wv ws w w0 wr act d a c pos n1 a1 c1 na nc ka kc) (hp:¬ pos<(prt k).length) :
  qnE (m+1) R bk wv ws a w (qaI M ws (m+1) act d a c) (.returned (.agg #[.int .i64 n1.sort,.int .i64 n1.num,.string n1.text,.slice na n1.names.length nc,.slice ka n1.kids.length kc])) (put5 wr Z 0 (.int .i64 n1.sort) (.int .i64 n1.num) (.string n1.text) (.slice na n1.names.length nc) (.slice ka n1.kids.length kc)):=by
 have r:=h.rest
 rw[List.drop_of_length_le (by omega),qcN]at r
 have f:=qbS M ws (m+1) act d a c _ r.symm
 dsimp only at f
 obtain⟨s,t,E⟩:=xjW f.1
 have P:=h.zx
 have x:=h.st.wx
 have y:=h.st.xy
 have u:=h.st.few
 have z:=h.st.rdr.few
 have A:=h.al
 obtain⟨a0,c0,F⟩:=h.st.rdr0
 have i:(put5 wr Z 0 (.int .i64 n1.sort) (.int .i64 n1.num) (.string n1.text) (.slice na n1.names.length nc) (.slice ka n1.kids.length kc)).heap.size=wr.heap.size:=qbO
 have e:Below 0 wr (put5 wr Z 0 (.int .i64 n1.sort) (.int .i64 n1.num) (.string n1.text) (.slice na n1.names.length nc) (.slice ka n1.kids.length kc)):=qaX (Below.refl 0 wr) (Nat.zero_le _)
 have q:∀b,b≠Z->(put5 wr Z 0 (.int .i64 n1.sort) (.int .i64 n1.num) (.string n1.text) (.slice na n1.names.length nc) (.slice ka n1.kids.length kc)).heap[b]?=wr.heap[b]?:=fun b e=>qaQ e
 have l:Near R w wr:=h.near.trans h.st.many.near
 have v:Near R w (put5 wr Z 0 (.int .i64 n1.sort) (.int .i64 n1.num) (.string n1.text) (.slice na n1.names.length nc) (.slice ka n1.kids.length kc)):=⟨e.os.trans l.os,e.tape.trans l.tape,e.output.trans l.output,by rw[i];exact l.size,fun b h1 h2=>(q b (by omega)).trans (l.block b h1 h2)⟩
 have C:Near R w0 wr:=h.st.many.near
 obtain⟨xs,n,G⟩:=h.st.many.kids
 have o:=qaF h.st.many.names
 have p:=qaF n
 have D:=h.near.size
 refine⟨v,.inl ⟨n1,a1,c1,_,_,_,_,_,r.symm,rfl,⟨rfl,rfl,rfl,by unfold maxLen;omega,s,t,?_,?_,⟨_,_,_,rfl,?_⟩,⟨_,_,_,rfl,?_⟩⟩,?_,?_,f.2.2.2.2.1⟩⟩
 ·refine qcQ (qaK h.st.many.names fun g f=>q g (by have:=o g f;omega)) (by omega) h.st.many.short fun g f=>?_
  have:=o g f
  exact⟨by omega,by rw[i];exact this.2⟩
 ·refine qtP (qaK n fun g f=>q g (by have:=p g f;omega)) (by omega) (fun g f=>?_) fun j hj=>?_
  ·have:=p g f
   exact⟨by omega,by rw[i];exact this.2⟩
  ·obtain⟨H,I,J,K,L,N,O⟩:=G j hj
   refine⟨H,I,J,K,L,N,O.keep (fun b e=>q b (by have:=e.1;omega)) (fun b e=>⟨by have:=e.1;omega,by rw[i];exact e.2.1⟩)⟩
 ·exact qxI h.st.many.names
 ·exact qxI n
 ·have:=h.st.many.owns (by omega) (by omega)
  exact this.keep (fun b e=>q b (by have:=e.1;omega)) (fun b e=>⟨by have:=e.1;omega,by rw[i];exact e.2⟩)
 ·exact h.rd.keep v ((q R (by omega)).trans h.st.rdr.box)
end Go.Proofs.YtelogmjfekhmpaaGreatDoor
