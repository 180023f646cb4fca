import Derived.Test.YtelogmjfekhmpaaGreatDoorPN4
namespace Go.Proofs.YtelogmjfekhmpaaGreatDoor
set_option maxRecDepth 100000
set_option maxHeartbeats 16000000
open Go.RowKit
theorem xjU {α:Type} {rk:Nat->Nat->Rd3 α} {ws:List ByteArray} {f a c:Nat} {n:Nd α} (h:¬ a<ws.length):qaT rk ws (f+1) n a c=.error (2,a):=by
 rw[qaT,List.getElem?_eq_none (by omega)]
theorem fR_end {α:Type} {rk:Nat->Nat->Rd3 α} {ws:List ByteArray} {f a c:Nat} {n:Nd α} {s:ByteArray} (hs:ws[a]?=some s) (h:(s==bs [101,110,100])=true):qaT rk ws (f+1) n a c=.ok (n,a+1,c):=by
 rw[qaT,hs];dsimp only;rw[if_pos h]
theorem fR_bad {α:Type} {rk:Nat->Nat->Rd3 α} {ws:List ByteArray} {f a c:Nat} {n:Nd α} {s:ByteArray} (hs:ws[a]?=some s) (h:(s==bs [101,110,100])=false) (hb:qcO (n.names++[s]) n.names.length=false):qaT rk ws (f+1) n a c=.error (2,a):=by
 rw[qaT,hs];dsimp only;rw[if_neg (by rw[h];decide),if_neg (by rw[hb];decide)]
theorem fR_err {α:Type} {rk:Nat->Nat->Rd3 α} {ws:List ByteArray} {f a c:Nat} {n:Nd α} {s:ByteArray} {e:Er} (hs:ws[a]?=some s) (h:(s==bs [101,110,100])=false) (hb:qcO (n.names++[s]) n.names.length=true) (hk:rk (a+1) c=.error e):qaT rk ws (f+1) n a c=.error e:=by
 rw[qaT,hs];dsimp only;rw[if_neg (by rw[h];decide),if_pos hb,hk]
theorem fR_ok {α:Type} {rk:Nat->Nat->Rd3 α} {ws:List ByteArray} {f a c:Nat} {n:Nd α} {s:ByteArray} {r:α × Nat × Nat} (hs:ws[a]?=some s) (h:(s==bs [101,110,100])=false) (hb:qcO (n.names++[s]) n.names.length=true) (hk:rk (a+1) c=.ok r):qaT rk ws (f+1) n a c=qaT rk ws f ⟨n.sort,n.num,n.text,n.names++[s],n.kids++[r.1]⟩ r.2.1 r.2.2:=by
 rw[qaT,hs];dsimp only;rw[if_neg (by rw[h];decide),if_pos hb,hk]
def atR (w:World) (R:Nat):Nat:=match w.cell? ⟨R,2,none⟩ with|some (.int _ n)=>n.toNat|_=>0
theorem Rdr.atR {w:World} {R bk:Nat} {wv:Value} {ws:List ByteArray} {a c:Nat} (h:Rdr w R bk wv ws a c):atR w R=a:=by
 unfold Go.Proofs.YtelogmjfekhmpaaGreatDoor.atR;rw[h.cells.1.2.2.1];simp
theorem qvM {M B R X Y bk m:Nat} {it:Obj} {wv:Value} {ws:List ByteArray} {w0 w:World} {n:Nd (T m)} {a c:Nat} {na:Option Addr} {nc:Nat} {ka:Option Addr} {kc:Nat} (hI:qhC M m) (d:Int) (hd:1<=d) (hdm:d+1+(m:Int)=26) (hc:c<=200)
  (h:PSt B R X Y it bk m wv ws w0 w n a c na nc ka kc) (ha:a<=ws.length) :
  Calls Tryz.prog 89 #[.pointer (some ⟨R,0,none⟩),.pointer (some ⟨X,0,none⟩),.int .i64 d] w (qaY B R X Y it bk m wv ws w0 (qaT (qaI M ws m false (d+1)) ws (ws.length+1) n a c)):=by
 have bA:=h.rx
 have cY:IntKind.i64.wrap (d+1)=d+1:=by rw[IntKind.wrap_i64];omega
 have HI:=Lib.hid hI
 have cM:=hidF hdm
 have cN:=h.rdr.few
 obtain⟨is0,aG,bE,bF,bG⟩:=info_parts Tryz.info_strN
 have bL:Hid (_/\_/\_/\_):=⟨aG,bE,bF,bG⟩
 clear aG bE bF bG
 obtain⟨ik0,aG,bE,bF,bG⟩:=info_parts Tryz.info_nodeR
 have aK:Hid (_/\_/\_/\_):=⟨aG,bE,bF,bG⟩
 clear aG bE bF bG
 have H0:Hid (∃ (n1:Nd (T m)) (a1 c1 f1:Nat) (na:Option Addr) (nc:Nat) (ka:Option Addr) (kc:Nat),PSt B R X Y it bk m wv ws w0 w n1 a1 c1 na nc ka kc/\qaT (qaI M ws m false (d+1)) ws f1 n1 a1 c1=qaT (qaI M ws m false (d+1)) ws (ws.length+1) n a c/\ws.length<a1+f1/\a1<=ws.length/\c1<=200):=⟨n,a,c,ws.length+1,na,nc,ka,kc,h,rfl,by omega,ha,hc⟩
 generalize qaT (qaI M ws m false (d+1)) ws (ws.length+1) n a c=res at *
 clear hI hdm h ha hc
 go_enter Tryz.func89,Tryz.ntmps89
 go_wp2_with fail
 go_loopw [6] (fun _ wr=>∃ (n1:Nd (T m)) (a1 c1 f1:Nat) (na:Option Addr) (nc:Nat) (ka:Option Addr) (kc:Nat),PSt B R X Y it bk m wv ws w0 wr n1 a1 c1 na nc ka kc/\qaT (qaI M ws m false (d+1)) ws f1 n1 a1 c1=res/\ws.length<a1+f1/\a1<=ws.length/\c1<=200) (fun _ wr=>ws.length - atR wr R)
 case atStart=>exact H0.out
 case round=>
  obtain⟨n1,a1,c1,f1,na,nc,ka,kc,hP,bH,hf,bP,cG⟩:=hrel
  obtain⟨f,rfl⟩:∃ f,f1=f+1:=⟨f1 - 1,by omega⟩
  have aM:=Lib.hid hP
  have aC:=Lib.hid bH
  have bM:=hidF hf
  have bN:=hidF cG
  have bY:=hP.rdr.lt
  clear H0 bH hf cG
  by_cases ha:a1<ws.length
  case neg=>
   have HW:=Lib.hid (qjG hP.rdr ha)
   have HQ:Hid (∀ k,qaY B R X Y it bk m wv ws w0 res (.panicked (qbV 2 a1)) (wr.drewN k)):=fun k=>.inr ⟨2,a1,by rw[<- aC.out];exact xjU ha,rfl,hP.many.near.trans (qaK (Near.refl R wr) k)⟩
   clear hP aM aC bM bN ha bP
   go_wp2_with fail
   refine HW.out.mono ?_
   rintro e w1 ⟨rfl,k,rfl⟩
   exact⟨rfl,HQ.out k⟩
  obtain⟨s,aQ⟩:∃ s,ws[a1]=s:=⟨_,rfl⟩
  have cZ:s.size<=3000:=by rw[<- aQ];exact hP.rdr.short _ (List.getElem_mem ha)
  have bS:Hid (∃ h:a1<ws.length,ws[a1]=s):=⟨ha,aQ⟩
  have aV:Hid (ws[a1]?=some s):=by show _=_;rw[List.getElem?_eq_getElem ha,aQ]
  have HW:Hid (∀ k,Calls Tryz.prog 66 #[.pointer (some ⟨R,0,none⟩)] (wr.drewN k) fun e w'=>e=.returned (.string s)/\∃ n,w'=(wr.drewN k).drewN n):=fun k=>by
   have:=qgF (hP.rdr.drewN k) ha
   rw[aQ]at this
   exact this
  have e1:=qiT s [101,110,100]
  have aN:Hid ((s==bs [101,110,100])=(s==bs [101,110,100])):=rfl
  cases hb1:(s==bs [101,110,100]) with
  | true=>
   rw[hb1]at e1
   have HQ:Hid (∀ W,Near R wr W->Rdr W R bk wv ws (a1+1) c1->qaY B R X Y it bk m wv ws w0 res (.returned (.tuple #[])) W):=fun W hn hr=>.inl ⟨n1,a1+1,c1,na,nc,ka,kc,by rw[<- aC.out];exact fR_end aV.out hb1,rfl,aM.out.on hn hr (by omega)⟩
   have bZ:Hid (∀ k,Calls Tryz.prog 68 #[.pointer (some ⟨R,0,none⟩)] (wr.drewN k) fun e w'=>(∃ x,e=.returned (.string x))/\Near R wr w' /\ Rdr w' R bk wv ws (a1+1) c1):=fun k=>by
    refine (qfL (hP.rdr.drewN k) ha).mono ?_
    rintro e w' ⟨rfl,hn,hr⟩
    exact⟨⟨_,rfl⟩,(qaK (Near.refl R wr) k).trans hn,hr⟩
   clear hP aM aC bM bN ha bP aQ bS aV hb1 aN
   go_wp2_with fail
   refine (HW.out 0).mono ?_
   rintro e w1 ⟨rfl,k,rfl⟩
   go_wp2_with fail
   refine (bZ.out (k)).mono ?_
   rintro e w2 ⟨⟨x,rfl⟩,aR,cH⟩
   have HF:=Lib.hid (HQ.out w2 aR cH)
   clear aR cH HQ bZ HW
   go_wp2_with fail
   exact bodyPost_end (results_none rfl _ _ _) rfl HF.out
  | false=>
   rw[hb1]at e1
   have bT:=hidF hb1
   have aW:Hid (∀ k,Calls Tryz.prog 115 #[.string s,.slice na n1.names.length nc] (wr.drewN k) fun e w'=>e=.returned (.bool (qcO (n1.names++[s]) n1.names.length))/\w'=wr.drewN k):=fun k=>by
    have hl:n1.names.length<(n1.names++[s]).length:=by simp
    have e:(n1.names++[s])[n1.names.length]'hl=s:=by simp
    have cO:StrsIn (fun b=>b<wr.heap.size) (wr.drewN k) ((n1.names++[s]).take n1.names.length) (.slice na n1.names.length nc):=by
     rw[List.take_left]
     exact hP.names (by omega)
    have:=qmE (fun b=>b<wr.heap.size) (n1.names++[s]) n1.names.length hl _ (wr.drewN k) cO (by rw[e];unfold maxLen;omega)
    rw[e]at this
    exact this
   obtain⟨nl,bI⟩:∃ nl,n1.names.length=nl:=⟨_,rfl⟩
   obtain⟨⟨x0,x1,x2,x3,x4⟩,xf⟩:=qaC hP.many.box
   rw[bI]at aW x3
   cases hfb:qcO (n1.names++[s]) nl with
   | false=>
    rw[hfb]at aW
    have HD:Hid (∀ k,Calls Tryz.prog 52 _ (wr.drewN k) _):=fun k=>qcG (hP.rdr.drewN k) 2
    have HQ:Hid (∀ k,qaY B R X Y it bk m wv ws w0 res (.panicked (qbV 2 a1)) (wr.drewN k)):=fun k=>.inr ⟨2,a1,by rw[<- aC.out];exact fR_bad aV.out hb1 (by rw[bI];exact hfb),rfl,hP.many.near.trans (qaK (Near.refl R wr) k)⟩
    clear hP aM aC bM bN ha bP aQ bS aV hb1 aN bT hfb bI x0 x1 x2 x4 xf
    go_wp2_with fail
    refine (HW.out 0).mono ?_
    rintro e w1 ⟨rfl,k,rfl⟩
    go_wp2_with fail
    refine wp_region_held_drew (S:=(fun w'=>w'.cell? ⟨X,3,none⟩=some (.slice na nl nc))) (by kernel_rfl) (by exact x3) (fun hHeld=>?_)
    refine wpAnyH_take (i:=0) (v:=?_) rfl (by kernel_rfl) (by kernel_rfl) (by kernel_rfl) (fun _ _ _ h=>h) (Or.inl ⟨by kernel_rfl,?_⟩) (by assumption) ?_
    rotate_left 1
    ·(intro wq hSw;(try dsimp only at hSw);go_simp;first|done|with_reducible rfl)
    refine wpAnyH_take (i:=1) (v:=?_) rfl (by kernel_rfl) (by kernel_rfl) (by kernel_rfl) (fun _ _ _ h=>h) (Or.inl ⟨by kernel_rfl,?_⟩) (by assumption) ?_
    rotate_left 1
    ·(intro wq hSw;(try dsimp only at hSw);go_simp;first|done|with_reducible rfl)
    refine wpAnyH_take (i:=3) (v:=?_) rfl (by kernel_rfl) (by kernel_rfl) (by kernel_rfl) (fun _ _ _ h=>h) (Or.inl ⟨by kernel_rfl,?_⟩) (by assumption) ?_
    rotate_left 1
    ·(intro wq hSw;(try dsimp only at hSw);go_simp;first|done|with_reducible rfl)
    refine wpAnyH_take (i:=4) (v:=?_) rfl (by kernel_rfl) (by kernel_rfl) (by kernel_rfl) (fun _ _ _ h=>h) (Or.inl ⟨by kernel_rfl,?_⟩) (by assumption) ?_
    rotate_left 1
    ·(intro wq hSw;(try dsimp only at hSw);go_simp;first|done|with_reducible rfl)
    refine wpAnyH_take (i:=5) (v:=?_) rfl (by kernel_rfl) (by kernel_rfl) (by kernel_rfl) (fun _ _ _ h=>h) (Or.inl ⟨by kernel_rfl,?_⟩) (by assumption) ?_
    rotate_left 1
    ·(intro wq hSw;(try dsimp only at hSw);go_simp;first|done|with_reducible rfl)
    refine wpAnyH_take (i:=6) (v:=?_) rfl (by kernel_rfl) (by kernel_rfl) (by kernel_rfl) (fun _ _ _ h=>h) (Or.inl ⟨by kernel_rfl,?_⟩) (by assumption) ?_
    rotate_left 1
    ·(intro wq hSw;(try dsimp only at hSw);go_simp;first|done|with_reducible rfl)
    refine wpAnyH_ready (rs:=[2]) (by kernel_rfl) (by simp) ?_
    refine AllReadyH.cons rfl (fun K hK=>?_) AllReadyH.nil
    go_simp
    go_at_call 66
    refine (HW.out (k+1)).mono ?_
    rintro e w1 ⟨rfl,k1,rfl⟩
    refine hK.out _ _ (hHeld) (fun hHeld=>?_)
    clear hK K
    refine wpAnyH_ready (rs:=[7]) (by kernel_rfl) (by simp) ?_
    refine AllReadyH.cons rfl (fun K hK=>?_) AllReadyH.nil
    go_simp
    go_at_call 115
    refine (aW.out (k+1+k1)).mono ?_
    rintro e w2 ⟨rfl,rfl⟩
    refine hK.out _ _ (hHeld) (fun hHeld=>?_)
    clear hK K
    refine wpAnyH_ready (rs:=[8]) (by kernel_rfl) (by simp) ?_
    refine AllReadyH.cons rfl (fun K hK=>?_) AllReadyH.nil
    go_simp
    go_at_call 52
    refine (HD.out (k+1+k1)).mono ?_
    rintro e w3 ⟨rfl,rfl⟩
    exact⟨rfl,HQ.out (k+1+k1)⟩
   | true=>
    rw[hfb]at aW
    have cP:nl<=3000:=by have:=hP.few;omega
    have aJ:=hidF bI
    have cA:=hidF hfb
    clear hP ha bP aQ hb1 aN hfb bI x0 x1 x2 x4 xf
    go_wp2_with fail
    refine (HW.out 0).mono ?_
    rintro e w1 ⟨rfl,k,rfl⟩
    go_wp2_with fail
    have bU:Hid (∀ j,Calls Tryz.prog 66 #[.pointer (some ⟨R,0,none⟩)] ((wr.drewN (k)).drewN j) fun e w'=>e=.returned (.string s)/\∃ n,w'=((wr.drewN (k)).drewN j).drewN n):=fun j=>by have:=HW.out (k+j);rw[<- World.drewN_drewN]at this;exact this
    have aO:Hid (∀ j,Calls Tryz.prog 115 #[.string s,.slice na nl nc] ((wr.drewN (k)).drewN j) fun e w'=>e=.returned (.bool true)/\w'=(wr.drewN (k)).drewN j):=fun j=>by have:=aW.out (k+j);rw[<- World.drewN_drewN]at this;exact this
    obtain⟨U,hU⟩:∃ U,U=wr.drewN (k):=⟨_,rfl⟩
    have HU:Hid (PSt B R X Y it bk m wv ws w0 U n1 a1 c1 na nc ka kc):=by rw[hU];exact aM.out.on (qaK (Near.refl R wr) (k)) (aM.out.rdr.drewN (k)) (Nat.le_refl _)
    have cQ:U.heap.size=wr.heap.size:=by rw[hU];rfl
    have x3U:U.cell? ⟨X,3,none⟩=some (.slice na nl nc):=by rw[hU];exact x3
    rw[<- hU]at bU aO
    show Code.wp _ _ _ _ (wr.drewN (k))
    rw[<- hU]
    clear hU HW aW x3
    go_quiet (first|(go_at_call 66;refine Calls.quiet_of (bU.out _))|(go_at_call 115;refine Calls.quiet_of_same (aO.out _))|(go_at_call 52;refine Calls.quiet_of_same (qbM _ _ _)))
    go_upto_region 2 with fail
    obtain⟨V,hV⟩:∃ V,V=U.drewN nq:=⟨_,rfl⟩
    have HV:Hid (PSt B R X Y it bk m wv ws w0 V n1 a1 c1 na nc ka kc):=by rw[hV];exact HU.out.on (qaK (Near.refl R U) nq) (HU.out.rdr.drewN nq) (Nat.le_refl _)
    have aX:X<V.heap.size:=HV.out.many.lt
    have aP:=HV.out.many.xy
    have HK:Hid (Calls Tryz.prog 68 #[.pointer (some ⟨R,0,none⟩)] V.drew fun e w'=>e=.returned (.string s)/\Near R V.drew w' /\ Rdr w' R bk wv ws (a1+1) c1):=by
     obtain⟨hq,cW⟩:=bS.out
     have:=qfL (HV.out.rdr.drewN 1) hq
     rw[cW]at this
     exact this
    have HO:Hid (V.ownsRow (Y+1) 9 1 (.slice na nl nc) nl (n1.names.map .string)):=by
     have:=HV.out.many.names
     rw[aJ.out]at this
     exact this
    have aL:Hid (V.heap[X]?=some (.cells #[.int .i64 n1.sort,.int .i64 n1.num,.string n1.text,.slice na nl nc,.slice ka n1.kids.length kc] 25 (0,0))):=by
     have:=HV.out.many.box
     rw[aJ.out]at this
     exact this
    have x3V:V.cell? ⟨X,3,none⟩=some (.slice na nl nc):=(qaC aL.out).1.2.2.2.1
    rw[<- hV]
    clear hV bU aO HU cQ x3U
    go_cut [0] from 6 to 42 (fun rv wx=>rv=.pointer (some ⟨R,0,none⟩)/\∃ (g2 cap2:Nat),PSt B R X Y it bk m wv ws w0 wx ⟨n1.sort,n1.num,n1.text,n1.names++[s],n1.kids⟩ (a1+1) c1 (some ⟨g2,0,none⟩) cap2 ka kc)
    case first=>
     go_region_law (first
      | (refine step_append_lies _ (by rfl) (.tmp 22) (.tmp 25) 22 (by rfl) (Y+1) 9 is0 _ 1 16 Tryz.underlying22 bL.out.1 bL.out.2.1 bL.out.2.2.1 bL.out.2.2.2 rfl (by decide) (.slice na nl nc) nl (n1.names.map .string) (by rfl) (bB _) ⟨v2.heap.size,0,none⟩ 1 1 [.string s] (by rfl) rfl (World.news_of_block (heap_alloc_new v2 _)) (by simp[Value.oneCell']) (by decide) (by unfold maxLen;omega) (by omega) (by simp;omega) (v2.heap.size+1) (by simp) ?_;intro g2 cap2 v3 aB aA aD aH;have aF:=(qkG (W:=V.drew) HO.out aX (by omega) aP.1 aS aA).trans aL.out;have x3'':v3.cell? ⟨X,3,none⟩=some (.slice na nl nc):=(by simp[World.cell?,aF]);have xg'':v3.frozen? ⟨X,3,none⟩=false:=(by simp[World.frozen?,aF]))
      | (go_simp;go_at_call 68;refine HK.out.mono ?_;rintro e v2 ⟨rfl,aS,aT⟩;have bV:V.heap.size<=v2.heap.size:=aS.size;have bB:=fun o=>qiA (R:=R) (X:=Y) (W:=V.drew) HO.out (by omega) aS o;have x3':v2.cell? ⟨X,3,none⟩=some (.slice na nl nc):=(World.cell?_of_block (aS.block X (by simpa using aX) (by omega))).trans x3V;have x3a:(v2.alloc (.cells #[.string s] 9)).cell? ⟨X,3,none⟩=some (.slice na nl nc):=(World.cell?_of_block (Below.heap_alloc _ _ _ (by show X<_;omega))).trans x3'))
     all_goals
      have bO:Near R V v2:=(qaK (Near.refl R V) 1).trans aS
      have hF:=ManyNP.name (W:=v2) (Wa:=v2.alloc (.cells #[.string s] 9)) (one:=.cells #[.string s] 9) (x:=s) (g:=g2) (cap:=cap2) (HV.out.many.keep bA bO) HV.out.wx rfl ⟨rfl,rfl,rfl⟩ (by omega) (by rw[aJ.out];exact aB) (by rw[aJ.out];exact aA) (by rw[aJ.out];exact aD)
      rw[aJ.out]at hF
      have HF:=Lib.hid (HV.out.more aJ.out hF (qoT (W:=V.drew) HO.out bA aP.1 aT.lt aA _ 3 aT.box) (qoU (W:=V.drew) HO.out aP.2 bA HV.out.xy aS aA _ 3 HV.out.iter))
      clear hF aB aA aD aH aT aS bB x3' x3a x3'' xg'' aF bO x3V HV HK HO aL
      go_wp2_with fail
      go_meet
      exact⟨rfl,g2,cap2,HF.out⟩
    case rest=>
     obtain⟨rfl,g1,cap1,aE⟩:=hcut
     clear HK HO aL x3V HV aX aP
     obtain⟨V,cI⟩:∃ V,V=wc:=⟨_,rfl⟩
     rw[<- cI]at aE ⊢
     clear cI
     obtain⟨n2,aR⟩:∃ n2:Nd (T m),n2=⟨n1.sort,n1.num,n1.text,n1.names++[s],n1.kids⟩:=⟨_,rfl⟩
     rw[<- aR]at aE
     have cB:=Lib.hid aR
     have HV:=Lib.hid aE
     have aX:=aE.many.lt
     have aP:=aE.many.xy
     have bY:=aE.rdr.lt
     have bC:=qtO HI.out false (d+1) aE.laidW aE.br aE.rdr (by omega) cM.out bN.out
     simp only[actI]at bC
     cases hr:qaI M ws m false (d+1) (a1+1) c1 with
     | error er=>
      have HK:Hid (∀ W,(W=V.drew∨W=V.drew.alloc zeroN)->Calls Tryz.prog 51 #[.pointer (some ⟨R,0,none⟩),.int .i32 86,.int .i64 (d+1)] W fun e w'=>e=.panicked (qbV er.1 er.2)/\Near R V w'):=fun W hW=>by
       refine (bC W hW).mono ?_
       rintro e w' ⟨bJ,aI,⟨t,a',c',c0,c1,c2,c3,c4,h1,-⟩|⟨code,at',h1,rfl⟩⟩
       ·rw[hr]at h1;cases h1
       ·rw[hr]at h1;cases h1;exact⟨rfl,aI⟩
      have HQ:Hid (∀ W,Near R V W->qaY B R X Y it bk m wv ws w0 res (.panicked (qbV er.1 er.2)) W):=fun W hW=>.inr ⟨er.1,er.2,by rw[<- aC.out];exact fR_err aV.out bT.out (by rw[aJ.out];exact cA.out) hr,rfl,aE.many.near.trans hW⟩
      obtain⟨⟨x0,x1,x2,x3,x4⟩,-⟩:=qaC aE.many.box
      obtain⟨j,hj⟩:∃ j,n2.kids.length=j:=⟨_,rfl⟩
      rw[hj]at x4
      clear bC hr aE HV hj aR cB x0 x1 x2 x3
      go_wp2_with fail
      go_region_dies
      all_goals (go_at_call 51;refine (HK.out _ (by first|exact .inl rfl|exact .inr rfl)).mono ?_;rintro e w' ⟨rfl,bO⟩;exact⟨rfl,HQ.out _ bO⟩)
     | ok q=>
      have cR:=qbU M ws m false (d+1) (a1+1) c1 q hr
      have HK:Hid (∀ W,(W=V.drew∨W=V.drew.alloc zeroN)->Calls Tryz.prog 51 #[.pointer (some ⟨R,0,none⟩),.int .i32 86,.int .i64 (d+1)] W fun e w'=>∃ (t:T m) (a' c':Nat) (c0 c1' c2 c3 c4:Value),e=.returned (.agg #[c0,c1',c2,c3,c4])/\qaI M ws m false (d+1) (a1+1) c1=.ok (t,a',c')/\NodeIn (fun b=>V.heap.size<=b/\b<w'.heap.size) w' m t c0 c1' c2 c3 c4/\OwnN (fun b=>V.heap.size<=b/\b<w'.heap.size) w' m t c3 c4/\Rdr w' R bk wv ws a' c' /\ a1+1<a' /\ Near R W w' /\ Near R V w'):=fun W hW=>by
       refine (bC W hW).mono ?_
       rintro e w' ⟨bJ,aI,⟨t,a',c',c0,c1',c2,c3,c4,h1,h2,h3,h4,h5,h6⟩|⟨code,at',h1,-⟩⟩
       ·exact⟨t,a',c',c0,c1',c2,c3,c4,h2,h1,h3,h4,h5,h6,bJ,aI⟩
       ·rw[hr]at h1;cases h1
      have HQ:Hid (∀ (t:T m) (a' c':Nat) (W:World) (g cap:Nat),qaI M ws m false (d+1) (a1+1) c1=.ok (t,a',c')->PSt B R X Y it bk m wv ws w0 W ⟨n2.sort,n2.num,n2.text,n2.names,n2.kids++[t]⟩ a' c' (some ⟨g1,0,none⟩) cap1 (some ⟨g,0,none⟩) cap ->
        ((∃ (n1:Nd (T m)) (a1 c1 f1:Nat) (na:Option Addr) (nc:Nat) (ka:Option Addr) (kc:Nat),PSt B R X Y it bk m wv ws w0 W n1 a1 c1 na nc ka kc/\qaT (qaI M ws m false (d+1)) ws f1 n1 a1 c1=res/\ws.length<a1+f1/\a1<=ws.length/\c1<=200)/\atR W R=a' /\ a1<a' /\ a'<=ws.length)):=fun t a' c' W g cap h1 h2=>by
       have hg:=qbU M ws m false (d+1) (a1+1) c1 _ h1
       dsimp only at hg
       have dA:=bM.out
       refine⟨⟨_,a',c',f,_,_,_,_,h2,?_,by omega,by omega,by omega⟩,h2.rdr.atR,by omega,by omega⟩
       rw[<- aC.out,fR_ok aV.out bT.out (by rw[aJ.out];exact cA.out) h1,cB.out]
      obtain⟨j,hj⟩:∃ j,n2.kids.length=j:=⟨_,rfl⟩
      have cC:=Lib.hid hj
      have dB:j<=3000:=by have:=aE.few;omega
      obtain⟨xs,Ps,bQ,cJ,cK,cL⟩:=aE.many.own
      have aY:Hid (_/\_/\_):=⟨cJ,cK,cL⟩
      have cD:Hid (xs.length=j*5):=by have h1:=bQ.1;rw[hj]at h1;exact h1
      obtain⟨ka2,kc2,cX⟩:∃ ka2 kc2,(ka2=ka/\kc2=kc):=⟨_,_,rfl,rfl⟩
      have HX:Hid (V.ownsRow (Y+1) 25 5 (.slice ka j kc) j xs):=by
       rw[hj]at bQ;exact bQ
      have aL:Hid (V.heap[X]?=some (.cells #[.int .i64 n2.sort,.int .i64 n2.num,.string n2.text,.slice (some ⟨g1,0,none⟩) n2.names.length cap1,.slice ka j kc] 25 (0,0))):=by
       have:=aE.many.box
       rw[hj]at this
       exact this
      have x4V:V.cell? ⟨X,4,none⟩=some (.slice ka j kc):=(qaC aL.out).1.2.2.2.2
      have dC:(j:Int)<(j:Int)+1:=by omega
      have cE:=hidF aM.out.rdr.atR
      clear bC hr aE hj aR bQ cJ cK cL cR cX
      go_wp2_with fail
      go_region_law (first
       | (go_simp;go_at_call 51;refine (HK.out _ (by first|with_reducible exact .inl rfl|with_reducible exact .inr rfl)).mono ?_;rintro e v2 ⟨t5,a5,c5,f0,f1,f2,f3,f4,rfl,bK,bR,bX,aT,aU,bJ,aI⟩;obtain⟨t0,t1,t2,ta,tl,tc,ua,ul,uc,rfl,rfl,rfl,rfl,rfl⟩:=bR.shape;have bV:V.heap.size<=v2.heap.size:=aI.size;have bD:Near R V (v2.alloc zeroN):=aI.trans (Near.alloc R _ _);have x4a:v2.cell? ⟨X,4,none⟩=some (.slice ka j kc):=(World.cell?_of_block (aI.block X aX (by omega))).trans x4V;have x4b:(v2.alloc zeroN).cell? ⟨X,4,none⟩=some (.slice ka j kc):=(World.cell?_of_block (bD.block X aX (by omega))).trans x4V;try (have cS:=qoS bJ bY))
       | (refine step_append_lies _ (by rfl) (.tmp 32) (.tmp 38) 23 (by rfl) (Y+1) 25 ik0 _ 5 80 Tryz.underlying23 aK.out.1 aK.out.2.1 aK.out.2.2.1 aK.out.2.2.2 rfl (by decide) (.slice ka j kc) j xs (by rfl) (qhO HX.out (by omega) bD) ⟨v2.heap.size,0,none⟩ 1 1 [.int .i64 0,.int .i64 0,.string ⟨#[]⟩,.slice none 0 0,.slice none 0 0] (by rfl) rfl (World.news_of_block (heap_alloc_new v2 _)) (by simp[Value.oneCell']) (by decide) (by unfold maxLen;omega) (by omega) (by simp;omega) (v2.alloc zeroN).heap.size rfl ?_;intro g2 cap2 v3 aB aA aD aH;have bW:=qaF aB g2 rfl;have cT:g2≠X:=(by omega);have cU:X≠g2:=(by omega);have aF:=qgK aL.out HX.out bA aP.1 bD aA;have x4'':v3.cell? ⟨X,4,none⟩=some (.slice ka j kc):=(by simp[World.cell?,aF]);have xg'':v3.frozen? ⟨X,4,none⟩=false:=(by simp[World.frozen?,aF]);obtain⟨⟨r0,r1,r2,r3,r4⟩,rf⟩:=qgJ aB cD.out;have rf0:=rf (j*5);have rf1:=rf (j*5+1);have rf2:=rf (j*5+2);have rf3:=rf (j*5+3);have rf4:=rf (j*5+4);have HF:=Lib.hid (qlM HV.out cC.out bD (xeS bR _) (xeT bX _) HX.out aY.out.1 aY.out.2.1 aY.out.2.2 aB aA aD (aT.same ((Below.refl _ _).alloc (Nat.le_refl _) _)) aU);clear rf aB aA aD aF aH)
       | (refine step_append_lies _ (by rfl) (.tmp 32) (.tmp 38) 23 (by rfl) (Y+1) 25 ik0 _ 5 80 Tryz.underlying23 aK.out.1 aK.out.2.1 aK.out.2.2.1 aK.out.2.2.2 rfl (by decide) (.slice ka j kc) j xs (by rfl) (qhO HX.out (by omega) aI) ⟨V.heap.size,0,none⟩ 1 1 [.int .i64 0,.int .i64 0,.string ⟨#[]⟩,.slice none 0 0,.slice none 0 0] (by rfl) rfl (World.news_of_block cS) (by simp[Value.oneCell']) (by decide) (by unfold maxLen;omega) (by omega) (by omega) v2.heap.size rfl ?_;intro g2 cap2 v3 aB aA aD aH;have bW:=qaF aB g2 rfl;have cT:g2≠X:=(by omega);have cU:X≠g2:=(by omega);have aF:=qgK aL.out HX.out bA aP.1 aI aA;have x4'':v3.cell? ⟨X,4,none⟩=some (.slice ka j kc):=(by simp[World.cell?,aF]);have xg'':v3.frozen? ⟨X,4,none⟩=false:=(by simp[World.frozen?,aF]);obtain⟨⟨r0,r1,r2,r3,r4⟩,rf⟩:=qgJ aB cD.out;have rf0:=rf (j*5);have rf1:=rf (j*5+1);have rf2:=rf (j*5+2);have rf3:=rf (j*5+3);have rf4:=rf (j*5+4);have HF:=Lib.hid (qlM HV.out cC.out aI bR bX HX.out aY.out.1 aY.out.2.1 aY.out.2.2 aB aA aD aT aU);clear rf aB aA aD aF aH))
      all_goals
       have cV:=Lib.hid bK
       have cF:=fun W hW=>HQ.out t5 a5 c5 W g2 cap2 cV.out hW
       clear bK aU bR bX aT bJ aI bD x4a x4b x4'' xg'' r0 r1 r2 r3 r4 rf0 rf1 rf2 rf3 rf4 x4V
       have aZ:=Lib.hid cF
       clear cF
       go_wp2_with fail
       go_roundw
       case rel=>
        first
         | with_reducible exact (aZ.out _ HF.out.1).1
         | with_reducible exact (aZ.out _ HF.out.2).1
       case measure=>
        first
         | (rw[(aZ.out _ HF.out.1).2.1,cE.out];have h1:=(aZ.out _ HF.out.1).2;omega)
         | (rw[(aZ.out _ HF.out.2).2.1,cE.out];have h1:=(aZ.out _ HF.out.2).2;omega)
end Go.Proofs.YtelogmjfekhmpaaGreatDoor
