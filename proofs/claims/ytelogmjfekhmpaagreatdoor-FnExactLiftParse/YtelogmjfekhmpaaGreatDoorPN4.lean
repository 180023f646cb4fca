import Derived.Test.YtelogmjfekhmpaaGreatDoorPN3
namespace Go.Proofs.YtelogmjfekhmpaaGreatDoor
set_option maxRecDepth 100000
set_option maxHeartbeats 16000000
open Go.RowKit
theorem xeU {M m:Nat} {ws:List ByteArray} {rk:Bool->Nat->Nat->Rd3 (T m)} {p:UInt8} {act:Bool} (hp:p=(if act=true then 65 else 86)) (n:Nd (T m)) (a c:Nat) :
  stepR M rk ws p n a c=match rk act a c with|.error e=>.error e|.ok r=>.ok (⟨n.sort,n.num,n.text,n.names,n.kids++[r.1]⟩,r.2.1,r.2.2):=by
 subst hp
 cases act
 ·show stepR M rk ws 86 n a c=_
  unfold stepR
  rw[if_pos (Or.inl rfl),show ((86:UInt8)==65)=false by decide]
  cases rk false a c <;> rfl
 ·show stepR M rk ws 65 n a c=_
  unfold stepR
  rw[if_pos (Or.inr rfl),show ((65:UInt8)==65)=true by decide]
  cases rk true a c <;> rfl
theorem qxH {M B R X Y bk m:Nat} {it:Obj} {wv:Value} {ws:List ByteArray} {w0 V:World} {n:Nd (T m)} {a c:Nat} {na:Option Addr} {nc:Nat} {ka:Option Addr} {kc:Nat} (hI:qhC M m) (p:UInt8) (act:Bool) (hp:p=(if act=true then 65 else 86)) (d:Int) (hd:1<=d) (hdm:d+1+(m:Int)=26) (hc:c<=200)
  (h:PSt B R X Y it bk m wv ws w0 V n a c na nc ka kc) :
  Calls Tryz.prog 69 #[.pointer (some ⟨R,0,none⟩),.pointer (some ⟨X,0,none⟩),.int .i32 (actI act),.int .i64 d] V (qaY B R X Y it bk m wv ws w0 (stepR M (fun b=>qaI M ws m b (d+1)) ws p n a c)):=by
 have hS:=xeU (M:=M) (ws:=ws) (rk:=fun b=>qaI M ws m b (d+1)) hp n a c
 have aU:=h.many.lt
 have aV:=h.many.xy
 have aW:=h.rx
 have bG:=h.rdr.lt
 have bP:IntKind.i64.wrap (d+1)=d+1:=by rw[IntKind.wrap_i64];omega
 have HV:=Lib.hid h
 have aN:=qtO hI act (d+1) h.laidW h.br h.rdr (by omega) hdm hc
 cases hr:qaI M ws m act (d+1) a c with
 | error er=>
  have HK:Hid (∀ W,(W=V.drew∨W=V.drew.alloc zeroN)->Calls Tryz.prog 51 #[.pointer (some ⟨R,0,none⟩),.int .i32 (actI act),.int .i64 (d+1)] W fun e w'=>e=.panicked (qbV er.1 er.2)/\Near R V w'):=fun W hW=>by
   refine (aN W hW).mono ?_
   rintro e w' ⟨aK,aC,⟨t,a',c',c0,c1,c2,c3,c4,h1,-⟩|⟨code,at',h1,rfl⟩⟩
   ·rw[hr]at h1;cases h1
   ·rw[hr]at h1;cases h1;exact⟨rfl,aC⟩
  have HP:Hid (∀ W,Near R V W->qaY B R X Y it bk m wv ws w0 (stepR M (fun b=>qaI M ws m b (d+1)) ws p n a c) (.panicked (qbV er.1 er.2)) W):=fun W hW=>.inr ⟨er.1,er.2,by rw[hS,hr],rfl,h.many.near.trans hW⟩
  obtain⟨⟨x0,x1,x2,x3,x4⟩,-⟩:=qaC h.many.box
  obtain⟨j,hj⟩:∃ j,n.kids.length=j:=⟨_,rfl⟩
  rw[hj]at x4
  clear aN hr hS h HV hI hp hj
  cases act
  all_goals
   simp only[actI]at HK ⊢
   go_enter Tryz.func69,Tryz.ntmps69
   go_wp2_with fail
   go_region_dies
   all_goals (go_at_call 51;refine (HK.out _ (by first|exact .inl rfl|exact .inr rfl)).mono ?_;rintro e w' ⟨rfl,bO⟩;exact⟨rfl,HP.out _ bO⟩)
 | ok q=>
  have bH:=qbU M ws m act (d+1) a c q hr
  have bI:=h.rdr.few
  have HK:Hid (∀ W,(W=V.drew∨W=V.drew.alloc zeroN)->Calls Tryz.prog 51 #[.pointer (some ⟨R,0,none⟩),.int .i32 (actI act),.int .i64 (d+1)] W fun e w'=>∃ (t:T m) (a' c':Nat) (c0 c1 c2 c3 c4:Value),e=.returned (.agg #[c0,c1,c2,c3,c4])/\qaI M ws m act (d+1) a c=.ok (t,a',c')/\NodeIn (fun b=>V.heap.size<=b/\b<w'.heap.size) w' m t c0 c1 c2 c3 c4/\OwnN (fun b=>V.heap.size<=b/\b<w'.heap.size) w' m t c3 c4/\Rdr w' R bk wv ws a' c' /\ a<a' /\ Near R W w' /\ Near R V w'):=fun W hW=>by
   refine (aN W hW).mono ?_
   rintro e w' ⟨aK,aC,⟨t,a',c',c0,c1,c2,c3,c4,h1,h2,h3,h4,h5,h6⟩|⟨code,at',h1,-⟩⟩
   ·exact⟨t,a',c',c0,c1,c2,c3,c4,h2,h1,h3,h4,h5,h6,aK,aC⟩
   ·rw[hr]at h1;cases h1
  have HP:Hid (∀ (t:T m) (a' c':Nat) (W:World) (g cap:Nat),qaI M ws m act (d+1) a c=.ok (t,a',c')->PSt B R X Y it bk m wv ws w0 W ⟨n.sort,n.num,n.text,n.names,n.kids++[t]⟩ a' c' na nc (some ⟨g,0,none⟩) cap->qaY B R X Y it bk m wv ws w0 (stepR M (fun b=>qaI M ws m b (d+1)) ws p n a c) (.returned (.tuple #[])) W):=fun t a' c' W g cap h1 h2=>.inl ⟨_,_,_,_,_,_,_,by rw[hS,h1],rfl,h2⟩
  obtain⟨j,hj⟩:∃ j,n.kids.length=j:=⟨_,rfl⟩
  have aX:=Lib.hid hj
  have bQ:j<=3000:=by have:=h.few;omega
  obtain⟨xs,Ps,aO,bA,bB,bC⟩:=h.many.own
  have aI:Hid (_/\_/\_):=⟨bA,bB,bC⟩
  have aY:Hid (xs.length=j*5):=by have h1:=aO.1;rw[hj]at h1;exact h1
  have HX:Hid (V.ownsRow (Y+1) 25 5 (.slice ka j kc) j xs):=by
   rw[hj]at aO;exact aO
  have aQ:Hid (V.heap[X]?=some (.cells #[.int .i64 n.sort,.int .i64 n.num,.string n.text,.slice na n.names.length nc,.slice ka j kc] 25 (0,0))):=by
   have:=h.many.box
   rw[hj]at this
   exact this
  have x4V:V.cell? ⟨X,4,none⟩=some (.slice ka j kc):=(qaC aQ.out).1.2.2.2.2
  obtain⟨ik0,aL,bD,bE,bF⟩:=info_parts Tryz.info_nodeR
  have aE:Hid (_/\_/\_/\_):=⟨aL,bD,bE,bF⟩
  have bR:(j:Int)<(j:Int)+1:=by omega
  clear aN hr hS h hI hp hj aL bD bE bF aO bA bB bC bH
  cases act
  all_goals
   simp only[actI]at HK ⊢
   go_enter Tryz.func69,Tryz.ntmps69
   go_wp2_with fail
   go_region_law (first
    | (go_simp;go_at_call 51;refine (HK.out _ (by first|with_reducible exact .inl rfl|with_reducible exact .inr rfl)).mono ?_;rintro e v2 ⟨t5,a5,c5,f0,f1,f2,f3,f4,rfl,aM,aP,aS,aT,aG,aK,aC⟩;obtain⟨t0,t1,t2,ta,tl,tc,ua,ul,uc,rfl,rfl,rfl,rfl,rfl⟩:=aP.shape;have bJ:V.heap.size<=v2.heap.size:=aC.size;have aJ:Near R V (v2.alloc zeroN):=aC.trans (Near.alloc R _ _);have x4a:v2.cell? ⟨X,4,none⟩=some (.slice ka j kc):=(World.cell?_of_block (aC.block X aU (by omega))).trans x4V;have x4b:(v2.alloc zeroN).cell? ⟨X,4,none⟩=some (.slice ka j kc):=(World.cell?_of_block (aJ.block X aU (by omega))).trans x4V;try (have bK:=qoS aK bG))
    | (refine step_append_lies _ (by rfl) (.tmp 122) (.tmp 129) 23 (by rfl) (Y+1) 25 ik0 _ 5 80 Tryz.underlying23 aE.out.1 aE.out.2.1 aE.out.2.2.1 aE.out.2.2.2 rfl (by decide) (.slice ka j kc) j xs (by rfl) (qhO HX.out (by omega) aJ) ⟨v2.heap.size,0,none⟩ 1 1 [.int .i64 0,.int .i64 0,.string ⟨#[]⟩,.slice none 0 0,.slice none 0 0] (by rfl) rfl (World.news_of_block (heap_alloc_new v2 _)) (by simp[Value.oneCell']) (by decide) (by unfold maxLen;omega) (by omega) (by simp;omega) (v2.alloc zeroN).heap.size rfl ?_;intro g2 cap2 v3 aB aA aD aH;have aR:=qaF aB g2 rfl;have bL:g2≠X:=(by omega);have bM:X≠g2:=(by omega);have aF:=qgK aQ.out HX.out aW aV.1 aJ aA;have x4'':v3.cell? ⟨X,4,none⟩=some (.slice ka j kc):=(by simp[World.cell?,aF]);have xg'':v3.frozen? ⟨X,4,none⟩=false:=(by simp[World.frozen?,aF]);obtain⟨⟨r0,r1,r2,r3,r4⟩,rf⟩:=qgJ aB aY.out;have rf0:=rf (j*5);have rf1:=rf (j*5+1);have rf2:=rf (j*5+2);have rf3:=rf (j*5+3);have rf4:=rf (j*5+4);have HF:=Lib.hid (qlM HV.out aX.out aJ (xeS aP _) (xeT aS _) HX.out aI.out.1 aI.out.2.1 aI.out.2.2 aB aA aD (aT.same ((Below.refl _ _).alloc (Nat.le_refl _) _)) aG);clear rf aB aA aD aF aH)
    | (refine step_append_lies _ (by rfl) (.tmp 122) (.tmp 129) 23 (by rfl) (Y+1) 25 ik0 _ 5 80 Tryz.underlying23 aE.out.1 aE.out.2.1 aE.out.2.2.1 aE.out.2.2.2 rfl (by decide) (.slice ka j kc) j xs (by rfl) (qhO HX.out (by omega) aC) ⟨V.heap.size,0,none⟩ 1 1 [.int .i64 0,.int .i64 0,.string ⟨#[]⟩,.slice none 0 0,.slice none 0 0] (by rfl) rfl (World.news_of_block bK) (by simp[Value.oneCell']) (by decide) (by unfold maxLen;omega) (by omega) (by omega) v2.heap.size rfl ?_;intro g2 cap2 v3 aB aA aD aH;have aR:=qaF aB g2 rfl;have bL:g2≠X:=(by omega);have bM:X≠g2:=(by omega);have aF:=qgK aQ.out HX.out aW aV.1 aC aA;have x4'':v3.cell? ⟨X,4,none⟩=some (.slice ka j kc):=(by simp[World.cell?,aF]);have xg'':v3.frozen? ⟨X,4,none⟩=false:=(by simp[World.frozen?,aF]);obtain⟨⟨r0,r1,r2,r3,r4⟩,rf⟩:=qgJ aB aY.out;have rf0:=rf (j*5);have rf1:=rf (j*5+1);have rf2:=rf (j*5+2);have rf3:=rf (j*5+3);have rf4:=rf (j*5+4);have HF:=Lib.hid (qlM HV.out aX.out aC aP aS HX.out aI.out.1 aI.out.2.1 aI.out.2.2 aB aA aD aT aG);clear rf aB aA aD aF aH))
   all_goals
    have bN:=Lib.hid aM
    have aZ:=fun W hW=>HP.out t5 a5 c5 W g2 cap2 bN.out hW
    clear aM aG aP aS aT aK aC aJ x4a x4b x4'' xg'' r0 r1 r2 r3 r4 rf0 rf1 rf2 rf3 rf4 x4V
    have HQ:=Lib.hid aZ
    clear aZ
    go_wp2_with fail
    refine bodyPost_end (results_none rfl _ _ _) rfl ?_
    first
     | with_reducible exact HQ.out _ HF.out.1
     | with_reducible exact HQ.out _ HF.out.2
end Go.Proofs.YtelogmjfekhmpaaGreatDoor
