import Derived.Test.YtelogmjfekhmpaaGreatDoorB30
namespace Go.Proofs.YtelogmjfekhmpaaGreatDoor
set_option maxRecDepth 100000
set_option maxHeartbeats 16000000
open Go.RowKit Go.Proofs.Tryz
theorem xeV {M m:Nat} {ws:List ByteArray} {rk:Bool->Nat->Nat->Rd3 (T m)} {p:UInt8} {act:Bool} (hp:p=(if act=true then 65 else 86)) (n:Nd (T m)) (a c:Nat) :
  stepR M rk ws p n a c=match rk act a c with|.error e=>.error e|.ok r=>.ok (⟨n.sort,n.num,n.text,n.names,n.kids++[r.1]⟩,r.2.1,r.2.2):=by
 subst hp
 cases act
 ·show stepR M rk ws 86 n a c=_
  unfold stepR
  rw[if_pos (Or.inl rfl),show ((86:UInt8)==65)=false by decide]
  cases rk false a c<;>rfl
 ·show stepR M rk ws 65 n a c=_
  unfold stepR
  rw[if_pos (Or.inr rfl),show ((65:UInt8)==65)=true by decide]
  cases rk true a c<;>rfl
theorem qxH {M B R X Y bk m:Nat} {it:Obj} {wv:Value} {ws:List ByteArray} {w0 V:World} {n:Nd (T m)} {a c:Nat} {na:Option Addr} {nc:Nat} {ka:Option Addr} {kc:Nat} (hI:qhA M m) (p:UInt8) (act:Bool) (hp:p=(if act=true then 65 else 86)) (d:Int) (hd:1<=d) (hdm:d+1+(m:Int)=26) (hc:c<=200)
  (h:PSt B R X Y it bk m wv ws w0 V n a c na nc ka kc) :
  Calls prog 69 #[.pointer (some ⟨R,0,none⟩),.pointer (some ⟨X,0,none⟩),.int .i32 (actI act),.int .i64 d] V (qaW B R X Y it bk m wv ws w0 (stepR M (fun b=>qaI M ws m b (d+1)) ws p n a c)):=by
 have hS:=xeV (M:=M) (ws:=ws) (rk:=fun b=>qaI M ws m b (d+1)) hp n a c
 have Z:=h.many.lt
 have aA:=h.many.xy
 have aB:=h.rx
 have aT:=h.rdr.lt
 have bF:IntKind.i64.wrap (d+1)=d+1:=by rw[IntKind.wrap_i64];omega
 have HV:=Lib.hid h
 have C:=qtO hI act (d+1) h.laidW h.br h.rdr (by omega) hdm hc
 cases hr:qaI M ws m act (d+1) a c with
 | error er=>
  have HK:Hid (∀W,(W=V.drew∨W=V.drew.alloc zeroN)->Calls prog 51 #[.pointer (some ⟨R,0,none⟩),.int .i32 (actI act),.int .i64 (d+1)] W fun e w'=>e=.panicked (qbT er.1 er.2)/\Near R V w'):=fun W hW=>by
   refine (C W hW).mono ?_
   rintro e w' ⟨x,k,⟨t,A,D,c0,c1,c2,c3,c4,r,-⟩|⟨aL,bB,r,rfl⟩⟩
   ·rw[hr]at r;cases r
   ·rw[hr]at r;cases r;exact⟨rfl,k⟩
  have HP:Hid (∀W,Near R V W->qaW B R X Y it bk m wv ws w0 (stepR M (fun b=>qaI M ws m b (d+1)) ws p n a c) (.panicked (qbT er.1 er.2)) W):=fun W hW=>.inr ⟨er.1,er.2,by rw[hS,hr],rfl,h.many.near.trans hW⟩
  obtain⟨⟨x0,x1,x2,x3,x4⟩,-⟩:=qaC h.many.box
  obtain⟨j,I⟩:∃j,n.kids.length=j:=⟨_,rfl⟩
  rw[I]at x4
  clear C hr hS h HV hI hp I
  cases act
  all_goals
   simp only[actI]at HK ⊢
   go_enter func69,ntmps69
   go_wp2_with fail
   go_region_dies
   all_goals (go_at_call 51;refine (HK.out _ (by first|exact .inl rfl|exact .inr rfl)).mono ?_;rintro e w' ⟨rfl,bC⟩;exact⟨rfl,HP.out _ bC⟩)
 | ok q=>
  have aU:=qbS M ws m act (d+1) a c q hr
  have bD:=h.rdr.few
  have HK:Hid (∀W,(W=V.drew∨W=V.drew.alloc zeroN)->Calls prog 51 #[.pointer (some ⟨R,0,none⟩),.int .i32 (actI act),.int .i64 (d+1)] W fun e w'=>∃(t:T m)(A D:Nat)(c0 c1 c2 c3 c4:Value),e=.returned (.agg #[c0,c1,c2,c3,c4])/\qaI M ws m act (d+1) a c=.ok (t,A,D)/\NodeIn (fun b=>V.heap.size<=b/\b<w'.heap.size) w' m t c0 c1 c2 c3 c4/\OwnN (fun b=>V.heap.size<=b/\b<w'.heap.size) w' m t c3 c4/\Rdr w' R bk wv ws A D/\a<A/\Near R W w' /\ Near R V w'):=fun W hW=>by
   refine (C W hW).mono ?_
   rintro e w' ⟨x,k,⟨t,A,D,c0,c1,c2,c3,c4,r,h2,h3,h4,h5,h6⟩|⟨aL,bB,r,-⟩⟩
   ·exact⟨t,A,D,c0,c1,c2,c3,c4,h2,r,h3,h4,h5,h6,x,k⟩
   ·rw[hr]at r;cases r
  have HP:Hid (∀(t:T m)(A D:Nat)(W:World)(g cap:Nat),qaI M ws m act (d+1) a c=.ok (t,A,D)->PSt B R X Y it bk m wv ws w0 W ⟨n.sort,n.num,n.text,n.names,n.kids++[t]⟩ A D na nc (some ⟨g,0,none⟩) cap->qaW B R X Y it bk m wv ws w0 (stepR M (fun b=>qaI M ws m b (d+1)) ws p n a c) (.returned (.tuple #[])) W):=fun t A D W g cap r h2=>.inl ⟨_,_,_,_,_,_,_,by rw[hS,r],rfl,h2⟩
  obtain⟨j,I⟩:∃j,n.kids.length=j:=⟨_,rfl⟩
  have aC:=Lib.hid I
  have bG:j<=3000:=by have:=h.few;omega
  obtain⟨xs,Ps,E,aM,aN,aO⟩:=h.many.own
  have u:Hid (_/\_/\_):=⟨aM,aN,aO⟩
  have aD:Hid (xs.length=j*5):=by have r:=E.1;rw[I]at r;exact r
  have U:Hid (V.ownsRow (Y+1) 25 5 (.slice ka j kc) j xs):=by
   rw[I]at E;exact E
  have O:Hid (V.heap[X]?=some (.cells #[.int .i64 n.sort,.int .i64 n.num,.string n.text,.slice na n.names.length nc,.slice ka j kc] 25 (0,0))):=by
   have:=h.many.box
   rw[I]at this
   exact this
  have P:V.cell? ⟨X,4,none⟩=some (.slice ka j kc):=(qaC O.out).1.2.2.2.2
  obtain⟨aP,J,aQ,aR,aS⟩:=info_parts Tryz.info_nodeR
  have l:Hid (_/\_/\_/\_):=⟨J,aQ,aR,aS⟩
  have bH:(j:Int)<(j:Int)+1:=by omega
  clear C hr hS h hI hp I J aQ aR aS E aM aN aO aU
  cases act
  all_goals
   simp only[actI]at HK ⊢
   go_enter func69,ntmps69
   go_wp2_with fail
   go_region_law (first
    | (go_simp;go_at_call 51;refine (HK.out _ (by first|with_reducible exact .inl rfl|with_reducible exact .inr rfl)).mono ?_;rintro e v2 ⟨t5,a5,c5,f0,f1,f2,f3,f4,rfl,K,F,Q,S,y,x,k⟩;obtain⟨t0,t1,t2,ta,tl,tc,ua,ul,uc,rfl,rfl,rfl,rfl,rfl⟩:=F.shape;have bE:V.heap.size<=v2.heap.size:=k.size;have w:Near R V (v2.alloc zeroN):=k.trans (Near.alloc R _ _);have aV:v2.cell? ⟨X,4,none⟩=some (.slice ka j kc):=(World.cell?_of_block (k.block X Z (by omega))).trans P;have aW:(v2.alloc zeroN).cell? ⟨X,4,none⟩=some (.slice ka j kc):=(World.cell?_of_block (w.block X Z (by omega))).trans P;try (have aX:=qoS x aT))
    | (refine step_append_lies _ (by rfl) (.tmp 122) (.tmp 129) 23 (by rfl) (Y+1) 25 aP _ 5 80 underlying23 l.out.1 l.out.2.1 l.out.2.2.1 l.out.2.2.2 rfl (by decide) (.slice ka j kc) j xs (by rfl) (qhM U.out (by omega) w) ⟨v2.heap.size,0,none⟩ 1 1 [.int .i64 0,.int .i64 0,.string ⟨#[]⟩,.slice none 0 0,.slice none 0 0] (by rfl) rfl (World.news_of_block (heap_alloc_new v2 _)) (by simp[Value.oneCell']) (by decide) (by unfold maxLen;omega) (by omega) (by simp;omega) (v2.alloc zeroN).heap.size rfl ?_;intro L N v3 f i o z;have aE:=qaF f L rfl;have aY:L≠X:=(by omega);have aZ:X≠L:=(by omega);have s:=qgH O.out U.out aB aA.1 w i;have G:v3.cell? ⟨X,4,none⟩=some (.slice ka j kc):=(by simp[World.cell?,s]);have H:v3.frozen? ⟨X,4,none⟩=false:=(by simp[World.frozen?,s]);obtain⟨⟨r0,r1,r2,r3,r4⟩,v⟩:=qgG f aD.out;have aF:=v (j*5);have aG:=v (j*5+1);have aH:=v (j*5+2);have aI:=v (j*5+3);have aJ:=v (j*5+4);have HF:=Lib.hid (qlJ HV.out aC.out w (xeT F _) (xeU Q _) U.out u.out.1 u.out.2.1 u.out.2.2 f i o (S.same ((Below.refl _ _).alloc (Nat.le_refl _) _)) y);clear v f i o s z)
    | (refine step_append_lies _ (by rfl) (.tmp 122) (.tmp 129) 23 (by rfl) (Y+1) 25 aP _ 5 80 underlying23 l.out.1 l.out.2.1 l.out.2.2.1 l.out.2.2.2 rfl (by decide) (.slice ka j kc) j xs (by rfl) (qhM U.out (by omega) k) ⟨V.heap.size,0,none⟩ 1 1 [.int .i64 0,.int .i64 0,.string ⟨#[]⟩,.slice none 0 0,.slice none 0 0] (by rfl) rfl (World.news_of_block aX) (by simp[Value.oneCell']) (by decide) (by unfold maxLen;omega) (by omega) (by omega) v2.heap.size rfl ?_;intro L N v3 f i o z;have aE:=qaF f L rfl;have aY:L≠X:=(by omega);have aZ:X≠L:=(by omega);have s:=qgH O.out U.out aB aA.1 k i;have G:v3.cell? ⟨X,4,none⟩=some (.slice ka j kc):=(by simp[World.cell?,s]);have H:v3.frozen? ⟨X,4,none⟩=false:=(by simp[World.frozen?,s]);obtain⟨⟨r0,r1,r2,r3,r4⟩,v⟩:=qgG f aD.out;have aF:=v (j*5);have aG:=v (j*5+1);have aH:=v (j*5+2);have aI:=v (j*5+3);have aJ:=v (j*5+4);have HF:=Lib.hid (qlJ HV.out aC.out k F Q U.out u.out.1 u.out.2.1 u.out.2.2 f i o S y);clear v f i o s z))
   all_goals
    have bA:=Lib.hid K
    have aK:=fun W hW=>HP.out t5 a5 c5 W L N bA.out hW
    clear K y F Q S x k w aV aW G H r0 r1 r2 r3 r4 aF aG aH aI aJ P
    have HQ:=Lib.hid aK
    clear aK
    go_wp2_with fail
    refine bodyPost_end (results_none rfl _ _ _) rfl ?_
    first
     | with_reducible exact HQ.out _ HF.out.1
     | with_reducible exact HQ.out _ HF.out.2
end Go.Proofs.YtelogmjfekhmpaaGreatDoor
