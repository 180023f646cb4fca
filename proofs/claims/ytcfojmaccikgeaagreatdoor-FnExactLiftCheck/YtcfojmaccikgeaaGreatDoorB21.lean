import Derived.Test.YtcfojmaccikgeaaGreatDoorB20
import Derived.Test.YtcfojmaccikgeaaGreatDoorB16
open Go.Value renaming slice→Zs,int→Zi,string→Zt,pointer→Zp,agg→Za,tuple→Zu,bool→Zb
open Go.IntKind renaming i64→Zk
open Go.Ending renaming returned→Zr
open Go.Obj renaming cells→Zc
open Option renaming none→Zn,some→Zo
open Go renaming World→Zw,Value→Zv
open Nat renaming lt_of_lt_of_le→Zd
namespace Go.Proofs.YtcfojmaccikgeaaGreatDoor
open Go.RowKit Go.Proofs.Tryz
set_option maxRecDepth 100000
set_option maxHeartbeats 16000000
variable {m rb:Nat} {s:ZN} {w w':Zw}
def oG(m:Nat)(k:K m)(ok:Bool)(w:Zw)(e:Ending)(w':Zw):Prop:=
 Bw w w' /\ ∃c0 c1 c2 a c,e=Zr (Zu #[Za #[c0,c1,c2],Zb ok])/\a8 (fun b=>w.heap.size<=b/\b<w'.heap.size) w' m k c0 c1 c2 /\
  sL w' c1 a/\sK w' (m-1) c2 c/\Own (fun b=>w.heap.size<=b/\b<w'.heap.size) (a++c)/\(a++c).length<=1000
theorem qS(h:iZ (m+1) s=Zn)(c:Bw w w'):oG (m+1) (pQ m s) (Cb m s) w (Zr (Zu #[Za #[Zi Zk 0,Zs Zn 0 0,Zs Zn 0 0],Zb false])) w':=by obtain⟨a,b⟩:=vo h;rw[a,b];exact⟨c,_,_,_,[],[],rfl,zT _ _ m,sL.no _,sK.no _ _,Own.nil _,zS⟩
theorem pc (s:ZN) (m:Nat) (hm:s.size<=m) (hs:s.size<=1048576) (w:Zw) :
  Calls prog 157 #[Zt s] w (oG (m+1) (pQ m s) (Cb m s) w):=by
 obtain⟨M,u⟩:=ii (w.alloc (Zc #[Zi Zk 0,Zs Zn 0 0,Zs Zn 0 0] 31));have V:M.heap.size=w.heap.size+1:=by rw[u];simp
 have E:Bw w M:=by rw[u];exact gx _ _
 have g:M.heap[w.heap.size]?=Zo (Zc #[Zi Zk 0,Zs Zn 0 0,Zs Zn 0 0] 31 (0,0)):=by rw[u];exact heap_alloc_new _ _
 have i:Hid (∀W:Zw,Bw w W->Bw w (iD W w.heap.size 0 (Zi Zk 0) (Zs Zn 0 0) (Zs Zn 0 0))):=fun W h=>js h (Nat.le_refl _);by_cases h8:s.size<=800;case neg=>have G:Hid (iZ (m+1) s=Zn):=tO h8;have ac:(800:Int)<(s.size:Int):=om;obtain⟨⟨J,K,L⟩,f0,f1,f2⟩:=k7 g;rw[u]at J K L f0 f1 f2;have H:Hid (∀o,oG (m+1) (pQ m s) (Cb m s) w (Zr (Zu #[Za #[Zi Zk 0,Zs Zn 0 0,Zs Zn 0 0],Zb false])) (w.alloc o)):=fun o=>qS G.out (gx _ _);clear E g V G h8;go_in;go_wp2_with fail;refine bodyPost_ret (v:=Zu #[Za #[Zi Zk 0,Zs Zn 0 0,Zs Zn 0 0],Zb false]) (by simp[results,results157,go_sem]) rfl ?_;exact H.out _
 have ad:¬(800:Int)<(s.size:Int):=om;have ae:∀(fn:Fn)(first cap:Array Zv)(w:Zw),(Instr.makeFunc fn first cap).run prog w=.ok (.func fn first cap) w:=fun _ _ _ _=>rfl;have P:=a7 (pX s M);obtain⟨N,x⟩:=ii (M.alloc (Zc #[Zt s,Zi Zk 0] 288));have af:N.heap.size=M.heap.size+1:=by rw[x];simp
 have z:Bw w N:=by rw[x];exact E.alloc E.size _
 have p:N.heap[w.heap.size+1]?=Zo (Zc #[Zt s,Zi Zk 0] 288 (0,0)):=by rw[x,<- V];exact heap_alloc_new _ _
 have r:N.heap[w.heap.size]?=Zo (Zc #[Zi Zk 0,Zs Zn 0 0,Zs Zn 0 0] 31 (0,0)):=by rw[x,Below.heap_alloc _ _ _ om];exact g
 have Q:Sc N (w.heap.size+1) s 0:=⟨by simp[World.cell?,p],by simp[World.cell?,p],by simp[World.frozen?,p]⟩;have O:=a7 (Ai (m+1) (w.heap.size+1) s N Q om om);clear p Q g E;go_in;go_wp2_with fail;rw[<- u];clear u;refine P.out.mono ?_;rintro e w' ⟨rfl,rfl⟩;clear P;go_wp2_with fail;rw[<- x];clear x;refine O.out.mono ?_;rintro e w3 ⟨l,aa⟩;have ag:=l.size;have A:Bw w w3:=⟨l.os.trans z.os,l.tape.trans z.tape,l.output.trans z.output,om,fun b R=>(l.block b om om).trans (z.block b R)⟩;have a:=(l.block _ om om).trans r;clear O z r l;rcases aa with ⟨k,c0,c1,c2,y1,rfl,y4⟩|⟨y1,rfl⟩;case inr=>have G:=a7 (Gy y1);have f:=A.alloc om (Zc #[Zi Zk 0,Zs Zn 0 0,Zs Zn 0 0] 31);obtain⟨⟨J,K,L⟩,f0,f1,f2⟩:=k7 ((Below.heap_alloc w3 (Zc #[Zi Zk 0,Zs Zn 0 0,Zs Zn 0 0] 31) w.heap.size om).trans a);have H:=a7 (qS G.out (i.out _ f));clear y1 G A a f i;go_wp2_with fail;refine bodyPost_ret (v:=Zu #[Za #[Zi Zk 0,Zs Zn 0 0,Zs Zn 0 0],Zb false]) (by simp[results,results157,go_sem,J,K,L]) rfl ?_;exact H.out
 obtain⟨z0,za,zl,zc,ua,ul,uc,rfl,rfl,rfl⟩:=y4.shape;obtain⟨W4,D⟩:=ii (w3.alloc (Zc #[Zi Zk z0,Zs za zl zc,Zs ua ul uc] 31));have ah:W4.heap.size=w3.heap.size+1:=by rw[D];simp
 have n:Bw w3 W4:=by rw[D];exact gx _ _
 have f:=b5 A A.size n;have c:=(n.block w.heap.size om).trans a;obtain⟨U,C⟩:=y4.step (fun b R=>R.2) n;have HC:=a7 (pe (m+1) _ k _ _ _ W4 U C);have HY:=a7 y1;clear y1 y4 A a n U;go_wp2_with fail;rw[<- D];clear D;refine HC.out.mono ?_;rintro e w5 ⟨j,⟨y,v,rfl,I⟩|⟨y,rfl⟩⟩;case inr=>have ab:=j.size;have G:=a7 (DZ HY.out y);have d:=b5 f f.size j;obtain⟨⟨J,K,L⟩,f0,f1,f2⟩:=k7 ((j.block w.heap.size om).trans c);have H:=a7 (qS G.out (i.out _ d));clear G HC HY y j f c d i C;go_wp2_with fail;refine bodyPost_ret (v:=Zu #[Za #[Zi Zk 0,Zs Zn 0 0,Zs Zn 0 0],Zb false]) (by simp[results,results157,go_sem,J,K,L]) rfl ?_;exact H.out
 obtain⟨kb,rfl,-⟩:=id I.ptr;have hp:=iw y;have ab:=j.size;have d:=b5 f f.size j;have t:=(j.block w.heap.size om).trans c;have HO:=a7 (uY (m+1) _ k _ 1 w5 I (fun b R=>R.elim (fun h=>by have:=C b h;omega) (fun h=>h.2)) hp.1 hp.2);have HR:Hid (pQ m s=k/\Cb m s=true/\tX (m+1) k<=1000):=by obtain⟨q1,q2⟩:=mL (D0 h8 HY.out y);exact⟨q1,q2,by have:=It (m+1) k 1 hp.1;omega⟩
 clear HC HY y hp I j f c C i;go_wp2_with fail;refine HO.out.mono ?_;rintro e w6 ⟨F,g0,g1,g2,L3,L4,rfl,B,S,T,ho,hl⟩;obtain⟨X,Y,vl,Z,ya,yl,yc,rfl,rfl,rfl⟩:=B.shape;have ai:=F.size;obtain⟨⟨J,K,L⟩,f0,f1,f2⟩:=k7 ((F.block w.heap.size om).trans t);have H:Hid (oG (m+1) (pQ m s) (Cb m s) w (Zr (Zu #[Za #[Zi Zk X,Zs Y vl Z,Zs ya yl yc],Zb true])) (iD w6 w.heap.size 0 (Zi Zk X) (Zs Y vl Z) (Zs ya yl yc))):=by
  obtain⟨q1,q2,q3⟩:=HR.out;rw[q1,q2];have q:∀b,w5.heap.size<=b->(iD w6 w.heap.size 0 (Zi Zk X) (Zs Y vl Z) (Zs ya yl yc)).heap[b]?=w6.heap[b]?:=fun b h=>ia om;have hS:∀b,(w5.heap.size<=b/\b<w6.heap.size)->w.heap.size<=b/\b<(iD w6 w.heap.size 0 (Zi Zk X) (Zs Y vl Z) (Zs ya yl yc)).heap.size:=fun b h=>by rw[iU];omega
  exact⟨js (b5 d d.size F) (Nat.le_refl _),_,_,_,L3,L4,rfl,B.keep (fun b h=>q b h.1) hS,S.same (fun s h=>q _ (ho.1 s (List.mem_append_left _ h)).1),T.same (fun s h=>q _ (ho.1 s (List.mem_append_right _ h)).1),ho.mono hS,by rw[hl];exact q3⟩
 clear HO HR B S T ho hl F d t;go_wp2_with fail;refine bodyPost_ret (v:=Zu #[Za #[Zi Zk X,Zs Y vl Z,Zs ya yl yc],Zb true]) (by simp[results,results157,go_sem,J,K,L]) rfl ?_;exact H.out
structure we(S:ZP)(w:Zw)(m bk rb:Nat)(n r:Nd (T m))(q0 v3 v4:Zv)(na ka:ZO)(nc kc:Nat):Prop where
 rst:wg S w m rb r q0 v3 v4
 bnd:∀b,S b->b<w.heap.size/\b≠rb
 book:lg w bk
 ne:bk≠rb
 names:fL S w n.names (Zs na n.names.length nc)
 cap:n.names.length<=nc
 kids:ik S w (fT S w m) n.kids (Zs ka n.kids.length kc)
 le:r.names.length<=n.names.length
 txt:n.text.size<=1048576
 w0:(Lit.int Zk n.sort).wf=true
 w1:(Lit.int Zk n.num).wf=true
 op:1<=n.sort/\n.sort<=43
theorem lg.lt{b:Nat}(h:lg w b):b<w.heap.size:=by have:=(h 0 om).1;exact Classical.byContradiction fun c=>by have a:w.heap[b]?=Zn:=Array.getElem?_eq_none om;simp[World.cell?,a]at this
theorem we.on{S:ZP}{bk:Nat}{n r:Nd (T m)}{f v3 v4:Zv}{na ka:ZO}{e kc:Nat}(h:we S w m bk rb n r f v3 v4 na ka e kc)(c:Bw w w'):we S w' m bk rb n r f v3 v4 na ka e kc:=by have d:jn S w w':=fun b a=>c.block b (h.bnd b a).1;exact⟨h.rst.keep d (c.block rb h.rst.lt),fun b a=>⟨Zd (h.bnd b a).1 c.size,(h.bnd b a).2⟩,h.book.keep (c.block bk h.book.lt),h.ne,h.names.keep d (fun _ h=>h),h.cap,h.kids.keepN d (fun _ h=>h),h.le,h.txt,h.w0,h.w1,h.op⟩
theorem B8{w0:Zw}(a:Bw w w0)(b:b8 rb w0 w'):b8 rb w w':=(b8.of_below a).trans b
theorem ug (S:ZP) (w:Zw) (m bk c:Nat) (n r:Nd (T m)) (d v3 v4:Zv) (na ka:ZO) (g kc:Nat) (p:UInt8) (a:p=86∨p=65) (h:we S w m bk c n r d v3 v4 na ka g kc) :
  Calls prog 147 #[Zp (Zo ⟨bk,0,Zn⟩),Zp (Zo ⟨c,0,Zn⟩),Zi .i32 (p.toNat:Int),Za #[Zi Zk n.sort,Zi Zk n.num,Zt n.text,Zs na n.names.length g,Zs ka n.kids.length kc]] w (gW S m c n r d p w):=by
 have b:=(Below.refl w.heap.size w).alloc (Nat.le_refl _) (Zc #[Zi Zk n.sort,Zi Zk n.num,Zt n.text,Zs na n.names.length g,Zs ka n.kids.length kc] 40);have f:=h.on b;have i:=a7 (rX S m p a c n r d v3 v4 _ f.rst f.bnd);have j:=a7 b;have t:((p.toNat:Int)==84)=false:=by rcases a with rfl|rfl<;>rfl
 have u:((p.toNat:Int)==35)=false:=by rcases a with rfl|rfl<;>rfl
 have v:((p.toNat:Int)==75)=false:=by rcases a with rfl|rfl<;>rfl
 have x:((p.toNat:Int)==70)=false:=by rcases a with rfl|rfl<;>rfl
 have y:((p.toNat:Int)==78)=false:=by rcases a with rfl|rfl<;>rfl
 have z:((p.toNat:Int)==88)=false:=by rcases a with rfl|rfl<;>rfl
 clear h f b a;go_in;go_wp2_with fail;refine i.out.mono ?_;rintro e w1 ⟨k,l⟩;have o:Hid (gW S m c n r d p w e w1):=⟨B8 j.out k,l⟩;rcases l with ⟨A,q,s,-,rfl,-⟩|⟨-,rfl⟩;all_goals
  clear k i j
  go_wp2
  go_ret
  exact o.out
theorem uf (S:ZP) (w:Zw) (m bk d:Nat) (n r:Nd (T m)) (f v3 v4:Zv) (na ka:ZO) (g kc:Nat) (p:UInt8) (c:p=78∨p=88) (h:we S w m bk d n r f v3 v4 na ka g kc) :
  Calls prog 147 #[Zp (Zo ⟨bk,0,Zn⟩),Zp (Zo ⟨d,0,Zn⟩),Zi .i32 (p.toNat:Int),Za #[Zi Zk n.sort,Zi Zk n.num,Zt n.text,Zs na n.names.length g,Zs ka n.kids.length kc]] w (gW S m d n r f p w):=by
 have b:=(Below.refl w.heap.size w).alloc (Nat.le_refl _) (Zc #[Zi Zk n.sort,Zi Zk n.num,Zt n.text,Zs na n.names.length g,Zs ka n.kids.length kc] 40);have a:=h.on b;have i:=a7 (qZ S m p c bk d n r f v3 v4 _ _ a.rst a.bnd a.book a.ne a.names ⟨_,_,_,rfl,a.cap⟩ a.le);have j:=a7 b;have t:((p.toNat:Int)==84)=false:=by rcases c with rfl|rfl<;>rfl
 have u:((p.toNat:Int)==35)=false:=by rcases c with rfl|rfl<;>rfl
 have v:((p.toNat:Int)==75)=false:=by rcases c with rfl|rfl<;>rfl
 have x:((p.toNat:Int)==70)=false:=by rcases c with rfl|rfl<;>rfl
 clear h a b;rcases c with rfl|rfl;all_goals
  go_in
  go_wp2_with fail
  refine i.out.mono ?_
  rintro e w1 ⟨k,l⟩
  have o:=a7 (show gW S m d n r f _ w e w1 from ⟨B8 j.out k,l⟩)
  rcases l with ⟨y,q,s,-,rfl,-⟩|⟨-,rfl⟩
  all_goals
   clear k i j
   go_wp2
   go_ret
   exact o.out
theorem tw(S:ZP)(w:Zw)(x v:Int)(tx:ZN)(d:(Lit.int Zk x).wf=true)(c:(Lit.int Zk v).wf=true)(b:tx.size<=maxLen):gE S w 1 (lF x v tx) (Zi Zk x) (Zi Zk v) (Zt tx) (Zs Zn 0 0) (Zs Zn 0 0):=
 ⟨rfl,rfl,rfl,b,d,c,⟨Zn,0,rfl,by simp[maxLen,lF],fun s a=>by simp[lF]at a,fun h=>absurd rfl h⟩,⟨Zn,0,rfl,by simp[maxLen,lF],fun h=>absurd rfl h⟩⟩
theorem xW(h:Below w.drew.heap.size w.drew w'):Bw w w':=((Below.refl _ _).drew).trans h
theorem B4(x v:Int)(tx:ZN):Cc 1 (lF x v tx)=gM x v tx [] 0:=by
 have a:ie 1 (lF x v tx) 1=gM x v tx [] 0:=by show (decide ((1:Int)<=6) && gM x v tx [] 0 && List.all ([]:List (T 0)) _)=_;simp
 have b:d9 1 (lF x v tx)=1:=rfl;unfold Cc;rw[a,b];simp
theorem Bm (S:ZP) (w:Zw) (m bk c:Nat) (n r:Nd (T m)) (q v3 v4:Zv) (na ka:ZO) (p kc:Nat) (h:we S w m bk c n r q v3 v4 na ka p kc) :
  Calls prog 147 #[Zp (Zo ⟨bk,0,Zn⟩),Zp (Zo ⟨c,0,Zn⟩),Zi .i32 84,Za #[Zi Zk n.sort,Zi Zk n.num,Zt n.text,Zs na n.names.length p,Zs ka n.kids.length kc]] w (gW S m c n r q 84 w):=by
 obtain⟨⟨D,E,F,G⟩,f1,f2,f3,f4⟩:=h.rst.cells;have k:=h.rst.lt;have A:w.heap.size≠c:=om;obtain⟨W,o⟩:=ii (((w.setCell ⟨c,1,Zn⟩ (Zi Zk 0)).setCell ⟨c,2,Zn⟩ (Zt ⟨#[]⟩)).alloc (Zc #[Zi Zk n.sort,Zi Zk n.num,Zt n.text,Zs na n.names.length p,Zs ka n.kids.length kc] 40));have a:b8 c w W:=by rw[o];exact ((b8.set c 1 _ _).trans (b8.set c 2 _ _)).trans (b8.alloc _ _ _)
 have f:wg S W m c ⟨r.sort,0,ByteArray.empty,r.names,r.kids⟩ q v3 v4:=by have v:=a.same h.bnd;refine⟨?_,h.rst.n3.keep v (fun _ h=>h),h.rst.k3,h.rst.n4.keepN v (fun _ h=>h),h.rst.k4⟩;rw[o];exact (Below.heap_alloc _ _ _ (by simpa using k)).trans (lI (lI h.rst.box _) _)
 have l:n.text.size<=maxLen:=Nat.le_trans h.txt zC;have g:Hid (∀w,Calls prog 181 _ w _):=fun w=>oz n.sort n.num n.text na ka n.names.length n.kids.length p kc w;have i:Hid (∀w,Calls prog 180 #[Za #[Zi Zk n.sort,Zi Zk n.num,Zt n.text,Zs Zn 0 0,Zs Zn 0 0]] w fun e B=>e=Zr (Zb (gM n.sort n.num n.text [] 0))/\Bw w B):=by intro w;have:=th 1 (fun _=>False) (lF n.sort n.num n.text) _ _ _ _ _ w (tw _ w n.sort n.num n.text h.w0 h.w1 l) (fun _ h=>h.elim);rw[B4]at this;exact this
 have u:Hid (∀s,Bw W s->gW S m c n r q 84 w (Zr (Zb (gM n.sort n.num n.text [] 0))) s):=by
  intro s t;refine⟨a.trans (b8.of_below t),?_⟩;cases ha:gM n.sort n.num n.text [] 0 with
  | true=>exact .inl ⟨_,v3,v4,(GJ _ n r).trans (if_pos ha),rfl,f.keep (fun b z=>t.block b (Zd (h.bnd b z).1 a.size)) (t.block c (Zd k a.size))⟩
  | false=>exact .inr ⟨(GJ _ n r).trans (if_neg (by rw[ha];decide)),rfl⟩
 have y:=a7 o;generalize gM n.sort n.num n.text [] 0=ok at *;clear h f a o l;go_in;go_wp2_with fail;refine (g.out _).mono ?_;rintro e w1 ⟨rfl,d⟩;rw[<- y.out]at d;go_wp2_with fail;refine (i.out _).mono ?_;rintro e C ⟨rfl,j⟩;have x:=a7 (u.out C (d.trans (j.mono d.size)));clear d j u g i;go_wp2;go_ret;exact x.out
theorem Bl (S:ZP) (w:Zw) (m bk c:Nat) (n r:Nd (T m)) (t v3 v4:Zv) (na ka:ZO) (x kc:Nat) (h:we S w m bk c n r t v3 v4 na ka x kc) :
  Calls prog 147 #[Zp (Zo ⟨bk,0,Zn⟩),Zp (Zo ⟨c,0,Zn⟩),Zi .i32 75,Za #[Zi Zk n.sort,Zi Zk n.num,Zt n.text,Zs na n.names.length x,Zs ka n.kids.length kc]] w (gW S m c n r t 75 w):=by
 obtain⟨⟨I,J,K,L⟩,f1,f2,f3,f4⟩:=h.rst.cells;have j:=h.rst.lt;have F:w.heap.size≠c:=om;obtain⟨W,q⟩:=ii ((w.setCell ⟨c,2,Zn⟩ (Zt ⟨#[]⟩)).alloc (Zc #[Zi Zk n.sort,Zi Zk n.num,Zt n.text,Zs na n.names.length x,Zs ka n.kids.length kc] 40));have a:b8 c w W:=by rw[q];exact (b8.set c 2 _ _).trans (b8.alloc _ _ _)
 have f:wg S W m c ⟨r.sort,r.num,ByteArray.empty,r.names,r.kids⟩ t v3 v4:=by have A:=a.same h.bnd;refine⟨?_,h.rst.n3.keep A (fun _ h=>h),h.rst.k3,h.rst.n4.keepN A (fun _ h=>h),h.rst.k4⟩;rw[q];exact (Below.heap_alloc _ _ _ (by simpa using j)).trans (lI h.rst.box _)
 have y:Hid (∀w,Calls prog 157 #[Zt n.text] w fun e B=>Bw w B/\∃(s:Int)(g a2:ZO)(o p k l:Nat),e=Zr (Zu #[Za #[Zi Zk s,Zs g o k,Zs a2 p l],Zb (jV n.text)])):=by intro w;refine (pc n.text (n.text.size+7) om h.txt w).mono ?_;rintro e B ⟨i,c0,c1,c2,G,H,rfl,v,-⟩;refine⟨i,?_⟩;obtain⟨s,g,o,k,a2,p,l,rfl,rfl,rfl⟩:=v.shape;exact⟨s,g,a2,o,p,k,l,rfl⟩
 have z:Hid (∀u,Bw W u->gW S m c n r t 75 w (Zr (Zb (jV n.text))) u):=by
  intro u i;refine⟨a.trans (b8.of_below i),?_⟩;cases ha:jV n.text with
  | true=>exact .inl ⟨_,v3,v4,(GI _ n r).trans (if_pos ha),rfl,f.keep (fun b E=>i.block b (Zd (h.bnd b E).1 a.size)) (i.block c (Zd j a.size))⟩
  | false=>exact .inr ⟨(GI _ n r).trans (if_neg (by rw[ha];decide)),rfl⟩
 have D:=a7 q;generalize jV n.text=ok at *;clear h f a q;go_in;go_wp2_with fail;refine (y.out _).mono ?_;rintro e w1 ⟨d,s,g,a2,o,p,k,l,rfl⟩;rw[<- D.out]at d;have C:=a7 (z.out _ (d.alloc d.size (Zc #[Zi Zk s,Zs g o k,Zs a2 p l] 31)));clear d z y;go_wp2;go_ret;exact C.out
theorem Bk (S:ZP) (w:Zw) (m bk b:Nat) (n r:Nd (T m)) (f v3 v4:Zv) (na ka:ZO) (j kc:Nat) (h:we S w m bk b n r f v3 v4 na ka j kc) :
  Calls prog 147 #[Zp (Zo ⟨bk,0,Zn⟩),Zp (Zo ⟨b,0,Zn⟩),Zi .i32 70,Za #[Zi Zk n.sort,Zi Zk n.num,Zt n.text,Zs na n.names.length j,Zs ka n.kids.length kc]] w (gW S m b n r f 70 w):=by
 obtain⟨⟨p,q,t,u⟩,f1,f2,f3,f4⟩:=h.rst.cells;have i:=h.rst.lt;have o:w.heap.size≠b:=om;obtain⟨W,g⟩:=ii (((w.setCell ⟨b,3,Zn⟩ (Zs Zn 0 0)).setCell ⟨b,4,Zn⟩ (Zs Zn 0 0)).alloc (Zc #[Zi Zk n.sort,Zi Zk n.num,Zt n.text,Zs na n.names.length j,Zs ka n.kids.length kc] 40));have a:b8 b w W:=by rw[g];exact ((b8.set b 3 _ _).trans (b8.set b 4 _ _)).trans (b8.alloc _ _ _)
 have d:=a.same h.bnd;have c:wg S W m b ⟨r.sort,r.num,r.text,[],[]⟩ f (Zs Zn 0 0) (Zs Zn 0 0):=by refine⟨?_,⟨Zn,0,rfl,by simp[maxLen],fun s d=>by simp at d,fun h=>absurd rfl h⟩,⟨_,_,_,rfl,Nat.le_refl _⟩,⟨Zn,0,rfl,by simp[maxLen],fun h=>absurd rfl h⟩,⟨_,_,_,rfl,Nat.le_refl _⟩⟩;rw[g];exact (Below.heap_alloc _ _ _ (by simpa using i)).trans (lI (lI h.rst.box _) _)
 have k:=a7 (uB S m n _ _ W (h.names.keep d (fun _ h=>h)) ⟨_,_,_,rfl,h.cap⟩ (h.kids.keepN d (fun _ h=>h)));have l:Hid (gW S m b n r f 70 w (Zr (Zb (iH (jM m) n))) W):=by
  refine⟨a,?_⟩;cases ha:iH (jM m) n with
  | true=>exact .inl ⟨_,_,_,(GH _ n r).trans (if_pos ha),rfl,c⟩
  | false=>exact .inr ⟨(GH _ n r).trans (if_neg (by rw[ha];decide)),rfl⟩
 generalize iH (jM m) n=ok at *;clear h c a d;subst g;go_in;go_wp2_with fail;refine k.out.mono ?_;rintro e w1 ⟨rfl,rfl⟩;go_wp2;go_ret;exact l.out
theorem Bn (S:ZP) (w:Zw) (m bk d:Nat) (n r:Nd (T m)) (q v3 v4:Zv) (na ka:ZO) (v kc:Nat) (h:we S w m bk d n r q v3 v4 na ka v kc) :
  Calls prog 147 #[Zp (Zo ⟨bk,0,Zn⟩),Zp (Zo ⟨d,0,Zn⟩),Zi .i32 35,Za #[Zi Zk n.sort,Zi Zk n.num,Zt n.text,Zs na n.names.length v,Zs ka n.kids.length kc]] w (gW S m d n r q 35 w):=by
 obtain⟨⟨J,K,L,M⟩,f1,f2,f3,f4⟩:=h.rst.cells;have o:=h.rst.lt;have H:w.heap.size≠d:=om;obtain⟨W,f⟩:=ii ((w.setCell ⟨d,1,Zn⟩ (Zi Zk 0)).alloc (Zc #[Zi Zk n.sort,Zi Zk n.num,Zt n.text,Zs na n.names.length v,Zs ka n.kids.length kc] 40));have a:b8 d w W:=by rw[f];exact (b8.set d 1 _ _).trans (b8.alloc _ _ _)
 have u:=a.same h.bnd;have g:wg S W m d ⟨r.sort,0,r.text,r.names,r.kids⟩ q v3 v4:=by refine⟨?_,h.rst.n3.keep u (fun _ h=>h),h.rst.k3,h.rst.n4.keepN u (fun _ h=>h),h.rst.k4⟩;rw[f];exact (Below.heap_alloc _ _ _ (by simpa using o)).trans (lI h.rst.box _)
 obtain⟨k,E⟩:∃k:Nat,n.sort=(k:Int):=⟨n.sort.toNat,by have:=h.op;omega⟩;have l:k<44:=by have:=h.op;omega
 have c:=h.book.keep (a.block bk h.book.lt h.ne);obtain⟨A,B,C,D⟩:=c k l;have x:Hid (∀w,Calls prog 182 #[Za #[Zt (ld k),Zt (bs (jF k)),Zi Zk (lst k),Zi Zk (uu k)],Zi Zk n.num] w _):=fun w=>Dg (ld k) (bs (jF k)) (lst k) (uu k) n.num w;have y:Hid (∀s,Bw W s->gW S m d n r q 35 w (Zr (Zb (decide (lst k<=n.num/\n.num<=uu k)))) s):=by
  intro s t;refine⟨a.trans (b8.of_below t),?_⟩;have e:n.sort.toNat=k:=om;by_cases p:lst k<=n.num/\n.num<=uu k;·rw[decide_eq_true p];exact .inl ⟨_,v3,v4,(Bf _ n r).trans (if_pos (by rw[e];exact p)),rfl,g.keep (fun b G=>t.block b (Zd (h.bnd b G).1 a.size)) (t.block d (Zd o a.size))⟩
  ·rw[decide_eq_false p];exact .inr ⟨(Bf _ n r).trans (if_neg (by rw[e];exact p)),rfl⟩
 rw[E]at f ⊢;generalize decide (lst k<=n.num/\n.num<=uu k)=ok at *;have z0:W.cell? ⟨w.heap.size,0,Zn⟩=Zo (Zi Zk (k:Int)):=by rw[f];simp[go_sem]
 have I:W.cell? ⟨w.heap.size,1,Zn⟩=Zo (Zi Zk n.num):=by rw[f];simp[go_sem]
 have z:=a7 f;rw[f]at A B C D;clear h g a u c f E z0 I;go_in;go_wp2_with fail;go_region_with (first|(go_at_call 182;refine (x.out _).mono ?_;rintro e w1 ⟨rfl,i⟩));all_goals
  have j:Bw W w1:=by rw[z.out];exact xW i
  have F:=a7 (y.out w1 j)
  clear i j y x A B C D z
  go_wp2
  go_ret
  exact F.out
theorem lQ {R k i:Nat} (o:Obj) (h:jm w R s i false) (g:(fW s i).toNat=k):∃ d,d=w.alloc o/\d.heap.size=w.heap.size+1/\(w.alloc o).cell? ⟨R,2,Zn⟩=Zo (Zb false) /\
  Hid (Calls prog 177 #[Zp (Zo ⟨R,0,Zn⟩)] d fun e c=>e=Zr (Zi .u8 ((k:Nat):Int))/\b8 R w c/\jm c R s i false/\c.heap.size=w.heap.size+1/\c.heap[w.heap.size]?=Zo o):=by have b:Bw w (w.alloc o):=gx _ _;have a:jm (w.alloc o) R s i false:=(b.block R h.lt).trans h;refine⟨_,rfl,zS,a.cell2,(tC _ R s i false a).mono fun e c ⟨f,k,j⟩=>?_⟩;subst j;rw[g]at f;exact⟨f,((b8.of_below b).trans (b8.refl R _)).drewN k,a.drewN k,zS,heap_alloc_new _ _⟩
end Go.Proofs.YtcfojmaccikgeaaGreatDoor
