import Derived.Test.YtcfojmaccikgeaaGreatDoorB2
import Derived.Lib.AppendStr
import Derived.Lib.Hide
import Derived.Lib.OthersKept
import Derived.Laws.IdiomStrings
import Derived.Test.YtcfojmaccikgeaaGreatDoorB3
import Derived.Test.YtcfojmaccikgeaaGreatDoorB16
import Derived.Lib.AppendIntMem
import Derived.Test.YtcfojmaccikgeaaGreatDoorB15
import Derived.Test.YtcfojmaccikgeaaGreatDoorB11
import Derived.Deep.RegionLaw
open Go.Value renaming slice→Zs,int→Zi,string→Zt
open Go.Ending renaming returned→Zr
open Go renaming World→Zw,Value→Zv
open Bool renaming and_eq_true→Zq
open List renaming getElem_mem→Zg,length_append→Zx,length_cons→Zy
namespace Go.Proofs.YtcfojmaccikgeaaGreatDoor
open Go.RowKit Go.Proofs.Tryz
variable {B:Nat} {w w0 w':Zw} {v:Zv} {l l':List UInt8} {ops:Array Oper} {rest:List Oper} {o:Oper} {a:Act} {Q:Exit->Act->Zw->Prop}
structure iR(B:Nat)(w0 w:Zw)(v:Zv)(l:List UInt8):Prop where
 own:w.ownsRow B 5 1 v l.length (Lib.byteCells l)
 below:Below B w0 w
 le:B<=w.heap.size
 kept:Lib.OthersKept 5 none w0 w
theorem iR.nil(h:B<=w.heap.size):iR B w w (Zs none 0 0) []:=⟨World.ownsRow_nil _ _ _ _,Below.refl _ _,h,Lib.OthersKept.refl _ _ _⟩
theorem iR.from{w1:Zw}{v0:Zv}{b:List UInt8}(h:iR B w1 w v l)(a:iR B w0 w1 v0 b):iR B w0 w v l:=⟨h.own,a.below.trans h.below,h.le,a.kept.trans h.kept⟩
theorem iR.here(h:iR B w0 w v l):iR B w w v l:=⟨h.own,Below.refl _ _,h.le,Lib.OthersKept.refl _ _ _⟩
theorem iR.alloc(h:iR B w0 w v l)(o:Obj):iR B w0 (w.alloc o) v l:=⟨h.own.alloc o,h.below.alloc h.le o,by have:=h.le;simp;omega,h.kept.alloc o⟩
theorem iR.grown{e:Zv}(h:iR B w0 w v l)(n:w'.ownsRow B 5 1 e l'.length (Lib.byteCells l'))(b:w.grownBy w' v.ownBlock):iR B w0 w' e l':=
 ⟨n,h.below.grown b h.le (fun k i=>(h.own.lt k i).1),Nat.le_trans h.le b.size,h.kept.grown b (fun g a=>by
  rcases h.own.2 with ⟨rfl,r⟩|⟨f,cap,p,rfl,q,c,o,m,j,d⟩
  ·cases a
  ·have:f=g:=by simpa [Value.ownBlock] using a
   subst this
   exact⟨_,_,c⟩)⟩
theorem iR.shape(h:iR B w0 w v l):∃a N c,v=Zs a N c:=by
 rcases h.own.2 with ⟨rfl,m⟩|⟨g,cap,e,rfl,j,k,d,i,f,b⟩;·exact⟨_,_,_,rfl⟩
 ·exact⟨_,_,_,rfl⟩
theorem Tryz.info_byte:(prog.info? 5).map (fun i=>(i.zero,i.size,i.bytes))=some (some (Zi .u8 0),1,1):=by kernel_rfl
theorem fU (k:o.guard=none) (s x:Operand)
  (z:o.op=.call { callee:=.builtin .append,args:=#[s,x],argTypes:=#[156,156] })
  (B:Nat) (v:Zv) (l:List UInt8) (C:a.eval s=v) (w w0:Zw) (c:Int) (d:UInt8) (n:c=(d.toNat:Int)) (D:iR B w w0 v l)
  (A:a.eval x=Zs (some ⟨w0.heap.size,0,none⟩) 1 1) (t:l.length<=1000000)
  (h:∀g f,iR B w f g (l++[d])->wpList prog ops Q rest (a.put o.dst g) f):wpList prog ops Q (o :: rest) a (w0.alloc (.cells #[Zi .u8 c] 5)):=by
 subst n;have b:=D.alloc (.cells #[Zi .u8 (d.toNat:Int)] 5);obtain⟨i0,hi,q,m,p⟩:=info_parts Tryz.info_byte;refine wpList_append_own _ k s x 156 z B 5 i0 (Zi .u8 0) 1 1 underlying156 hi q m p rfl zC v _ _ C b.own ⟨w0.heap.size,0,none⟩ 1 1 [Zi .u8 (d.toNat:Int)] A rfl ?_ ?_ (by unfold maxLen;omega) om b.le ?_
 ·intro j u e;match j,e with
  | 0,e=>simp at e;subst e;simp[Addr.add]
  | (j+1),e=>simp at e
 ·intro u r;simp at r;subst r;rfl
 ·intro g f i y _;refine h g f (b.grown ?_ y);simpa [Lib.byteCells] using i
theorem gO (f:o.guard=none) (sl x:Operand) (u:TypeId)
  (r:o.op=.call { callee:=.builtin .append,args:=#[sl,x],argTypes:=#[156,u] }) (p:prog.underlying u=some .string)
  (B:Nat) (v:Zv) (l:List UInt8) (y:a.eval sl=v) (n:Zw) (j:iR B n w v l) (s:ByteArray) (t:a.eval x=Zt s) (m:l.length+s.size<=1000000)
  (h:∀c b,iR B n b c (l++s.data.toList)->wpList prog ops Q rest (a.put o.dst c) b):wpList prog ops Q (o :: rest) a w:=by obtain⟨i0,hi,k,g,i⟩:=info_parts Tryz.info_byte;refine Lib.wpList_append_own_string w f sl x 156 u r B 5 i0 underlying156 p hi k g i v _ _ y j.own s t (by unfold maxLen;omega) om j.le ?_;intro c b d q _;refine h c b (j.grown ?_ q);have e:(l++s.data.toList).length=l.length+s.size:=zS;rw[e,Lib.byteCells_append,<- Lib.strCells_eq];exact d
theorem kV(B:Nat)(w0 w:Zw)(v:Zv)(l:List UInt8)(a:iR B w0 w v l)(e:l≠[]):(convert 156 9 v).run prog w=.ok (Zt (bs l)) w:=by
 rcases a.own.2 with ⟨rfl,d⟩|⟨g,cap,c,rfl,-,-,-,-,-,-⟩;·exact absurd (List.eq_nil_of_length_eq_zero d) e
 ·exact run_convert_bytes_back (P:=prog) w 156 9 5 ⟨g,0,none⟩ cap l underlying156 underlying5 underlying9 (fun j b=>a.own.cells (g:=g) rfl j _ (by simp[Lib.byteCells,b]))
theorem iR.drew(h:iR B w0 w v l):iR B w0 w.drew v l:=⟨h.own.drew,h.below.drew,h.le,h.kept.drew⟩
theorem uz {K:Act->Zw->Prop} {E:Prop} (i:o.guard=none) (s x:Operand)
  (A:o.op=.call { callee:=.builtin .append,args:=#[s,x],argTypes:=#[156,156] })
  (B:Nat) (v:Zv) (l:List UInt8) (D:a.eval s=v) (t:Zw) (d:UInt8) (n:iR B t w v l) (N:Nat)
  (C:a.eval x=Zs (some ⟨N,0,none⟩) 1 1) (b:w.cell? ⟨N,0,none⟩=some (Zi .u8 (d.toNat:Int))) (r:l.length<=1000000)
  (h:∀f e,iR B t e f (l++[d])->K (a.put o.dst f) e):if Region.wanted o (yielded ops a.tmps)=true then Oper.wp prog o a w K Q else E:=by
 have y:Region.wanted o (yielded ops a.tmps)=true:=by simp[Region.wanted,i]
 rw[if_pos y];obtain⟨i0,hi,p,k,m⟩:=info_parts Tryz.info_byte;refine wp_append_own w s x 156 A B 5 i0 (Zi .u8 0) 1 1 underlying156 hi p k m rfl zC v _ _ D n.own ⟨N,0,none⟩ 1 1 [Zi .u8 (d.toNat:Int)] C rfl ?_ ?_ (by unfold maxLen;omega) om n.le ?_
 ·intro j u c;match j,c with
  | 0,c=>simp at c;subst c;exact b
  | (j+1),c=>simp at c
 ·intro u q;simp at q;subst q;rfl
 ·intro f e g z _;refine h f e (n.grown ?_ z);simpa [Lib.byteCells] using g
theorem G0 (B:Nat) (w0 w:Zw) (v:Zv) (l:List UInt8) (i:Int) (m : -9223372036854775808<=i) (k:i<=9223372036854775807) (d:iR B w0 w v l) (j:l.length<=1000000)
  (f:Lib.TabBelow prog B w "internal/strconv.uint64pow10" .u64 Lib.pow10Tab) :
  Calls prog 231 #[v,Zi .i64 i,Zi .i64 10] w fun e h=>∃g,e=Zr g/\iR B w0 h g (l++Lib.itoa i):=by refine (Tryz.strconv_AppendInt_10 B l.length i m k v (Lib.byteCells l) w d.own d.le om f).mono ?_;rintro e h ⟨g,rfl,c,a,b⟩;refine⟨g,rfl,?_,d.below.trans a,Nat.le_trans d.le a.size,d.kept.trans b⟩;rw[Zx,Lib.byteCells_append];exact c
set_option maxRecDepth 100000
set_option maxHeartbeats 16000000
def qo (B:Nat) (w:Zw):Prop:=Lib.TabBelow prog B w "internal/strconv.uint64pow10" .u64 Lib.pow10Tab
def oF(n:Nat):Prop:=∀(B:Nat)(w0 w:Zw)(v:Zv)(l:List UInt8)(t:T n)(a:Zv)(d:Int),iR B w0 w v l->iG (fun b=>b<B) w n t a->ia n t d=true->fJ n t<=120->l.length+(gw n t).length<=20000->qo B w ->
 Calls prog 212 #[v,a] w fun e f=>∃c,e=Zr c/\iR B w0 f c (l++gw n t)
theorem qo.on(h:qo B w)(a:Below B w w'):qo B w':=Lib.TabBelow.on h a
theorem jh(h:iR B w0 w v l)(e:l=l'):iR B w0 w v l':=e ▸ h
theorem tC (n:Nat) (hn:oF n) (B:Nat) (w0 w:Zw) (v:Zv) (l:List UInt8) (g:List (T n)) (Z:Zv) (d:Int) (S:iR B w0 w v l) (hr:lx (fun b=>b<B) w (iG (fun b=>b<B) w n) g Z)
  (hg:g.all (fun x=>ia n x d)=true) (hc:1+b5 (fun x=>fJ n x) g<=120) (hl:l.length+(fS (g.map (gw n))).length+2<=20000) (hT:qo B w) :
  Calls prog 233 #[v,Z] w fun e w'=>∃X,e=Zr X/\iR B w0 w' X (l++(91 :: fS (g.map (gw n))++[93])):=by
 obtain⟨ao,cap,rfl,L,p⟩:=hr;unfold maxLen at L;obtain⟨va,vn,Y,rfl⟩:=S.shape;have HG:Hid (∀k (h:k<g.length),ia n g[k] d=true/\fJ n g[k]<=120):=fun k h=>by refine⟨List.all_eq_true.1 hg _ (Zg h),?_⟩;have:=gX (fun x=>fJ n x) g _ (Zg h);omega
 have u:Hid (∀k,(fS ((g.map (gw n)).take k)).length<=(fS (g.map (gw n))).length):=fun k=>jj _ k;have R:Hid (iR B w0 w (Zs va vn Y) l):=S;clear hg;go_in;go_wp2_with (at_builtin;refine fU rfl (.tmp 7) (.tmp 8) rfl B (Zs va vn Y) l rfl w w 91 91 rfl S.here rfl om ?_;intro v1 w1 N;obtain⟨ab,aa,ac,rfl⟩:=N.shape;refine Hid.out ?_);refine Lib.hid ?_;go_wp2;go_loopw [0,12] (fun a i wr=>∃k:Nat,k<=g.length/\i=Zi .i64 k/\iR B w wr a (l++[91]++fS ((g.map (gw n)).take k))) (fun _ i _=>g.length-(intOf i).toNat);case atStart=>exact⟨0,Nat.zero_le _,rfl,jh N (by simp[fS])⟩
 case round=>
  obtain⟨k,hk,rfl,q⟩:=hrel;obtain⟨z,y,A,rfl⟩:=q.shape;have ai:=u.out k;by_cases r:k<g.length
  ·obtain⟨b,off,rfl,Q,F⟩:=p (by intro h;rw[h]at r;simp at r);obtain⟨c,V,C⟩:=F k r;obtain⟨ku,kx,rfl⟩:=C.iface;have f0:=kC q.below V Q;have t:=HG.out k r;have I:k<(g.map (gw n)).length:=by simpa using r
   have O:Hid (fS ((g.map (gw n)).take (k+1))=(if k=0 then [] else fS ((g.map (gw n)).take k)++[44])++gw n g[k]):=by show _=_;rw[iB _ _ I];simp
   have H:Hid (∀W,Below B w W->iG (fun b=>b<B) W n g[k] (.iface ku kx)):=fun W hW=>C.keep (a6 hW (fun _ h=>h)) (fun _ h=>h);clear p F V C I;have j:Hid _:=q;clear q;rcases Nat.eq_zero_or_pos k with rfl|af
   ·rw[Nat.add_zero]at f0;go_wp2_with fail;refine (hn B w wr _ _ g[0] _ d j.out (H.out _ j.out.below) t.1 t.2 (by have K:=u.out (0+1);rw[O.out]at K;simp[fS]at K ⊢;omega) (hT.on j.out.below)).mono ?_;rintro e w2 ⟨v2,rfl,m⟩;obtain⟨M,E,G,rfl⟩:=m.shape;have D:=jh m (l':=l++[91]++fS ((g.map (gw n)).take (0+1))) (by rw[O.out];simp[fS]);have P:Hid _:=D;clear m f0 D;go_wp2;go_roundw;case rel=>exact⟨0+1,om,by go_num,P.out⟩
    case measure=>simp[intOf];omega
   ·have ag:decide ((0:Int)<(k:Int))=true:=decide_eq_true om;go_wp2_with (at_builtin;refine fU rfl (.tmp 19) (.tmp 20) rfl B (Zs z y A) _ rfl w wr 44 44 rfl j.out rfl zE ?_;intro v3 U o;obtain⟨M,E,G,rfl⟩:=o.shape;refine Hid.out ?_);refine Lib.hid ?_;have s:Hid _:=o;clear o;go_wp2_with fail;refine (hn B w U _ _ g[k] _ d s.out (H.out _ s.out.below) t.1 t.2 (by have K:=u.out (k+1);rw[O.out,if_neg om]at K;simp at K ⊢;omega) (hT.on s.out.below)).mono ?_;rintro e w2 ⟨v2,rfl,m⟩;obtain⟨ae,ah,ad,rfl⟩:=m.shape;have D:Hid _:=jh m (l':=l++[91]++fS ((g.map (gw n)).take (k+1))) (by rw[O.out,if_neg om];simp);clear m f0 s j;go_wp2;go_roundw;case rel=>exact⟨k+1,om,by go_num,D.out⟩
    case measure=>simp[intOf];omega
  ·have J:k=g.length:=by omega
   have j:Hid (iR B w wr (Zs z y A) (l++[91]++fS (g.map (gw n)))):=jh q (by rw[J,<- List.length_map (f:=gw n),List.take_length]);clear p q J;go_wp2_with (at_builtin;refine fU rfl (.tmp 26) (.tmp 27) rfl B (Zs z y A) _ rfl w wr 93 93 rfl j.out rfl zE ?_;intro v3 U o;obtain⟨M,E,G,rfl⟩:=o.shape;refine Hid.out ?_);refine Lib.hid ?_;have D:Hid _:=jh (o.from R.out) (l':=l++(91 :: fS (g.map (gw n))++[93])) zS;clear o j;go_wp2;go_ret;exact⟨_,rfl,D.out⟩
theorem rI (n:Nat) (S:oF n) (B:Nat) (w0 w:Zw) (v:Zv) (l:List UInt8) (q:List (T n)) (R:Zv) (d:Int) (o:iR B w0 w v l) (hr:lx (fun b=>b<B) w (iG (fun b=>b<B) w n) q R)
  (C:q.all (fun x=>ia n x d)=true) (L:1+b5 (fun x=>fJ n x) q<=120) (Q:l.length+(mf (gw n) q).length<=20000) (K:qo B w) :
  Calls prog 235 #[v,R] w fun e I=>∃s,e=Zr s/\iR B w0 I s (l++mf (gw n) q):=by
 obtain⟨ao,cap,rfl,i,f⟩:=hr;unfold maxLen at i;obtain⟨y,A,z,rfl⟩:=o.shape;cases q with
 | nil=>rw[List.length_nil];simp only[mf,Zy,List.length_nil]at Q;go_in;go_wp2_with (at_builtin;refine fU rfl (.tmp 8) (.tmp 9) rfl B (Zs y A z) l rfl w0 w 126 126 rfl o rfl om ?_;intro p w1 a;obtain⟨E,D,F,rfl⟩:=a.shape;refine Hid.out ?_);refine Lib.hid ?_;have J:Hid _:=a;clear a o;go_wp2;go_ret;exact⟨_,rfl,J.out⟩
 | cons k r=>
  obtain⟨b,off,rfl,t,u⟩:=f zS;obtain⟨c,M,g⟩:=u 0 zS;rw[Nat.add_zero]at M;rw[List.getElem_cons_zero]at g;obtain⟨O,P,rfl⟩:=g.iface;rw[Zy]at i ⊢;have U:(((r.length:Nat):Int)+1==0)=false:=zE;simp only[mf,Zy]at Q;simp only[List.all_cons,Zq]at C;simp only[b5]at L;have V:=o.le;have N:Hid (iR B w w (Zs y A z) l):=o.here;have H:Hid (iR B w0 w (Zs y A z) l):=o;have HC:Hid (∀(W:Zw)(p:Zv),iR B w W p (l++[63])->Calls prog 212 #[p,.iface O P] W fun e I=>∃s,e=Zr s/\iR B w I s (l++[63]++gw n k)):=fun W p G=>S B w W p _ k _ d G (g.keep (a6 G.below (fun _ h=>h)) (fun _ h=>h)) C.1 om zE (K.on G.below);have m:Hid (∀W,Below B w W->W.cell? ⟨b,off,none⟩=some (.iface O P)):=fun W Y=>kC Y M t;clear f u g S K C L o;have aa:b<w.heap.size:=by have:b<B:=t;omega
  go_in;go_wp2_with fail;go_region_law (first
   | (refine uz rfl (.tmp 11) (.tmp 12) rfl B (Zs y A z) l rfl w 63 (by first|exact (N.out.alloc _).drew|exact N.out.drew.alloc _) w.heap.size rfl (by simp[go_sem]) om ?_;intro p w1 a;obtain⟨E,D,F,rfl⟩:=a.shape;have ac:=m.out _ a.below)
   | (go_simp;go_at_call 212;refine (HC.out _ _ (by first|assumption|exact iR.drew (by assumption))).mono ?_;rintro e w2 ⟨v2,rfl,j⟩;obtain⟨X,ab,Z,rfl⟩:=j.shape))
  all_goals
   have HF:Hid _:=jh (j.from H.out) (l':=l++mf (gw n) (k :: r)) (by simp[mf])
   clear j
   go_wp2
   go_ret
   exact⟨_,rfl,HF.out⟩
theorem sr (n:Nat) (hn:oF n) (B:Nat) (w0 w:Zw) (v:Zv) (l:List UInt8) (g:List ByteArray) (nv:Zv) (f:List (T n)) (kv:Zv) (d:Int) (hN:fL (fun b=>b<B) w g nv) (ae:g.length=f.length) (ak:∀ s,s∈g->s.size<=8)
  (hb:iR B w0 w v l) (hr:lx (fun b=>b<B) w (iG (fun b=>b<B) w n) f kv)
  (hg:f.all (fun x=>ia n x d)=true) (hc:1+b5 (fun x=>fJ n x) f<=120) (hl:l.length+(fS (gq g (f.map (gw n)))).length+2<=20000) (hT:qo B w) :
  Calls prog 234 #[v,nv,kv,.func (.func 212) #[] #[]] w fun e w'=>∃v',e=Zr v' /\ iR B w0 w' v' (l++(123 :: fS (gq g (f.map (gw n)))++[125])):=by
 obtain⟨ao,cap,rfl,aa,y⟩:=hr;obtain⟨no,ar,rfl,-,-,j⟩:=hN;unfold maxLen at aa;obtain⟨va,vn,vc,rfl⟩:=hb.shape;have av:=hb.le;have HG:Hid (∀k (h:k<f.length),ia n f[k] d=true/\fJ n f[k]<=120):=fun k h=>by refine⟨List.all_eq_true.1 hg _ (Zg h),?_⟩;have:=gX (fun x=>fJ n x) f _ (Zg h);omega
 have H:Hid (∀k,(fS ((gq g (f.map (gw n))).take k)).length<=(fS (gq g (f.map (gw n)))).length):=fun k=>jj _ k;have P:Hid (g.length=f.length):=ae;have ab:Hid (iR B w0 w (Zs va vn vc) l):=hb;clear hg ae;go_in;go_wp2_with (at_builtin;refine fU rfl (.tmp 11) (.tmp 12) rfl B (Zs va vn vc) l rfl w w 123 123 rfl ab.out.here rfl om ?_;intro v1 w1 Q;obtain⟨aw,au,ax,rfl⟩:=Q.shape;refine Hid.out ?_);refine Lib.hid ?_;have X:Hid _:=Q;clear Q;go_wp2;go_loopw [0,16] (fun a i wr=>∃k:Nat,k<=f.length/\i=Zi .i64 k/\iR B w wr a (l++[123]++fS ((gq g (f.map (gw n))).take k))) (fun _ i _=>f.length-(intOf i).toNat);case atStart=>exact⟨0,Nat.zero_le _,rfl,jh X.out (by simp[fS])⟩
 case round=>
  obtain⟨k,hk,rfl,z⟩:=hrel;obtain⟨E,D,F,rfl⟩:=z.shape;have aA:=H.out k;clear X;by_cases r:k<f.length
  ·obtain⟨b,off,rfl,ai,U⟩:=y (by intro h;rw[h]at r;simp at r);obtain⟨c,e0,O⟩:=U k r;obtain⟨ku,kx,rfl⟩:=O.iface;have f0:=kC z.below e0 ai;have G:=HG.out k r;have C:k<g.length:=by rw[P.out];exact r
   obtain⟨nb,R,rfl,af,ad⟩:=j (by intro h;rw[h]at C;simp at C);have aq:=ak g[k] (Zg C);have I:Hid (∀W,Below B w W->W.cell? ⟨nb,R+k,none⟩=some (Zt g[k])):=fun W hW=>kC hW (ad k C) af;have M:k<(gq g (f.map (gw n))).length:=by rw[ix _ _ (by simpa using P.out)];simpa using r
   have HS:Hid (fS ((gq g (f.map (gw n))).take (k+1))=(if k=0 then [] else fS ((gq g (f.map (gw n))).take k)++[44])++(g[k].data.toList++58 :: gw n f[k])):=by show _=_;rw[iB _ _ M,pC g (f.map (gw n)) k C (by simpa using r) M,List.getElem_map]
   have Y:Hid (∀W,Below B w W->iG (fun b=>b<B) W n f[k] (.iface ku kx)):=fun W hW=>O.keep (a6 hW (fun _ h=>h)) (fun _ h=>h);have ap:g[k].data.toList.length=g[k].size:=zS;clear y U e0 O M j ad;have q:Hid _:=z;clear z;rcases Nat.eq_zero_or_pos k with rfl|az
   ·rw[Nat.add_zero]at f0;rw[Nat.add_zero]at I;generalize g[0]=nm at *;have N:Hid _:=q.out;have q0:=I.out _ N.out.below;go_wp2_with (at_builtin;refine gO rfl (.tmp 26) (.tmp 30) 9 rfl underlying9 B (Zs E D F) _ rfl w N.out nm rfl (by simp[fS];omega) ?_;intro v5 w5 o;obtain⟨L,J,K,rfl⟩:=o.shape;refine Hid.out ?_);refine Lib.hid ?_;have A:Hid _:=o;clear o N q0 q f0;go_wp2_with (at_builtin;refine fU rfl (.tmp 32) (.tmp 33) rfl B (Zs L J K) _ rfl w w5 58 58 rfl A.out rfl (by simp[fS];omega) ?_;intro v6 w6 t;obtain⟨an,ag,al,rfl⟩:=t.shape;refine Hid.out ?_);refine Lib.hid ?_;have m:Hid _:=t;clear t A;go_wp2_with fail;refine (hn B w w6 _ _ f[0] _ d m.out (Y.out _ m.out.below) G.1 G.2 (by have h1:=H.out (0+1);rw[HS.out]at h1;simp[fS]at h1 ⊢;omega) (hT.on m.out.below)).mono ?_;rintro e w7 ⟨v7,rfl,p⟩;obtain⟨aj,am,ah,rfl⟩:=p.shape;have HF:Hid _:=jh p (l':=l++[123]++fS ((gq g (f.map (gw n))).take (0+1))) (by rw[HS.out];simp[fS]);clear p m;go_wp2;go_roundw;case rel=>exact⟨0+1,om,by go_num,HF.out⟩
    case measure=>simp[intOf];omega
   ·have ay:decide ((0:Int)<(k:Int))=true:=decide_eq_true om;generalize g[k]=nm at *;go_wp2_with (at_builtin;refine fU rfl (.tmp 23) (.tmp 24) rfl B (Zs E D F) _ rfl w wr 44 44 rfl q.out rfl zE ?_;intro v3 w3 u;obtain⟨ac,S,V,rfl⟩:=u.shape;refine Hid.out ?_);refine Lib.hid ?_;have N:Hid _:=u;clear u;have q0:=I.out _ N.out.below;go_wp2_with (at_builtin;refine gO rfl (.tmp 26) (.tmp 30) 9 rfl underlying9 B (Zs ac S V) _ rfl w N.out nm rfl zE ?_;intro v5 w5 o;obtain⟨L,J,K,rfl⟩:=o.shape;refine Hid.out ?_);refine Lib.hid ?_;have A:Hid _:=o;clear o N q0 q f0;go_wp2_with (at_builtin;refine fU rfl (.tmp 32) (.tmp 33) rfl B (Zs L J K) _ rfl w w5 58 58 rfl A.out rfl zE ?_;intro v6 w6 t;obtain⟨an,ag,al,rfl⟩:=t.shape;refine Hid.out ?_);refine Lib.hid ?_;have m:Hid _:=t;clear t A;go_wp2_with fail;refine (hn B w w6 _ _ f[k] _ d m.out (Y.out _ m.out.below) G.1 G.2 (by have h1:=H.out (k+1);rw[HS.out,if_neg om]at h1;simp at h1 ⊢;omega) (hT.on m.out.below)).mono ?_;rintro e w7 ⟨v7,rfl,p⟩;obtain⟨aj,am,ah,rfl⟩:=p.shape;have HF:Hid _:=jh p (l':=l++[123]++fS ((gq g (f.map (gw n))).take (k+1))) (by rw[HS.out,if_neg om];simp);clear p m;go_wp2;go_roundw;case rel=>exact⟨k+1,om,by go_num,HF.out⟩
    case measure=>simp[intOf];omega
  ·have Z:k=f.length:=by omega
   have q:Hid (iR B w wr (Zs E D F) (l++[123]++fS (gq g (f.map (gw n))))):=jh z (by
    have e:f.length=(gq g (f.map (gw n))).length:=by rw[ix _ _ (by simpa using P.out)];simp
    rw[Z,e,List.take_length])
   clear y z Z j;go_wp2_with (at_builtin;refine fU rfl (.tmp 40) (.tmp 41) rfl B (Zs E D F) _ rfl w wr 125 125 rfl q.out rfl zE ?_;intro v3 w3 u;obtain⟨ac,S,V,rfl⟩:=u.shape;refine Hid.out ?_);refine Lib.hid ?_;have HF:Hid _:=jh (u.from ab.out) (l':=l++(123 :: fS (gq g (f.map (gw n)))++[125])) zS;clear u q;go_wp2;go_ret;exact⟨_,rfl,HF.out⟩
theorem tv (B:Nat) (w0 w:Zw) (v:Zv) (l:List UInt8) (x:Int) (b:iR B w0 w v l) (s : -999999999<=x) (n:x<=999999999) (q:l.length<=20000) (f:qo B w) :
  Calls prog 212 #[v,.iface 299 (Zi .i64 x)] w fun e j=>∃g,e=Zr g/\iR B w0 j g (l++Lib.itoa x):=by have h:=Tryz.yes_num;obtain⟨o,r,p,rfl⟩:=b.shape;have d:Hid (Calls prog 231 _ w _):=G0 B w0 w _ l x om om b om f;clear b f;go_in;go_wp2_with fail;refine d.out.mono ?_;rintro e w1 ⟨t,rfl,a⟩;obtain⟨k,i,m,rfl⟩:=a.shape;have c:Hid _:=a;clear a d;go_wp2;go_ret;exact⟨_,rfl,c.out⟩
theorem rD (B:Nat) (w0 w:Zw) (v:Zv) (l:List UInt8) (x:ByteArray) (o:iR B w0 w v l) (H:x.size<=60) (J:l.length<=20000) :
  Calls prog 212 #[v,.iface 301 (Zt x)] w fun e F=>∃q,e=Zr q/\iR B w0 F q (l++(34 :: x.data.toList++[34])):=by have p:=Tryz.no_num_text;have s:=Tryz.yes_text;obtain⟨z,C,A,rfl⟩:=o.shape;have y:x.data.toList.length=x.size:=zS;have r:Hid _:=o;clear o;go_in;go_wp2_with (at_builtin;refine fU rfl (.tmp 21) (.tmp 22) rfl B (Zs z C A) _ rfl w0 w 34 34 rfl r.out rfl om ?_;intro I w1 c;obtain⟨i,g,j,rfl⟩:=c.shape;refine Hid.out ?_);refine Lib.hid ?_;have f:Hid _:=c;clear c r;go_wp2_with (at_builtin;refine gO rfl (.tmp 24) (.tmp 25) 301 rfl underlying301 B (Zs i g j) _ rfl w0 f.out x rfl zE ?_;intro v2 u a;obtain⟨h,m,k,rfl⟩:=a.shape;refine Hid.out ?_);refine Lib.hid ?_;have d:Hid _:=a;clear a f;go_wp2_with (at_builtin;refine fU rfl (.tmp 27) (.tmp 28) rfl B (Zs h m k) _ rfl w0 u 34 34 rfl d.out rfl zE ?_;intro v3 G b;obtain⟨D,t,E,rfl⟩:=b.shape;refine Hid.out ?_);refine Lib.hid ?_;have n:Hid _:=jh b (l':=l++(34 :: x.data.toList++[34])) zS;clear b d;go_wp2;go_ret;exact⟨_,rfl,n.out⟩
theorem vH(x:Bool)(w:Zw):Calls prog 232 #[.bool x] w fun e a=>e=Zr (Zt (bs (if x=true then [121,101,115] else [110,111])))/\w=a:=by
 cases x
 all_goals
  go_in
  go_wp2
  go_ret
  exact⟨rfl,rfl⟩
theorem rM (B:Nat) (w0 w:Zw) (v:Zv) (l:List UInt8) (x:Bool) (d:iR B w0 w v l) (D:l.length<=20000) :
  Calls prog 212 #[v,.iface 302 (.bool x)] w fun e g=>∃o,e=Zr o/\iR B w0 g o (l++(if x=true then [121,101,115] else [110,111])):=by
 have n:=Tryz.no_num_flag;have i:=Tryz.no_text_flag;have q:=Tryz.yes_flag;obtain⟨j,m,k,rfl⟩:=d.shape;have p:Hid _:=d;have h:(if x=true then [121,101,115] else [110,111]:List UInt8).length<=3:=by split<;>simp
 have s:Hid (∀u:List UInt8,u=(if x=true then [121,101,115] else [110,111])->iR B w0 w (Zs j m k) l):=fun _ _=>d;obtain⟨a,c⟩:∃a:List UInt8,a=(if x=true then [121,101,115] else [110,111]):=⟨_,rfl⟩;rw[<- c]at h ⊢;have r:Hid (Calls prog 232 #[.bool x] w fun e g=>e=Zr (Zt (bs a))/\w=g):=by rw[c];exact vH x w
 have y:(bs a).size=a.length:=go a;have A:(bs a).data.toList=a:=jv a;clear d c s;go_in;go_wp2_with fail;refine r.out.mono ?_;rintro e w1 ⟨rfl,rfl⟩;go_wp2_with (at_builtin;refine gO rfl (.tmp 33) (.tmp 35) 9 rfl underlying9 B (Zs j m k) _ rfl w0 p.out (bs a) rfl om ?_;intro v2 E b;obtain⟨z,t,C,rfl⟩:=b.shape;refine Hid.out ?_);refine Lib.hid ?_;have f:Hid _:=jh b (l':=l++a) (by rw[jv]);clear b p;go_wp2;go_ret;exact⟨_,rfl,f.out⟩
theorem rC (B:Nat) (w0 w:Zw) (v:Zv) (l r:List UInt8) (f:Option Addr) (j i:Nat) (m:iR B w0 w v l) (g:Hid (Calls prog 233 #[v,Zs f j i] w fun e c=>∃ b,e=Zr b/\iR B w0 c b r)) :
  Calls prog 212 #[v,.iface 305 (Zs f j i)] w fun e c=>∃b,e=Zr b/\iR B w0 c b r:=by have k:=Tryz.no_num_list;have h:=Tryz.no_text_list;have n:=Tryz.no_flag_list;have o:=Tryz.yes_list;obtain⟨t,x,u,rfl⟩:=m.shape;clear m;go_in;go_wp2_with fail;refine g.out.mono ?_;rintro e w1 ⟨y,rfl,a⟩;obtain⟨q,p,s,rfl⟩:=a.shape;have d:Hid _:=a;clear a g;go_wp2;go_ret;exact⟨_,rfl,d.out⟩
theorem rF (B:Nat) (w0 w:Zw) (v:Zv) (l r:List UInt8) (na c:Option Addr) (f i g d:Nat) (p:iR B w0 w v l)
  (k:Hid (Calls prog 234 #[v,Zs na f i,Zs c g d,.func (.func 212) #[] #[]] (w.alloc (.cells #[Zs na f i,Zs c g d] 308)) fun e h=>∃b,e=Zr b/\iR B w0 h b r)) :
  Calls prog 212 #[v,.iface 308 (.agg #[Zs na f i,Zs c g d])] w fun e h=>∃b,e=Zr b/\iR B w0 h b r:=by have o:=Tryz.no_num_form;have n:=Tryz.no_text_form;have q:=Tryz.no_flag_form;have m:=Tryz.no_list_form;have s:=Tryz.yes_form;obtain⟨y,A,z,rfl⟩:=p.shape;clear p;go_in;go_wp2_with fail;refine k.out.mono ?_;rintro e w1 ⟨C,rfl,a⟩;obtain⟨u,t,x,rfl⟩:=a.shape;have j:Hid _:=a;clear a k;go_wp2;go_ret;exact⟨_,rfl,j.out⟩
theorem qA (B:Nat) (w0 w:Zw) (v:Zv) (l r:List UInt8) (f:Option Addr) (k j:Nat) (n:iR B w0 w v l) (g:Hid (Calls prog 235 #[v,Zs f k j] w fun e c=>∃ b,e=Zr b/\iR B w0 c b r)) :
  Calls prog 212 #[v,.iface 310 (Zs f k j)] w fun e c=>∃b,e=Zr b/\iR B w0 c b r:=by have m:=Tryz.no_num_maybe;have i:=Tryz.no_text_maybe;have o:=Tryz.no_flag_maybe;have h:=Tryz.no_list_maybe;have q:=Tryz.no_form_maybe;have p:=Tryz.yes_maybe;obtain⟨x,z,y,rfl⟩:=n.shape;clear n;go_in;go_wp2_with fail;refine g.out.mono ?_;rintro e w1 ⟨A,rfl,a⟩;obtain⟨t,s,u,rfl⟩:=a.shape;have d:Hid _:=a;clear a g;go_wp2;go_ret;exact⟨_,rfl,d.out⟩
theorem FZ(n:Nat)(q:oF n):oF (n+1):=by
 intro B w0 w v l t A d e h s u f m;have b:=s;simp only[ia,Zq]at b;have a:gS (Nd.sort t) (Nd.num t) (Nd.text t) (Nd.names t) (Nd.kids t).length=true:=b.1.2;have j:1+b5 (fun x=>fJ n x) (Nd.kids t)<=120:=by simpa only[fJ] using u
 unfold gS at a;simp only[gw]at f ⊢;rcases h with ⟨c,rfl⟩|⟨c,rfl⟩|⟨c,rfl⟩|⟨c,r,rfl,i⟩|⟨c,C,r,rfl,k,i⟩|⟨c,r,rfl,i⟩;·rw[if_pos c]at a f ⊢;simp only[Zq,decide_eq_true_eq]at a;exact tv B w0 w v l _ e a.1.1.1.1 a.1.1.1.2 om m
 ·rw[if_neg om,if_pos c]at a f ⊢;simp only[Zq,kf,decide_eq_true_eq]at a;exact rD B w0 w v l _ e a.1.1.2.1 om
 ·rw[if_neg om,if_neg om,if_pos c]at f ⊢;have:=rM B w0 w v l (Nd.num t==1) e om;simpa using this
 ·rw[if_neg om,if_neg om,if_neg om,if_neg om,if_neg om]at f ⊢;obtain⟨p,o,rfl,-⟩:=id i;simp only[Zx,Zy,List.length_nil]at f;exact rC B w0 w v l _ _ _ _ e (tC n q B w0 w v l (Nd.kids t) _ (d+1) e i b.2 j om m)
 ·rw[if_neg om,if_neg om,if_neg om,if_neg om,if_pos c]at f ⊢;rw[if_neg om,if_neg om,if_neg om,if_neg om,if_pos c]at a;simp only[Zq,beq_iff_eq]at a;obtain⟨p,o,rfl,-⟩:=id i;obtain⟨na,z,rfl,-⟩:=id k;simp only[Zx,Zy,List.length_nil]at f;have g:=(Below.refl B w).alloc e.le (.cells #[Zs na (Nd.names t).length z,Zs p (Nd.kids t).length o] 308);exact rF B w0 w v l _ _ _ _ _ _ _ e (sr n q B w0 _ v l (Nd.names t) _ (Nd.kids t) _ (d+1) (k.keep (a6 g (fun _ h=>h)) (fun _ h=>h)) om (jD _ a.2) (e.alloc _)
   (i.keep (a6 g (fun _ h=>h)) (fun _ h=>h) (fun _ _ _ y=>y.keep (a6 g (fun _ h=>h)) (fun _ h=>h))) b.2 j om (m.on g))
 ·rw[if_neg om,if_neg om,if_neg om,if_pos c]at f ⊢;obtain⟨p,o,rfl,-⟩:=id i;exact qA B w0 w v l _ _ _ _ e (rI n q B w0 w v l (Nd.kids t) _ (d+1) e i b.2 j om m)
theorem sV:∀n,oF n:=by
 intro n;induction n with
 | zero=>intro B w0 w v l t b d c h;exact h.elim
 | succ n a=>exact FZ n a
theorem Hl:∀(n:Nat)(t:T n)(d:Int),ia n t d=true->gw n t≠[]:=by
 intro n t d h;cases n with
 | zero=>simp[ia]at h
 | succ n=>
  simp only[gw];by_cases c:Nd.sort t=1
  ·rw[if_pos c];intro e;have:(Lib.itoa (Nd.num t)).length=0:=by rw[e];rfl
   unfold Lib.itoa at this;split at this;·simp at this
   ·rw[Lib.decDigits_length]at this;unfold Lib.nDigits at this;split at this<;>omega
  rw[if_neg c];by_cases a:Nd.sort t=2;·rw[if_pos a];simp
  rw[if_neg a];by_cases f:Nd.sort t=3;·rw[if_pos f];split<;>simp
  rw[if_neg f];by_cases g:Nd.sort t=6;·rw[if_pos g];cases Nd.kids t<;>simp[mf]
  rw[if_neg g];by_cases b:Nd.sort t=5;·rw[if_pos b];simp
  rw[if_neg b];simp
def lr (w:Zw):Prop:=Lib.TabBelow prog w.heap.size w "internal/strconv.uint64pow10" .u64 Lib.pow10Tab
theorem lr.step(h:lr w)(a:Bw w w'):lr w':=fun b c=>h b (a.trans (c.mono a.size))
theorem uh (n:Nat) (S:Nat->Prop) (t:T n) (c0 c1 c2 c3 c4:Zv) (w:Zw) (u:gJ S w n t c0 c1 c2 c3 c4) (x:Bd S w) (y:lr w) :
  Calls prog 187 #[.agg #[c0,c1,c2,c3,c4]] w fun e I=>e=Zr (Zt (su n t))/\Bw w I:=by
 obtain⟨E,A,C,J,B,K,G,D,H,rfl,rfl,rfl,rfl,rfl⟩:=u.shape;have d:=(Below.refl w.heap.size w).alloc (Nat.le_refl _) (.cells #[Zi .i64 E,Zi .i64 A,Zt C,Zs J B K,Zs G D H] 164);have j:=u.keep (a6 d x) (fun _ h=>h);clear u;go_in;go_wp2_with fail;refine (uf n S t _ _ _ _ _ _ j (fun b i=>by have:=x b i;simp;omega)).mono ?_;rintro e w1 ⟨i,⟨a,v,rfl,m⟩|⟨a,rfl⟩⟩
 ·have q:=Hi a;have g:=b4 d zS i;have s:=i.size;simp at s;have f:iG (fun b=>b<w1.heap.size) w1 n t v:=m.keep (fun _ _=>rfl) (fun b i=>i.elim (fun h=>by have:=x b h;omega) (fun h=>h.2));obtain⟨M,N,rfl⟩:=id f.iface;have o:=mM n t 1 q.1;have k:=Hl n t 1 q.1;have F:Hid (su n t=bs (gw n t)):=by show _=_;rw[su,if_pos a]
  have p:Hid (Calls prog 212 #[Zs none 0 0,_] w1 _):=sV n w1.heap.size w1 w1 (Zs none 0 0) [] t _ 1 (iR.nil (Nat.le_refl _)) f q.1 q.2 zE (y.step g);have r:Hid (gw n t≠[]):=k;clear i a m f d j q k o;go_wp2_with fail;refine p.out.mono ?_;rintro e L ⟨v2,rfl,c⟩;rw[List.nil_append]at c;have z:=kV _ _ _ _ _ c r.out;have l:=g.trans (c.below.mono g.size);obtain⟨O,Q,P,rfl⟩:=c.shape;clear c g p;go_wp2;go_ret;exact⟨jG F.out.symm,l⟩
 ·have p:Hid (su n t=bs []/\Bw w w1):=⟨by rw[su,if_neg (by rw[a];simp)],b4 d zS i⟩;clear i a d j;go_wp2;go_ret;exact⟨jG p.out.1.symm,p.out.2⟩
end Go.Proofs.YtcfojmaccikgeaaGreatDoor
