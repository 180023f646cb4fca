import Derived.Test.YtcfojmaccikgeaaGreatDoorB11
open Go.Value renaming slice→Zs,int→Zi,string→Zt,pointer→Zp
open Go.Ending renaming returned→Zr
open Option renaming none→Zn,some→Zo
open Go renaming World→Zw,Value→Zv
open Bool renaming and_eq_true→Zq
namespace Go.Proofs.YtcfojmaccikgeaaGreatDoor
open Go.RowKit Go.Proofs.Tryz
variable {B:Nat} {w w0:Zw} {v:Zv} {l l':List UInt8} {ops:Array Oper} {rest:List Oper} {o:Oper} {a:Act} {Q:Exit->Act->Zw->Prop}
structure iV(B:Nat)(w0 w:Zw)(v:Zv)(l:List UInt8):Prop where
 own:w.ownsRow B 5 1 v l.length (Lib.byteCells l)
 below:Below B w0 w
 le:B<=w.heap.size
 kept:Lib.OthersKept 5 Zn w0 w
theorem iV.nil(h:B<=w.heap.size):iV B w w (Zs Zn 0 0) []:=⟨World.ownsRow_nil _ _ _ _,Below.refl _ _,h,Lib.OthersKept.refl _ _ _⟩
theorem iV.from{w1:Zw}{v0:Zv}{b:List UInt8}(h:iV B w1 w v l)(a:iV B w0 w1 v0 b):iV B w0 w v l:=⟨h.own,a.below.trans h.below,h.le,a.kept.trans h.kept⟩
theorem iV.here(h:iV B w0 w v l):iV B w w v l:=⟨h.own,Below.refl _ _,h.le,Lib.OthersKept.refl _ _ _⟩
theorem iV.alloc(h:iV B w0 w v l)(o:Obj):iV B w0 (w.alloc o) v l:=⟨h.own.alloc o,h.below.alloc h.le o,by have:=h.le;simp;omega,h.kept.alloc o⟩
theorem iV.grown{w':Zw}{e:Zv}(h:iV B w0 w v l)(q:w'.ownsRow B 5 1 e l'.length (Lib.byteCells l'))(b:w.grownBy w' v.ownBlock):iV B w0 w' e l':=
 ⟨q,h.below.grown b h.le (fun k o=>(h.own.lt k o).1),Nat.le_trans h.le b.size,h.kept.grown b (fun g a=>by
  rcases h.own.2 with ⟨rfl,r⟩|⟨i,cap,f,rfl,j,c,p,m,n,d⟩
  ·cases a
  ·have:i=g:=by simpa [Value.ownBlock] using a
   subst this
   exact⟨_,_,c⟩)⟩
theorem iV.shape(h:iV B w0 w v l):∃a N c,v=Zs a N c:=by
 rcases h.own.2 with ⟨rfl,k⟩|⟨g,cap,d,rfl,e,m,j,f,i,b⟩;·exact⟨_,_,_,rfl⟩
 ·exact⟨_,_,_,rfl⟩
theorem Tryz.info_byte:(prog.info? 5).map (fun i=>(i.zero,i.size,i.bytes))=Zo (Zo (Zi .u8 0),1,1):=by kernel_rfl
theorem fS (k:o.guard=Zn) (s x:Operand)
  (A:o.op=.call { callee:=.builtin .append,args:=#[s,x],argTypes:=#[156,156] })
  (B:Nat) (v:Zv) (l:List UInt8) (C:a.eval s=v) (r w0:Zw) (c:Int) (d:UInt8) (i:c=(d.toNat:Int)) (y:iV B r w0 v l)
  (D:a.eval x=Zs (Zo ⟨w0.heap.size,0,Zn⟩) 1 1) (t:l.length<=1000000)
  (h:∀f g,iV B r g f (l++[d])->wpList prog ops Q rest (a.put o.dst f) g):wpList prog ops Q (o :: rest) a (w0.alloc (.cells #[Zi .u8 c] 5)):=by
 subst i;have b:=y.alloc (.cells #[Zi .u8 (d.toNat:Int)] 5);obtain⟨i0,hi,n,p,q⟩:=info_parts Tryz.info_byte;refine wpList_append_own _ k s x 156 A B 5 i0 (Zi .u8 0) 1 1 underlying156 hi n p q rfl zC v _ _ C b.own ⟨w0.heap.size,0,Zn⟩ 1 1 [Zi .u8 (d.toNat:Int)] D rfl ?_ ?_ (by unfold maxLen;omega) om b.le ?_
 ·intro j u e;match j,e with
  | 0,e=>simp at e;subst e;simp[Addr.add]
  | (j+1),e=>simp at e
 ·intro u w;simp at w;subst w;rfl
 ·intro f g m z _;refine h f g (b.grown ?_ z);simpa [Lib.byteCells] using m
theorem gI (f:o.guard=Zn) (sl x:Operand) (u:TypeId)
  (q:o.op=.call { callee:=.builtin .append,args:=#[sl,x],argTypes:=#[156,u] }) (t:prog.underlying u=Zo .string)
  (B:Nat) (v:Zv) (l:List UInt8) (r:a.eval sl=v) (m:Zw) (d:iV B m w v l) (s:ZN) (y:a.eval x=Zt s) (n:l.length+s.size<=1000000)
  (h:∀b c,iV B m c b (l++s.data.toList)->wpList prog ops Q rest (a.put o.dst b) c):wpList prog ops Q (o :: rest) a w:=by obtain⟨i0,hi,i,j,k⟩:=info_parts Tryz.info_byte;refine Lib.wpList_append_own_string w f sl x 156 u q B 5 i0 underlying156 t hi i j k v _ _ r d.own s y (by unfold maxLen;omega) om d.le ?_;intro b c g p _;refine h b c (d.grown ?_ p);have e:(l++s.data.toList).length=l.length+s.size:=zS;rw[e,Lib.byteCells_append,<- Lib.strCells_eq];exact g
theorem kU(B:Nat)(w0 w:Zw)(v:Zv)(l:List UInt8)(a:iV B w0 w v l)(e:l≠[]):(convert 156 9 v).run prog w=.ok (Zt (bs l)) w:=by
 rcases a.own.2 with ⟨rfl,c⟩|⟨g,cap,b,rfl,-,-,-,-,-,-⟩;·exact absurd (List.eq_nil_of_length_eq_zero c) e
 ·exact run_convert_bytes_back (P:=prog) w 156 9 5 ⟨g,0,Zn⟩ cap l underlying156 underlying5 underlying9 (fun j d=>a.own.cells (g:=g) rfl j _ (by simp[Lib.byteCells,d]))
theorem iV.drew(h:iV B w0 w v l):iV B w0 w.drew v l:=⟨h.own.drew,h.below.drew,h.le,h.kept.drew⟩
theorem vd {K:Act->Zw->Prop} {E:Prop} (i:o.guard=Zn) (s x:Operand)
  (z:o.op=.call { callee:=.builtin .append,args:=#[s,x],argTypes:=#[156,156] })
  (B:Nat) (v:Zv) (l:List UInt8) (A:a.eval s=v) (q:Zw) (d:UInt8) (g:iV B q w v l) (N:Nat)
  (D:a.eval x=Zs (Zo ⟨N,0,Zn⟩) 1 1) (b:w.cell? ⟨N,0,Zn⟩=Zo (Zi .u8 (d.toNat:Int))) (r:l.length<=1000000)
  (h:∀e f,iV B q f e (l++[d])->K (a.put o.dst e) f):if Region.wanted o (yielded ops a.tmps)=true then Oper.wp prog o a w K Q else E:=by
 have C:Region.wanted o (yielded ops a.tmps)=true:=by simp[Region.wanted,i]
 rw[if_pos C];obtain⟨i0,hi,m,n,p⟩:=info_parts Tryz.info_byte;refine wp_append_own w s x 156 z B 5 i0 (Zi .u8 0) 1 1 underlying156 hi m n p rfl zC v _ _ A g.own ⟨N,0,Zn⟩ 1 1 [Zi .u8 (d.toNat:Int)] D rfl ?_ ?_ (by unfold maxLen;omega) om g.le ?_
 ·intro j u c;match j,c with
  | 0,c=>simp at c;subst c;exact b
  | (j+1),c=>simp at c
 ·intro u t;simp at t;subst t;rfl
 ·intro e f k y _;refine h e f (g.grown ?_ y);simpa [Lib.byteCells] using k
set_option maxRecDepth 100000
set_option maxHeartbeats 16000000
theorem kT(h:iV B w0 w v l)(e:l=l'):iV B w0 w v l':=e ▸ h
def mF(n:Nat):Prop:=∀(B:Nat)(w0 w:Zw)(v:Zv)(l:List UInt8)(t:K n)(a:Zv)(d:Int),iV B w0 w v l->b9 (fun b=>b<B) w n t a->fM n t d=true->fR n t<=40->l.length+(fI n t).length<=20000 ->
 Calls prog 197 #[v,a] w fun e f=>∃c,e=Zr c/\iV B w0 f c (l++fI n t)
theorem lY {N:Nat} {a b c d:Zv} {t:TypeId} (h:w.heap[N]?=Zo (.cells #[a,b,c,d] t (0,0))) :
  w.cell? ⟨N,0,Zn⟩=Zo a/\w.cell? ⟨N,1,Zn⟩=Zo b/\w.cell? ⟨N,2,Zn⟩=Zo c/\w.cell? ⟨N,3,Zn⟩=Zo d:=by refine⟨?_,?_,?_,?_⟩<;>simp[World.cell?,h]
theorem k5 (w:Zw) (b g o len cap a:Nat) (d:w.cell? ⟨b,3,Zn⟩=Zo (Zs (Zo ⟨g,o,Zn⟩) (len+1) cap)) (f:w.cell? ⟨g,o,Zn⟩=Zo (Zp (Zo ⟨a,0,Zn⟩))) (_hl:len<1000) :
  Calls prog 167 #[Zp (Zo ⟨b,0,Zn⟩)] w fun e c=>e=Zr (Zp (Zo ⟨a,0,Zn⟩))/\c=w:=by go_in;go_wp2;go_ret;exact⟨rfl,rfl⟩
theorem rN (n:Nat) (hn:mF n) (B:Nat) (w0 w:Zw) (v:Zv) (l:List UInt8) (g:List ZN) (nv:Zv) (f:List (K n)) (kv:Zv) (d:Int) (hN:fL (fun b=>b<B) w g nv) (ab:g.length=f.length) (ai:∀ s,s∈g->s.size<=8)
  (hb:iV B w0 w v l) (hr:lx (fun b=>b<B) w (b9 (fun b=>b<B) w n) f kv)
  (hg:f.all (fun x=>fM n x d)=true) (hc:1+b4 (fun x=>fR n x) f<=40) (hl:l.length+(fP (go g (f.map (fI n)))).length+2<=20000) :
  Calls prog 217 #[v,nv,kv,.func (.func 197) #[] #[]] w fun e w'=>∃v',e=Zr v' /\ iV B w0 w' v' (l++(123 :: fP (go g (f.map (fI n)))++[125])):=by
 obtain⟨ao,cap,rfl,aa,u⟩:=hr;obtain⟨no,av,rfl,-,-,j⟩:=hN;unfold maxLen at aa;obtain⟨va,vn,vc,rfl⟩:=hb.shape;have aw:=hb.le;have HG:Hid (∀k (h:k<f.length),fM n f[k] d=true/\fR n f[k]<=40):=fun k h=>by refine⟨List.all_eq_true.1 hg _ (List.getElem_mem h),?_⟩;have:=gK (fun x=>fR n x) f _ (List.getElem_mem h);omega
 have L:Hid (∀k,(fP ((go g (f.map (fI n))).take k)).length<=(fP (go g (f.map (fI n)))).length):=fun k=>jh _ k;have I:Hid (g.length=f.length):=ab;have S:=a7 hb;clear hg ab;go_in;go_wp2_with (at_builtin;refine fS rfl (.tmp 11) (.tmp 12) rfl B (Zs va vn vc) l rfl w w 123 123 rfl S.out.here rfl om ?_;intro v1 w1 M;obtain⟨aA,aC,aB,rfl⟩:=M.shape;refine Hid.out ?_);refine Lib.hid ?_;have T:Hid _:=M;clear M;go_wp2;go_loopw [0,16] (fun a i wr=>∃k:Nat,k<=f.length/\i=Zi .i64 k/\iV B w wr a (l++[123]++fP ((go g (f.map (fI n))).take k))) (fun _ i _=>f.length-(intOf i).toNat);case atStart=>exact⟨0,Nat.zero_le _,rfl,kT T.out (by simp[fP])⟩
 case round=>
  obtain⟨k,hk,rfl,z⟩:=hrel;obtain⟨E,G,F,rfl⟩:=z.shape;have az:=L.out k;clear T;by_cases y:k<f.length
  ·obtain⟨b,off,rfl,ah,Y⟩:=u (by intro h;rw[h]at y;simp at y);obtain⟨c,e0,N⟩:=Y k y;obtain⟨kb,rfl,-⟩:=id N.ptr;have f0:=kC z.below e0 ah;have D:=HG.out k y;have C:k<g.length:=by rw[I.out];exact y
   obtain⟨nb,ad,rfl,aj,ac⟩:=j (by intro h;rw[h]at C;simp at C);have ar:=ai g[k] (List.getElem_mem C);have J:Hid (∀W,Below B w W->W.cell? ⟨nb,ad+k,Zn⟩=Zo (Zt g[k])):=fun W hW=>kC hW (ac k C) aj;have O:k<(go g (f.map (fI n))).length:=by rw[iz _ _ (by simpa using I.out)];simpa using y
   have HS:Hid (fP ((go g (f.map (fI n))).take (k+1))=(if k=0 then [] else fP ((go g (f.map (fI n))).take k)++[44])++(g[k].data.toList++58 :: fI n f[k])):=by show _=_;rw[iC _ _ O,qr g (f.map (fI n)) k C (by simpa using y) O,List.getElem_map]
   have V:Hid (∀W,Below B w W->b9 (fun b=>b<B) W n f[k] (Zp (Zo ⟨kb,0,Zn⟩))):=fun W hW=>N.keep (a6 hW (fun _ h=>h)) (fun _ h=>h);have au:g[k].data.toList.length=g[k].size:=zS;clear u Y e0 N O j ac;have o:Hid _:=z;clear z;rcases Nat.eq_zero_or_pos k with rfl|ay
   ·rw[Nat.add_zero]at f0;rw[Nat.add_zero]at J;generalize g[0]=nm at *;have H:Hid _:=o.out;have q0:=J.out _ H.out.below;go_wp2_with (at_builtin;refine gI rfl (.tmp 26) (.tmp 30) 9 rfl underlying9 B (Zs E G F) _ rfl w H.out nm rfl (by simp[fP];omega) ?_;intro v5 w5 q;obtain⟨P,R,Q,rfl⟩:=q.shape;refine Hid.out ?_);refine Lib.hid ?_;have A:Hid _:=q;clear q H q0 o f0;go_wp2_with (at_builtin;refine fS rfl (.tmp 32) (.tmp 33) rfl B (Zs P R Q) _ rfl w w5 58 58 rfl A.out rfl (by simp[fP];omega) ?_;intro v6 w6 r;obtain⟨ak,ap,am,rfl⟩:=r.shape;refine Hid.out ?_);refine Lib.hid ?_;have m:Hid _:=r;clear r A;go_wp2_with fail;refine (hn B w w6 _ _ f[0] _ d m.out (V.out _ m.out.below) D.1 D.2 (by have X:=L.out (0+1);rw[HS.out]at X;simp[fP]at X ⊢;omega)).mono ?_;rintro e w7 ⟨v7,rfl,t⟩;obtain⟨al,aq,an,rfl⟩:=t.shape;have U:Hid _:=kT t (l':=l++[123]++fP ((go g (f.map (fI n))).take (0+1))) (by rw[HS.out];simp[fP]);clear t m;go_wp2;go_roundw;case rel=>exact⟨0+1,om,by go_num,U.out⟩
    case measure=>simp[intOf];omega
   ·have ax:decide ((0:Int)<(k:Int))=true:=decide_eq_true om;generalize g[k]=nm at *;go_wp2_with (at_builtin;refine fS rfl (.tmp 23) (.tmp 24) rfl B (Zs E G F) _ rfl w wr 44 44 rfl o.out rfl zE ?_;intro v3 w3 p;obtain⟨ae,ag,af,rfl⟩:=p.shape;refine Hid.out ?_);refine Lib.hid ?_;have H:Hid _:=p;clear p;have q0:=J.out _ H.out.below;go_wp2_with (at_builtin;refine gI rfl (.tmp 26) (.tmp 30) 9 rfl underlying9 B (Zs ae ag af) _ rfl w H.out nm rfl zE ?_;intro v5 w5 q;obtain⟨P,R,Q,rfl⟩:=q.shape;refine Hid.out ?_);refine Lib.hid ?_;have A:Hid _:=q;clear q H q0 o f0;go_wp2_with (at_builtin;refine fS rfl (.tmp 32) (.tmp 33) rfl B (Zs P R Q) _ rfl w w5 58 58 rfl A.out rfl zE ?_;intro v6 w6 r;obtain⟨ak,ap,am,rfl⟩:=r.shape;refine Hid.out ?_);refine Lib.hid ?_;have m:Hid _:=r;clear r A;go_wp2_with fail;refine (hn B w w6 _ _ f[k] _ d m.out (V.out _ m.out.below) D.1 D.2 (by have X:=L.out (k+1);rw[HS.out,if_neg om]at X;simp at X ⊢;omega)).mono ?_;rintro e w7 ⟨v7,rfl,t⟩;obtain⟨al,aq,an,rfl⟩:=t.shape;have U:Hid _:=kT t (l':=l++[123]++fP ((go g (f.map (fI n))).take (k+1))) (by rw[HS.out,if_neg om];simp);clear t m;go_wp2;go_roundw;case rel=>exact⟨k+1,om,by go_num,U.out⟩
    case measure=>simp[intOf];omega
  ·have Z:k=f.length:=by omega
   have o:Hid (iV B w wr (Zs E G F) (l++[123]++fP (go g (f.map (fI n))))):=kT z (by
    have e:f.length=(go g (f.map (fI n))).length:=by rw[iz _ _ (by simpa using I.out)];simp
    rw[Z,e,List.take_length])
   clear u z Z j;go_wp2_with (at_builtin;refine fS rfl (.tmp 40) (.tmp 41) rfl B (Zs E G F) _ rfl w wr 125 125 rfl o.out rfl zE ?_;intro v3 w3 p;obtain⟨ae,ag,af,rfl⟩:=p.shape;refine Hid.out ?_);refine Lib.hid ?_;have U:Hid _:=kT (p.from S.out) (l':=l++(123 :: fP (go g (f.map (fI n)))++[125])) zS;clear p o;go_wp2;go_ret;exact⟨_,rfl,U.out⟩
theorem mY (B:Nat) (w0 w:Zw) (v:Zv) (l:List UInt8) (b:Nat) (s:Int) (x:List UInt8) (m:iV B w0 w v l) (r:w.cell? ⟨b,0,Zn⟩=Zo (Zi .i64 s))
  (p:(s=1/\x=[110,117,109])∨(s=2/\x=[116,101,120,116])∨(s=3/\x=[102,108,97,103])) (t:l.length<=20000) :
  Calls prog 197 #[v,Zp (Zo ⟨b,0,Zn⟩)] w fun e q=>∃n,e=Zr n/\iV B w0 q n (l++x):=by
 obtain⟨h,j,i,rfl⟩:=m.shape;have k:Hid (iV B w0 w (Zs h j i) l):=m;clear m;rcases p with ⟨rfl,rfl⟩|⟨rfl,rfl⟩|⟨rfl,rfl⟩;·go_in;go_wp2_with (at_builtin;refine gI rfl (.tmp 11) (.const (Zt ⟨#[110,117,109]⟩)) 9 rfl underlying9 B (Zs h j i) l rfl w0 k.out ⟨#[110,117,109]⟩ rfl (by show l.length+3<=_;omega) ?_;intro v5 o a;obtain⟨d,g,f,rfl⟩:=a.shape;refine Hid.out ?_);refine Lib.hid ?_;have c:Hid _:=a;clear a;go_wp2;go_ret;exact⟨_,rfl,c.out⟩
 ·go_in;go_wp2_with (at_builtin;refine gI rfl (.tmp 15) (.const (Zt ⟨#[116,101,120,116]⟩)) 9 rfl underlying9 B (Zs h j i) l rfl w0 k.out ⟨#[116,101,120,116]⟩ rfl (by show l.length+4<=_;omega) ?_;intro v5 o a;obtain⟨d,g,f,rfl⟩:=a.shape;refine Hid.out ?_);refine Lib.hid ?_;have c:Hid _:=a;clear a;go_wp2;go_ret;exact⟨_,rfl,c.out⟩
 ·go_in;go_wp2_with (at_builtin;refine gI rfl (.tmp 19) (.const (Zt ⟨#[102,108,97,103]⟩)) 9 rfl underlying9 B (Zs h j i) l rfl w0 k.out ⟨#[102,108,97,103]⟩ rfl (by show l.length+4<=_;omega) ?_;intro v5 o a;obtain⟨d,g,f,rfl⟩:=a.shape;refine Hid.out ?_);refine Lib.hid ?_;have c:Hid _:=a;clear a;go_wp2;go_ret;exact⟨_,rfl,c.out⟩
theorem wn (n:Nat) (Q:mF n) (B:Nat) (w0 w:Zw) (v:Zv) (l:List UInt8) (b g o cap:Nat) (k:K n) (F:Zv) (d:Int) (q:iV B w0 w v l) (r:b<B) (s:g<B) (Z:w.cell? ⟨b,0,Zn⟩=Zo (Zi .i64 4))
  (D:w.cell? ⟨b,3,Zn⟩=Zo (Zs (Zo ⟨g,o,Zn⟩) (0+1) cap)) (E:w.cell? ⟨g,o,Zn⟩=Zo F) (j:b9 (fun b=>b<B) w n k F) (P:fM n k d=true) (O:fR n k<=40) (hl:l.length+(fI n k).length+2<=20000) :
  Calls prog 197 #[v,Zp (Zo ⟨b,0,Zn⟩)] w fun e z=>∃G,e=Zr G/\iV B w0 z G (l++(91 :: fI n k++[93])):=by obtain⟨H,J,I,rfl⟩:=q.shape;obtain⟨t,rfl,-⟩:=id j.ptr;have C:Hid (iV B w0 w (Zs H J I) l):=q;have N:Hid (∀W,Below B w W->Calls prog 167 #[Zp (Zo ⟨b,0,Zn⟩)] W fun e z=>e=Zr (Zp (Zo ⟨t,0,Zn⟩))/\z=W):=fun W p=>k5 W b g o 0 cap t (kC p D r) (kC p E s) om;have M:Hid (∀W,Below B w W->b9 (fun b=>b<B) W n k (Zp (Zo ⟨t,0,Zn⟩))):=fun W p=>j.keep (a6 p (fun _ h=>h)) (fun _ h=>h);clear q j D E;go_in;go_wp2_with (at_builtin;refine fS rfl (.tmp 23) (.tmp 24) rfl B (Zs H J I) l rfl w w 91 91 rfl C.out.here rfl om ?_;intro v1 w1 c;obtain⟨R,V,T,rfl⟩:=c.shape;refine Hid.out ?_);refine Lib.hid ?_;have a:Hid _:=c;clear c;go_wp2_with fail;refine (N.out _ a.out.below).mono ?_;rintro e A ⟨rfl,rfl⟩;go_wp2_with fail;refine (Q B w A _ _ k _ d a.out (M.out _ a.out.below) P O zE).mono ?_;rintro e Y ⟨v2,rfl,f⟩;obtain⟨u,y,x,rfl⟩:=f.shape;have m:Hid _:=f;clear f a;go_wp2_with (at_builtin;refine fS rfl (.tmp 28) (.tmp 29) rfl B (Zs u y x) _ rfl w Y 93 93 rfl m.out rfl zE ?_;intro v3 w3 i;obtain⟨S,X,U,rfl⟩:=i.shape;refine Hid.out ?_);refine Lib.hid ?_;have L:Hid _:=kT (i.from C.out) (l':=l++(91 :: fI n k++[93])) zS;clear i m;go_wp2;go_ret;exact⟨_,rfl,L.out⟩
theorem uA (n:Nat) (L:mF n) (B:Nat) (w0 w:Zw) (v:Zv) (l:List UInt8) (b g o cap:Nat) (k:K n) (z:Zv) (d:Int) (m:iV B w0 w v l) (p:b<B) (q:g<B) (S:w.cell? ⟨b,0,Zn⟩=Zo (Zi .i64 6))
  (x:w.cell? ⟨b,3,Zn⟩=Zo (Zs (Zo ⟨g,o,Zn⟩) (0+1) cap)) (y:w.cell? ⟨g,o,Zn⟩=Zo z) (i:b9 (fun b=>b<B) w n k z) (J:fM n k d=true) (I:fR n k<=40) (T:l.length+(fI n k).length+1<=20000) :
  Calls prog 197 #[v,Zp (Zo ⟨b,0,Zn⟩)] w fun e s=>∃A,e=Zr A/\iV B w0 s A (l++(63 :: fI n k)):=by obtain⟨C,E,D,rfl⟩:=m.shape;obtain⟨r,rfl,-⟩:=id i.ptr;have u:Hid (iV B w0 w (Zs C E D) l):=m;have H:Hid (∀W,Below B w W->Calls prog 167 #[Zp (Zo ⟨b,0,Zn⟩)] W fun e s=>e=Zr (Zp (Zo ⟨r,0,Zn⟩))/\s=W):=fun W j=>k5 W b g o 0 cap r (kC j x p) (kC j y q) om;have G:Hid (∀W,Below B w W->b9 (fun b=>b<B) W n k (Zp (Zo ⟨r,0,Zn⟩))):=fun W j=>i.keep (a6 j (fun _ h=>h)) (fun _ h=>h);clear m i x y;go_in;go_wp2_with (at_builtin;refine fS rfl (.tmp 43) (.tmp 44) rfl B (Zs C E D) l rfl w w 63 63 rfl u.out.here rfl om ?_;intro U w1 c;obtain⟨M,Q,O,rfl⟩:=c.shape;refine Hid.out ?_);refine Lib.hid ?_;have a:Hid _:=c;clear c;go_wp2_with fail;refine (H.out _ a.out.below).mono ?_;rintro e t ⟨rfl,rfl⟩;go_wp2_with fail;refine (L B w t _ _ k _ d a.out (G.out _ a.out.below) J I zE).mono ?_;rintro e V ⟨v2,rfl,f⟩;obtain⟨N,R,P,rfl⟩:=f.shape;have F:Hid _:=kT (f.from u.out) (l':=l++(63 :: fI n k)) zS;clear f a;go_wp2;go_ret;exact⟨_,rfl,F.out⟩
theorem wj (B:Nat) (w0 w:Zw) (v:Zv) (l x:List UInt8) (b:Nat) (na:ZO) (i h:Nat) (ka:ZO) (kl kc:Nat) (g:iV B w0 w v l) (p:w.cell? ⟨b,0,Zn⟩=Zo (Zi .i64 5))
  (q:w.cell? ⟨b,1,Zn⟩=Zo (Zs na i h)) (r:w.cell? ⟨b,3,Zn⟩=Zo (Zs ka kl kc))
  (f:Calls prog 217 #[v,Zs na i h,Zs ka kl kc,.func (.func 197) #[] #[]] w.drew fun e d=>∃c,e=Zr c/\iV B w0 d c (l++x)) :
  Calls prog 197 #[v,Zp (Zo ⟨b,0,Zn⟩)] w fun e d=>∃c,e=Zr c/\iV B w0 d c (l++x):=by
 obtain⟨s,u,t,rfl⟩:=g.shape;have j:Hid (Calls prog 217 _ _ _):=f;clear f g;go_in;go_wp2_with fail;go_region_with (go_at_call 217;refine j.out.mono ?_;rintro e d ⟨c,rfl,a⟩;obtain⟨m,o,n,rfl⟩:=a.shape);all_goals
  have k:Hid _:=a
  clear a
  go_wp2
  go_ret
  exact⟨_,rfl,k.out⟩
theorem CK(n:Nat)(M:mF n):mF (n+1):=by
 intro B w0 w v l t S d u h q K a;obtain⟨b,W,X,P,rfl,A,z,D,-,L⟩:=h;obtain⟨r,Q,-,N⟩:=lY z;simp only[fM,Zq]at q;have e:fX (Kd.sort t) (Kd.names t) (Kd.kids t).length=true:=q.1.2;have f:1+b4 (fun x=>fR n x) (Kd.kids t)<=40:=by simpa only[fR] using K
 unfold fX at e;simp only[fI]at a ⊢;by_cases G:Kd.sort t=1;·rw[if_pos G]at a ⊢;exact mY B w0 w v l b _ _ u r (.inl ⟨G,rfl⟩) om
 rw[if_neg G]at e a ⊢;by_cases H:Kd.sort t=2;·rw[if_pos H]at a ⊢;exact mY B w0 w v l b _ _ u r (.inr (.inl ⟨H,rfl⟩)) om
 rw[if_neg H]at e a ⊢;by_cases I:Kd.sort t=3;·rw[if_pos I]at a ⊢;exact mY B w0 w v l b _ _ u r (.inr (.inr ⟨I,rfl⟩)) om
 rw[if_neg I]at e a ⊢;by_cases E:Kd.sort t=5
 ·rw[if_neg om,if_pos E]at e;rw[if_neg om,if_neg om]at a ⊢;simp only[Zq,beq_iff_eq]at e;rw[E]at r;obtain⟨na,V,rfl,-⟩:=id D;obtain⟨T,U,rfl,-⟩:=id L;simp only[List.length_append,List.length_cons,List.length_nil]at a;exact wj B w0 w v l _ b _ _ _ _ _ _ u r Q N (rN n M B w0 w.drew v l (Kd.names t) _ (Kd.kids t) _ (d+1) (D.keep (w':=w.drew) (fun _ _=>rfl) (fun _ h=>h)) om (jO _ e.2) u.drew
   (L.keep (w':=w.drew) (fun _ _=>rfl) (fun _ h=>h) (fun _ _ _ O=>b9.keep (w:=w) (w':=w.drew) (fun _ _=>rfl) (fun _ h=>h) O)) q.2 f om)
 have s:∀C:(Kd.kids t).length=1,∃k g o cap c,Kd.kids t=[k]/\g<B/\P=Zs (Zo ⟨g,o,Zn⟩) (0+1) cap/\w.cell? ⟨g,o,Zn⟩=Zo c/\b9 (fun b=>b<B) w n k c:=by
  intro C;obtain⟨R,cap,rfl,-,p⟩:=L;match m:Kd.kids t,C with
  | [k],_=>rw[m]at p;obtain⟨g,o,rfl,i,p⟩:=p zS;obtain⟨c,K,j⟩:=p 0 zS;exact⟨k,g,o,cap,c,rfl,i,rfl,by simpa using K,by simpa using j⟩
 by_cases J:Kd.sort t=4;·rw[if_pos J]at e a ⊢;simp only[Zq,beq_iff_eq]at e;obtain⟨k,g,o,cap,c,m,i,rfl,y,j⟩:=s om;rw[J]at r;rw[m]at a q f ⊢;simp only[jb,List.length_append,List.length_cons,List.length_nil,b4,List.all_cons,Zq]at a q f ⊢;exact wn n M B w0 w v l b g o cap k c (d+1) u A i r N y j q.2.1 om om
 rw[if_neg J]at e a ⊢;by_cases F:Kd.sort t=6;·rw[if_neg E,if_pos F]at e;rw[if_pos F]at a ⊢;simp only[Zq,beq_iff_eq]at e;obtain⟨k,g,o,cap,c,m,i,rfl,y,j⟩:=s om;rw[F]at r;rw[m]at a q f ⊢;simp only[jb,List.length_cons,b4,List.all_cons,Zq]at a q f ⊢;exact uA n M B w0 w v l b g o cap k c (d+1) u A i r N y j q.2.1 om om
 ·rw[if_neg E,if_neg F]at e;cases e
theorem nP:∀n,mF n:=by
 intro n;induction n with
 | zero=>intro B w0 w v l t c d b h;exact h.elim
 | succ n a=>exact CK n a
end Go.Proofs.YtcfojmaccikgeaaGreatDoor
