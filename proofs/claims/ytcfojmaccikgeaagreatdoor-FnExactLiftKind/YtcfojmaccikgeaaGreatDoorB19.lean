import Derived.Test.YtcfojmaccikgeaaGreatDoorB11
import Derived.Test.YtcfojmaccikgeaaGreatDoorB16
import Derived.Lib.Hide
import Derived.Test.YtcfojmaccikgeaaGreatDoorB10
import Derived.Test.YtcfojmaccikgeaaGreatDoorB17
import Derived.Test.YtcfojmaccikgeaaGreatDoorB2
import Derived.Test.YtcfojmaccikgeaaGreatDoorB9
open Go.Value renaming slice→Zs,string→Zt
open Option renaming none→Zn,some→Zo
open List renaming length_append→Zx,take_succ_eq_append_getElem→ZA
namespace Go.Proofs.YtcfojmaccikgeaaGreatDoor
open Go.RowKit Go.Proofs.Tryz
set_option maxRecDepth 100000
set_option maxHeartbeats 16000000
variable {X n k m:Nat} {s:ByteArray} {nv v:Value} {w1 wr:World}
theorem Tryz.info_strO:(prog.info? 9).map (fun i=>(i.zero,i.size,i.bytes))=Zo (Zo (Zt ⟨#[]⟩),1,16):=by kernel_rfl
theorem qz(s:ByteArray)(w:World)(h:s.size<=10000):Calls prog 138 #[Zt s] w fun e b=>e=.returned (Zt s)/\Bw w b:=by have a:Hid (Calls prog 174 _ _ _):=Tryz.stringslite_Clone s w om;go_in;go_wp2_with fail;refine a.out.mono ?_;rintro e w1 ⟨rfl,c⟩;clear a;go_wp2;go_ret;exact⟨rfl,c⟩
theorem tZ (S:Nat->Prop) (l:List ByteArray) (v:Value) (w:World) (Z:fL S w l v) (V:Bd S w) (Q:l.length<=10000) (T:∀ s,s∈l->s.size<=10000) :
  Calls prog 88 #[v] w fun e R=>∃M,e=.returned M/\R.ownsRow w.heap.size 9 1 M l.length (l.map Zt)/\Bw w R:=by
 obtain⟨ao,cap,rfl,-,-,a⟩:=Z;obtain⟨i0,hi,p,r,o⟩:=info_parts Tryz.info_strO;have C:Hid (_/\_/\_/\_):=⟨hi,p,r,o⟩;have W:=a7 T;clear hi p r o T;go_in;go_wp2;go_loopw [3,8] (fun v i wr=>∃k:Nat,k<=l.length/\i=.int .i64 k/\wr.ownsRow w.heap.size 9 1 v k ((l.take k).map Zt)/\Bw w wr) (fun _ i _=>l.length-(intOf i).toNat);case atStart=>exact⟨0,Nat.zero_le _,rfl,World.ownsRow_nil _ _ _ _,Below.refl _ _⟩
 case round=>
  obtain⟨k,hk,rfl,f,c⟩:=hrel;obtain⟨F,H,rfl⟩:=mX f;have J:=c.size;have A:=a7 f;clear f;by_cases j:k<l.length
  ·obtain⟨b,off,rfl,I,B⟩:=a (by intro h;rw[h]at j;simp at j);have f0:=kC c (B k j) (V b I);have N:Hid (Calls prog 138 _ _ _):=qz l[k] wr (W.out _ (List.getElem_mem j));have U:Hid ((l.take (k+1)).map Value.string=(l.take k).map Zt++[Zt l[k]]):=by show _=_;rw[ZA j,List.map_append];rfl
   clear a B;generalize l[k]=nm at *;go_wp2_with fail;refine N.out.mono ?_;rintro e z ⟨rfl,n⟩;have P:=n.size;have u:Hid (z.ownsRow w.heap.size 9 1 (Zs F k H) k ((l.take k).map Zt)):=gg A.out (fun K E=>n.block K (fR A.out K E).2);have y:Hid (Bw w z):=c.trans (n.mono J);clear n f0 N;go_wp2_with (at_builtin;refine wpList_append_lies _ rfl (.tmp 12) (.tmp 15) 23 rfl w.heap.size 9 i0 _ 1 16 underlying23 C.out.1 C.out.2.1 C.out.2.2.1 C.out.2.2.2 rfl zC (Zs F k H) k ((l.take k).map Zt) rfl (u.out.alloc _) ⟨z.heap.size,0,Zn⟩ 1 1 [Zt nm] rfl rfl (World.news_of_block (heap_alloc_new z _)) (by simp[Value.oneCell']) zC (by unfold maxLen;omega) om zE (z.heap.size+1) zS ?_;intro g cap D m d x L;refine Hid.out ?_);refine Lib.hid ?_;have Y:Hid (D.ownsRow w.heap.size 9 1 (Zs (Zo ⟨g,0,Zn⟩) (k+1) cap) (k+1) ((l.take (k+1)).map Zt)):=by show D.ownsRow _ _ _ _ _ _;rw[U.out];exact m
   have G:Hid (Bw w D):=(y.out.alloc om (.cells #[Zt nm] 9)).grown d zE (fun q X=>(fR u.out q X).1);clear m d x u A y;go_wp2;go_roundw;case rel=>exact⟨k+1,om,by go_num,Y.out,G.out⟩
   case measure=>simp[intOf];omega
  ·have t:k=l.length:=by omega
   have HP:Hid (wr.ownsRow w.heap.size 9 1 (Zs F k H) l.length (l.map Zt)):=by have O:=A.out;rw[t,List.take_length]at O;rw[t];exact O
   clear t a A;go_wp2;go_ret;exact⟨_,rfl,HP.out,c⟩
theorem qv{α:Type}(f:α->Nat)(l:List α)(x:α):b5 f (l++[x])=b5 f l+f x:=by
 induction l with
 | nil=>simp[b5]
 | cons a r b=>simp only[List.cons_append,b5,b];omega
def qO:(n:Nat)->K n->Nat
 | 0,_=>0
 | n+1,t=>(Kd.names t).length+b5 (fun k=>1+qO n k) (Kd.kids t)
structure lT(X n:Nat)(ks:List (K n))(s:Int)(nv:Value)(w1:World)(k:Nat)(v:Value)(wr:World):Prop where
 near:b7 X w1 wr
 box:wr.heap[X]?=Zo (.cells #[.int .i64 s,nv,v] 31 (0,0))
 row:∃xs Ps,wr.ownsRow w1.heap.size 31 3 v k xs/\Ps.length=k/\pZ (fun b=>w1.heap.size<=b/\b<wr.heap.size/\v.ownBlock≠Zo b) wr n ks xs Ps/\Ps.flatten.length+k=b5 (fun x=>1+qO n x) (ks.take k)
theorem lT.lt{a:List (K n)}{s:Int}(h:lT X n a s nv w1 k v wr):X<wr.heap.size:=(Array.getElem?_eq_some_iff.1 h.box).1
theorem DH {E:List (K n)} {s:Int} {W w2 f:World} {g cap:Nat} {xs:List Value} {H:List (List fV)} {one:Obj} {c0 c1 c2:Value} {B D:List fV} (h:b7 X w1 wr) (hX:X<w1.heap.size)
  (G:wr.heap[X]?=Zo (.cells #[.int .i64 s,nv,v] 31 (0,0))) (hk:k<E.length)
  (t:wr.ownsRow w1.heap.size 31 3 v k xs) (F:H.length=k) (u:pZ (fun b=>w1.heap.size<=b/\b<wr.heap.size/\v.ownBlock≠Zo b) wr n E xs H) (ac:H.flatten.length+k=b5 (fun x=>1+qO n x) (E.take k))
  (S:W.heap=wr.heap) (z:W.os=wr.os/\W.tape=wr.tape/\W.output=wr.output)
  (m:Bw W w2) (Y:a8 (fun b=>wr.heap.size<=b/\b<w2.heap.size) w2 n E[k] c0 c1 c2) (M:lW w2 c1 B) (h4:mI w2 (n-1) c2 D) (ho:Own (fun b=>wr.heap.size<=b/\b<w2.heap.size) (B++D)) (hl:(B++D).length=qO n E[k])
  (d:f.ownsRow w1.heap.size 31 3 (Zs (Zo ⟨g,0,Zn⟩) (k+1) cap) (k+1) (xs++[c0,c1,c2])) (c:(w2.alloc one).grownBy f v.ownBlock) (N:v.ownBlock=Zo g∨g=w2.heap.size+1) :
  lT X n E s nv w1 (k+1) (Zs (Zo ⟨g,0,Zn⟩) (k+1) cap) (f.setCell ⟨X,2,Zn⟩ (Zs (Zo ⟨g,0,Zn⟩) (k+1) cap)):=by
 have R:=m.size;have ab:=c.size;have ae:=h.size;simp at ab;rw[S]at R;have w:∀b,v.ownBlock=Zo b->w1.heap.size<=b/\b<wr.heap.size:=fR t;have T:xs.length=k*3:=t.1;have Q:∀b,b<w2.heap.size->v.ownBlock≠Zo b->f.heap[b]?=w2.heap[b]?:=fun b a q=>by rw[c.block b zE (fun e=>q e.symm),Below.heap_alloc _ _ _ a]
 have L:∀b,b<wr.heap.size->v.ownBlock≠Zo b->f.heap[b]?=wr.heap[b]?:=fun b a P=>by rw[Q b om P,m.block b (by rw[S];exact a),S]
 have C:∀b,b≠X->(f.setCell ⟨X,2,Zn⟩ (Zs (Zo ⟨g,0,Zn⟩) (k+1) cap)).heap[b]?=f.heap[b]?:=fun b a=>Below.heap_setCell _ _ _ _ a;have l:(f.setCell ⟨X,2,Zn⟩ (Zs (Zo ⟨g,0,Zn⟩) (k+1) cap)).heap.size=f.heap.size:=zS;have aa:v.ownBlock≠Zo X:=fun e=>by have:=w X e;omega
 have A:=(L X om aa).trans G;have i:∀b,v.ownBlock≠Zo b->b<w2.heap.size->(Value.slice (Zo ⟨g,0,Zn⟩) (k+1) cap).ownBlock≠Zo b:=by
  intro b Z h2 e;have e:g=b:=by simpa [Value.ownBlock] using e
  rcases N with M|M;·exact Z (by rw[M,e])
  ·omega
 have r:∀b,wr.heap.size<=b->v.ownBlock≠Zo b:=fun b Z e=>by have:=w b e;omega
 have af:=fR d g rfl;refine⟨⟨?_,?_,?_,by rw[l];omega,fun b a q=>?_⟩,?_,xs++[c0,c1,c2],H++[B++D],gg d fun g' V=>C g' (by have:=fR d g' V;omega),by simp[F],⟨?_,fun j hj hp=>?_⟩,?_⟩;·show f.os=w1.os;rw[c.os];exact m.os.trans (z.1.trans h.os)
 ·show f.tape=w1.tape;rw[c.tape];exact m.tape.trans (z.2.1.trans h.tape)
 ·show f.output=w1.output;rw[c.output];exact m.output.trans (z.2.2.trans h.output)
 ·rw[C b q,L b om (fun e=>by have:=w b e;omega)];exact h.block b a q
 ·simp[World.setCell,Array.getElem?_modify,A]
 ·rw[List.flatten_append,List.flatten_singleton];refine u.1.app ho (fun b a=>⟨a.1,by rw[l];omega,i b a.2.2 om⟩) (fun b a=>⟨om,by rw[l];omega,i b (r b a.1) a.2⟩) (fun b Z h2=>om)
 ·by_cases ag:j<k
  ·have y:j<H.length:=by omega
   obtain⟨d0,d1,d2,K3,K4,hd,J,O,U,ad⟩:=u.2 j hj y;have o:∀s,s∈K3++K4->(f.setCell ⟨X,2,Zn⟩ (Zs (Zo ⟨g,0,Zn⟩) (k+1) cap)).heap[s.b]?=wr.heap[s.b]?:=fun s p=>by have:=u.1.1 s (List.mem_flatten.2 ⟨_,List.getElem_mem y,by rw[J];exact p⟩);rw[C s.b (by have:=this.1;omega)];exact L s.b this.2.1 this.2.2
   refine⟨d0,d1,d2,K3,K4,?_,by rw[List.getElem_append_left y];exact J,O.keep (fun b a=>by rw[C b (by have:=a.1;omega)];exact L b a.2.1 a.2.2) (fun b a=>⟨a.1,by rw[l];have:=a.2.1;omega,i b a.2.2 (by have:=a.2.1;omega)⟩),
    U.same (fun s p=>o s (List.mem_append_left _ p)),ad.same (fun s p=>o s (List.mem_append_right _ p))⟩
   rw[List.getElem?_append_left om,List.getElem?_append_left om,List.getElem?_append_left om];exact hd
  ·have I:j=k:=by simp at hp;omega
   subst I;have o:∀s,s∈B++D->(f.setCell ⟨X,2,Zn⟩ (Zs (Zo ⟨g,0,Zn⟩) (j+1) cap)).heap[s.b]?=w2.heap[s.b]?:=fun s p=>by have:=ho.1 s p;rw[C s.b om];exact Q s.b this.2 (r _ this.1)
   refine⟨c0,c1,c2,B,D,?_,by simp[<- F],Y.keep (fun b a=>by rw[C b om];exact Q b a.2 (r b a.1)) (fun b a=>⟨by have:=a.1;omega,by rw[l];have:=a.2;omega,i b (r b a.1) a.2⟩),
    M.same (fun s p=>o s (List.mem_append_left _ p)),h4.same (fun s p=>o s (List.mem_append_right _ p))⟩
   rw[List.getElem?_append_right om,List.getElem?_append_right om,List.getElem?_append_right om,T,
    Nat.sub_self,show j*3+1-j*3=1 by omega,show j*3+2-j*3=2 by omega]
   exact⟨rfl,rfl,rfl⟩
 ·rw[ZA hk,qv,<- ac,List.flatten_append,List.flatten_singleton,Zx,hl];omega
def oQ(m:Nat)(s:ByteArray):K (m+1):=(iO (m+1) s).getD (⟨0,[],[]⟩:Kd (K m))
def zx(m:Nat)(s:ByteArray):Bool:=(iO (m+1) s).isSome
theorem mK{k:K (m+1)}(h:iO (m+1) s=Zo k):oQ m s=k/\zx m s=true:=by unfold oQ zx;rw[h];exact⟨rfl,rfl⟩
theorem vu(h:iO (m+1) s=Zn):oQ m s=(⟨0,[],[]⟩:Kd (K m))/\zx m s=false:=by unfold oQ zx;rw[h];exact⟨rfl,rfl⟩
theorem tz(h:¬s.size<=800):iO n s=Zn:=by unfold iO;rw[if_neg h]
theorem EJ(h:∀k,gb n s.data.toList≠Zo (k,[])):iO n s=Zn:=by
 unfold iO;split
 ·split;·next k hp=>exact absurd hp (h k)
  ·rfl
 ·rfl
theorem DW{k:K n}(h:gb n s.data.toList=Zo (k,[]))(a:gV n k=false):iO n s=Zn:=by
 unfold iO;split;·rw[h];simp only[a,Bool.false_eq_true,if_false]
 ·rfl
theorem C6{k:K n}(b:s.size<=800)(h:gb n s.data.toList=Zo (k,[]))(a:gV n k=true):iO n s=Zo k:=by unfold iO;rw[if_pos b,h];simp only[a,if_true]
theorem pO(S:Nat->Prop)(w:World)(m:Nat):a8 S w (m+1) (⟨0,[],[]⟩:Kd (K m)) (.int .i64 0) (Zs Zn 0 0) (Zs Zn 0 0):=
 ⟨rfl,rfl,⟨Zn,0,rfl,by simp[maxLen],fun s h=>(by cases h),fun h=>absurd rfl h⟩,⟨Zn,0,rfl,by simp[maxLen],fun h=>absurd rfl h⟩⟩
theorem BR:∀(n:Nat)(t:K n)(d:Int),fK n t d=true->qO n t+2<=2*fP n t:=by
 intro n;induction n with
 | zero=>intro t d h;simp[fK]at h
 | succ n m=>
  intro t d e;have c:=e;simp only[fK,Bool.and_eq_true]at c;have b:fP (n+1) t=1+b5 (fun x=>fP n x) (Kd.kids t):=by simp only[fP]
  have k:(Kd.names t).length<=(Kd.kids t).length:=by
   by_cases j:Kd.sort t=5;·have:=(Ca e j).1;omega
   ·rw[nW e j];simp
  have i:∀l:List (K n),(∀x,x∈l->fK n x (d+1)=true)->l.length+b5 (fun x=>1+qO n x) l<=2*b5 (fun x=>fP n x) l:=by
   intro l;induction l with
   | nil=>intro _;simp[b5]
   | cons a r f=>intro h;have p:=m a (d+1) (h a (List.mem_cons_self ..));have o:=f (fun x g=>h x (List.mem_cons_of_mem _ g));simp only[b5,List.length_cons];omega
  have:=i (Kd.kids t) (fun x g=>List.all_eq_true.1 c.2 _ g);rw[b];show (Kd.names t).length+b5 (fun x=>1+qO n x) (Kd.kids t)+2<=_;omega
theorem Ab:∀ (n:Nat) {S:Nat->Prop} {w:World} (t:K n) {c0 c1 c2:Value},a8 S w n t c0 c1 c2->(∀ b o,S b->w.frozen? ⟨b,o,Zn⟩=false) ->
  ∃c a,lW w c1 c/\mI w (n-1) c2 a/\(∀s,s∈c++a->S s.b)/\(c++a).length<=lO n t:=by
 intro n;induction n with
 | zero=>intro S w t c0 c1 c2 h;exact h.elim
 | succ n V=>
  intro S w t c0 c1 c2 h D;obtain⟨-,-,Z,J⟩:=h;obtain⟨c,U,W,p3⟩:=rp Z D;have F:lO (n+1) t=jc (Kd.names t)+b5 (fun k=>lO n k+1) (Kd.kids t):=rfl;have Y:=ph (Kd.names t);suffices h:∃a,mI w n c2 a/\(∀s,s∈a->S s.b)/\a.length<=b5 (fun k=>lO n k+1) (Kd.kids t) by obtain⟨a,u,l,y⟩:=h;refine⟨c,a,U,u,fun s I=>(List.mem_append.1 I).elim (W s) (l s),?_⟩;rw[Zx,F,p3];omega
  generalize Kd.kids t=ks at J ⊢;obtain⟨N,cap,rfl,M,hc⟩:=J;by_cases p:ks=[]
  ·subst p;refine⟨[],?_,fun _ h=>(by cases h),zS⟩;cases n with
   | zero=>exact⟨N,cap,rfl,rfl⟩
   | succ n=>exact⟨N,cap,[],rfl,M,rfl,fun i h=>absurd h (Nat.not_lt_zero _)⟩
  ·obtain⟨b,off,rfl,P,v⟩:=hc p;have d:∀i (h:i<ks.length),∃c3 c4 c a,(⟨b,off+i*3,false⟩:fV).ok w/\w.cell? ⟨b,off+i*3+1,Zn⟩=Zo c3/\w.cell? ⟨b,off+i*3+2,Zn⟩=Zo c4/\lW w c3 c/\mI w (n-1) c4 a/\(∀s,s∈c++a->S s.b)/\(c++a).length<=lO n ks[i]:=by intro i hi;obtain⟨d0,Q,d2,T,e1,X,L⟩:=v i hi;obtain⟨c,a,u,l,y,O⟩:=V ks[i] L D;refine⟨Q,d2,c,a,⟨?_,D _ _ P⟩,e1,X,u,l,y,O⟩;obtain⟨x,_,_,_,_,_,_,rfl,-⟩:=L.shape;exact⟨x,T⟩
   have B:∃m,n=m+1:=by
    cases n with
    | zero=>obtain⟨x,r,rfl⟩:=List.exists_cons_of_ne_nil p;exact (x:Empty).elim
    | succ m=>exact⟨m,rfl⟩
   obtain⟨m,rfl⟩:=B;let f:Nat->List fV:=fun i=>if hi:i<ks.length then [⟨b,off+i*3,false⟩]++((d i hi).choose_spec.choose_spec.choose++(d i hi).choose_spec.choose_spec.choose_spec.choose) else []
   have q:∀i (hi:i<ks.length),∃c3 c4 c a,f i=[⟨b,off+i*3,false⟩]++(c++a)/\(⟨b,off+i*3,false⟩:fV).ok w/\w.cell? ⟨b,off+i*3+1,Zn⟩=Zo c3/\w.cell? ⟨b,off+i*3+2,Zn⟩=Zo c4/\lW w c3 c/\mI w m c4 a/\(∀s,s∈c++a->S s.b)/\(c++a).length<=lO (m+1) ks[i]:=by intro i hi;have g:=(d i hi).choose_spec.choose_spec.choose_spec.choose_spec;exact⟨_,_,_,_,dif_pos hi,g.1,g.2.1,g.2.2.1,g.2.2.2.1,g.2.2.2.2.1,g.2.2.2.2.2.1,g.2.2.2.2.2.2⟩
   refine⟨((List.range ks.length).map f).flatten,⟨Zo ⟨b,off,Zn⟩,cap,(List.range ks.length).map f,by rw[List.length_map,List.length_range],by rw[List.length_map,List.length_range];exact M,rfl,fun i hi=>?_⟩,fun s I=>?_,?_⟩
   ·have E:i<ks.length:=by simpa using hi
    obtain⟨c3,c4,c,a,e,o,H,A,u,l,-⟩:=q i E;exact⟨b,off,c3,c4,c,a,rfl,by rw[List.getElem_map,List.getElem_range];exact e,o,H,A,u,l⟩
   ·obtain⟨x,R,z⟩:=List.mem_flatten.1 I;obtain⟨i,hi,rfl⟩:=List.mem_map.1 R;obtain⟨c3,c4,c,a,e,o,H,A,u,l,y,-⟩:=q i (List.mem_range.1 hi);rw[e]at z;rcases List.mem_append.1 z with h|h;·rw[List.mem_singleton]at h;subst h;exact P
    ·exact y s h
   ·have G:∀ j,j<=ks.length->((List.range j).map f).flatten.length<=b5 (fun k=>lO (m+1) k+1) (ks.take j):=by
     intro j;induction j with
     | zero=>intro _;simp
     | succ j C=>intro hj;have h1:=C om;obtain⟨c3,c4,c,a,e,o,H,A,u,l,y,O⟩:=q j om;rw[List.range_succ,List.map_append,List.flatten_append,Zx,ZA om,qv];simp only[List.map_cons,List.map_nil,List.flatten_cons,List.flatten_nil,List.append_nil];rw[e,Zx,List.length_singleton];omega
    have:=G ks.length (Nat.le_refl _);rwa [List.take_length]at this
end Go.Proofs.YtcfojmaccikgeaaGreatDoor
