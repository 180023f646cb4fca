import Derived.ProofKit
import Derived.OpenShut
import Derived.Deep.WholeRow
import Derived.Deep.RegionHeldLaw
import Derived.Deep.RegionHeld3
import Derived.Shelf.SlicesE.Delete
import Derived.Shelf.SlicesE.Clone
import Derived.Shelf.Spec.SearchS
import Derived.Shelf.Spec.SlicesInsertGrow
import Derived.Deep.Upon
import Derived.Shelf.Spec.SlicesGrow
import Derived.Deep.Strs
import Derived.LaidMore
import Derived.Stop.LaidErr
import Derived.SevenTiedAt
import Derived.Test.YtkcollkaldkccaaGreatDoorWd
import Derived.Test.YtkcollkaldkccaaGreatDoorRows
import Derived.WalkSpells
import Derived.WalkLawsBesides
import Derived.BigQuiet
import Derived.Lib.ItoaLen
import Derived.Deep.AppendLies
import Derived.Test.YtkcollkaldkccaaGreatDoorShelf
import Derived.RegionDies
set_option linter.all false
open List renaming length -> J,length->Uh,range->Ua,getD->Un
open Go.Calls renaming mono -> H
open Go.Value renaming slice->A,int->I,string->Zt,pointer->Zp,agg->Za,tuple->Zu,bool->Zb,slice->Uc
open Go.IntKind renaming i64->U
open Go.Ending renaming returned->Zr,returned->Ue
open Go.Obj renaming cells->Zc
open Option renaming none->Y,some->Z
open Go renaming World->Zw,Value->Zv,maxLen->WX,TypeId->W9,wpAnyH->Uv,Calls->WU,undef->Ui
open ByteArray renaming empty->WT
open Go.Region renaming noSelect->Uw,wanted->Uk,ready->Ut
open Go.Op renaming bytesLess->Uf
open Go.World renaming cell?->WY
open Go.Lib renaming itoa->W6
open Go.Proofs.Tryz renaming prog->WV
open Go.RowKit renaming Hid->G
namespace Go.Proofs.YtkcollkaldkccaaGreatDoor
set_option linter.all false
open Go.RowKit Go.Proofs.Tryz
abbrev UC:Array Go.Value:=#[.int .i64 0,.slice .none 0 0,.slice .none 0 0]
abbrev UE(x:Int)(a:Option Addr)(l c:Nat)(b:Option Addr)(m d:Nat):Array Go.Value:=#[.int .i64 x,.slice a l c,.slice b m d]
abbrev UD(x:Int)(a:Option Addr)(l c:Nat)(b:Option Addr)(m d:Nat):Go.Value:=.agg #[.int .i64 x,.slice a l c,.slice b m d]
abbrev UF(x:Int)(a:Option Addr)(l c:Nat)(b:Option Addr)(m d:Nat):Go.Obj:=.cells #[.int .i64 x,.slice a l c,.slice b m d] 177
abbrev Uz(x y:Int)(z:ByteArray)(a:Option Addr)(l c:Nat)(b:Option Addr)(m d:Nat):Array Go.Value:=#[.int .i64 x,.int .i64 y,.string z,.slice a l c,.slice b m d]
abbrev Uy(x y:Int)(z:ByteArray)(a:Option Addr)(l c:Nat)(b:Option Addr)(m d:Nat):Go.Value:=.agg #[.int .i64 x,.int .i64 y,.string z,.slice a l c,.slice b m d]
abbrev UA(x y:Int)(z:ByteArray)(a:Option Addr)(l c:Nat)(b:Option Addr)(m d:Nat):Go.Obj:=.cells #[.int .i64 x,.int .i64 y,.string z,.slice a l c,.slice b m d] 31
abbrev UB(x y:Int)(z:ByteArray)(a:Option Addr)(l c:Nat)(b:Option Addr)(m d:Nat):Go.Obj:=.cells #[.int .i64 x,.int .i64 y,.string z,.slice a l c,.slice b m d] 38
def Qc:=@Bool.and_eq_true
def Qd:=@if_neg
def Qe:=@Array.getElem?_eq_some_iff
def Qf:=@Go.RowKit.Below.heap_alloc
def Qg:=@Go.RowKit.Below.refl
def Qh:=@Go.heap_alloc_new
def Qi:=@List.length_append
def Qj:=@List.eq_nil_of_length_eq_zero
def Qk:=@decide_eq_true_eq
def Ql:=@Go.World.cell?_of_block
def Qm:=@if_pos
def Qn:=@Nat.lt_of_lt_of_le
def Qo:=@List.all_eq_true
def Qp:=@List.getElem?_eq_getElem
def Qq:=@List.take_succ_eq_append_getElem
def Qr:=@Go.RowKit.Below.heap_setCell
def Qs:=@List.length_cons
def Qt:=@List.mem_cons_of_mem
def Qu:=@List.getElem?_append_right
def Qv:=@List.length_map
def Qw:=@List.getD_eq_getElem?_getD
def Qx:=@Classical.byContradiction
def Qy:=@List.drop_eq_getElem_cons
def Qz:=@Go.wp_region_held_drew
def QA:=@List.getElem?_append_left
def QB:=@Go.World.news_of_block
def QC:=@Nat.add_zero
def QD:=@Nat.le_refl
def QE:=@List.getElem_mem
def QF:=@List.mem_append
def QG:=@List.take_length
def QH:=@List.cons_append
def QI:=@Go.ByteArray.toList_eq
def QJ:=@Go.Lib.hid
def QK:=@decide_eq_true
def QL:=@List.forall_mem_cons
def QM:=@List.length_singleton
def QN:=@List.getElem?_eq_some_iff
def QO:=@Go.AllReadyH.cons
def QP:=@beq_iff_eq
def QQ:=@Array.getElem?_modify
def QR:=@List.mem_singleton
def QS:=@List.getElem_append_left
def QT:=@List.getElem_of_mem
def QU:=@decide_eq_false
def QV:=@Go.World.ownsRow_nil
def QW:=@List.mem_cons
def QX:=@ByteArray.getElem_eq_getElem_data
def QY:=@Go.info_parts
def QZ:=@List.append_assoc
def Q0:=@List.length_nil
def Q1:=@Nat.le_trans
def Q2:=@List.take_append_drop
def Q3:=@ByteArray.size_append
def Q4:=@Go.Calls.quiet_of_same
def Q6:=@beq_eq_false_iff_ne
def Q7:=@List.mem_range
def Q8:=@List.map_append
def Q9:=@Nat.zero_le
def Xa:=@Nat.eq_zero_or_pos
def Xb:=@Go.wpList_append_lies
def Xc:=@congrArg
def Xd:=@Go.step_append_lies
def Xe:=@List.getElem_map
def Xf:=@List.take_of_length_le
def Xg:=@List.getElem?_map
def Xh:=@Go.World.cell?_setCell_other
def Xi:=@Go.wpAnyH_done
def Xj:=@List.length_take
def Xk:=@List.drop_drop
def Xl:=@List.mem_flatten
def Xm:=@Option.getD_some
def Xn:=@List.drop_zero
def Xo:=@List.mem_map
def Xp:=@List.flatten_append
def Xq:=@Go.heap_alloc_last
def Xr:=@Go.World.cell?_setCells_out
def Xs:=@List.getElem?_eq_none
def Xt:=@List.mem_append_right
def Xu:=@Bool.false_eq_true
def Xv:=@List.drop_succ_cons
def Xw:=@List.drop_eq_nil_of_le
def Xx:=@List.map_cons
def Xy:=@Go.AllReadyH.nil
def Xz:=@List.getElem?_take_of_lt
def XA:=@List.headD_cons
def XB:=@List.pairwise_cons
def XC:=@Go.Addr.add_lit
def XD:=@decide_eq_false_iff_not
def XE:=@Go.RowKit.Hid.out
def XF:=@List.append_nil
def XG:=@Go.wpAnyH_ready
def XH:=@List.mem_append_left
def XI:=@of_decide_eq_true
def XJ:=@Nat.not_lt_zero
def XK:=@Option.some.inj
def XL:=@Bool.eq_false_iff
def XM:=@List.nil_append
def XN:=@Go.World.size_alloc
def XO:=@Go.World.frozen?_setCell
def XP:=@Option.some.injEq
def XQ:=@Go.bodyPost_ret
def XR:=@Nat.add_sub_cancel_left
def XS:=@List.getElem?_cons_zero
def XT:=@List.mem_cons_self
def XU:=@decide_true
def XV:=@List.map_singleton
def XW:=@List.mem_of_mem_take
def XX:=@if_true
def XY:=@List.getElem_cons_zero
def XZ:=@List.length_drop
def X0:=@List.mem_reverse
def X1:=@List.pairwise_iff_getElem
def X3:=@List.take_succ_cons
def X4:=@List.length_range
def X5:=@Int.eq_ofNat_of_zero_le
def X6:=@Bool.true_and
def X7:=@List.range_succ
def X8:=@UInt8.toNat_inj
def X9:=@Go.World.cell?_setCell_same
def Zd:=@Nat.zero_mul
def Ze:=@Bool.false_and
def Zf:=@if_false
def Zg:=@List.length_eq_zero_iff
def Zh:=@Go.World.cell?_setCells_in
def Zj:=@List.all_append
def Zl:=@List.mem_zipIdx_iff_getElem?
def Zm:=@Go.Lib.OthersKept.refl
def Zq:=@decide_false
def Zx:=@Go.run_convert_bytes_back
def Zy:=@List.drop_of_length_le
def Zz:=@List.drop_length
def ZC:=@List.isPrefixOf_iff_prefix
def ZD:=@Go.World.heap_setCells_other
def ZE:=@Go.WideShapes.bytes_inj
def ZF:=@List.mem_of_mem_drop
def ZG:=@List.getElem?_range
def ZH:=@List.not_mem_nil
def ZI:=@List.getElem_cons_succ
def ZJ:=@List.flatten_singleton
def ZK:=@Bool.eq_iff_iff
def ZL:=@List.pairwise_flatten
def ZM:=@List.all_eq_false
def ZO:=@Array.getD_eq_getD_getElem?
def ZP:=@Go.Lib.decDigits_length
def ZQ:=@List.drop_left
def ZR:=@Go.Lib.iterAt_other
def ZS:=@Nat.zero_add
def ZT:=@Array.getElem?_eq_getElem
def ZU:=@List.takeWhile_cons
def ZV:=@Bool.and_self
def ZW:=@List.all_cons
def ZX:=@Nat.add_assoc
def ZY:=@Go.IntKind.wrap_u8
def ZZ:=@Option.map_some
def Z0:=@List.mem_zipIdx
def Z1:=@Nat.add_sub_cancel
def Z3:=@List.getElem?_drop
def Z4:=@of_decide_eq_false
def Z5:=@List.getElem?_cons_succ
def Z6:=@Go.getD_set_ne
def Z7:=@ByteArray.data_extract
def Z8:=@List.map_nil
def Z9:=@List.flatten_cons
def Wc:=@List.pairwise_lt_range
def We:=@Go.World.drewN_drewN
def Wg:=@Go.Lib.nDigits_small
def Wh:=@Nat.le_of_eq
def Wi:=@Option.map_eq_some_iff
def Wj:=@List.getElem?_toArray
def Wk:=@List.ext_getElem
def Wl:=@Bool.and_comm
def Wm:=@List.pairwise_append
def Wn:=@Go.below_drewN
def Wo:=@Nat.pow_le_pow_right
def Wp:=@Bool.or_eq_true
def Wq:=@Go.WideMaps.keyOf_string_mk
def Wr:=@List.foldl_cons
def Ws:=@Go.Lib.iterAt_size
def Wt:=@Go.Proofs.isSome_setCells
def Wu:=@List.length_pos_iff
def Wv:=@List.mem_map_of_mem
def Ww:=@Nat.lt_or_ge
def Wx:=@Go.Lib.itoa_length_le
def Wy:=@Bool.and_assoc
def Wz:=@Go.World.ownsMap_made
def WA:=@Nat.mul_le_mul
def WB:=@List.take_zero
def WC:=@Go.run_copy_cells
def WD:=@Go.wpList_append_own
def WE:=@List.pairwise_map
def WG:=@List.Pairwise.imp
def WH:=@List.getElem_take
def WI:=@Go.Result.andThen_ok
def WJ:=@List.getElem_drop
def WK:=@Nat.lt_trichotomy
def WL:=@Go.callsD_of_wpS
def WM:=@List.flatten_nil
def WN:=@List.map_toArray
def WO:=@Nat.sub_self
def WP:=@Nat.pow_succ
def WQ:=@or_false
def WR:=@Nat.le_succ
def WS:=@Nat.mul_one
abbrev ZB:=ByteArray
abbrev ZN:=Nat->Prop
abbrev ZA:=Option Addr
variable {P:Prop} {S S':ZN} {m n k R b o B N i bb pb mb ab M X g cap nc fuel:Nat} {α β:Type} {l q ns:List ZB} {p c:UInt8} {a:Act} {w w' W w1 wr Wa W2 W1 w0:Zw} {v g0 g1 g2 g3 g4 c0 c1 c2 c3 c4 nv kv:Zv} {s x:ZB} {d so:Int} {e:W9} {parts:List (List UInt8)} {r vs ps:List UInt8} {xs:List Zv} {one:Obj} {na:ZA} {ops:Array Oper} {rest:List Oper} {Q:Exit->Act->Zw->Prop} {md:Region.Mode} {listed:Array Bool} {oi:Oper}
abbrev a7(w:Go.World)(b o:Nat):Option Go.Value:=w.cell? ⟨b,o,Y⟩
abbrev b5(b o:Nat):Option Go.Addr:=Z ⟨b,o,Y⟩
def D:=@rfl
def E (h:P:=by omega):P:=h
def zS (h:P:=by simp):P:=h
def zE (h:P:=by simp;omega):P:=h
def zK (h:P:=by kernel_rfl):P:=h
def zC (h:P:=by decide):P:=h
def fP(h:∀b,S b->b<m) (e:m<=n:=by first|omega|(simp;done)|(simp;omega)):∀b,S b->b<n:=λb k=>Qn (h b k) e
def zI{S:α->Prop}(x:α)(h:S x):S x:=h
def zL (h:P:=by unfold maxLen;omega):P:=h
def fk(a:α):∃x,x=a:=⟨a,D⟩
abbrev Bw(w w':Zw):Prop:=Below w.heap.size w w'
abbrev Gd:Zv:=Za #[I U 0,I U 0,Zt ⟨#[]⟩,A Y 0 0,A Y 0 0]
abbrev d8:Obj:=Zc #[I U 0,I U 0,Zt ⟨#[]⟩,A Y 0 0,A Y 0 0] 31 (0,0)
abbrev Bd(S:ZN)(w:Zw):Prop:=∀b,S b->b<w.heap.size
structure F(α:Type) where
 k:Int
 n:Int
 a:ZB
 q:List ZB
 o:List α
def T:Nat->Type
 | 0=>Empty
 | n+1=>F (T n)
def gV:List ZB->Nat
 | []=>0
 | s :: r=>s.size+1+gV r
def cG{α:Type}(f:α->Nat):List α->Nat
 | []=>0
 | x :: r=>f x+cG f r
def gY:(n:Nat)->T n->Nat
 | 0,_=>0
 | n+1,t=>F.a t |>.size |> (· + gV (F.q t)+cG (λk=>gY n k+1) (F.o t))
def cJ:(n:Nat)->T n->Nat
 | 0,_=>0
 | n+1,t=>1+cG (λk=>cJ n k) (F.o t)
def dQ(a:Nat)(left:Int):Int:=if (a:Int)<=left then left-a else -1
def mn(a:Nat){left:Int}(h:left<=1048576): -1<=dQ a left/\dQ a left<=1048576:=by unfold dQ;split<;>omega
def nE(a b:Nat)(left:Int):dQ b (dQ a left)=dQ (a+b) left:=by
 unfold dQ;by_cases h:(a:Int)<=left
 .rw[Qm h];by_cases c:(b:Int)<=left-a;·rw[Qm c,Qm E];omega
  .rw[Qd c,Qd E]
 .rw[Qd h,Qd E,Qd E]
def yO(a b:List ZB):gV (a++b)=gV a+gV b:=by
 induction a with
 | nil=>simp[gV]
 | cons x r c=>simp only[QH,gV,c];omega
def eV(f:α->Nat)(a b:List α):cG f (a++b)=cG f a+cG f b:=by
 induction a with
 | nil=>simp[cG]
 | cons x r c=>simp only[QH,cG,c];omega
def dw(f:α->Nat){l:List α}(h:k<J l):cG f (l.take (k+1))=cG f (l.take k)+f l[k]:=by rw[Qq h,eV];simp[cG]
def q7(h:k<J l):gV (l.take (k+1))=gV (l.take k)+(l[k].size+1):=by rw[Qq h,yO];simp[gV]
def eK(f:α->Nat)(l:List α)(x:α)(h:x∈l):f x<=cG f l:=by
 induction l with
 | nil=>cases h
 | cons y r a=>
  simp only[cG];rcases QW.1 h with rfl|h;·omega
  .have:=a h;omega
def yP(l:List ZB):J l<=gV l:=by
 induction l with
 | nil=>simp[gV]
 | cons y r a=>simp only[gV,Qs];omega
def oZ(f:α->Nat)(l:List α):J l<=cG (λk=>f k+1) l:=by
 induction l with
 | nil=>simp[cG]
 | cons y r a=>simp only[cG,Qs];omega
def a8{p:Prop}(h:p):G p:=h
def bR{P:Program}{b:Func}{R:Ending->Zw->Prop}(c:R (Zr v) w) (e:(results b a.tmps).run P w=.ok v w:=by simp only[results,results243,results227,results186,results188,results9,results229,results36,results160,results170,results171,results57,results152,results6,results154,results85,results56,results25,results89,results24,results83,results54,results55,results80,results81,results53,results84,results86,results87,results82,results183];first|simp[go_sem,r0,r1,r2,r3,r4]|simp[go_sem,r0,r1,r2]|simp[go_sem]) (d:a.defers=[]:=by rfl):bodyPost P b R .ret a w:=⟨d,v,e,c⟩
def eb (h:P:=by simp[intOf];omega):P:=h
def mh (h:P:=by go_wp2_with fail;go_ret;exact HP):P:=h
def nX (h:P:=by go_wp2_with fail;exact bR HQ):P:=h
def io (h:P:=by go_wp2_with fail;exact bR HP):P:=h
def sj (h:P:=by go_wp2_with fail;exact bR HF):P:=h
def Ef (h:P:=by refine Xi zK ?_ _;go_simp;go_wp2_with fail;exact bR HQ):P:=h
def cR(S:ZN)(w:Zw)(l:List ZB)(v:Zv):Prop:=
 ∃(a:ZA)(cap:Nat),v=A a (J l) cap/\J l<=WX/\(∀s,s∈l->s.size<=WX) /\
  (l≠[]->∃b off,a=b5 b off/\S b/\∀i (h:i<J l),a7 w b (off+i)=Z (Zt l[i]))
def dn{α:Type}(S:ZN)(w:Zw)(R:α->Zv->Zv->Zv->Zv->Zv->Prop)(l:List α)(v:Zv):Prop:=
 ∃(a:ZA)(cap:Nat),v=A a (J l) cap/\J l<=WX /\
  (l≠[]->∃b off,a=b5 b off/\S b/\∀i (h:i<J l),∃c0 c1 c2 c3 c4,a7 w b (off+i*5)=Z c0/\a7 w b (off+i*5+1)=Z c1 /\
   a7 w b (off+i*5+2)=Z c2/\a7 w b (off+i*5+3)=Z c3/\a7 w b (off+i*5+4)=Z c4/\R l[i] c0 c1 c2 c3 c4)
def cT(S:ZN)(w:Zw):(n:Nat)->T n->Zv->Zv->Zv->Zv->Zv->Prop
 | 0,_,_,_,_,_,_=>False
 | n + 1, t, c0, c1, c2, c3, c4 => c0 = I U (F.k t) /\ c1 = I U (F.n t) /\ c2 = Zt (F.a t) /\ (F.a t).size <= WX /\
   (Lit.int U (F.k t)).wf=true/\(Lit.int U (F.n t)).wf=true/\cR S w (F.q t) c3/\dn S w (cT S w n) (F.o t) c4
def gw(S:ZN)(w w':Zw):Prop:=∀b,S b->w'.heap[b]?=w.heap[b]?
def eC(w:Zw)(o:Obj):Bw w (w.alloc o):=(Qg _ _).alloc E o
def kC{s:Option Nat}{x:Option Zv}(h:Below n w w')(e:w.cell? ⟨b,o,s⟩=x)(a:b<n):w'.cell? ⟨b,o,s⟩=x:=(h.cell (p:=⟨b,o,s⟩) a).trans e
def gw.cell(h:gw S w w'){p:Addr}(hp:S p.block):w'.cell? p=w.cell? p:=Ql (w:=w) (h p.block hp)
def b6(h:Below B w w')(a:∀b,S b->b<B):gw S w w':=λb c=>h.block b (a b c)
def cR.keep(h:cR S w l v)(j:gw S w w')(f:∀b,S b->S' b):cR S' w' l v:=by obtain⟨e,cap,q,n,o,k⟩:=h;refine⟨e,cap,q,n,o,λc=>?_⟩;have⟨b,off,g,d,a⟩:=k c;exact⟨b,off,g,f b d,λi m=>(j.cell (p:=⟨b,off+i,Y⟩) d).trans (a i m)⟩
def dn.keep {R R':α->Zv->Zv->Zv->Zv->Zv->Prop} {l:List α} (h:dn S w R l v) (d:gw S w w') (q:∀ b,S b->S' b)
  (o:∀x c0 c1 c2 c3 c4,x∈l->R x c0 c1 c2 c3 c4->R' x c0 c1 c2 c3 c4):dn S' w' R' l v:=by
 obtain⟨f,cap,z,u,s⟩:=h;refine⟨f,cap,z,u,λe=>?_⟩;have⟨b,off,r,c,a⟩:=s e;refine⟨b,off,r,q b c,λi t=>?_⟩;have⟨c0,c1,c2,c3,c4,g,j,k,m,n,y⟩:=a i t;exact⟨c0,c1,c2,c3,c4,(d.cell (p:=⟨b,off+i*5,Y⟩) c).trans g,(d.cell (p:=⟨b,off+i*5+1,Y⟩) c).trans j,(d.cell (p:=⟨b,off+i*5+2,Y⟩) c).trans k,
  (d.cell (p:=⟨b,off+i*5+3,Y⟩) c).trans m,(d.cell (p:=⟨b,off+i*5+4,Y⟩) c).trans n,o _ _ _ _ _ _ zS y⟩
def cT.keep(e:gw S w w')(d:∀b,S b->S' b):∀ {n:Nat} {t:T n} {c0 c1 c2 c3 c4:Zv},cT S w n t c0 c1 c2 c3 c4->cT S' w' n t c0 c1 c2 c3 c4:=by
 intro n;induction n with
 | zero=>intro t c0 c1 c2 c3 c4 h;exact h.elim
 | succ n o=>intro t c0 c1 c2 c3 c4 h;obtain⟨f,g,i,l,a,c,j,k⟩:=h;exact⟨f,g,i,l,a,c,j.keep e d,k.keep e d λx _ _ _ _ _ _ m=>o m⟩
def dn.keepT{l:List (T n)}(h:dn S w (cT S w n) l v)(c:gw S w w')(a:∀b,S b->S' b):dn S' w' (cT S' w' n) l v:=
 h.keep c a λ_ _ _ _ _ _ _ d=>d.keep c a
def b9{a b c:Zw}(h:Below B a b)(d:B<=b.heap.size)(k:Bw b c):Below B a c:=h.trans (k.mono d)
def cT.shape:∀ {n:Nat} {t:T n} {c0 c1 c2 c3 c4:Zv},cT S w n t c0 c1 c2 c3 c4 ->
  ∃(s m:Int)(x:ZB)(a:ZA)(l c:Nat)(d:ZA)(r f:Nat),c0=I U s/\c1=I U m/\c2=Zt x/\c3=A a l c/\c4=A d r f:=by
 intro n;cases n with
 | zero=>intro t c0 c1 c2 c3 c4 h;exact h.elim
 | succ n=>intro t c0 c1 c2 c3 c4 h;obtain⟨g,i,j,v,p,q,⟨u,cap,k,-⟩,⟨e,b,o,-⟩⟩:=h;exact⟨_,_,_,_,_,_,_,_,_,g,i,j,k,o⟩
def eF(w:Zw)(b o:Nat)(g0 g1 g2 g3 g4:Zv):Zw:=
 ((((w.setCell ⟨b,o,Y⟩ g0).setCell ⟨b,o+1,Y⟩ g1).setCell ⟨b,o+2,Y⟩ g2).setCell ⟨b,o+3,Y⟩ g3).setCell ⟨b,o+4,Y⟩ g4
def kK(o:Nat)(a:Nat->Zv)(g0 g1 g2 g3 g4:Zv)(j:Nat):Zv:=
 if j=o+4 then g4 else if j=o+3 then g3 else if j=o+2 then g2 else if j=o+1 then g1 else if j=o then g0 else a j
def OZ{t:Nat}{a:Nat->Zv}(h:w.rowIs b t N a)(o:Nat)(g0 g1 g2 g3 g4:Zv):(eF w b o g0 g1 g2 g3 g4).rowIs b t N (kK o a g0 g1 g2 g3 g4):=
 ((((h.set o g0).set (o+1) g1).set (o+2) g2).set (o+3) g3).set (o+4) g4
def SC(o:Nat)(a:Nat->Zv)(g0 g1 g2 g3 g4:Zv):kK o a g0 g1 g2 g3 g4 o=g0:=by simp[kK]
def SD(o:Nat)(a:Nat->Zv)(g0 g1 g2 g3 g4:Zv):kK o a g0 g1 g2 g3 g4 (o+1)=g1:=by simp[kK]
def SE(o:Nat)(a:Nat->Zv)(g0 g1 g2 g3 g4:Zv):kK o a g0 g1 g2 g3 g4 (o+2)=g2:=by simp[kK]
def SF(o:Nat)(a:Nat->Zv)(g0 g1 g2 g3 g4:Zv):kK o a g0 g1 g2 g3 g4 (o+3)=g3:=by simp[kK]
def SG(o:Nat)(a:Nat->Zv)(g0 g1 g2 g3 g4:Zv):kK o a g0 g1 g2 g3 g4 (o+4)=g4:=by simp[kK]
def lx(a:Nat->Zv)(g0 g1 g2 g3 g4:Zv)(j:Nat)(b:j<o∨o+5<=j):kK o a g0 g1 g2 g3 g4 j=a j:=by unfold kK;rw[Qd E,Qd E,Qd E,Qd E,Qd E]
def dt(h:k≠b):(eF w b o g0 g1 g2 g3 g4).heap[k]?=w.heap[k]?:=by unfold eF;rw[Qr _ _ _ _ h,Qr _ _ _ _ h,Qr _ _ _ _ h,Qr _ _ _ _ h,Qr _ _ _ _ h]
def eJ:(eF w b o g0 g1 g2 g3 g4).heap.size=w.heap.size:=by simp[eF]
def dk{a:Zw}(h:Below B a w)(c:B<=b):Below B a (eF w b o g0 g1 g2 g3 g4):=
 ((((h.setCell c g0).setCell c g1).setCell c g2).setCell c g3).setCell c g4
def oY(w:Zw)(z:Array Zv)(n:Nat)(t:W9):∃a,(w.alloc (Zc (madeCells z n) t)).rowIs w.heap.size t n a:=by have h:=World.rowIs_alloc w (madeCells z n) t (λi=>(madeCells z n).getD i Ui) (λi b=>by simp[b]);rw[size_madeCells]at h;exact⟨_,h⟩
def BB(a:Bw W w1):(∀b o,b<W.heap.size->a7 w1 b o=a7 W b o)/\(∀b o,b<W.heap.size->w1.frozen? ⟨b,o,Y⟩=W.frozen? ⟨b,o,Y⟩):=
 ⟨λb o h=>a.cell (p:=⟨b,o,Y⟩) h,λb o h=>a.frozen (p:=⟨b,o,Y⟩) h⟩
def kR(c:UInt8):Bool:=decide (32<=(c.toNat:Int)/\(c.toNat:Int)<=126/\¬(c.toNat:Int)=34)
def eW(s:ZB):Bool:=decide (s.size<=60) && s.data.toList.all kR
def dz(c:UInt8):Bool:=decide ((97<=(c.toNat:Int)/\(c.toNat:Int)<=122)∨(48<=(c.toNat:Int)/\(c.toNat:Int)<=57))
def rP(c:UInt8):Bool:=decide (97<=(c.toNat:Int)/\(c.toNat:Int)<=122)
def c8(s:ZB):Bool:=decide (1<=s.size/\s.size<=8) && rP (s.data.toList.headD 0) && s.data.toList.all dz
def ij(a b:ZB):Bool:=Uf a.toList b.toList
def gn(l:List ZB)(i:Nat):Bool:=c8 (l.getD i WT) && (i==0 || ij (l.getD (i-1) WT) (l.getD i WT))
def fK(l:List ZB)(k:Nat):Bool:=(Ua k).all (gn l)
def ee(l:List ZB):Bool:=fK l (J l)
def mP(l:List ZB)(k:Nat):fK l (k+1)=(fK l k && gn l k):=by simp[fK,X7]
def lX(h:k<J l)(a:gn l k=false):ee l=false:=by unfold ee fK;rw[ZM];exact⟨k,Q7.2 h,by simp[a]⟩
def lS{p:UInt8->Bool}(h:k<s.size)(a:p s[k]=false):s.data.toList.all p=false:=by rw[ZM];exact⟨s[k],by simp[QX],by simp[a]⟩
def pU{p:UInt8->Bool}(h:k<s.size)(b:(s.data.toList.take k).all p=true)(a:p s[k]=true):(s.data.toList.take (k+1)).all p=true:=by rw[Qq mZ];rw[Zj,b];simpa [QX] using a
def lT{p:UInt8->Bool}(h:s.size<=k)(a:(s.data.toList.take k).all p=true):s.data.toList.all p=true:=by rw[Xf mZ]at a;exact a
def cM(s m:Int)(x:ZB)(l:List ZB)(a:Nat):Bool:=
 if s=1 then decide (-999999999<=m/\m<=999999999) && x.toList.isEmpty && ((J l:Int)==0) && ((a:Int)==0)
 else if s=2 then (m==0) && eW x && ((J l:Int)==0) && ((a:Int)==0)
 else if s=3 then decide (0<=m/\m<=1) && x.toList.isEmpty && ((J l:Int)==0) && ((a:Int)==0)
 else if s=4 then (m==0) && x.toList.isEmpty && ((J l:Int)==0) && decide ((a:Int)<=20)
 else if s=5 then (m==0) && x.toList.isEmpty && ((J l:Int)==(a:Int)) && ee l
 else if s=6 then (m==0) && x.toList.isEmpty && ((J l:Int)==0) && decide ((a:Int)<=1)
 else false
def oF{α:Type}(t:F α):Bool:=cM t.k t.n t.a t.q (J t.o)
def cS:(n:Nat)->T n->Int->Bool
 | 0,_,_=>false
 | n+1,t,d=>decide (d<=6) && oF (show F (T n) from t) && (F.o t).all (λk=>cS n k (d+1))
def dB(n:Nat)(t:T n):Bool:=cS n t 1 && decide (cJ n t<=120)
def D7:∀(n:Nat)(t:T n)(d:Int),cS n t d=true->1<=cJ n t:=by
 intro n t d h;cases n with
 | zero=>simp[cS]at h
 | succ n=>simp only[cJ];omega
structure Kd(α:Type) where
 k:Int
 q:List ZB
 o:List α
def K:Nat->Type
 | 0=>Empty
 | n+1=>Kd (K n)
def szK:(n:Nat)->K n->Nat
 | 0,_=>0
 | n+1,t=>gV (Kd.q t)+cG (λk=>szK n k+1) (Kd.o t)
def dF:(n:Nat)->K n->Nat
 | 0,_=>0
 | n+1,t=>1+cG (λk=>dF n k) (Kd.o t)
def eh(s:Int)(l:List ZB)(a:Nat):Bool:=
 if s=1 then ((J l:Int)==0) && ((a:Int)==0)
 else if s=2 then ((J l:Int)==0) && ((a:Int)==0)
 else if s=3 then ((J l:Int)==0) && ((a:Int)==0)
 else if s=4 then ((J l:Int)==0) && ((a:Int)==1)
 else if s=5 then ((J l:Int)==(a:Int)) && ee l
 else if s=6 then ((J l:Int)==0) && ((a:Int)==1)
 else false
def wM{α:Type}(t:Kd α):Bool:=eh t.k t.q (J t.o)
def dj:(n:Nat)->K n->Int->Bool
 | 0,_,_=>false
 | n+1,t,d=>decide (d<=6) && wM (show Kd (K n) from t) && (Kd.o t).all (λk=>dj n k (d+1))
def tI(n:Nat)(t:K n):Bool:=dj n t 1 && decide (dF n t<=40)
def D6:∀(n:Nat)(t:K n)(d:Int),dj n t d=true->1<=dF n t:=by
 intro n t d h;cases n with
 | zero=>simp[dj]at h
 | succ n=>simp only[dF];omega
def dR(n:Nat)(t:K n)(d:Int):Int:=if dj n t d=true/\dF n t<=40 then (dF n t:Int) else -1
def B1(n:Nat)(t:K (n+1))(d:Int)(h:(decide (d<=6) && wM (show Kd (K n) from t))=false):dR (n+1) t d = -1:=by unfold dR;rw[Qd];rintro ⟨a,-⟩;simp only[dj,h,Ze]at a;cases a
def rG{t:K (n+1)}(b:k<J (Kd.o t))(h:dR n (Kd.o t)[k] (d+1)<0):dR (n+1) t d = -1:=by unfold dR;rw[Qd];rintro ⟨a,c⟩;simp only[dj,Qc,Qo]at a;have e:=a.2 _ (QE b);have f:=eK (λk=>dF n k) (Kd.o t) _ (QE b);simp only[dF]at c;unfold dR at h;rw[Qm ⟨e,E⟩]at h;omega
def oV(n:Nat)(t:K (n+1))(d:Int)(k:Nat)(h:40<1+cG (λk=>dF n k) ((Kd.o t).take k)):dR (n+1) t d = -1:=by unfold dR;rw[Qd];rintro ⟨-,a⟩;have:=eV (λk=>dF n k) ((Kd.o t).take k) ((Kd.o t).drop k);rw[Q2]at this;simp only[dF]at a;omega
def od {t:K (n+1)} (h:(decide (d<=6) && wM (show Kd (K n) from t))=true) (a:(Kd.o t).all (λk=>dj n k (d+1))=true) (b:1+cG (λk=>dF n k) (Kd.o t)<=40) :
  dR (n+1) t d=1+(cG (λk=>dF n k) (Kd.o t):Int):=by
 unfold dR;rw[Qm];·simp only[dF];omega
 .exact⟨by simp only[dj,h,a,ZV],by simp only[dF];omega⟩
def kS{t:K n}(h:0<=dR n t d):dR n t d=dF n t/\dj n t d=true/\dF n t<=40:=by
 unfold dR at h ⊢;by_cases a:dj n t d=true/\dF n t<=40;·rw[Qm a];exact zE
 .rw[Qd a]at h;omega
def tL(t:K n)(d:Int): -1<=dR n t d/\dR n t d<=40:=by unfold dR;split<;>omega
def qaP(t:K n):decide (0<dR n t 1)=tI n t:=by
 unfold dR tI;by_cases a:dj n t 1=true/\dF n t<=40;·rw[Qm a,a.1];have:=D6 n t 1 a.1;simp[a.2];omega
 .rw[Qd a];cases hg:dj n t 1 with
  | false=>simp
  | true=>simp[hg]at a;simp;omega
def k7{p:α->Bool}{l:List α}(h:k<J l)(b:(l.take k).all p=true)(a:p l[k]=true):(l.take (k+1)).all p=true:=by rw[Qq h,Zj,b];simpa using a
def kM{α:Type}(S:ZN)(w:Zw)(R:α->Zv->Zv->Zv->Prop)(l:List α)(v:Zv):Prop:=
 ∃(a:ZA)(cap:Nat),v=A a (J l) cap/\J l<=WX /\
  (l≠[]->∃b off,a=b5 b off/\S b/\∀i (h:i<J l),∃c0 c1 c2,a7 w b (off+i*3)=Z c0/\a7 w b (off+i*3+1)=Z c1 /\
   a7 w b (off+i*3+2)=Z c2/\R l[i] c0 c1 c2)
def cW(S:ZN)(w:Zw):(n:Nat)->K n->Zv->Zv->Zv->Prop
 | 0,_,_,_,_=>False
 | n+1,t,c0,c1,c2=>c0=I U (Kd.k t)/\(Lit.int U (Kd.k t)).wf=true/\cR S w (Kd.q t) c1/\kM S w (cW S w n) (Kd.o t) c2
def kM.keep {R R':α->Zv->Zv->Zv->Prop} {l:List α} (h:kM S w R l v) (d:gw S w w') (n:∀ b,S b->S' b)
  (m:∀x c0 c1 c2,x∈l->R x c0 c1 c2->R' x c0 c1 c2):kM S' w' R' l v:=by
 obtain⟨f,cap,u,s,q⟩:=h;refine⟨f,cap,u,s,λe=>?_⟩;have⟨b,off,o,c,a⟩:=q e;refine⟨b,off,o,n b c,λi r=>?_⟩;have⟨c0,c1,c2,g,j,k,t⟩:=a i r;exact⟨c0,c1,c2,(d.cell (p:=⟨b,off+i*3,Y⟩) c).trans g,(d.cell (p:=⟨b,off+i*3+1,Y⟩) c).trans j,(d.cell (p:=⟨b,off+i*3+2,Y⟩) c).trans k,
  m _ _ _ _ zS t⟩
def cW.keep(d:gw S w w')(c:∀b,S b->S' b):∀ {n:Nat} {t:K n} {c0 c1 c2:Zv},cW S w n t c0 c1 c2->cW S' w' n t c0 c1 c2:=by
 intro n;induction n with
 | zero=>intro t c0 c1 c2 h;exact h.elim
 | succ n j=>intro t c0 c1 c2 h;obtain⟨e,a,f,g⟩:=h;exact⟨e,a,f.keep d c,g.keep d c λx _ _ _ _ i=>j i⟩
def kM.keepK{l:List (K n)}(h:kM S w (cW S w n) l v)(c:gw S w w')(a:∀b,S b->S' b):kM S' w' (cW S' w' n) l v:=
 h.keep c a λ_ _ _ _ _ d=>d.keep c a
def cW.shape:∀ {n:Nat} {t:K n} {c0 c1 c2:Zv},cW S w n t c0 c1 c2 ->
  ∃(s:Int)(a:ZA)(l c:Nat)(d:ZA)(m f:Nat),c0=I U s/\c1=A a l c/\c2=A d m f:=by
 intro n;cases n with
 | zero=>intro t c0 c1 c2 h;exact h.elim
 | succ n=>intro t c0 c1 c2 h;obtain⟨g,k,⟨o,cap,i,-⟩,⟨e,b,j,-⟩⟩:=h;exact⟨_,_,_,_,_,_,_,g,i,j⟩
def gh(w:Zw)(b o:Nat)(g0 g1 g2:Zv):Zw:=
 ((w.setCell ⟨b,o,Y⟩ g0).setCell ⟨b,o+1,Y⟩ g1).setCell ⟨b,o+2,Y⟩ g2
def gL(h:k≠b):(gh w b o g0 g1 g2).heap[k]?=w.heap[k]?:=by unfold gh;rw[Qr _ _ _ _ h,Qr _ _ _ _ h,Qr _ _ _ _ h]
def kV:(gh w b o g0 g1 g2).heap.size=w.heap.size:=by simp[gh]
def kU{a:Zw}(h:Below B a w)(c:B<=b):Below B a (gh w b o g0 g1 g2):=
 ((h.setCell c g0).setCell c g1).setCell c g2
structure lP(w:Zw)(N:Nat)(a b c:Zv):Prop where
 c0:a7 w N 0=Z a
 c1:a7 w N 1=Z b
 c2:a7 w N 2=Z c
def lP.keep{a b c:Zv}(h:lP w N a b c)(d:Bw w w'):lP w' N a b c:=by
 have e:N<w.heap.size:=by have h:=h.c0;exact Qx λf=>by have:w.heap[N]?=Y:=zE;simp[WY,this]at h
 exact⟨(d.cell (p:=⟨N,0,Y⟩) e).trans h.c0,(d.cell (p:=⟨N,1,Y⟩) e).trans h.c1,(d.cell (p:=⟨N,2,Y⟩) e).trans h.c2⟩
def lP.new(w:Zw)(a b c:Zv)(t:W9):lP (w.alloc (Zc #[a,b,c] t)) w.heap.size a b c:=
 ⟨ke,ke,ke⟩
def cW.step{t:K n}(h:cW S w n t c0 c1 c2)(c:Bd S w)(d:Bw w w'):cW S w' n t c0 c1 c2/\(Bd S w'):=
 ⟨h.keep (b6 d c) zI,λb a=>Qn (c b a) d.size⟩
def Rh{α β:Type}(f:α->β->Bool):List α->List β->Bool
 | _,[]=>true
 | [],_ :: _=>false
 | a :: r,b :: s=>f a b && Rh f r s
def RS{α β:Type}(f:α->β->Bool):List α->List β->Bool
 | _,[]=>true
 | [],_ :: _=>false
 | a :: _,l=>l.all (f a)
def Y9:(n:Nat)->K n->(m:Nat)->T m->Bool
 | 0,_,_,_=>false
 | _+1,_,0,_=>false
 | n + 1, k, m + 1, t => (Kd.k k == F.k t) && decide (Kd.q k = F.q t) &&
   (if Kd.k k=5 then Rh (λa b=>Y9 n a m b) (Kd.o k) (F.o t) else RS (λa b=>Y9 n a m b) (Kd.o k) (F.o t))
def YV:∀x:List UInt8,Uf x x=false:=by
 intro x;induction x with
 | nil=>rfl
 | cons a r b=>simp[Uf,b]
def NC:∀x y z:List UInt8,Uf x y=true->Uf y z=true->Uf x z=true:=by
 intro x;induction x with
 | nil=>
  intro y z e d;cases y with
  | nil=>simp[Uf]at e
  | cons b y=>cases z with
   | nil=>simp[Uf]at d
   | cons c z=>rfl
 | cons a x f=>
  intro y z e d;cases y with
  | nil=>simp[Uf]at e
  | cons b y=>
   cases z with
   | nil=>simp[Uf]at d
   | cons c z=>
    simp only[Uf,Wp,Qc,Qk,QP]at e d ⊢;rcases e with e|⟨rfl,e⟩
    .rcases d with d|⟨rfl,d⟩;·exact .inl (UInt8.lt_trans e d)
     .exact .inl e
    .rcases d with d|⟨rfl,d⟩;·exact .inl d
     .exact .inr ⟨D,f y z e d⟩
def rz(a:ZB):ij a a=false:=YV _
def Ow{a b c:ZB}(d:ij a b=true)(e:ij b c=true):ij a c=true:=NC _ _ _ d e
def Jl{a b:ZB}(h:ij a b=true):a≠b:=λe=>by rw[e,rz]at h;cases h
def DM(l:List ZB):Prop:=l.Pairwise (λa b=>ij a b=true)
def CM(h:ee l=true):DM l:=by
 unfold ee fK at h;have a:∀i (b:i+1<J l),ij l[i] l[i+1]=true:=by
  intro i b;have:=Qo.1 h (i+1) (Q7.2 b);simp only[gn,Qc,Wp]at this;rcases this.2 with c|c;·simp at c
  .simpa [Un,b,show i<J l by omega] using c
 have e:∀d i (b:i+d+1<J l),ij l[i] l[i+d+1]=true:=by
  intro d;induction d with
  | zero=>intro i b;exact a i b
  | succ d k=>intro i b;exact Ow (k i E) (a (i+d+1) b)
 unfold DM;rw[X1];intro i j m g f;obtain⟨d,rfl⟩:∃d,j=i+d+1:=⟨j-i-1,E⟩;exact e d i g
def dd{k:IntKind}{a b:Int}(h:a=b):Ue (I k a)=Zr (I k b):=by rw[h]
def hQ{a b:ZB}(h:a=b):Ue (Zt a)=Zr (Zt b):=by rw[h]
structure nT(w:Zw)(N:Nat)(a b c d e:Zv):Prop where
 c0:a7 w N 0=Z a
 c1:a7 w N 1=Z b
 c2:a7 w N 2=Z c
 c3:a7 w N 3=Z d
 c4:a7 w N 4=Z e
def nT.keep{a b c d e:Zv}(h:nT w N a b c d e)(f:Bw w w'):nT w' N a b c d e:=by
 have g:N<w.heap.size:=by have h:=h.c0;exact Qx λi=>by have:w.heap[N]?=Y:=zE;simp[WY,this]at h
 exact⟨kC f h.c0 g,kC f h.c1 g,kC f h.c2 g,kC f h.c3 g,kC f h.c4 g⟩
def nT.new(w:Zw)(a b c d e:Zv)(t:W9):nT (w.alloc (Zc #[a,b,c,d,e] t)) w.heap.size a b c d e:=
 ⟨ke,ke,ke,ke,ke⟩
def cT.step{t:T n}(h:cT S w n t c0 c1 c2 c3 c4)(c:Bd S w)(d:Bw w w'):cT S w' n t c0 c1 c2 c3 c4/\(Bd S w'):=
 ⟨h.keep (b6 d c) zI,λb a=>Qn (c b a) d.size⟩
def GN {t:T (n+1)} (h:cS (n+1) t d=true) :
  ((F.k t=1∨F.k t=2∨F.k t=3)->F.q t=[]/\F.o t=[])/\((F.k t=4∨F.k t=6)->F.q t=[])/\(F.k t=5->J (F.q t)=J (F.o t)/\ee (F.q t)=true):=by
 simp only[cS,Qc]at h;have ha:cM (F.k t) (F.n t) (F.a t) (F.q t) (J (F.o t))=true:=h.1.2;refine⟨λhs=>?_,λhs=>?_,λhs=>?_⟩
 .unfold cM at ha;rcases hs with hs|hs|hs;·exact PP
  .exact PP
  .exact PP
 .unfold cM at ha;rcases hs with hs|hs;·rw[hs]at ha;simp at ha;exact ha.1.2
  .rw[hs]at ha;simp at ha;exact ha.1.2
 .unfold cM at ha;rw[hs]at ha;simp at ha;exact⟨E,ha.2⟩
def fU{α:Type}:List ZB->List α->ZB->Option α
 | s :: r,k :: ks,x=>if s=x then Z k else fU r ks x
 | _,_,_=>Y
def py:∀(l:List ZB)(a:List α)(x:ZB),x ∉ l->fU l a x=Y:=by
 intro l;induction l with
 | nil=>intro a x _;cases a<;>rfl
 | cons s r c=>
  intro a x h;cases a with
  | nil=>rfl
  | cons k a=>rw[fU,Qd (λe=>h (by rw[e];exact zS))];exact c a x (λb=>h (Qt _ b))
def Gl:∀(l:List ZB)(a:List α)(i:Nat)(h1:i<J l)(h2:i<J a),DM l->fU l a l[i]=Z a[i]:=by
 intro l;induction l with
 | nil=>intro a i h1;exact absurd h1 (XJ _)
 | cons s r e=>
  intro a i h1 h2 d;cases a with
  | nil=>exact absurd h2 (XJ _)
  | cons k a=>
   have b:=XB.1 d;cases i with
   | zero=>simp[fU]
   | succ i=>have c:i<J r:=Aa;simp only[ZI];rw[fU,Qd (Jl (b.1 _ (QE c)))];exact e a i c Ct b.2
def pV:(L n:Nat)->K n->K (L+1)
 | _,0,k=>Empty.elim (show Empty from k)
 | 0,_+1,k=>(⟨Kd.k k,Kd.q k,[]⟩:Kd (K 0))
 | L+1,n+1,k=>(⟨Kd.k k,Kd.q k,(Kd.o k).map (pV L n)⟩:Kd (K (L+1)))
def bs(l:List UInt8):ZB:=⟨l.toArray⟩
def dE(a b:List UInt8):bs a++bs b=bs (a++b):=by apply ByteArray.ext;simp[bs]
def dG(l:List UInt8):(bs l).size=J l:=by simp[bs,ByteArray.size]
def nw(s:ZB):bs s.data.toList=s:=by apply ByteArray.ext;simp[bs]
def fG(l:List UInt8):(bs l).data.toList=l:=by simp[bs]
def cX:List (List UInt8)->List UInt8
 | []=>[]
 | [x]=>x
 | x :: y :: r=>x++44 :: cX (y :: r)
def GW{l:List (List UInt8)}(x:List UInt8)(h:l≠[]):cX (l++[x])=cX l++44 :: x:=by
 induction l with
 | nil=>exact absurd D h
 | cons a r c=>
  cases r with
  | nil=>simp[cX]
  | cons b r=>simp only[QH,cX]at c ⊢;rw[c zS];simp
def dh:List ZB->List (List UInt8)->List (List UInt8)
 | a :: r,x :: s=>(a.data.toList++58 :: x) :: dh r s
 | _,_=>[]
def AM(l:List (List UInt8)):Nat:=cG (λx=>J x+10) l
def K0(l:List (List UInt8)):J (cX l)<=AM l:=by
 induction l with
 | nil=>simp[cX]
 | cons a r c=>
  cases r with
  | nil=>simp[cX,AM,cG]
  | cons b r=>simp only[cX,AM,cG,Qi,Qs]at c ⊢;omega
def Gb{a:List ZB}(l:List (List UInt8))(h:∀s,s∈a->s.size<=8):J (cX (dh a l))<=AM l:=by
 have c:∀(a:List ZB)(l:List (List UInt8)),(∀s,s∈a->s.size<=8)->J (cX (dh a l))+(if (dh a l).isEmpty then 0 else 1)<=AM l:=by
  intro a;induction a with
  | nil=>intro l _;simp[dh,cX]
  | cons s r e=>
   intro l h;cases l with
   | nil=>simp[dh,cX]
   | cons x t=>
    have d:s.size<=8:=h s zS;have b:J s.data.toList<=8:=by simpa using d
    have:=e t Bh;simp only[dh,AM,cG]at this ⊢;cases hz:dh r t with
    | nil=>simp[cX];rw[hz]at this;simp[cX]at this;simp at b;omega
    | cons y z=>rw[hz]at this;simp only[cX,Qi,Qs]at this ⊢;simp at this ⊢;simp at b;omega
 have:=c a l h;omega
def DC{f g:α->Nat}{l:List α}(h:∀x,x∈l->f x<=g x):cG f l<=cG g l:=by
 induction l with
 | nil=>simp[cG]
 | cons a r b=>have c:=h a zS;have d:=b Bh;simp only[cG];omega
def Fl(f:β->Nat)(g:α->β)(l:List α):cG f (l.map g)=cG (λx=>f (g x)) l:=by
 induction l with
 | nil=>rfl
 | cons a r b=>simp only[Xx,cG,b]
def yN(c:Nat)(f:α->Nat)(l:List α):cG (λx=>c*f x) l=c*cG f l:=by
 induction l with
 | nil=>simp[cG]
 | cons a r b=>simp only[cG,b,Nat.mul_add]
def ly(h:ee l=true):∀s,s∈l->s.size<=8:=by exact T9
def ii(l:List (List UInt8))(k:Nat):J (cX (l.take k))<=J (cX l):=by
 induction l generalizing k with
 | nil=>simp[cX]
 | cons a r c=>
  cases k with
  | zero=>simp[cX]
  | succ k=>
   rw[X3];cases r with
   | nil=>simp[cX]
   | cons b r=>
    cases k with
    | zero=>simp[cX]
    | succ k=>have:=c (k+1);rw[X3]at this ⊢;simp only[cX,Qi,Qs]at this ⊢;omega
def fW{l:List (List UInt8)}(h:k<J l):cX (l.take (k+1))=(if k=0 then [] else cX (l.take k)++[44])++l[k]:=by
 rw[Qq h];by_cases a:k=0;·subst a;simp[cX]
 .rw[Qd a,GW _ (by intro e;have:=Xc Uh e;rw[Xj,Q0]at this;omega)];simp
def eY(a:List ZB)(l:List (List UInt8))(h:J a=J l):J (dh a l)=J l:=by
 induction a generalizing l with
 | nil=>cases l with
  | nil=>rfl
  | cons x r=>simp at h
 | cons s r b=>cases l with
  | nil=>simp at h
  | cons x t=>simp only[dh,Qs]at h ⊢;rw[b t E]
def pm(a:List ZB)(l:List (List UInt8))(k:Nat)(h1:k<J a)(h2:k<J l)(b:k<J (dh a l)):(dh a l)[k]=a[k].data.toList++58 :: l[k]:=by
 induction a generalizing l k with
 | nil=>simp at h1
 | cons s r c=>cases l with
  | nil=>simp at h2
  | cons x t=>cases k with
   | zero=>rfl
   | succ k=>
    simp only[dh,ZI]
    exact c t k Aa Ct (by simpa [dh] using b)
def mK{α:Type}(f:α->List UInt8):List α->List UInt8
 | []=>[]
 | k :: _=>f k
def dm:(n:Nat)->K n->List UInt8
 | 0,_=>[]
 | n+1,t=>
  if Kd.k t=1 then [110,117,109]
  else if Kd.k t=2 then [116,101,120,116]
  else if Kd.k t=3 then [102,108,97,103]
  else if Kd.k t=4 then 91 :: mK (dm n) (Kd.o t)++[93]
  else if Kd.k t=6 then 63 :: mK (dm n) (Kd.o t)
  else 123 :: cX (dh (Kd.q t) ((Kd.o t).map (dm n)))++[125]
def yY:∀(n:Nat)(t:K n)(d:Int),dj n t d=true->J (dm n t)+10<=24*dF n t:=by
 intro n;induction n with
 | zero=>intro t d h;simp[dj]at h
 | succ n o=>
  intro t d h;simp only[dj,Qc]at h;have a:eh (Kd.k t) (Kd.q t) (J (Kd.o t))=true:=h.1.2;have m:=Qo.1 h.2;have f:AM ((Kd.o t).map (dm n))<=24*cG (λx=>dF n x) (Kd.o t):=by unfold AM;rw[Fl,<- yN];exact DC λx q=>o x (d+1) (m x q)
  have p:dF (n+1) t=1+cG (λx=>dF n x) (Kd.o t):=D;rw[p];have e:J (mK (dm n) (Kd.o t))<=24*cG (λx=>dF n x) (Kd.o t):=by
   cases hkk:Kd.o t with
   | nil=>simp[mK]
   | cons k r=>have b:=o k (d+1) (m k (by rw[hkk];exact zS));simp only[mK,cG];omega
  unfold eh at a;simp only[dm];by_cases b:Kd.k t=1;·rw[Qm b];simp;omega
  rw[Qd b]at a ⊢;by_cases g:Kd.k t=2;·rw[Qm g];simp;omega
  rw[Qd g]at a ⊢;by_cases i:Kd.k t=3;·rw[Qm i];simp;omega
  rw[Qd i]at a ⊢;by_cases j:Kd.k t=4;·rw[Qm j];simp only[Qi,Qs,Q0];omega
  rw[Qd j]at a ⊢;by_cases c:Kd.k t=6;·rw[Qm c];simp only[Qs];omega
  rw[Qd c];by_cases l:Kd.k t=5;·rw[Qm l]at a;simp only[Qc]at a;have:=Gb ((Kd.o t).map (dm n)) (ly a.2);simp only[Qi,Qs,Q0];omega
  .rw[Qd l,Qd c]at a;cases a
def ww{t:K n}(h:tI n t=true):dj n t 1=true/\dF n t<=40:=by simpa only[tI,Qc,Qk] using h
def yM{a b:ZB}(h:a=b):Ue (Zt a)=Zr (Zt b):=by rw[h]
def iH(parts:List (List UInt8))(k:Nat):ZB:=bs (cX (parts.take k))
def Fe(h:k<J parts)(a:¬k=0):iH parts (k+1)=iH parts k++bs [44]++bs parts[k]:=by unfold iH;rw[fW h,Qd a,dE,dE]
def DB(h:0<J parts):iH parts (0+1)=bs []++bs parts[0]:=by unfold iH;rw[fW h,Qm rfl,dE]
def Cb(f:α->β)(g:β->Nat)(h:α->Nat):∀l:List α,(∀x,x∈l->g (f x)=h x)->cG g (l.map f)=cG h l:=by
 intro l;induction l with
 | nil=>intro _;rfl
 | cons x r c=>intro a;show g (f x)+cG g (r.map f)=h x+cG h r;rw[a x (XT ..),c λy b=>a y (Qt _ b)]
def gW{p:UInt8->Bool}{a b:List UInt8}(h:∀c,c∈a->p c=true)(d:∀c r,b=c :: r->p c=false):(a++b).takeWhile p=a:=by
 induction a with
 | nil=>cases b with
  | nil=>rfl
  | cons c r=>simp[d c r rfl]
 | cons x r e=>rw[QH,ZU,h x (XT ..)];simp only[XX];rw[e Bh]
def AA{p:UInt8->Bool}{a b:List UInt8}(h:∀c,c∈a->p c=true)(d:∀c r,b=c :: r->p c=false):(a++b).dropWhile p=b:=by
 induction a with
 | nil=>cases b with
  | nil=>rfl
  | cons c r=>simp[d c r rfl]
 | cons x r e=>rw[QH,List.dropWhile_cons,h x (XT ..)];simp only[XX];exact e Bh
def fh(c:UInt8)(s:List UInt8):Option (List UInt8×List UInt8):=
 if s.contains c then Z (s.takeWhile (· != c),s.dropWhile (· != c)) else Y
def dq(w s:List UInt8):Option (List UInt8):=if w.isPrefixOf s then Z (s.drop (J w)) else Y
def fH{w s:List UInt8}(h:dq w s=Z r):s=w++r:=by
 unfold dq at h;split at h
 .next hp=>
  cases h
  obtain⟨t,rfl⟩:=ZC.1 hp;exact dS
 .exact eI
def ie(w r:List UInt8):dq w (w++r)=Z r:=by unfold dq;rw[Qm (ZC.2 ⟨r,rfl⟩)];exact dS
def di(c:UInt8)(r:List UInt8):dq [c] (c :: r)=Z r:=ie [c] r
def mJ{d:UInt8}(r:List UInt8)(h:d≠c):dq [c] (d :: r)=Y:=by unfold dq;rw[Qd];simp only[List.isPrefixOf,Bool.and_true,QP];exact λe=>h e.symm
def o7{s w:List UInt8}(h:fh c s=Z (w,r)):∃d,r=c :: d/\s=w++c :: d/\∀x,x∈w->x≠c:=by
 unfold fh at h;split at h
 .next hc=>
  cases h
  induction s with
  | nil=>simp at hc
  | cons x s j=>
   by_cases b:x=c;·subst b;exact⟨s,zS⟩
   .have f:s.contains c=true:=by
     have h1:c=x∨c∈s:=by simpa using hc
     rcases h1 with h1|h1;·exact absurd h1.symm b
     .exact Aa
    have⟨d,h1,g,i⟩:=j f;have e:(x != c)=true:=by simpa using b
    refine⟨d,?_,?_,?_⟩;·rw[List.dropWhile_cons,e];simpa using h1
    .rw[ZU,e];simpa using g
    .intro y a;rw[ZU,e]at a;simp only[XX]at a;rcases QW.1 a with rfl|a;·exact b
     .exact i y a
 .exact eI
def gX{w:List UInt8}(r:List UInt8)(h:∀x,x∈w->x≠c):fh c (w++c :: r)=Z (w,c :: r):=by
 unfold fh;rw[Qm zS];have a:∀x,x∈w->(x != c)=true:=zE;have b:∀x y,(c :: r)=x :: y->(x != c)=false:=by intro x y e;cases e;simp
 rw[gW a b,AA a b]
def dH(first:Bool):List (List UInt8)->List UInt8
 | []=>[]
 | x :: r=>(if first=true then x else 44 :: x)++dH false r
def gD(x:List UInt8)(r:List (List UInt8)):dH false (x :: r)=44 :: cX (x :: r):=by
 induction r generalizing x with
 | nil=>simp[dH,cX]
 | cons y r a=>rw[dH,a];simp[cX]
def gN(l:List (List UInt8)):dH true l=cX l:=by
 cases l with
 | nil=>rfl
 | cons x r=>
  cases r with
  | nil=>simp[dH,cX]
  | cons y r=>rw[dH,gD];simp[cX]
def i7(h:c8 s=true):∀c,c∈s.data.toList->dz c=true:=by simp only[c8,Qc]at h;exact Qo.1 h.2
def BU(h:dz c=true):c≠58/\c≠125/\c≠44:=by refine⟨?_,?_,?_⟩<;>(rintro rfl;exact absurd h zC)
def rK(h:ee l=true):∀s,s∈l->c8 s=true:=by intro s c;obtain⟨i,a,rfl⟩:=QT c;unfold ee fK at h;have:=Qo.1 h i (Q7.2 a);simp only[gn,Qc]at this;have b:=this.1;rwa [Qw,Qp a]at b
def Cf(l:List UInt8)(h:∀x,x∈l.take k->x≠c)(a:l.drop k=c :: l.drop (k+1)):fh c l=Z (l.take k,l.drop k):=by
 have e:l=l.take k++c :: l.drop (k+1):=by rw[<- a];simp
 conv=>lhs;rw[e]
 rw[gX _ h,a]
def sS{l:List UInt8}(h:∀x,x∈l->x≠c):fh c l=Y:=by
 unfold fh;rw[Qd];intro a;have:c∈l:=by simpa using a
 exact h c this D
def mi(s:ZB)(i k:Nat):(s.extract i (i+k)).toList=(s.data.toList.drop i).take k:=by
 rw[QI];have:(s.extract i (i+k)).data.toList=(s.data.toList.drop i).take k:=by simp[Z7,List.extract_eq_take_drop]
 exact this
def NP{w:ZB}(a:(s.extract i (i+w.size)).toList=w.toList):dq w.data.toList (s.data.toList.drop i)=Z (s.data.toList.drop (i+w.size)):=by
 rw[mi s i w.size,QI]at a;unfold dq;have hp:w.data.toList <+: s.data.toList.drop i:=by rw[<- a];exact List.take_prefix _ _
 rw[Qm (ZC.2 hp),Xk];exact dS
def I5(w:ZB)(c:i<=s.size)(h:¬(i+w.size<=s.size/\(s.extract i (i+w.size)).toList=w.toList)):dq w.data.toList (s.data.toList.drop i)=Y:=by unfold dq;rw[Qd];intro hp;have⟨t,a⟩:=ZC.1 hp;apply h;have b:=Xc Uh a;simp at b;refine⟨E,?_⟩;rw[mi s i w.size,<- a,QI];have:w.size=J w.data.toList:=zS;rw[this,List.take_left]
def wo{j:Nat}(h:j<s.size):s.data.toList.drop j=s[j] :: s.data.toList.drop (j+1):=by rw[Qy mZ];simp[QX]
def Mn(h:i+k<s.size)(b:∀x,x∈(s.data.toList.drop i).take k->x≠c)(d:s[i+k]≠c):∀x,x∈(s.data.toList.drop i).take (k+1)->x≠c:=by
 intro x a;have e:k<J (s.data.toList.drop i):=zE;rw[Qq e]at a;rcases QF.1 a with a|a;·exact b x a
 .rw[QR]at a;subst a;simpa [QX] using d
def rq(s:ZB)(i k:Nat):s.extract i (i+k)=bs ((s.data.toList.drop i).take k):=by have:=mi s i k;rw[QI]at this;rw[<- this,nw]
def fQ{α:Type}(f:List UInt8->Option (α×List UInt8)):Nat->List ZB->List α->List UInt8->Option (List ZB×List α×List UInt8)
 | 0,_,_,_=>Y
 | k+1,ns,acc,s=>
  match dq [125] s with
  | some r=>Z (ns,acc,r)
  | none=>
   match (if J ns=0 then Z s else dq [44] s) with
   | none=>Y
   | some a=>
    match fh 58 a with
    | none=>Y
    | some (w,s2)=>
     match f (s2.drop 1) with
     | none=>Y
     | some (t,r)=>fQ f k (ns++[bs w]) (acc++[t]) r
def oz{α:Type}(f:List UInt8->Option (α×List UInt8))(a:List UInt8)(s:List UInt8):Option (α×List UInt8):=
 match f s with
 | none=>Y
 | some (k,r)=>
  match dq a r with
  | none=>Y
  | some b=>Z (k,b)
def dg:(n:Nat)->List UInt8->Option (K n×List UInt8)
 | 0,_=>Y
 | n+1,s=>
  match dq [110,117,109] s with
  | some r=>Z ((⟨1,[],[]⟩:Kd (K n)),r)
  | none=>
  match dq [116,101,120,116] s with
  | some r=>Z ((⟨2,[],[]⟩:Kd (K n)),r)
  | none=>
  match dq [102,108,97,103] s with
  | some r=>Z ((⟨3,[],[]⟩:Kd (K n)),r)
  | none=>
  match dq [91] s with
  | some r=>
   match oz (dg n) [93] r with
   | none=>Y
   | some (k,r')=>Z ((⟨4,[],[k]⟩:Kd (K n)),r')
  | none=>
  match dq [63] s with
  | some r=>
   match oz (dg n) [] r with
   | none=>Y
   | some (k,r')=>Z ((⟨6,[],[k]⟩:Kd (K n)),r')
  | none=>
  match dq [123] s with
  | some r=>
   match fQ (dg n) (J r+1) [] [] r with
   | none=>Y
   | some (ns,ks,r')=>Z ((⟨5,ns,ks⟩:Kd (K n)),r')
  | none=>Y
def iO(c:UInt8)(w:List UInt8)(d:UInt8)(r:List UInt8)(h:d≠c):dq (c :: w) (d :: r)=Y:=by unfold dq;rw[Qd];simp only[List.isPrefixOf,Qc,QP,not_and];exact λe=>absurd e.symm h
def NO(s:List UInt8):dq [] s=Z s:=by simp[dq]
def tX (f:List UInt8->Option (α × List UInt8)) (txt:α->List UInt8) (n:∀ s t r,f s=Z (t,r)->s=txt t++r)
  (fuel:Nat) (a:List ZB) (acc:List α) (s:List UInt8) (j:List ZB) (l:List α) (r:List UInt8) (h:fQ f fuel a acc s=Z (j,l,r)) :
  ∃d c,j=a++d/\l=acc++c/\J d=J c/\s=dH (decide (J a=0)) (dh d (c.map txt))++125 :: r:=by
 induction fuel generalizing a acc s with
 | zero=>simp[fQ]at h
 | succ k o=>
  rw[fQ]at h;cases h1:dq [125] s with
  | some r1=>rw[h1]at h;simp only[XP,Prod.mk.injEq]at h;obtain⟨rfl,rfl,rfl⟩:=h;exact⟨[],[],zS,zS,D,by simpa [dH,dh] using fH h1⟩
  | none=>
   rw[h1]at h;simp only at h;cases h2:(if J a=0 then Z s else dq [44] s) with
   | none=>rw[h2]at h;cases h
   | some v=>
    rw[h2]at h;simp only at h;cases hu:fh 58 v with
    | none=>rw[hu]at h;cases h
    | some x=>
    obtain⟨w,B⟩:=x;rw[hu]at h;simp only at h;have⟨y,z,m,C⟩:=o7 hu;subst z;simp only[Xv,Xn]at h;cases h3:f y with
    | none=>rw[h3]at h;cases h
    | some x=>
     obtain⟨t,r2⟩:=x;rw[h3]at h;simp only at h;have i:=n _ _ _ h3;have⟨d,c,q,p,u,g⟩:=o _ _ _ h;have b:decide (J (a++[bs w])=0)=false:=zS;rw[b]at g;refine⟨bs w :: d,t :: c,by simpa using q,by simpa using p,by simp[u],?_⟩;simp only[Xx,dh,dH,QZ,fG];by_cases e:J a=0
     .rw[Qm e]at h2;cases h2
      simp only[e,XU,XX,QZ,QH];rw[<- g,<- i];exact m
     .rw[Qd e]at h2;simp only[e,Zq,Xu,Zf,QH,QZ];rw[<- g,<- i,<- m];exact fH h2
def L5{f:List UInt8->Option (α×List UInt8)}{c s:List UInt8}{k:α}(h:oz f c s=Z (k,r)):∃r1,f s=Z (k,r1)/\r1=c++r:=by
 unfold oz at h;cases h1:f s with
 | none=>rw[h1]at h;cases h
 | some x=>
  obtain⟨t,r1⟩:=x;rw[h1]at h;simp only at h;cases h2:dq c r1 with
  | none=>rw[h2]at h;cases h
  | some r2=>rw[h2]at h;cases h;exact⟨r1,D,fH h2⟩
def Du:∀(n:Nat)(s:List UInt8)(k:K n)(r:List UInt8),dg n s=Z (k,r)->s=dm n k++r:=by
 intro n;induction n with
 | zero=>intro s k r h;simp[dg]at h
 | succ n ih=>
  intro s k r h;rw[dg]at h;split at h;·next r1 h1=>cases h;simpa [dm] using fH h1
  split at h;·next r1 h1=>cases h;simpa [dm] using fH h1
  split at h;·next r1 h1=>cases h;simpa [dm] using fH h1
  split at h
  .next r1 h1=>
   cases h2:oz (dg n) [93] r1 with
   | none=>rw[h2]at h;cases h
   | some x=>exact Yc
  split at h
  .next r1 h1=>
   cases h2:oz (dg n) [] r1 with
   | none=>rw[h2]at h;cases h
   | some x=>exact Yc
  split at h
  .next r1 h1=>
   cases h2:fQ (dg n) (J r1+1) [] [] r1 with
   | none=>rw[h2]at h;cases h
   | some x=>
    obtain⟨i,d,r2⟩:=x;rw[h2]at h;cases h
    have⟨g,c,b,k1,f,a⟩:=tX _ (dm n) E _ _ _ _ _ _ _ h2;simp only[XM]at b k1;subst b k1;simp only[Q0,XU,gN]at a;rw[fH h1,a];simp[dm]
  .exact eI
def x6 (f:List UInt8->Option (α × List UInt8)) (txt:α->List UInt8) (ks:List α) (i:∀ k,k∈ks->∀ post,f (txt k++post)=Z (k,post))
  (ms:List ZB) (h:∀s,s∈ms->c8 s=true) (qe:J ms=J ks) (fuel:Nat) (ns:List ZB) (acc:List α) (post:List UInt8) (b:J ks<fuel) :
  fQ f fuel ns acc (dH (decide (J ns=0)) (dh ms (ks.map txt))++125 :: post)=Z (ns++ms,acc++ks,post):=by
 induction ks generalizing fuel ns acc ms with
 | nil=>
  have:ms=[]:=Qj z8;subst this;cases fuel with
  | zero=>simp at b
  | succ k=>simp[fQ,dH,dh,di]
 | cons x ks q=>
  cases ms with
  | nil=>simp at qe
  | cons m ms=>
  cases fuel with
  | zero=>omega
  | succ k=>
   have j:=h m zS;have d:=i7 j;have p:1<=m.size:=by simp only[c8,Qc,Qk]at j;exact E
   have step:=i x zS (dH false (dh ms (ks.map txt))++125 :: post);have rest:=q (λk n=>i k (Qt _ n)) ms (λs o=>h s (Qt _ o)) z8 k (ns++[m]) (acc++[x]) (by simp at b;omega);have a:decide (J (ns++[m])=0)=false:=zS;rw[a]at rest;have vr:=gX (c:=58) (w:=m.data.toList) (txt x++(dH false (dh ms (ks.map txt))++125 :: post)) (λc l=>(BU (d c l)).1);have g:∃c r,m.data.toList=c :: r:=by
    cases hd:m.data.toList with
    | nil=>
     have t:J m.data.toList=0:=by rw[hd];rfl
     have u:J m.data.toList=m.size:=zS;omega
    | cons c r=>exact zS
   obtain⟨c,r,e⟩:=g;have qW:=BU (d c (by rw[e];exact zS));exact Yl
def o5(l:List (List UInt8))(h:∀x,x∈l->x≠[]):∀b,J l<=J (dH b l):=by
 induction l with
 | nil=>intro b;simp
 | cons x r a=>
  intro b;have d:=a Bh false;have e:1<=J x:=by
   cases x with
   | nil=>exact absurd D (h [] zS)
   | cons c y=>simp
  simp only[dH,Qi,Qs];split;·omega
  .simp only[Qs];omega
def Ki(a:List ZB)(l:List (List UInt8)):∀x,x∈dh a l->x≠[]:=by
 induction a generalizing l with
 | nil=>intro x b;simp[dh]at b
 | cons s r c=>
  intro x b;cases l with
  | nil=>simp[dh]at b
  | cons y t=>
   simp only[dh]at b;rcases QW.1 b with rfl|b;·exact dS
   .exact c t x b
def u4:∀(n:Nat)(k:K n)(d:Int)(a:List UInt8),dj n k d=true->dg n (dm n k++a)=Z (k,a):=by
 intro n;induction n with
 | zero=>intro k d a h;simp[dj]at h
 | succ n w=>
  intro k d a h;simp only[dj,Qc]at h;have ha:eh (Kd.k k) (Kd.q k) (J (Kd.o k))=true:=h.1.2;have m:=Qo.1 h.2;obtain⟨j,na,c⟩:Kd (K n):=k;simp only at ha m;unfold eh at ha;have one:∀(b:List UInt8),(J c:Int)=1->∃x,c=[x]/\∀a,oz (dg n) b (dm n x++(b++a))=Z (x,a):=by
   intro b hl;match c,hl,m with
   | [x],_,m=>refine⟨x,D,λa=>?_⟩;unfold oz;rw[w x (d+1) (b++a) (m x (XT ..))];simp only[ie]
  by_cases l:j=1;·rw[Qm l]at ha;simp only[Qc,QP]at ha;have g:na=[]:=Qj we;have i:c=[]:=Qj Cm;subst g i l;have e:dm (n+1) (⟨1,[],[]⟩:Kd (K n))=[110,117,109]:=Ac;rw[e,dg,ie]
  rw[Qd l]at ha;by_cases o:j=2;·rw[Qm o]at ha;simp only[Qc,QP]at ha;have g:na=[]:=Qj we;have i:c=[]:=Qj Cm;subst g i o;have e:dm (n+1) (⟨2,[],[]⟩:Kd (K n))=[116,101,120,116]:=Ac;rw[e,dg,ie];simp[dq,List.isPrefixOf]
  rw[Qd o]at ha;by_cases p:j=3;·rw[Qm p]at ha;simp only[Qc,QP]at ha;have g:na=[]:=Qj we;have i:c=[]:=Qj Cm;subst g i p;have e:dm (n+1) (⟨3,[],[]⟩:Kd (K n))=[102,108,97,103]:=Ac;rw[e,dg,ie];simp[dq,List.isPrefixOf]
  rw[Qd p]at ha;by_cases q:j=4
  .rw[Qm q]at ha;simp only[Qc,QP]at ha;have g:na=[]:=Qj we;have⟨x,i,v⟩:=one [93] ha.2;subst g i q;have e:dm (n+1) (⟨4,[],[x]⟩:Kd (K n))++a=91 :: (dm n x++([93]++a)):=by simp[dm,mK]
   rw[e,dg,iO 110 _ 91 _ zC,iO 116 _ 91 _ zC,iO 102 _ 91 _ zC,di];simp only[v]
  rw[Qd q]at ha;by_cases r:j=5
  .rw[Qm r]at ha;simp only[Qc,QP]at ha;have hl:J na=J c:=we;subst r;have e:dm (n+1) (⟨5,na,c⟩:Kd (K n))++a=123 :: (dH true (dh na (c.map (dm n)))++125 :: a):=by simp[dm,gN]
   have t:J c<J (dH true (dh na (c.map (dm n)))++125 :: a)+1:=by have l:=o5 (dh na (c.map (dm n))) (Ki _ _) true;rw[eY _ _ pd,Qv]at l;simp only[Qi,Qs];omega
   have f:=x6 (dg n) (dm n) c (λk u a=>w k (d+1) a (m k u)) na (rK ha.2) hl _ [] [] a t;simp only[Q0,XU,XM]at f;rw[e,dg,iO 110 _ 123 _ zC,iO 116 _ 123 _ zC,iO 102 _ 123 _ zC,iO 91 _ 123 _ zC,iO 63 _ 123 _ zC,di];simp only[f]
  rw[Qd r]at ha;by_cases s:j=6
  .rw[Qm s]at ha;simp only[Qc,QP]at ha;have g:na=[]:=Qj we;have⟨x,i,v⟩:=one [] ha.2;subst g i s;have e:dm (n+1) (⟨6,[],[x]⟩:Kd (K n))++a=63 :: (dm n x++([]++a)):=by simp[dm,mK]
   rw[e,dg,iO 110 _ 63 _ zC,iO 116 _ 63 _ zC,iO 102 _ 63 _ zC,iO 91 _ 63 _ zC,di];simp only[v]
  .rw[Qd s]at ha;cases ha
def gT(n:Nat)(s:ZB):Option (K n):=
 if s.size<=800 then
  match dg n s.data.toList with
  | some (k,[])=>if tI n k=true then Z k else Y
  | _=>Y
 else Y
def rI{k:K n}(h:gT n s=Z k):s.size<=800/\tI n k=true/\dm n k=s.data.toList:=by
 unfold gT at h;split at h
 .next h8=>
  split at h
  .next k' hp=>
   split at h
   .next hok=>
    cases h
    exact⟨h8,hok,by have:=Du n _ _ _ hp;simpa using this.symm⟩
   .exact eI
  .exact eI
 .exact eI
def O4{k:K n}(b:s.size<=800)(a:tI n k=true)(c:dm n k=s.data.toList):gT n s=Z k:=by unfold gT;rw[Qm b,<- c];have:=u4 n k 1 [] (ww a).1;rw[XF]at this;rw[this];simp only[a,XX]
def gA{α:Type}(f:α->List UInt8):List α->List UInt8
 | []=>[126]
 | k :: _=>63 :: f k
def cK:(n:Nat)->T n->List UInt8
 | 0,_=>[]
 | n+1,t=>
  if F.k t=1 then W6 (F.n t)
  else if F.k t=2 then 34 :: (F.a t).data.toList++[34]
  else if F.k t=3 then (if F.n t=1 then [121,101,115] else [110,111])
  else if F.k t=6 then gA (cK n) (F.o t)
  else if F.k t=5 then 123 :: cX (dh (F.q t) ((F.o t).map (cK n)))++[125]
  else 91 :: cX ((F.o t).map (cK n))++[93]
def mw:∀(n:Nat)(t:T n)(d:Int),cS n t d=true->J (cK n t)+10<=82*cJ n t:=by
 intro n;induction n with
 | zero=>intro t d h;simp[cS]at h
 | succ n l=>
  intro t d h;simp only[cS,Qc]at h;have a:cM (F.k t) (F.n t) (F.a t) (F.q t) (J (F.o t))=true:=h.1.2;have j:=Qo.1 h.2;have e:AM ((F.o t).map (cK n))<=82*cG (λx=>cJ n x) (F.o t):=by unfold AM;rw[Fl,<- yN];exact DC λx q=>l x (d+1) (j x q)
  have o:cJ (n+1) t=1+cG (λx=>cJ n x) (F.o t):=D;rw[o];have s:=K0 ((F.o t).map (cK n));unfold cM at a;simp only[cK];by_cases b:F.k t=1;·rw[Qm b]at a ⊢;simp only[Qc,Qk]at a;have:=Wx (F.n t) E E;omega
  rw[Qd b]at a ⊢;by_cases f:F.k t=2;·rw[Qm f]at a ⊢;simp only[Qc,eW,Qk]at a;have:(F.a t).size<=60:=E;have p:J (F.a t).data.toList=(F.a t).size:=zS;simp only[Qi,Qs,Q0,p];omega
  rw[Qd f]at a ⊢;by_cases g:F.k t=3;·rw[Qm g];split<;>simp<;>omega
  rw[Qd g]at a ⊢;by_cases i:F.k t=6
  .rw[Qm i];cases hkk:F.o t with
   | nil=>simp[gA];omega
   | cons k r=>have b:=l k (d+1) (j k (by rw[hkk];exact zS));simp only[gA,Qs,cG];omega
  rw[Qd i];by_cases c:F.k t=5;·have m:¬F.k t=4:=E;rw[Qd m,Qm c]at a;rw[Qm c];simp only[Qc]at a;have:=Gb ((F.o t).map (cK n)) (ly a.2);simp only[Qi,Qs,Q0];omega
  rw[Qd c];simp only[Qi,Qs,Q0];omega
def qdT:List (List UInt8):=[[],[],[],[],[],[110,111,110,101],[101,109,112,116,121],[115,111,109,101],[111,110,101],[97,100,100],[115,117,98],[109,117,108],[100,105,118],[114,101,109],[108,101,115,115],[115,97,109,101],[97,110,100],[111,114],[110,111,116],[105,102],[108,101,116],[103,101,116],[112,117,116],[99,117,116],[102,111,114,109],[97,116],[115,105,122,101],[106,111,105,110],[112,97,114,116],[115,104,111,119],[114,101,97,100],[101,108,115,101],[99,97,115,101],[109,97,112],[107,101,101,112],[102,111,108,100],[100,114,111,112],[102,97,105,108],[101,109,105,116],[115,101,110,100],[98,111,116,104],[99,104,111,111,115,101],[116,97,107,101],[101,97,99,104]]
def qdO:List (List UInt8):=[[],[84],[84],[84],[88],[75],[75],[86],[86],[86,86],[86,86],[86,86],[86,86],[86,86],[86,86],[86,86],[86,86],[86,86],[86],[86,86,86],[88,86,86],[78,86],[78,86,86],[78,86],[70],[86,86],[86],[86,86],[86,86,86],[86],[86],[86,86],[88,86,86,86],[88,86,86],[88,86,86],[88,88,86,86,86],[],[35],[86],[78,35,86],[65,65],[86,65,65],[88,86,65],[88,86,65]]
def lF(k:Nat):ZB:=bs (qdT.getD k [])
def ia(k:Nat):List UInt8:=qdO.getD k []
def Aq(k:Nat):Int:=if k=39 then 1 else 0
def Ar(k:Nat):Int:=if k=37 then 99 else if k=39 then 12 else 0
def OR(s:ZB)(k:Nat):Nat->Nat
 | 0=>0
 | n+1=>if lF k==s then k else OR s (k+1) n
def AV(s:ZB):Nat:=OR s 5 39
def eM(s:ZB):Bool:=c8 s && (AV s==0) && !(s==bs [121,101,115]) && !(s==bs [110,111]) && !(s==bs [101,110,100])
def vu(op:Int):Int:=if op<1∨43<op then 0 else if op<36 then 86 else 65
def kr(l:List ZB)(i:Nat):Bool:=gn l i && !(l.getD i WT==bs [101,110,100])
def lu(s:ZB):Bool:=(gT (s.size+8) s).isSome
def gd(p:UInt8)(a:ZB)(b:List ZB):Bool:=if p=78 then c8 a else eM a && !(b.contains a)
def fI{α:Type}(po:α->Int)(n:F α)(k:Nat):Bool:=(Ua k).all (λi=>kr n.q i && ((n.o.map po).getD i 0==86))
def fD{α:Type}(po:α->Int)(n:F α):Bool:=(J n.q==J n.o) && fI po n (J n.q)
def pX(po:α->Int)(n:F α)(k:Nat):fI po n (k+1)=(fI po n k && (kr n.q k && ((n.o.map po).getD k 0==86))):=by simp[fI,X7]
def xv{po:α->Int}{n:F α}(h:k<J n.q)(a:(kr n.q k && ((n.o.map po).getD k 0==86))=false):fI po n (J n.q)=false:=by unfold fI;rw[ZM];exact⟨k,Q7.2 h,by show ¬(_ && _)=true;rw[a];decide⟩
def iF{α:Type}(po:α->Int)(n r:F α)(p:UInt8):Option (F α):=
 if p=84 then (if cM n.k n.n n.a [] 0=true then Z ⟨r.k,0,WT,r.q,r.o⟩ else Y)
 else if p=35 then (if Aq n.k.toNat<=n.n/\n.n<=Ar n.k.toNat then Z ⟨r.k,0,r.a,r.q,r.o⟩ else Y)
 else if p=75 then (if lu n.a=true then Z ⟨r.k,r.n,WT,r.q,r.o⟩ else Y)
 else if p=70 then (if fD po n=true then Z ⟨r.k,r.n,r.a,[],[]⟩ else Y)
 else if p=78∨p=88 then
  match r.q with
  | []=>Y
  | a :: q=>if gd p a (n.q.take (J n.q-(J q+1)))=true then Z ⟨r.k,r.n,r.a,q,r.o⟩ else Y
 else
  match r.o with
  | []=>Y
  | k :: q=>if po k=(p.toNat:Int) then Z ⟨r.k,r.n,r.a,r.q,q⟩ else Y
def oN{α:Type}(r:Option (F α)):Bool:=
 match r with
 | some r=>(r.n==0) && r.a.toList.isEmpty && ((J r.q:Int)==0) && ((J r.o:Int)==0)
 | none=>false
def gp{α:Type}(po:α->Int)(n:F α):List UInt8->F α->Option (F α)
 | [],r=>Z r
 | p :: ps,r=>
  match iF po n r p with
  | none=>Y
  | some a=>gp po n ps a
def ig{po:α->Int}{n r a:F α}(h:iF po n r p=Z a)(ps:List UInt8):gp po n (p :: ps) r=gp po n ps a:=by rw[gp,h]
def gv{po:α->Int}{n r:F α}(h:iF po n r p=Y)(ps:List UInt8):gp po n (p :: ps) r=Y:=by rw[gp,h]
def eQ{α:Type}(po:α->Int)(n:F α):Bool:=
 decide (1<=n.k/\n.k<=43) && oN (gp po n (ia n.k.toNat) n)
def Pf(po:α->Int)(n r:F α):iF po n r 84=if cM n.k n.n n.a [] 0=true then Z ⟨r.k,0,WT,r.q,r.o⟩ else Y:=by unfold iF;rw[Qm rfl]
def Ii(po:α->Int)(n r:F α):iF po n r 35=if Aq n.k.toNat<=n.n/\n.n<=Ar n.k.toNat then Z ⟨r.k,0,r.a,r.q,r.o⟩ else Y:=by unfold iF;rw[Qd zC,Qm rfl]
def Pe(po:α->Int)(n r:F α):iF po n r 75=if lu n.a=true then Z ⟨r.k,r.n,WT,r.q,r.o⟩ else Y:=by unfold iF;rw[Qd zC,Qd zC,Qm rfl]
def Pd(po:α->Int)(n r:F α):iF po n r 70=if fD po n=true then Z ⟨r.k,r.n,r.a,[],[]⟩ else Y:=by unfold iF;rw[Qd zC,Qd zC,Qd zC,Qm rfl]
def Fj(po:α->Int)(n:F α){r:F α}(hp:p=78∨p=88)(h:r.q=[]):iF po n r p=Y:=by unfold iF;rw[Qd wd,Qd wd,Qd wd,Qd wd,Qm hp,h]
def sO(po:α->Int)(n:F α){r:F α}(hp:p=78∨p=88){a:ZB}(h:r.q=a :: q):iF po n r p=if gd p a (n.q.take (J n.q-(J q+1)))=true then Z ⟨r.k,r.n,r.a,q,r.o⟩ else Y:=by unfold iF;rw[Qd wd,Qd wd,Qd wd,Qd wd,Qm hp,h]
def JH(po:α->Int)(n:F α){r:F α}{v:UInt8}(hv:v=86∨v=65)(h:r.o=[]):iF po n r v=Y:=by unfold iF;rw[Qd Bc,Qd Bc,Qd Bc,Qd Bc,Qd Bc,h]
def B9(po:α->Int)(n:F α){r:F α}{v:UInt8}(hv:v=86∨v=65){k:α}{q:List α}(h:r.o=k :: q):iF po n r v=if po k=(v.toNat:Int) then Z ⟨r.k,r.n,r.a,r.q,q⟩ else Y:=by unfold iF;rw[Qd Bc,Qd Bc,Qd Bc,Qd Bc,Qd Bc,h]
def K9 (po:α->Int) (n:F α):∀ (a:List UInt8),(∀ v,v∈a->v=86∨v=65)->∀ r:F α,
  gp po n a r=if (r.o.take (J a)).map po=a.map (λv=>(v.toNat:Int)) then Z ⟨r.k,r.n,r.a,r.q,r.o.drop (J a)⟩ else Y:=by
 intro a;induction a with
 | nil=>intro _ r;simp[gp]
 | cons v a e=>
  intro c r;have b:=c v zS;cases hk:r.o with
  | nil=>rw[gp,JH po n b hk];simp
  | cons k q=>
   by_cases hp:po k=(v.toNat:Int);·rw[gp,B9 po n b hk,Qm hp];show gp po n a _=_;rw[e (λx d=>c x (Qt _ d))];simp[hp]
   .rw[gp,B9 po n b hk,Qd hp];simp[hp]
def fO(k:Nat):List UInt8:=(ia k).filter (λp=>!(p==86 || p==65))
def mD(k:Nat):List UInt8:=(ia k).filter (λp=>p==86 || p==65)
def B4:∀k,k<44->ia k=fO k++mD k:=zC
def ye(k:Nat):∀v,v∈mD k->v=86∨v=65:=by intro v a;have:=(List.mem_filter.1 a).2;exact iG
def dM{α:Type}(n:F α)(c:List UInt8):Bool:=
 match c with
 | []=>(n.n==0) && n.a.toList.isEmpty && ((J n.q:Int)==0)
 | [84]=>cM n.k n.n n.a [] 0 && ((J n.q:Int)==0)
 | [75]=>(n.n==0) && lu n.a && ((J n.q:Int)==0)
 | [35]=>decide (Aq n.k.toNat<=n.n/\n.n<=Ar n.k.toNat) && n.a.toList.isEmpty && ((J n.q:Int)==0)
 | [88]=>(n.n==0) && n.a.toList.isEmpty && (match n.q with|[a]=>eM a|_=>false)
 | [78]=>(n.n==0) && n.a.toList.isEmpty && (match n.q with|[a]=>c8 a|_=>false)
 | [88,88]=>(n.n==0) && n.a.toList.isEmpty && (match n.q with|[a,b]=>eM a && eM b && !(b==a)|_=>false)
 | [78,35]=>decide (Aq n.k.toNat<=n.n/\n.n<=Ar n.k.toNat) && n.a.toList.isEmpty && (match n.q with|[a]=>c8 a|_=>false)
 | _=>false
def og:∀k,k<44->k=24∨fO k=[]∨fO k=[84]∨fO k=[75]∨fO k=[35]∨fO k=[88]∨fO k=[78]∨fO k=[88,88]∨fO k=[78,35]:=zC
def NS (po:α->Int) (n r:F α) (d:∀ v,v∈vs->v=86∨v=65) :
  oN (gp po n vs r)=((r.n==0) && r.a.toList.isEmpty && ((J r.q:Int)==0) && decide (r.o.map po=vs.map (λv=>(v.toNat:Int)))):=by
 rw[K9 po n vs d r];by_cases h:(r.o.take (J vs)).map po=vs.map (λv=>(v.toNat:Int))
 .rw[Qm h];have b:=Xc Uh h;simp only[Qv,Xj]at b;by_cases a:J r.o=J vs
  .have e:r.o.map po=vs.map (λv=>(v.toNat:Int)):=by rw[<- h,Xf E]
   rw[QK e];simp[oN,a]
  .have e:¬r.o.map po=vs.map (λv=>(v.toNat:Int)):=λe=>a (by simpa using Xc Uh e);rw[QU e];have c:¬(J r.o)-J vs=0:=E;simp[oN,c]
 .rw[Qd h];have e:¬r.o.map po=vs.map (λv=>(v.toNat:Int)):=λe=>h (by
   have b:J r.o=J vs:=by simpa using Xc Uh e
   rw[Xf E,e])
  rw[QU e];simp[oN]
def Td:ByteArray.empty.toList.isEmpty=true:=by have e:J ByteArray.empty.toList=ByteArray.empty.size:=zS;exact zS
def asX{a:ZB}(h:J l-(J q+1)=0):gd 88 a (l.take (J l-(J q+1)))=eM a:=by rw[h];simp[gd]
def asN{a:ZB}:gd 78 a (l.take (J l-(J q+1)))=c8 a:=by simp[gd]
def qdF{a b:ZB}{r:List ZB}:gd 88 b ((a :: b :: r).take (J (a :: b :: r)-(J r+1)))=(eM b && !(b==a)):=by have e:J (a :: b :: r)-(J r+1)=1:=zS;rw[e];simp[gd]
def Oc (po:α->Int) (n:F α) {d:List UInt8} (o:∀ v,v∈vs->v=86∨v=65)
  (hp:d=[]∨d=[84]∨d=[75]∨d=[35]∨d=[88]∨d=[78]∨d=[88,88]∨d=[78,35]) :
  oN (gp po n (d++vs) n)=(dM n d && decide (n.o.map po=vs.map (λv=>(v.toNat:Int)))):=by
 have j:=λr=>NS po n r o;have f:oN (Y:Option (F α))=false:=D;rcases hp with rfl|rfl|rfl|rfl|rfl|rfl|rfl|rfl;·exact j _
 .show oN (gp po n (84 :: vs) n)=_;by_cases h:cM n.k n.n n.a [] 0=true;·rw[ig ((Pf po n n).trans (Qm h)),j];simp only[dM,h,Td];rfl
  .rw[gv ((Pf po n n).trans (Qd h)),f];simp only[dM,XL.2 h];rfl
 .show oN (gp po n (75 :: vs) n)=_;by_cases h:lu n.a=true;·rw[ig ((Pe po n n).trans (Qm h)),j];simp only[dM,h,Td]
  .rw[gv ((Pe po n n).trans (Qd h)),f];simp only[dM,XL.2 h,Bool.and_false,Ze]
 .show oN (gp po n (35 :: vs) n)=_;by_cases h:Aq n.k.toNat<=n.n/\n.n<=Ar n.k.toNat;·rw[ig ((Ii po n n).trans (Qm h)),j];simp only[dM,QK h];rfl
  .rw[gv ((Ii po n n).trans (Qd h)),f];simp only[dM,QU h,Ze]
 .show oN (gp po n (88 :: vs) n)=_;cases hl:n.q with
  | nil=>rw[gv (Fj po n (.inr rfl) hl),f];simp[dM,hl]
  | cons a q=>
   have g:=asX (a:=a) (l:=n.q) (q:=q) (by rw[hl];simp);by_cases h:eM a=true
   .rw[ig ((sO po n (.inr rfl) hl).trans (Qm (g.trans h))),j];cases q with
    | nil=>simp[dM,hl,h]
    | cons b r=>simp[dM,hl];omega
   .rw[gv ((sO po n (.inr rfl) hl).trans (Qd (by rw[g];exact h))),f];exact PN
 .show oN (gp po n (78 :: vs) n)=_;cases hl:n.q with
  | nil=>rw[gv (Fj po n (.inl rfl) hl),f];simp[dM,hl]
  | cons a q=>
   have g:=asN (a:=a) (l:=n.q) (q:=q);by_cases h:c8 a=true
   .rw[ig ((sO po n (.inl rfl) hl).trans (Qm (g.trans h))),j];cases q with
    | nil=>simp[dM,hl,h]
    | cons b r=>simp[dM,hl];omega
   .rw[gv ((sO po n (.inl rfl) hl).trans (Qd (by rw[g];exact h))),f];exact PN
 .show oN (gp po n (88 :: 88 :: vs) n)=_;cases hl:n.q with
  | nil=>rw[gv (Fj po n (.inr rfl) hl),f];simp[dM,hl]
  | cons a q=>
   have g:=asX (a:=a) (l:=n.q) (q:=q) (by rw[hl];simp);by_cases h:eM a=true
   .rw[ig ((sO po n (.inr rfl) hl).trans (Qm (g.trans h)))];cases hq:q with
    | nil=>rw[gv (Fj po n (.inr rfl) rfl),f];simp[dM,hl,hq]
    | cons b r=>
     subst hq;have k:=qdF (a:=a) (b:=b) (r:=r);rw[<- hl]at k;by_cases i:(eM b && !(b==a))=true
     .rw[ig ((sO po n (r:=⟨n.k,n.n,n.a,b :: r,n.o⟩) (.inr rfl) rfl).trans (Qm (k.trans i))),j];cases r with
      | nil=>simp only[dM,hl,h];simp at i;simp[i]
      | cons c r=>simp[dM,hl];omega
     .rw[gv ((sO po n (r:=⟨n.k,n.n,n.a,b :: r,n.o⟩) (.inr rfl) rfl).trans (Qd (by rw[k];exact i))),f];cases r with
      | nil=>
       have e:(eM a && eM b && !(b==a))=false:=by rw[Wy,XL.2 i];simp
       simp only[dM,hl,e,Bool.and_false,Ze]
      | cons c r=>simp[dM,hl]
   .rw[gv ((sO po n (.inr rfl) hl).trans (Qd (by rw[g];exact h))),f];match q with
    | []=>simp[dM,hl]
    | [b]=>simp[dM,hl,h]
    | b :: c :: r=>simp[dM,hl]
 .show oN (gp po n (78 :: 35 :: vs) n)=_;cases hl:n.q with
  | nil=>rw[gv (Fj po n (.inl rfl) hl),f];simp[dM,hl]
  | cons a q=>
   have g:=asN (a:=a) (l:=n.q) (q:=q);by_cases h:c8 a=true
   .rw[ig ((sO po n (.inl rfl) hl).trans (Qm (g.trans h)))];by_cases m:Aq n.k.toNat<=n.n/\n.n<=Ar n.k.toNat
    .rw[ig ((Ii po n _).trans (Qm m)),j];cases q with
     | nil=>simp[dM,hl,h,m]
     | cons b r=>simp[dM,hl];omega
    .rw[gv ((Ii po n _).trans (Qd m)),f];simp only[dM,QU m,Ze]
   .rw[gv ((sO po n (.inl rfl) hl).trans (Qd (by rw[g];exact h))),f];exact PN
def mL (po:α->Int) {n:F α} (b:1<=n.k) (c:n.k<=43) (e:n.k≠24) :
  eQ po n=(dM n (fO n.k.toNat) && decide (n.o.map po=(mD n.k.toNat).map (λv=>(v.toNat:Int)))):=by have a:n.k.toNat<44:=E;have d:=(og _ a).resolve_left E;unfold eQ;rw[B4 _ a,Oc po n (ye _) d];simp[b,c]
def l5 (po:α->Int) {n:F α} (h:n.k=24) :
  eQ po n=(fD po n && ((n.n==0) && n.a.toList.isEmpty)):=by
 have e:ia 24=[70]:=zC;unfold eQ;rw[h,show (24:Int).toNat=24 from D,e];by_cases a:fD po n=true;·rw[ig ((Pd po n n).trans (Qm a))];simp[a,oN,gp]
 .rw[gv ((Pd po n n).trans (Qd a))];simp[a,oN]
def p8:(m:Nat)->T m->Int
 | 0,_=>0
 | _+1,t=>F.k t
def iQ(m:Nat)(t:T m):Int:=vu (p8 m t)
def c7:(m:Nat)->T m->Int->Bool
 | 0,_,_=>false
 | m+1,t,d=>decide (d<=24) && eQ (iQ m) (show F (T m) from t) && (F.o t).all (λk=>c7 m k (d+1))
def lN(s m:Int)(x:ZB):T 1:=(⟨s,m,x,[],[]⟩:F (T 0))
def kw(s m:Int)(x:ZB):List UInt8:=cK 1 (lN s m x)
def kP{α:Type}(a:α->Nat)(n:F α):Nat:=
 if n.k<=3 then J (kw n.k n.n n.a)
 else if n.k=4 then (n.q.headD WT).size
 else (lF n.k.toNat).size+gV n.q+(if n.a.size=0 then 0 else n.a.size+1)+(if n.k=37∨n.k=39 then J (W6 n.n)+1 else 0)+cG (λk=>a k+1) n.o+(if n.k=24 then 4 else 0)
def dC:(m:Nat)->T m->Nat
 | 0,_=>0
 | m+1,t=>kP (dC m) (show F (T m) from t)
def wk(k x:Nat):Nat:=if k=0 then x else k+1+x
def iI(h:1<=k)(x:Nat):wk k x=k+1+x:=by unfold wk;rw[Qd E]
def gq{α:Type}(b:α->Nat):List ZB->List α->Nat->Nat
 | a :: ns,x :: ks,k=>gq b ns ks (wk (wk k a.size) (b x))
 | _,_,k=>k
def gR{α:Type}(b:α->Nat)(n:F α):List UInt8->List ZB->List α->Nat->Nat
 | [],_,_,k=>k
 | p :: ps,ns,ks,k=>
  if p=84 then gR b n ps ns ks (wk k (J (kw n.k n.n n.a)))
  else if p=35 then gR b n ps ns ks (wk k (J (W6 n.n)))
  else if p=75 then gR b n ps ns ks (wk k n.a.size)
  else if p=70 then gR b n ps ns ks (wk (gq b n.q n.o k) 3)
  else if p=78∨p=88 then
   match ns with
   | []=>k
   | a :: q=>gR b n ps q ks (wk k a.size)
  else
   match ks with
   | []=>k
   | x :: q=>gR b n ps ns q (wk k (b x))
def lM{α:Type}(po:α->Int):List UInt8->List ZB->List α->Prop
 | [],_,_=>True
 | p :: ps,ns,ks=>
  if p=78∨p=88 then
   match ns with
   | []=>False
   | _ :: q=>lM po ps q ks
  else if p=86∨p=65 then
   match ks with
   | []=>False
   | x :: q=>po x=(p.toNat:Int)/\lM po ps ns q
  else lM po ps ns ks
def Oq(e:α->Nat):∀(c:List ZB)(b:List α)(k:Nat),J c=J b->1<=k->gq e c b k=k+gV c+cG (λx=>e x+1) b:=by
 intro c;induction c with
 | nil=>intro b k h d;cases b with
  | nil=>simp[gq,gV,cG]
  | cons x r=>simp at h
 | cons a c f=>intro b k h d;cases b with
  | nil=>simp at h
  | cons x r=>
   simp only[Qs]at h
   rw[gq,f r _ E (by rw[iI d,iI E];omega),iI d,iI E]
   simp only[gV,cG];omega
def n5{v:UInt8}(h:v=86∨v=65):¬v=84/\¬v=35/\¬v=75/\¬v=70/\¬(v=78∨v=88):=by rcases h with rfl|rfl<;>decide
def kQ(f:α->Nat)(n:F α):∀(b:List UInt8),(∀v,v∈b->v=86∨v=65)->∀(c:List ZB)(a:List α)(k:Nat),J a=J b->1<=k->gR f n b c a k=k+cG (λx=>f x+1) a:=by
 intro b;induction b with
 | nil=>intro _ c a k h _;have:a=[]:=Qj h;subst this;simp[gR,cG]
 | cons v b p=>
  intro e c a k h d;cases a with
  | nil=>simp at h
  | cons x r=>have⟨g,i,j,l,m⟩:=n5 (e v zS);simp only[gR,Qd g,Qd i,Qd j,Qd l,Qd m];rw[p (λx o=>e x (Qt _ o)) c r _ mZ (by rw[iI d];omega),iI d];simp only[cG];omega
def NT(po:α->Int):∀(a:List UInt8),(∀v,v∈a->v=86∨v=65)->∀(c:List ZB)(b:List α),b.map po=a.map (λv=>(v.toNat:Int))->lM po a c b:=by
 intro a;induction a with
 | nil=>intro _ c b h;simp[lM]
 | cons v a g=>
  intro d c b h;cases b with
  | nil=>simp at h
  | cons x r=>have⟨i,j,k,l,e⟩:=n5 (d v zS);simp only[Xx,List.cons.injEq]at h;simp only[lM,Qd e,Qm (d v (XT ..))];exact⟨h.1,g (λx f=>d x (Qt _ f)) c r h.2⟩
def M7(op k:Nat):Nat:=if (lF op).size=0 then k else wk k (lF op).size
def Ah:∀k,k<44->((k<5->(lF k).size=0)/\(5<=k->1<=(lF k).size/\(lF k).size<=6)):=zC
def E7:∀k,k<4->1<=k->fO k=[84]/\mD k=[]:=zC
def yA:fO 4=[88]/\mD 4=[]:=zC
def E6:∀k,k<44->5<=k->fO k≠[84]:=zC
def Sz:∀k,k<44->(k=37∨k=39)->(fO k=[35]∨fO k=[78,35]):=zC
def OY:∀k,k<44->(fO k=[35]∨fO k=[78,35])->(k=37∨k=39):=zC
def qcF(b:α->Nat)(n:F α)(ps:List UInt8)(c:List ZB)(a:List α)(k:Nat):gR b n (84 :: ps) c a k=gR b n ps c a (wk k (J (kw n.k n.n n.a))):=by rw[gR.eq_def];exact zS
def qaL(b:α->Nat)(n:F α)(ps:List UInt8)(c:List ZB)(a:List α)(k:Nat):gR b n (35 :: ps) c a k=gR b n ps c a (wk k (J (W6 n.n))):=by rw[gR.eq_def];exact zS
def qcE(b:α->Nat)(n:F α)(ps:List UInt8)(c:List ZB)(a:List α)(k:Nat):gR b n (75 :: ps) c a k=gR b n ps c a (wk k n.a.size):=by rw[gR.eq_def];exact zS
def qcD(a:α->Nat)(n:F α)(ps:List UInt8)(c:List ZB)(b:List α)(k:Nat):gR a n (70 :: ps) c b k=gR a n ps c b (wk (gq a n.q n.o k) 3):=by rw[gR.eq_def];exact zS
def EO(c:α->Nat)(n:F α)(hp:p=78∨p=88)(ps:List UInt8)(a:ZB)(d:List ZB)(b:List α)(k:Nat):gR c n (p :: ps) (a :: d) b k=gR c n ps d b (wk k a.size):=by rw[gR.eq_def];dsimp only;rw[Qd wd,Qd wd,Qd wd,Qd wd,Qm hp]
def qcG(a:α->Nat)(n:F α)(hp:p=86∨p=65)(ps:List UInt8)(c:List ZB)(x:α)(b:List α)(k:Nat):gR a n (p :: ps) c (x :: b) k=gR a n ps c b (wk k (a x)):=by have⟨d,e,f,g,h⟩:=n5 hp;rw[gR.eq_def];dsimp only;rw[Qd d,Qd e,Qd f,Qd g,Qd h]
def qdL{po:α->Int}(hp:p=78∨p=88){b:List α}(h:lM po (p :: ps) ns b):∃a q,ns=a :: q/\lM po ps q b:=by
 cases ns with
 | nil=>rw[lM.eq_def]at h;dsimp only at h;rw[Qm hp]at h;exact h.elim
 | cons a q=>rw[lM.eq_def]at h;dsimp only at h;rw[Qm hp]at h;exact⟨a,q,D,h⟩
def qdM{po:α->Int}(hp:p=86∨p=65){a:List α}(h:lM po (p :: ps) ns a):∃x q,a=x :: q/\po x=(p.toNat:Int)/\lM po ps ns q:=by
 have⟨c,d,e,f,b⟩:=n5 hp;cases a with
 | nil=>rw[lM.eq_def]at h;dsimp only at h;rw[Qd b,Qm hp]at h;exact h.elim
 | cons x q=>rw[lM.eq_def]at h;dsimp only at h;rw[Qd b,Qm hp]at h;exact⟨x,q,D,h⟩
def GL(po:α->Int)(hp:p=84∨p=35∨p=75∨p=70)(ps:List UInt8)(b:List ZB)(a:List α):lM po (p :: ps) b a↔lM po ps b a:=by rw[lM.eq_def];dsimp only;rw[Qd (by rcases hp with rfl|rfl|rfl|rfl<;>decide),Qd (by rcases hp with rfl|rfl|rfl|rfl<;>decide)]
def Em{po:α->Int}(hp:p=78∨p=88)(a:ZB){b:List α}(h:lM po ps q b):lM po (p :: ps) (a :: q) b:=by rw[lM.eq_def];dsimp only;rw[Qm hp];exact h
def dO(x:ZB)(h:x.toList.isEmpty=true):x.size=0:=by have a:=List.isEmpty_iff.1 h;have e:=QI x;rw[e]at a;show x.data.size=0;rw[<- Array.length_toList,a];rfl
def Mw(k:K (m+1)):¬dm (m+1) k=[]:=by
 intro h;rw[dm]at h;split at h;·exact eI
 split at h;·exact eI
 split at h;·exact eI
 split at h;·exact eI
 split at h;·exact eI
 .exact eI
def Lb(h:lu x=true):¬x.size=0:=by intro b;unfold lu at h;have⟨k,d⟩:=Option.isSome_iff_exists.1 h;have a:=(rI d).2.2;have c:x.data.toList=[]:=Qj (by simpa using b);rw[c]at a;exact Mw _ a
def Or {po:α->Int} (lk:α->Nat) {n:F α} (m:eQ po n=true) (k:Nat) :
  gR lk n (ia n.k.toNat) n.q n.o (M7 n.k.toNat k)=wk k (kP lk n)/\lM po (ia n.k.toNat) n.q n.o:=by
 have z:1<=n.k/\n.k<=43:=by unfold eQ at m;simp only[Qc,Qk]at m;exact m.1
 by_cases l:n.k=24
 .rw[l5 po l]at m;simp only[Qc]at m;have e:ia 24=[70]:=zC;have i:=dO _ m.2.2;have p:J n.q=J n.o:=by have:=m.1;unfold fD at this;simp only[Qc,QP]at this;exact E
  have w:(lF 24).size=4:=zC;rw[l,show (24:Int).toNat=24 from D,e];refine⟨?_,by simp[lM]⟩;have o:1<=M7 24 k:=by unfold M7 wk;rw[w];simp;split<;>omega
  rw[qcD,gR,Oq lk _ _ _ p o,iI E];unfold kP;rw[l,Qd E,Qd E,show (24:Int).toNat=24 from D,w,Qm i,Qd E,Qm D];unfold M7 wk;rw[w];by_cases y:k=0;·simp[y]
  .simp[y];omega
 .have c:n.k.toNat<44:=E;rw[mL po z.1 z.2 l]at m;simp only[Qc,Qk]at m;obtain⟨hp,o⟩:=m;have p:J n.o=J (mD n.k.toNat):=by simpa using Xc Uh o
  have C:=E6 _ c;have⟨w1,K⟩:=Ah _ c;rw[B4 _ c];have d:=ye n.k.toNat;have f:=NT po _ d;rcases Ww n.k.toNat 5 with u|u
  .have v:M7 n.k.toNat k=k:=by unfold M7;rw[Qm (w1 u)]
   rw[v];by_cases B:n.k.toNat=4
   .obtain⟨s,t⟩:=yA;rw[<- B]at s t;rw[s]at hp ⊢;rw[t]at p ⊢;simp only[dM]at hp;cases j:n.q with
    | nil=>rw[j]at hp;simp at hp
    | cons a q=>refine⟨?_,by simp[lM]⟩;rw[XF,EO lk n (.inr rfl),gR];unfold kP;rw[Qd E,Qm E,j];exact cU
   .have⟨s,t⟩:=E7 n.k.toNat E E;rw[s,t];refine⟨?_,by simp[lM]⟩;rw[XF,qcF,gR];unfold kP;rw[Qm E]
  .have⟨L,M⟩:=K u;have v:M7 n.k.toNat k=wk k (lF n.k.toNat).size:=by unfold M7;rw[Qd E]
   have g:1<=wk k (lF n.k.toNat).size:=by unfold wk;split<;>omega
   have hN:∀(b x:Nat),(wk k b)+x=wk k (b+x):=by intro b x;unfold wk;split<;>omega
   have r:kP lk n=(lF n.k.toNat).size+gV n.q+(if n.a.size=0 then 0 else n.a.size+1)+(if n.k=37∨n.k=39 then J (W6 n.n)+1 else 0)+cG (λk=>lk k+1) n.o:=by unfold kP;rw[Qd E,Qd E,Qd l];omega
   rw[v,r];have uv:(n.k=37∨n.k=39)↔(fO n.k.toNat=[35]∨fO n.k.toNat=[78,35]):=⟨λh=>Sz _ c E,λh=>by have:=OY _ c h;omega⟩;rcases (og _ c).resolve_left E with h|h|h|h|h|h|h|h;·rw[h]at hp ⊢;simp only[dM,Qc,QP]at hp;have i:=dO _ hp.1.2;have j:n.q=[]:=Qj E;rw[Qm i,Qd FP,j];refine⟨?_,f _ _ o⟩;rw[XM,kQ lk n _ d _ _ _ p g];rw[hN];simp[gV]
   .exact absurd h (C u)
   .rw[h]at hp ⊢;simp only[dM,Qc,QP]at hp;have i:=Lb hp.1.2;have j:n.q=[]:=Qj E;rw[Qd i,Qd FP,j];refine⟨?_,(GL po zS _ _ _).2 (f _ _ o)⟩;rw[show [75]++mD n.k.toNat=75 :: mD n.k.toNat from D,qcE,iI g,kQ lk n _ d _ _ _ p E];rw[show wk k (lF n.k.toNat).size+1+n.a.size+cG (λx=>lk x+1) n.o=wk k (lF n.k.toNat).size+(1+n.a.size+cG (λx=>lk x+1) n.o) by omega,hN];congr 1;simp only[gV];omega
   .rw[h]at hp ⊢;simp only[dM,Qc,QP]at hp;have i:=dO _ hp.1.2;have j:n.q=[]:=Qj E;rw[Qm i,Qm (by rw[uv,h];simp),j];refine⟨?_,(GL po zS _ _ _).2 (f _ _ o)⟩;rw[show [35]++mD n.k.toNat=35 :: mD n.k.toNat from D,qaL,iI g,kQ lk n _ d _ _ _ p E];rw[show wk k (lF n.k.toNat).size+1+J (W6 n.n)+cG (λx=>lk x+1) n.o=wk k (lF n.k.toNat).size+(1+J (W6 n.n)+cG (λx=>lk x+1) n.o) by omega,hN];congr 1;simp only[gV];omega
   .rw[h]at hp ⊢;simp only[dM,Qc,QP]at hp;have i:=dO _ hp.1.2;rw[Qm i,Qd FP];match j:n.q,hp.2 with
    | [a],_=>refine⟨?_,Em zS _ (f _ _ o)⟩;rw[show [88]++mD n.k.toNat=88 :: mD n.k.toNat from D,EO lk n zS,iI g,kQ lk n _ d _ _ _ p E];exact Tr
   .rw[h]at hp ⊢;simp only[dM,Qc,QP]at hp;have i:=dO _ hp.1.2;rw[Qm i,Qd FP];match j:n.q,hp.2 with
    | [a],_=>refine⟨?_,Em zS _ (f _ _ o)⟩;rw[show [78]++mD n.k.toNat=78 :: mD n.k.toNat from D,EO lk n zS,iI g,kQ lk n _ d _ _ _ p E];exact Tr
   .rw[h]at hp ⊢;simp only[dM,Qc,QP]at hp;have i:=dO _ hp.1.2;rw[Qm i,Qd FP];match j:n.q,hp.2 with
    | [a,b],_=>refine⟨?_,Em zS _ (Em zS _ (f _ _ o))⟩;rw[show [88,88]++mD n.k.toNat=88 :: 88 :: mD n.k.toNat from D,EO lk n zS,EO lk n zS,iI g,iI E,kQ lk n _ d _ _ _ p E];rw[show wk k (lF n.k.toNat).size+1+a.size+1+b.size+cG (λx=>lk x+1) n.o=wk k (lF n.k.toNat).size+(1+a.size+1+b.size+cG (λx=>lk x+1) n.o) by omega,hN];congr 1;simp only[gV];omega
   .rw[h]at hp ⊢;simp only[dM,Qc]at hp;have i:=dO _ hp.1.2;rw[Qm i,Qm (by rw[uv,h];simp)];match j:n.q,hp.2 with
    | [a],_=>refine⟨?_,Em (po:=po) zS _ ((GL po zS _ _ _).2 (f _ _ o))⟩;rw[show [78,35]++mD n.k.toNat=78 :: 35 :: mD n.k.toNat from D,EO lk n zS,qaL,iI g,iI E,kQ lk n _ d _ _ _ p E];rw[show wk k (lF n.k.toNat).size+1+a.size+1+J (W6 n.n)+cG (λx=>lk x+1) n.o=wk k (lF n.k.toNat).size+(1+a.size+1+J (W6 n.n)+cG (λx=>lk x+1) n.o) by omega,hN];congr 1;simp only[gV];omega
def zU{M:Nat}:K (M+1):=(⟨0,[],[]⟩:Kd (K M))
def inU{M:Nat}(k:K (M+1)):K (M+1):=match Kd.o k with|x :: _=>pV M M x|[]=>zU
def qcB{M:Nat}(k:K (M+1))(s:ZB):Option (K (M+1)):=(fU (Kd.q k) (Kd.o k) s).map (pV M M)
def upU{M:Nat}(k:K (M+1)):K (M+2):=pV (M+1) (M+1) k
def EI{M:Nat}(s:Int):K (M+1):=(⟨s,[],[]⟩:Kd (K M))
def L6{M:Nat}(s:Int)(k:K (M+1)):K (M+2):=(⟨s,[],[k]⟩:Kd (K (M+1)))
def eH{α:Type}(s:ZB)(x:α):List ZB->List α->List ZB×List α
 | n :: ns,k :: ks=>
  if ij n s=true then (n :: (eH s x ns ks).1,k :: (eH s x ns ks).2)
  else if n=s then (s :: ns,x :: ks)
  else (s :: n :: ns,x :: k :: ks)
 | _,_=>([s],[x])
def ft{α:Type}(s:ZB):List ZB->List α->List ZB×List α
 | n :: ns,k :: ks=>if n=s then ft s ns ks else (n :: (ft s ns ks).1,k :: (ft s ns ks).2)
 | _,_=>([],[])
def qdP{M:Nat}(k:K (M+1))(s:ZB)(x:K (M+1)):K (M+2):=
 (⟨5,(eH s x (Kd.q k) ((Kd.o k).map (pV M M))).1,(eH s x (Kd.q k) ((Kd.o k).map (pV M M))).2⟩:Kd (K (M+1)))
def qdJ{M:Nat}(k:K (M+1))(s:ZB):K (M+2):=
 (⟨5,(ft s (Kd.q k) ((Kd.o k).map (pV M M))).1,(ft s (Kd.q k) ((Kd.o k).map (pV M M))).2⟩:Kd (K (M+1)))
def uz{M:Nat}(a b:K (M+1)):Bool:=dm (M+1) a==dm (M+1) b
abbrev IM(M:Nat):Type:=List (ZB×K (M+1))
def Te{M:Nat}:IM M->ZB->Option (K (M+1))
 | [],_=>Y
 | (s,k) :: r,x=>if s=x then Z k else Te r x
def uI{M:Nat}(op:Int)(b:K (M+1))(i:Nat)(k:K (M+1))(a:List (K (M+1))):Bool:=
 if (9<=op/\op<=13)∨op=29 then Kd.k k==1
 else if op=30 then Kd.k k==2
 else if 16<=op/\op<=18 then Kd.k k==3
 else if op=14 then if i=0 then Kd.k k==1 || Kd.k k==2 else uz k (a.getD 0 zU)
 else if op=15 then i==0 || uz k (a.getD 0 zU)
 else if op=19∨op=41 then if i=0 then Kd.k k==3 else if op=19/\i=2 then uz k (a.getD 1 zU) else true
 else if 21<=op/\op<=23 then i==1 || Kd.k k==5
 else if op=25 then if i=0 then Kd.k k==4 else Kd.k k==1
 else if op=26 then Kd.k k==4 || Kd.k k==2
 else if op=27 then if i=0 then Kd.k k==4 || Kd.k k==2 else uz k (a.getD 0 zU)
 else if op=28 then if i=0 then Kd.k k==4 || Kd.k k==2 else Kd.k k==1
 else if op=31 then if i=0 then Kd.k k==6 else uz k (inU (a.getD 0 zU))
 else if op=32 then if i=0 then Kd.k k==6 else if i=2 then uz k (a.getD 1 zU) else true
 else if op=33∨op=43 then i==1 || Kd.k k==4
 else if op=34 then if i=0 then Kd.k k==4 else Kd.k k==3
 else if op=35 then if i=0 then Kd.k k==4 else if i=2 then uz k (a.getD 1 zU) else true
 else if op=38∨op=39 then uz k b
 else true
def BC{M:Nat}(op:Int)(names:List ZB)(i:Nat)(a:List (K (M+1)))(env:IM M):IM M:=
 if (op=20∨op=42)/\i=1 then (names.getD 0 WT,a.getD 0 zU) :: env
 else if (op=32∨op=33∨op=34∨op=43)/\i=1 then (names.getD 0 WT,inU (a.getD 0 zU)) :: env
 else if op=35/\i=2 then (names.getD 1 WT,inU (a.getD 0 zU)) :: (names.getD 0 WT,a.getD 1 zU) :: env
 else env
def rdU(M:Nat)(s:ZB):K (M+1):=match gT (s.size+8) s with|Z k=>pV M (s.size+8) k|Y=>zU
def I1{M:Nat}(op:Int)(names:List ZB)(text:ZB)(env:IM M)(a:List (K (M+1))):K (M+2)×Int:=
 if op=1∨op=2∨op=3 then (EI op,0)
 else if op=4 then match Te env (names.getD 0 WT) with|Z k=>(upU k,0)|Y=>(zU,5)
 else if op=5 then (L6 6 (rdU M text),0)
 else if op=6 then (L6 4 (rdU M text),0)
 else if op=7 then (L6 6 (a.getD 0 zU),0)
 else if op=8 then (L6 4 (a.getD 0 zU),0)
 else if (9<=op/\op<=13)∨op=26 then (EI 1,0)
 else if 14<=op/\op<=18 then (EI 3,0)
 else if op=29 then (EI 2,0)
 else if op=30 then (L6 6 (EI 1),0)
 else if op=21 then match qcB (a.getD 0 zU) (names.getD 0 WT) with|Z k=>(upU k,0)|Y=>(zU,8)
 else if op=23 then match qcB (a.getD 0 zU) (names.getD 0 WT) with|Z _=>(qdJ (a.getD 0 zU) (names.getD 0 WT),0)|Y=>(zU,8)
 else if op=22 then (qdP (a.getD 0 zU) (names.getD 0 WT) (a.getD 1 zU),0)
 else if op=24 then ((⟨5,names,a⟩:Kd (K (M+1))),0)
 else if op=25 then (upU (inU (a.getD 0 zU)),0)
 else if op=33 then (L6 4 (a.getD 1 zU),0)
 else if op=19∨op=20∨op=31∨op=32∨op=35 then (upU (a.getD 1 zU),0)
 else (upU (a.getD 0 zU),0)
def tY{M:Nat}{α:Type}(f:α->IM M->Nat->K (M+1)×Int×Nat)(cnt:α->Nat)(bind:Nat->List (K (M+1))->IM M)(want:Nat->K (M+1)->List (K (M+1))->Bool):List α->List (K (M+1))->Nat->List (K (M+1))×Int×Nat
 | [],acc,_=>(acc,0,0)
 | k :: r,acc,pl=>
  if (f k (bind (J acc) acc) pl).2.1≠0 then ([],(f k (bind (J acc) acc) pl).2)
  else if want (J acc) (f k (bind (J acc) acc) pl).1 acc=true then tY f cnt bind want r (acc++[(f k (bind (J acc) acc) pl).1]) (pl+cnt k)
  else ([],6,pl)
abbrev Rp(M:Nat):Type:=List ((ZB×Int)×K (M+1))
def Pb{M:Nat}:Rp M->ZB->Int->Option (K (M+1))
 | [],_,_=>Y
 | ((s,v),k) :: r,x,y=>if s=x/\v=y then Z k else Pb r x y
def sN{M:Nat}{α:Type}(a:Rp M)(t:F α):Option (K (M+1)):=
 if t.k=38 then Pb a WT 0 else Pb a (t.q.getD 0 WT) t.n
def qcH{M:Nat}{α:Type}(t:F α)(env:IM M)(a:List (K (M+1)))(b:Nat):K (M+1)×Int×Nat:=
 if 36<=t.k then (zU,0,0)
 else if (I1 t.k t.q t.a env a).2≠0 then (zU,(I1 t.k t.q t.a env a).2,b)
 else if tI (M+2) (I1 t.k t.q t.a env a).1=true then (pV M (M+2) (I1 t.k t.q t.a env a).1,0,0)
 else (zU,7,b)
def Kq{M:Nat}(a:Rp M):(m:Nat)->T m->IM M->Nat->K (M+1)×Int×Nat
 | 0,_,_,_=>(zU,0,0)
 | m+1,t,env,pl=>
  if (F.k t=38∨F.k t=39)/\sN a (show F (T m) from t)=Y then (zU,5,pl)
  else if (tY (Kq a m) (cJ m) (λi b=>BC (F.k t) (F.q t) i b env) (uI (F.k t) ((sN a (show F (T m) from t)).getD zU)) (F.o t) [] (pl+1)).2.1≠0 then
   (zU,(tY (Kq a m) (cJ m) (λi b=>BC (F.k t) (F.q t) i b env) (uI (F.k t) ((sN a (show F (T m) from t)).getD zU)) (F.o t) [] (pl+1)).2)
  else qcH (show F (T m) from t) env (tY (Kq a m) (cJ m) (λi b=>BC (F.k t) (F.q t) i b env) (uI (F.k t) ((sN a (show F (T m) from t)).getD zU)) (F.o t) [] (pl+1)).1 pl
structure cH(bb:Nat)(w w':Zw):Prop where
 os:w'.os=w.os
 tape:w'.tape=w.tape
 output:w'.output=w.output
 size:w.heap.size<=w'.heap.size
 block:∀k,k<w.heap.size->k≠bb->w'.heap[k]?=w.heap[k]?
def cH.refl(bb:Nat)(w:Zw):cH bb w w:=⟨D,D,D,E,zS⟩
def cH.trans{a b c:Zw}(h:cH bb a b)(k:cH bb b c):cH bb a c:=
 ⟨k.os.trans h.os,k.tape.trans h.tape,k.output.trans h.output,Q1 h.size k.size,λi e d=>(k.block i (Qn e h.size) d).trans (h.block i e d)⟩
def cH.of_below{a b:Zw}(h:Bw a b):cH bb a b:=⟨h.os,h.tape,h.output,h.size,λk c _=>h.block k c⟩
def cH.set(bb o:Nat)(w:Zw)(v:Zv):cH bb w (w.setCell ⟨bb,o,Y⟩ v):=⟨D,D,D,zS,λk _ a=>Qr _ _ _ _ a⟩
def cH.alloc(bb:Nat)(w:Zw)(o:Obj):cH bb w (w.alloc o):=.of_below (eC _ o)
def cH.below{a b:Zw}(h:cH bb a b)(c:B<=bb)(d:B<=a.heap.size):Below B a b:=⟨h.os,h.tape,h.output,h.size,λk e=>h.block k E E⟩
def k6(w:Zw)(a:Nat)(p:Int):Prop:=w.heap[a]?=Z (Zc #[I U p] 3 (0,0))
def k6.cell{p:Int}(h:k6 w pb p):a7 w pb 0=Z (I U p):=by unfold k6 at h;simp[WY,h]
def k6.free{p:Int}(h:k6 w pb p):w.frozen? ⟨pb,0,Y⟩=false:=by unfold k6 at h;simp[World.frozen?,h]
def k6.lt{p:Int}(h:k6 w pb p):pb<w.heap.size:=by unfold k6 at h;exact (Qe.1 h).1
def k6.set{p:Int}(h:k6 w pb p)(q:Int):k6 (w.setCell ⟨pb,0,Y⟩ (I U q)) pb q:=by unfold k6 at h ⊢;simp[World.setCell,QQ,h]
def k6.new(w:Zw)(p:Int):k6 (w.alloc (Zc #[I U p] 3)) w.heap.size p:=by show (w.heap.push _)[w.heap.size]?=_;simp
def k6.keep{p:Int}(h:k6 w pb p)(a:Bw w w'):k6 w' pb p:=(a.block pb h.lt).trans h
def cH.same(h:cH pb w w')(a:∀b,S b->b<w.heap.size/\b≠pb):gw S w w':=λb c=>h.block b (a b c).1 (a b c).2
def cH.cell(h:cH pb w w')(e:a7 w b o=Z v)(d:b≠pb):a7 w' b o=Z v:=by
 have c:b<w.heap.size:=Qx λf=>by have:w.heap[b]?=Y:=zE;simp[WY,this]at e
 exact (Ql (w:=w) (w':=w') (a:=⟨b,o,Y⟩) (h.block b c d)).trans e
def dK(h:a7 w b o=Z v):b<w.heap.size:=
 Qx λa=>by
  have:w.heap[b]?=Y:=zE
  simp[WY,this]at h
structure M9(w:Zw)(pb mb ab:Nat)(p M:Int)(Fzq:Nat):Prop where
 parts:k6 w pb p
 max:a7 w mb 0=Z (I U M)
 acc:a7 w ab 0=Z (.func (.func Fzq) #[] #[])
 nm:mb≠pb
 na:ab≠pb
def M9.keep{p q M:Int}{a:Nat}(h:M9 w pb mb ab p M a)(b:cH pb w w')(hp:k6 w' pb q):M9 w' pb mb ab q M a:=
 ⟨hp,b.cell h.max h.nm,b.cell h.acc h.na,h.nm,h.na⟩
def YN(M:Nat)(d c:Zv)(a b:Nat):Prop:=M<=b/\b<a/\d.ownBlock≠Z b/\c.ownBlock≠Z b
structure im(R X n:Nat)(w wr:Zw)(so:Int)(ns:List ZB)(ks:List (T n))(nv kv:Zv):Prop where
 near:cH R w wr
 box:wr.heap[X]?=Z (Zc #[I U so,I U 0,Zt WT,nv,kv] 31 (0,0))
 q:wr.ownsRow (X+1) 9 1 nv (J ns) (ns.map Zt)
 short:∀s,s∈ns->s.size<=10000
 o:∃xs,wr.ownsRow (X+1) 31 5 kv (J ks) xs/\∀j (h:j<J ks),∃c0 c1 c2 c3 c4,(xs[j*5]?=Z c0/\xs[j*5+1]?=Z c1/\xs[j*5+2]?=Z c2/\xs[j*5+3]?=Z c3/\xs[j*5+4]?=Z c4)/\cT (YN (X+1) nv kv wr.heap.size) wr n ks[j] c0 c1 c2 c3 c4
 apart:∀b,nv.ownBlock=Z b->kv.ownBlock≠Z b
def dT{z:Nat}(h:w.ownsRow M e z v k xs)(b:Nat)(hb:v.ownBlock=Z b):M<=b/\b<w.heap.size:=by exact TW
def rF{z:Nat}(h:w.ownsRow M e z v k xs):∃a c,v=A a k c:=by exact TZ
def eT{z:Nat}(h:w.ownsRow M e z v k xs)(hs:∀g,v.ownBlock=Z g->w'.heap[g]?=w.heap[g]?):w'.ownsRow M e z v k xs:=by exact Tw
def im.lt{a:List (T n)}(h:im R X n w wr so ns a nv kv):X<wr.heap.size:=(Qe.1 h.box).1
def im.keep{d:List (T n)}(h:im R X n w wr so ns d nv kv)(f:R<X)(hn:cH R wr W):im R X n w W so ns d nv kv:=by
 have i:=h.lt;have hs:∀b,X<=b->b<wr.heap.size->W.heap[b]?=wr.heap[b]?:=λb l e=>hn.block b e E;have⟨k,c,hk⟩:=h.o;refine⟨h.near.trans hn,by rw[hs X (QD _) i];exact h.box,eT h.q λg a=>?_,h.short,⟨k,eT c λg a=>?_,λj hj=>?_⟩,h.apart⟩;·have:=dT h.q g a;exact hs g E E
 .have:=dT c g a;exact hs g E E
 .exact Yz
def im.name {f:List (T n)} (h:im R X n w W so ns f nv kv) (m:w.heap.size<=X)
  (ha:Wa.heap=W.heap.push one) (ho:Wa.os=W.os/\Wa.tape=W.tape/\Wa.output=W.output) (hx:x.size<=10000)
  (a:W2.ownsRow (X+1) 9 1 (A (b5 g 0) (J ns+1) cap) (J ns+1) (ns.map Zt++[Zt x])) (qg:Wa.grownBy W2 nv.ownBlock) (qy:nv.ownBlock=Z g∨g=W.heap.size+1) :
  im R X n w (W2.setCell ⟨X,3,Y⟩ (A (b5 g 0) (J ns+1) cap)) so (ns++[x]) f (A (b5 g 0) (J ns+1) cap) kv:=by
 have i:=h.lt;have o:W2.heap.size ≥ W.heap.size+1:=pP;have qS:=dT h.q;have k:=dT a g D;have q:∀b,b<W.heap.size->nv.ownBlock≠Z b->W2.heap[b]?=W.heap[b]?:=λb hb qh=>by exact Gc
 have qs:∀b,b≠X->(W2.setCell ⟨X,3,Y⟩ (A (b5 g 0) (J ns+1) cap)).heap[b]?=W2.heap[b]?:=λb hb=>Qr _ _ _ _ hb;have qo:(W2.setCell ⟨X,3,Y⟩ (A (b5 g 0) (J ns+1) cap)).heap.size=W2.heap.size:=zS;have d:nv.ownBlock≠Z X:=λe=>Co;have qF:=(q X i d).trans h.box;have⟨l,c,hk⟩:=h.o;have qn:=dT c;refine⟨⟨?_,?_,?_,JR,λb hb qh=>?_⟩,?_,?_,?_,⟨l,eT c λg' qC=>?_,λj hj=>?_⟩,λb hb=>?_⟩;·exact F0
 .exact FX
 .exact FY
 .exact P0
 .exact ox
 .rw[Qi,QM,Q8,XV];exact eT a λg' qC=>qs g' (by have:=dT a g' qC;omega)
 .exact FQ
 .exact MP
 .exact Yp
 .exact FC
def im.kid {c:List (T n)} {t:T n} (h0:im R X n w W so ns c nv kv) (V:R<X) (F:w.heap.size<=X)
  (hn:cH R W W1) (qq:cT (λb=>W.heap.size<=b/\b<W1.heap.size) W1 n t c0 c1 c2 c3 c4)
  (ha:Wa.heap=W1.heap.push one) (ho:Wa.os=W1.os/\Wa.tape=W1.tape/\Wa.output=W1.output) 
  (p:W.ownsRow (X+1) 31 5 kv (J c) xs) (ql:∀j (h:j<J c),∃c0 c1 c2 c3 c4,(xs[j*5]?=Z c0/\xs[j*5+1]?=Z c1/\xs[j*5+2]?=Z c2/\xs[j*5+3]?=Z c3/\xs[j*5+4]?=Z c4)/\cT (YN (X+1) nv kv W.heap.size) W n c[j] c0 c1 c2 c3 c4)
  (f:W2.ownsRow (X+1) 31 5 (A (b5 g 0) (J c+1) cap) (J c+1) (xs++[c0,c1,c2,c3,c4])) (qg:Wa.grownBy W2 kv.ownBlock) (qy:kv.ownBlock=Z g∨g=W1.heap.size+1) :
  im R X n w (W2.setCell ⟨X,4,Y⟩ (A (b5 g 0) (J c+1) cap)) so ns (c++[t]) nv (A (b5 g 0) (J c+1) cap):=by
 have q5:=h0.lt;have q8:=hn.size;have qc:W2.heap.size ≥ W1.heap.size+1:=pP;have qS:=dT h0.q;have qn:=dT p;have q6:=dT f g D;have y:∀b,b<W1.heap.size->kv.ownBlock≠Z b->W2.heap[b]?=W1.heap[b]?:=λb hb qh=>by exact Gc
 have q:∀b,b<W.heap.size->b≠R->kv.ownBlock≠Z b->W2.heap[b]?=W.heap[b]?:=λb hb S qh=>by rw[y b E qh,hn.block b hb S]
 have r:∀b,b≠X->(W2.setCell ⟨X,4,Y⟩ (A (b5 g 0) (J c+1) cap)).heap[b]?=W2.heap[b]?:=λb hb=>Qr _ _ _ _ hb;have qo:(W2.setCell ⟨X,4,Y⟩ (A (b5 g 0) (J c+1) cap)).heap.size=W2.heap.size:=zS;have s:kv.ownBlock≠Z X:=λe=>FM;have qF:=(q X q5 E s).trans h0.box;have x:J xs=J c*5:=p.1;refine⟨⟨?_,?_,?_,PW,λb hb qh=>?_⟩,?_,eT h0.q λl i=>?_,h0.short,⟨xs++[c0,c1,c2,c3,c4],?_,λj hj=>?_⟩,λb hb=>?_⟩;·show W2.os=w.os;exact FA
 .show W2.tape=w.tape;exact Fw
 .show W2.output=w.output;exact Fy
 .have qa:=h0.near.size;rw[r b E,q b E qh nN];exact h0.near.block b hb qh
 .exact ox
 .have:=qS l i;rw[r l E,q l this.2 E (h0.apart l i)]
 .rw[Qi,QM];exact eT f λl i=>r l (by have:=dT f l i;omega)
 .have k:∀ b,kv.ownBlock≠Z b->b<W1.heap.size->(Uc (b5 g 0) (J c+1) cap).ownBlock≠Z b:=by exact P2
  by_cases m:j<J c
  .have⟨z,B,C,K,L,⟨M,N,O,P,Q⟩,q7⟩:=ql j m;have a:∀o v,o<5->xs[j*5+o]?=Z v->(xs++[c0,c1,c2,c3,c4])[j*5+o]?=Z v:=λo v ho h=>by rw[QA E];exact h
   refine⟨z,B,C,K,L,⟨a 0 _ E M,a 1 _ E N,a 2 _ E O,a 3 _ E P,a 4 _ E Q⟩,?_⟩;rw[QS m];refine q7.keep (λb hb=>?_) (λb hb=>⟨hb.1,S6,hb.2.2.1,k b hb.2.2.2 Ad⟩);rw[r b pe,q b hb.2.1 pe hb.2.2.2]
  .have u:j=J c:=Bi;subst u;have d:∀o v,o<5->[c0,c1,c2,c3,c4][o]?=Z v->(xs++[c0,c1,c2,c3,c4])[J c*5+o]?=Z v:=λo v ho h=>by rw[Qu E,x,XR];exact h
   refine⟨c0,c1,c2,c3,c4,⟨d 0 _ E D,d 1 _ E D,d 2 _ E D,d 3 _ E D,d 4 _ E D⟩,?_⟩;have:(c++[t])[J c]=t:=zS;rw[this];refine qq.keep (λb hb=>?_) (λb hb=>⟨E,oA,λe=>tP,k b nN hb.2⟩);rw[r b E,y b hb.2 nN]
 .exact FV
set_option maxRecDepth 100000
set_option maxHeartbeats 16000000
def lg:List PanicEntry:=[{ v:=.iface 281 (Za #[]),recovered:=false }]
def ro(w:Zw):WU WV 265 #[Zb true] w λe a=>e=Zr (Zu #[])/\a=w:=by go_in;go_wp2;go_end0;exact⟨D,D⟩
def tz(w:Zw):WU WV 265 #[Zb false] w λe a=>e=.panicked lg/\a=w:=by go_in;go_wp2;exact⟨D,D,D⟩
structure Sc(w:Zw)(R:Nat)(s:ZB)(i:Nat):Prop where
 c0:a7 w R 0=Z (Zt s)
 c1:a7 w R 1=Z (I U (i:Int))
 f1:w.frozen? ⟨R,1,Y⟩=false
structure dJ(R:Nat)(w w':Zw)(q:Nat):Prop where
 near:cH R w w'
 cells:∀o,o≠1->a7 w' R o=a7 w R o
 at1:a7 w' R 1=Z (I U (q:Int))
 fz:∀o,w'.frozen? ⟨R,o,Y⟩=w.frozen? ⟨R,o,Y⟩
def dJ.sc{q:Nat}(h:dJ R w w' q)(k:Sc w R s i):Sc w' R s q:=⟨(h.cells 0 zC).trans k.c0,h.at1,(h.fz 1).trans k.f1⟩
def dJ.trans{a b c:Zw}{p q:Nat}(h:dJ R a b p)(k:dJ R b c q):dJ R a c q:=
 ⟨h.near.trans k.near,λo d=>(k.cells o d).trans (h.cells o d),k.at1,λo=>(k.fz o).trans (h.fz o)⟩
def dJ.refl(k:Sc w R s i):dJ R w w i:=⟨cH.refl _ _,zS,k.c1,zS⟩
def dJ.drewN{a:Zw}{q:Nat}(h:dJ R a w q)(n:Nat):dJ R a (w.drewN n) q:=⟨⟨h.near.os,h.near.tape,h.near.output,h.near.size,h.near.block⟩,h.cells,h.at1,h.fz⟩
def Sc.lt(h:Sc w R s i):R<w.heap.size:=
 Qx λb=>by
  have:w.heap[R]?=Y:=zE
  have a:=h.c0
  simp[WY,this]at a
def dJ.set(h:Sc w R s i)(q:Nat):dJ R w (w.setCell ⟨R,1,Y⟩ (I U (q:Int))) q:=
 ⟨cH.set R 1 w _,λo a=>Xh _ _ _ _ zS,X9 _ _ _ h.c1,zS⟩
def dJ.below{a b c:Zw}{q:Nat}(h:dJ R a b q)(d:Bw b c)(e:R<b.heap.size):dJ R a c q:=
 ⟨h.near.trans (cH.of_below d),λo f=>kC d (h.cells o f) e,kC d h.at1 e,λo=>(d.frozen (p:=⟨R,o,Y⟩) e).trans (h.fz o)⟩
def tV(s:ZB)(i:Nat):(s.extract i s.size).data.toList=s.data.toList.drop i:=by simp[Z7,List.extract_eq_take_drop];rw[Xf];simp
def KD{x l:List UInt8}(h:dq x l=Z r):r=l.drop (J x):=by
 unfold dq at h;split at h;·cases h;rfl
 .exact eI
def NN{x:List UInt8}(h:dq x (s.data.toList.drop i)=Z r):(i<=s.size->i+J x<=s.size)/\r=s.data.toList.drop (i+J x):=by have b:=fH h;have a:=KD h;rw[Xk]at a;refine⟨λc=>?_,a⟩;have:=Xc Uh b;simp at this;omega
def Nm(w:Zw)(R:Nat)(s x:ZB)(i:Nat)(e:Ending)(w':Zw):Prop:=
 (dq x.data.toList (s.data.toList.drop i)=Z (s.data.toList.drop (i+x.size))/\e=Zr (Zb true)/\dJ R w w' (i+x.size)/\i+x.size<=s.size) ∨
  (dq x.data.toList (s.data.toList.drop i)=Y/\e=Zr (Zb false)/\dJ R w w' i)
def mr (w:Zw) (R:Nat) (x:ZB) (h:Sc w R s i) (o:s.size<=10000) (q:x.size<=10000) (n:i<=s.size) :
  WU WV 262 #[Zp (b5 R 0),Zt x] w (Nm w R s x i):=by
 have c0:=h.c0;have c1:=h.c1;have f1:=h.f1;have k:(i:Int)<=(s.size:Int):=E;have p:IntKind.i64.wrap ((i:Int)+(x.size:Int))=(i:Int)+(x.size:Int):=kG;have b:G (∀W,WU WV 280 #[Zt (s.extract i s.size),Zt x] W λe l=>e=Zr (Zb (Lib.hasPrefix (s.extract i s.size).data.toList x.data.toList))/\l=W):=λW=>Tryz.strings_HasPrefix _ _ W;have a:Lib.hasPrefix (s.extract i s.size).data.toList x.data.toList=x.data.toList.isPrefixOf (s.data.toList.drop i):=by rw[tV];rfl
 have d:G (∀m,dJ R w ((w.drewN m).setCell ⟨R,1,Y⟩ (I U ((i:Int)+(x.size:Int)))) (i+x.size)):=λm=>by have:=((dJ.refl h).drewN m).trans (dJ.set (((dJ.refl h).drewN m).sc h) (i+x.size));rw[show ((i+x.size:Nat):Int)=(i:Int)+(x.size:Int) by omega]at this;exact this
 have f:G (∀m,dJ R w (w.drewN m) i):=λm=>(dJ.refl h).drewN m;clear h;cases hp:x.data.toList.isPrefixOf (s.data.toList.drop i) with
 | true=>
  have c:G (dq x.data.toList (s.data.toList.drop i)=Z (s.data.toList.drop (i+x.size))/\i+x.size<=s.size):=by
   have e:dq x.data.toList (s.data.toList.drop i)=Z ((s.data.toList.drop i).drop (J x.data.toList)):=by unfold dq;rw[Qm hp]
   have j:=NN e;rw[Xk]at e;have g:J x.data.toList=x.size:=zS;rw[g]at e j;exact⟨e,E⟩
  rw[hp]at a;rw[a]at b;clear a hp;go_in;go_wp2_with fail;go_quiet (first|(go_at_call 280;refine Q4 (b _)));go_wp2;go_ret;exact .inl ⟨c.1,D,d _,c.2⟩
 | false=>
  have c:G (dq x.data.toList (s.data.toList.drop i)=Y):=by show _=_;unfold dq;rw[Qd (by rw[hp];simp)]
  rw[hp]at a;rw[a]at b;clear a hp;go_in;go_wp2_with fail;go_quiet (first|(go_at_call 280;refine Q4 (b _)));go_wp2;go_ret;exact .inr ⟨c,D,f _⟩
def wL(w:Zw)(R:Nat)(s x:ZB)(i:Nat)(e:Ending)(w':Zw):Prop:=
 (dq x.data.toList (s.data.toList.drop i)=Z (s.data.toList.drop (i+x.size))/\e=Zr (Zu #[])/\dJ R w w' (i+x.size)/\i+x.size<=s.size) ∨
  (dq x.data.toList (s.data.toList.drop i)=Y/\e=.panicked lg/\cH R w w')
def sT (x:ZB) (h:Sc w R s i) (g:s.size<=10000) (j:x.size<=10000) (f:i<=s.size) :
  WU WV 263 #[Zp (b5 R 0),Zt x] w (wL w R s x i):=by
 have c:G (WU WV 262 _ _ _):=mr w R x h g j f;clear h;go_in;go_wp2_with fail;refine H c ?_;rintro e w1 (⟨a,rfl,b,d⟩|⟨a,rfl,b⟩);·have HP:G (wL w R s x i (Zr (Zu #[])) w1):=.inl ⟨a,D,b,d⟩;clear c a b d;go_wp2_with (go_at_call 265;refine H (ro _) ?_;rintro e k ⟨rfl,rfl⟩);go_end0;exact HP
 .have HP:G (wL w R s x i (.panicked lg) w1):=.inr ⟨a,D,b.near⟩;clear c a b;go_wp2_with (go_at_call 265;refine H (tz _) ?_;rintro e k ⟨rfl,rfl⟩);exact⟨D,HP⟩
def Bp(c:UInt8)(w:Zw)(R:Nat)(s:ZB)(i:Nat)(e:Ending)(w':Zw):Prop:=
 (∃x,fh c (s.data.toList.drop i)=Z (x,s.data.toList.drop (i+J x))/\e=Zr (Zt (bs x))/\dJ R w w' (i+J x)/\i+J x<s.size) ∨
  (fh c (s.data.toList.drop i)=Y/\e=.panicked lg/\cH R w w')
def Mz (c:UInt8) (h:Sc w R s i) (F:s.size<=10000) (ql:i<=s.size) :
  WU WV 281 #[Zp (b5 R 0),I .u8 (c.toNat:Int)] w (Bp c w R s i):=by
 have c0:=h.c0;have c1:=h.c1;have f1:=h.f1;have V:(i:Int)<=(s.size:Int):=E;have r:((c.toNat:Int)).toNat.toUInt8=c:=by apply zS;exact dS
 have g:G (∀W,WU WV 289 #[Zt (s.extract i s.size),I .u8 (c.toNat:Int)] W λe M=>e=Zr (I U (Lib.indexByte (s.data.toList.drop i) c))/\M=W):=λW=>by have:=Tryz.strings_IndexByte (s.extract i s.size) (c.toNat:Int) W;rw[r,tV]at this;exact this
 have d:=Lib.indexByte_ge (s.data.toList.drop i) c;have S:G (∀m,cH R w (w.drewN m)):=λm=>((dJ.refl h).drewN m).near;rcases Int.lt_or_le (Lib.indexByte (s.data.toList.drop i) c) 0 with f|b
 .have q:Lib.indexByte (s.data.toList.drop i) c = -1:=E;have p:G (fh c (s.data.toList.drop i)=Y):=by refine sS λx L e=>?_;have⟨k,l,v⟩:=QT L;exact Lib.indexByte_none q k (by rw[Qp l,v,e])
  rw[q]at g;clear f d q h;go_in;go_wp2_with fail;go_quiet (first|(go_at_call 289;refine Q4 (g _)));go_wp2_with (go_at_call 265;refine H (tz _) ?_;rintro e M ⟨rfl,rfl⟩);exact⟨D,.inr ⟨p,D,S _⟩⟩
 .obtain⟨o,C⟩:∃o:Nat,Lib.indexByte (s.data.toList.drop i) c=o:=⟨_,(Int.toNat_of_nonneg b).symm⟩;have⟨j,N⟩:=Lib.indexByte_some C;have B:i+o<s.size:=by have:=(QN.1 j).1;simp at this;omega
  have a:J ((s.data.toList.drop i).take o)=o:=zE;have p:G (fh c (s.data.toList.drop i)=Z ((s.data.toList.drop i).take o,s.data.toList.drop (i+o))):=by
   have:=Cf (c:=c) (s.data.toList.drop i) (k:=o) (λx L e=>by
    have⟨k,l,v⟩:=QT L
    have y:k<o:=by rw[a]at l;exact l
    have z:k<J (s.data.toList.drop i):=zE
    refine N k y ?_
    rw[Qp z,<- e,<- v];simp) (by
    have K:=(QN.1 j).1
    have:=(QN.1 j).2
    rw[Qy K,this])
   rw[Xk]at this;exact this
  have T:G (s.extract i (i+o)=bs ((s.data.toList.drop i).take o)):=rq s i o;rw[C]at g;have qa:IntKind.i64.wrap ((i:Int)+(o:Int))=(i:Int)+(o:Int):=kG;have O:(0:Int)<=(o:Int):=E;have n:G (∀m,dJ R w ((w.drewN m).setCell ⟨R,1,Y⟩ (I U ((i:Int)+(o:Int)))) (i+o)):=λm=>by have:=((dJ.refl h).drewN m).trans (dJ.set (((dJ.refl h).drewN m).sc h) (i+o));rw[show ((i+o:Nat):Int)=(i:Int)+(o:Int) by omega]at this;exact this
  have X:(i:Int)+(o:Int)<=(s.size:Int):=E;have P:(i:Int)<=(i:Int)+(o:Int):=E;have Q:((i:Int)+(o:Int)).toNat=i+o:=E;have t:∀m,a7 ((w.drewN m).setCell ⟨R,1,Y⟩ (I U ((i:Int)+(o:Int)))) R 0=Z (Zt s):=λm=>((n m).cells 0 zC).trans c0;have u:∀m,a7 ((w.drewN m).setCell ⟨R,1,Y⟩ (I U ((i:Int)+(o:Int)))) R 1=Z (I U ((i:Int)+(o:Int))):=λm=>(n m).at1;clear b d C j N h;go_in;go_wp2_with fail;go_quiet (first|(go_at_call 289;refine Q4 (g _)));go_wp2_with (go_at_call 265;refine H (ro _) ?_;rintro e M ⟨rfl,rfl⟩);have qc:=t nq;have qq:=u nq;go_quiet (fail);go_wp2;go_ret;refine .inl ⟨_,by rw[a];exact p,Xc (λx=>Ue (Zt x)) T,?_,by rw[a];exact B⟩;rw[a];exact (n _).drewN _
def IL(w:Zw)(R:Nat)(s:ZB)(i:Nat)(e:Ending)(w':Zw):Prop:=
 (i=s.size/\e=Zr (Zu #[])/\dJ R w w' i)∨(i≠s.size/\e=.panicked lg/\cH R w w')
def Fv (R:Nat) (s:ZB) (i:Nat) (h:Sc w R s i) :
  WU WV 244 #[Zp (b5 R 0)] w (IL w R s i):=by
 have c0:=h.c0;have c1:=h.c1;have c:G (∀m,dJ R w (w.drewN m) i):=λm=>(dJ.refl h).drewN m;clear h;by_cases a:i=s.size
 .have d:((i:Int)==(s.size:Int))=true:=by simp[a]
  have b:G (i=s.size):=a;clear a;go_in;go_wp2_with fail;go_quiet (first|(go_at_call 265;refine Q4 (ro _)));go_wp2_with fail;go_end0;exact .inl ⟨b,D,c _⟩
 .have d:((i:Int)==(s.size:Int))=false:=gE;have HP:G (IL w R s i (.panicked lg) w.drew):=.inr ⟨a,D,⟨D,D,D,QD _,λ_ _ _=>D⟩⟩;clear a;go_in;go_wp2_with fail;go_region_dies;all_goals (go_at_call 265;refine H (tz _) ?_;rintro e f ⟨rfl,rfl⟩;exact⟨D,HP⟩)
def fB{α:Type}(S:ZN)(w:Zw)(R:α->Zv->Prop)(l:List α)(v:Zv):Prop:=
 ∃(a:ZA)(cap:Nat),v=A a (J l) cap/\J l<=WX /\
  (l≠[]->∃b off,a=b5 b off/\S b/\∀i (h:i<J l),∃c,a7 w b (off+i)=Z c/\R l[i] c)
def fB.keep {R R':α->Zv->Prop} {l:List α} (h:fB S w R l v) (n:gw S w w') (k:∀ b,S b->S' b)
  (j:∀x c,x∈l->R x c->R' x c):fB S' w' R' l v:=by obtain⟨f,cap,t,r,o⟩:=h;refine⟨f,cap,t,r,λd=>?_⟩;have⟨b,off,m,e,a⟩:=o d;refine⟨b,off,m,k b e,λi q=>?_⟩;have⟨c,g,s⟩:=a i q;exact⟨c,(n.cell (p:=⟨b,off+i,Y⟩) e).trans g,j _ _ zS s⟩
def gM {base:Nat} {l:List α} {R:α->Zv->Prop} (h:w.ownsRow base e 1 v (J l) xs) (f:J l<=WX)
  (n:∀g,v.ownBlock=Z g->S g) (m:∀i (d:i<J l) (t:i<J xs),R l[i] xs[i]):fB S w R l v:=by
 have j:J xs=J l:=by simpa using h.1
 rcases h.2 with ⟨rfl,c⟩|⟨g,cap,k,rfl,o,s,r,p,q,b⟩;·exact⟨Y,0,by rw[c],f,λa=>absurd (Qj c) a⟩
 .refine⟨_,_,D,f,λ_=>⟨g,0,D,n g D,λi d=>⟨xs[i]'E,?_,m i d E⟩⟩⟩;have:=h.cells (g:=g) D i (xs[i]'E) zS;rw[XC]at this;exact this
def cO{z:Nat}(h:w.ownsRow M e z v k xs)(b:Nat)(hb:v.ownBlock=Z b):M<=b/\b<w.heap.size:=by exact TW
def ep{z:Nat}(h:w.ownsRow M e z v k xs):∃a c,v=A a k c:=by exact TZ
def cV{z:Nat}(h:w.ownsRow M e z v k xs)(hs:∀g,v.ownBlock=Z g->w'.heap[g]?=w.heap[g]?):w'.ownsRow M e z v k xs:=by exact Tw
def Fr(M:Nat)(d c:Zv)(a b:Nat):Prop:=M<=b/\b<a/\d.ownBlock≠Z b/\c.ownBlock≠Z b
structure iB(R n:Nat)(w wr:Zw)(ns:List ZB)(ks:List (K n))(nv kv:Zv):Prop where
 near:cH R w wr
 q:wr.ownsRow w.heap.size 9 1 nv (J ns) (ns.map Zt)
 short:∀s,s∈ns->s.size<=10000
 o:∃xs,wr.ownsRow w.heap.size 177 3 kv (J ks) xs/\∀j (h:j<J ks),∃c0 c1 c2,(xs[j*3]?=Z c0/\xs[j*3+1]?=Z c1/\xs[j*3+2]?=Z c2)/\cW (Fr w.heap.size nv kv wr.heap.size) wr n ks[j] c0 c1 c2
 apart:∀b,nv.ownBlock=Z b->kv.ownBlock≠Z b
def iB.start(R n:Nat)(w wr:Zw)(h:cH R w wr):iB R n w wr [] [] (A Y 0 0) (A Y 0 0):=
 ⟨h,QV _ _ _ _,zS,⟨[],QV _ _ _ _,zS⟩,zC⟩
def iB.keep{f:List (K n)}(h:iB R n w wr ns f nv kv)(r:R<w.heap.size)(hn:cH R wr W):iB R n w W ns f nv kv:=by
 have c:∀b,w.heap.size<=b->b<wr.heap.size->W.heap[b]?=wr.heap[b]?:=λb q i=>hn.block b i E;have⟨p,e,m⟩:=h.o;refine⟨h.near.trans hn,cV h.q λg a=>?_,h.short,⟨p,cV e λg a=>?_,λj l=>?_⟩,h.apart⟩;·have:=cO h.q g a;exact c g this.1 E
 .have:=cO e g a;exact c g this.1 E
 .have⟨c0,c1,c2,k,o⟩:=m j l;exact⟨c0,c1,c2,k,o.keep (λb d=>c b d.1 d.2.1) P3⟩
def iB.name {k:List (K n)} (h:iB R n w W ns k nv kv)
  (ha:Wa.heap=W.heap.push one) (i:Wa.os=W.os/\Wa.tape=W.tape/\Wa.output=W.output) (hx:x.size<=10000)
  (a:W2.ownsRow w.heap.size 9 1 (A (b5 g 0) (J ns+1) cap) (J ns+1) (ns.map Zt++[Zt x])) (qg:Wa.grownBy W2 nv.ownBlock) (qy:nv.ownBlock=Z g∨g=W.heap.size+1) :
  iB R n w W2 (ns++[x]) k (A (b5 g 0) (J ns+1) cap) kv/\(∀b,b<w.heap.size->W2.heap[b]?=W.heap[b]?)/\W.heap.size<=W2.heap.size:=by
 have v:W2.heap.size ≥ W.heap.size+1:=pP;have qS:=cO h.q;have m:=cO a g D;have t:=h.near.size;have q:∀b,b<W.heap.size->nv.ownBlock≠Z b->W2.heap[b]?=W.heap[b]?:=λb hb qh=>by exact Gc
 have⟨u,d,p⟩:=h.o;have qn:=cO d;refine⟨⟨⟨?_,?_,?_,E,λb hb qh=>?_⟩,?_,?_,⟨u,cV d λf c=>?_,λj o=>?_⟩,λb hb=>?_⟩,λb hb=>q b E (λe=>tP),E⟩;·rw[qg.os,i.1];exact h.near.os
 .rw[qg.tape,i.2.1];exact h.near.tape
 .rw[qg.output,i.2.2];exact h.near.output
 .rw[q b E (λe=>tP)];exact h.near.block b hb qh
 .rw[Qi,QM,Q8,XV];exact a
 .exact FQ
 .have:=qn f c;exact q f this.2 (λe=>h.apart f e c)
 .have⟨c0,c1,c2,l,r⟩:=p j o;refine⟨c0,c1,c2,l,r.keep (λb hb=>?_) (λb hb=>?_)⟩;·exact q b hb.2.1 hb.2.2.1
  .refine⟨hb.1,Ad,?_,hb.2.2.2⟩;exact S1
 .exact FC
def iB.kid {c:List (K n)} {t:K n} (h0:iB R n w W ns c nv kv) (u:R<w.heap.size)
  (hn:cH R W W1) (O:cW (λb=>W.heap.size<=b/\b<W1.heap.size) W1 n t c0 c1 c2)
  (ha:Wa.heap=W1.heap.push one) (ho:Wa.os=W1.os/\Wa.tape=W1.tape/\Wa.output=W1.output) 
  (l:W.ownsRow w.heap.size 177 3 kv (J c) xs) (N:∀j (h:j<J c),∃c0 c1 c2,(xs[j*3]?=Z c0/\xs[j*3+1]?=Z c1/\xs[j*3+2]?=Z c2)/\cW (Fr w.heap.size nv kv W.heap.size) W n c[j] c0 c1 c2)
  (f:W2.ownsRow w.heap.size 177 3 (A (b5 g 0) (J c+1) cap) (J c+1) (xs++[c0,c1,c2])) (qg:Wa.grownBy W2 kv.ownBlock) (qy:kv.ownBlock=Z g∨g=W1.heap.size+1) :
  iB R n w W2 ns (c++[t]) nv (A (b5 g 0) (J c+1) cap)/\(∀b,b<w.heap.size->W2.heap[b]?=W1.heap[b]?)/\W1.heap.size<=W2.heap.size:=by
 have Q:=hn.size;have P:=h0.near.size;have S:W2.heap.size ≥ W1.heap.size+1:=pP;have qS:=cO h0.q;have qn:=cO l;have M:=cO f g D;have s:∀b,b<W1.heap.size->kv.ownBlock≠Z b->W2.heap[b]?=W1.heap[b]?:=λb hb qh=>by exact Gc
 have q:∀b,b<W.heap.size->b≠R->kv.ownBlock≠Z b->W2.heap[b]?=W.heap[b]?:=λb hb u qh=>by rw[s b E qh,hn.block b hb u]
 have r:J xs=J c*3:=l.1;refine⟨⟨⟨?_,?_,?_,E,λb hb qh=>?_⟩,cV h0.q λm i=>?_,h0.short,⟨xs++[c0,c1,c2],?_,λj hj=>?_⟩,λb hb=>?_⟩,λb hb=>s b E nN,E⟩;·exact FA
 .exact Fw
 .exact Fy
 .rw[q b E qh nN];exact h0.near.block b hb qh
 .have:=qS m i;exact q m this.2 E (h0.apart m i)
 .rw[Qi,QM];exact f
 .have ji:∀ b,kv.ownBlock≠Z b->b<W1.heap.size->(Uc (b5 g 0) (J c+1) cap).ownBlock≠Z b:=by exact P2
  by_cases k:j<J c
  .have⟨x,y,z,⟨B,C,L⟩,hd⟩:=N j k;have a:∀o v,o<3->xs[j*3+o]?=Z v->(xs++[c0,c1,c2])[j*3+o]?=Z v:=λo v ho h=>by rw[QA E];exact h
   refine⟨x,y,z,⟨a 0 _ E B,a 1 _ E C,a 2 _ E L⟩,?_⟩;rw[QS k];exact Yy
  .have p:j=J c:=Bi;subst p;have d:∀o v,o<3->[c0,c1,c2][o]?=Z v->(xs++[c0,c1,c2])[J c*3+o]?=Z v:=λo v ho h=>by rw[Qu E,r,XR];exact h
   refine⟨c0,c1,c2,⟨d 0 _ E D,d 1 _ E D,d 2 _ E D⟩,?_⟩;have:(c++[t])[J c]=t:=zS;rw[this];refine O.keep (λb hb=>?_) (λb hb=>⟨E,E,λe=>tP,ji b nN hb.2⟩);exact s b hb.2 nN
 .exact FV
def go(h:w.ownsRow M e 1 v (J l) (l.map Zt))(b:J l<=20000)(a:∀s,s∈l->s.size<=10000)(hS:∀g,v.ownBlock=Z g->S g):cR S w l v:=by
 have hm:∀s,s∈l->s.size<=WX:=λs h=>by have:=a s h;unfold WX;omega
 have xD:J l<=WX:=fA;exact qdD
def oh {l:List (K n)} (h:w.ownsRow M e 3 v (J l) xs) (N:J l<=20000) (q:∀ g,v.ownBlock=Z g->S g)
  (y:∀j (h:j<J l),∃c0 c1 c2,(xs[j*3]?=Z c0/\xs[j*3+1]?=Z c1/\xs[j*3+2]?=Z c2)/\cW S w n l[j] c0 c1 c2):kM S w (cW S w n) l v:=by
 have a:J l<=WX:=fA;rcases id h.2 with ⟨rfl,f⟩|⟨g,cap,k,rfl,r,L,z,s,t,d⟩;·exact⟨Y,0,by rw[f],a,λc=>absurd (Qj f) c⟩
 .refine⟨_,_,D,a,λ_=>⟨g,0,D,q g D,λi x=>?_⟩⟩;have⟨c0,c1,c2,⟨m,o,p⟩,B⟩:=y i x;have b:∀j u,xs[j]?=Z u->a7 w g (0+j)=Z u:=λj u C=>by have:=h.cells (g:=g) D j u C;rwa [XC]at this
  exact⟨c0,c1,c2,b _ _ m,b _ _ o,b _ _ p,B⟩
def iB.rows {f:List (K n)} (h:iB R n w wr ns f nv kv) (m:J ns<=20000) (l:J f<=20000) :
  cR (λb=>w.heap.size<=b/\b<wr.heap.size) wr ns nv/\kM (λb=>w.heap.size<=b/\b<wr.heap.size) wr (cW (λb=>w.heap.size<=b/\b<wr.heap.size) wr n) f kv:=by have⟨o,a,e⟩:=h.o;refine⟨go h.q m h.short λg d=>cO h.q g d,oh a l (λg d=>cO a g d) λj k=>?_⟩;have⟨c0,c1,c2,i,c⟩:=e j k;exact⟨c0,c1,c2,i,c.keep ik PV⟩
structure gI(R X n:Nat)(w wr:Zw)(so:Int)(ns:List ZB)(ks:List (K n))(nv kv:Zv):Prop where
 near:cH R w wr
 box:wr.heap[X]?=Z (Zc #[I U so,nv,kv] 177 (0,0))
 q:wr.ownsRow (X+1) 9 1 nv (J ns) (ns.map Zt)
 short:∀s,s∈ns->s.size<=10000
 o:∃xs,wr.ownsRow (X+1) 177 3 kv (J ks) xs/\∀j (h:j<J ks),∃c0 c1 c2,(xs[j*3]?=Z c0/\xs[j*3+1]?=Z c1/\xs[j*3+2]?=Z c2)/\cW (Fr (X+1) nv kv wr.heap.size) wr n ks[j] c0 c1 c2
 apart:∀b,nv.ownBlock=Z b->kv.ownBlock≠Z b
def gI.lt{a:List (K n)}(h:gI R X n w wr so ns a nv kv):X<wr.heap.size:=(Qe.1 h.box).1
def gI.keep{d:List (K n)}(h:gI R X n w wr so ns d nv kv)(f:R<X)(hn:cH R wr W):gI R X n w W so ns d nv kv:=by
 have i:=h.lt;have hs:∀b,X<=b->b<wr.heap.size->W.heap[b]?=wr.heap[b]?:=λb l e=>hn.block b e E;have⟨k,c,hk⟩:=h.o;refine⟨h.near.trans hn,by rw[hs X (QD _) i];exact h.box,cV h.q λg a=>?_,h.short,⟨k,cV c λg a=>?_,λj hj=>?_⟩,h.apart⟩;·have:=cO h.q g a;exact hs g E E
 .have:=cO c g a;exact hs g E E
 .exact YG
def gI.name {d:List (K n)} (h:gI R X n w W so ns d nv kv) (l:w.heap.size<=X)
  (ha:Wa.heap=W.heap.push one) (ho:Wa.os=W.os/\Wa.tape=W.tape/\Wa.output=W.output) (hx:x.size<=10000)
  (qd:W2.ownsRow (X+1) 9 1 (A (b5 g 0) (J ns+1) cap) (J ns+1) (ns.map Zt++[Zt x])) (qg:Wa.grownBy W2 nv.ownBlock) (qy:nv.ownBlock=Z g∨g=W.heap.size+1) :
  gI R X n w (W2.setCell ⟨X,1,Y⟩ (A (b5 g 0) (J ns+1) cap)) so (ns++[x]) d (A (b5 g 0) (J ns+1) cap) kv:=by
 have f:=h.lt;have m:W2.heap.size ≥ W.heap.size+1:=pP;have qS:=cO h.q;have i:=cO qd g D;have q:∀b,b<W.heap.size->nv.ownBlock≠Z b->W2.heap[b]?=W.heap[b]?:=λb hb qh=>by exact Gc
 have qs:∀b,b≠X->(W2.setCell ⟨X,1,Y⟩ (A (b5 g 0) (J ns+1) cap)).heap[b]?=W2.heap[b]?:=λb hb=>Qr _ _ _ _ hb;have qo:(W2.setCell ⟨X,1,Y⟩ (A (b5 g 0) (J ns+1) cap)).heap.size=W2.heap.size:=zS;have c:nv.ownBlock≠Z X:=λe=>Co;have qF:=(q X f c).trans h.box;have⟨k,a,hk⟩:=h.o;have qn:=cO a;refine⟨⟨?_,?_,?_,JR,λb hb qh=>?_⟩,?_,?_,?_,⟨k,cV a λg' qC=>?_,λj hj=>?_⟩,λb hb=>?_⟩;·exact F0
 .exact FX
 .exact FY
 .exact P0
 .exact ox
 .rw[Qi,QM,Q8,XV];exact F1
 .exact FQ
 .exact MP
 .exact Yr
 .exact FC
def gI.kid {ks:List (K n)} {t:K n} (h0:gI R X n w W so ns ks nv kv) (f:R<X) (p:w.heap.size<=X)
  (hn:cH R W W1) (ht:cW (λb=>W.heap.size<=b/\b<W1.heap.size) W1 n t c0 c1 c2)
  (ha:Wa.heap=W1.heap.push one) (ho:Wa.os=W1.os/\Wa.tape=W1.tape/\Wa.output=W1.output) 
  (a:W.ownsRow (X+1) 177 3 kv (J ks) xs) (hk:∀j (h:j<J ks),∃c0 c1 c2,(xs[j*3]?=Z c0/\xs[j*3+1]?=Z c1/\xs[j*3+2]?=Z c2)/\cW (Fr (X+1) nv kv W.heap.size) W n ks[j] c0 c1 c2)
  (qd:W2.ownsRow (X+1) 177 3 (A (b5 g 0) (J ks+1) cap) (J ks+1) (xs++[c0,c1,c2])) (qg:Wa.grownBy W2 kv.ownBlock) (qy:kv.ownBlock=Z g∨g=W1.heap.size+1) :
  gI R X n w (W2.setCell ⟨X,2,Y⟩ (A (b5 g 0) (J ks+1) cap)) so ns (ks++[t]) nv (A (b5 g 0) (J ks+1) cap):=by
 have i:=h0.lt;have l:=hn.size;have r:W2.heap.size ≥ W1.heap.size+1:=pP;have qS:=cO h0.q;have qn:=cO a;have k:=cO qd g D;have q1:∀b,b<W1.heap.size->kv.ownBlock≠Z b->W2.heap[b]?=W1.heap[b]?:=λb hb qh=>by exact Gc
 have q:∀b,b<W.heap.size->b≠R->kv.ownBlock≠Z b->W2.heap[b]?=W.heap[b]?:=λb hb d qh=>by rw[q1 b E qh,hn.block b hb d]
 have qs:∀b,b≠X->(W2.setCell ⟨X,2,Y⟩ (A (b5 g 0) (J ks+1) cap)).heap[b]?=W2.heap[b]?:=λb hb=>Qr _ _ _ _ hb;have qo:(W2.setCell ⟨X,2,Y⟩ (A (b5 g 0) (J ks+1) cap)).heap.size=W2.heap.size:=zS;have c:kv.ownBlock≠Z X:=λe=>FM;have qF:=(q X i E c).trans h0.box;have qI:J xs=J ks*3:=a.1;refine⟨⟨?_,?_,?_,PW,λb hb qh=>?_⟩,?_,cV h0.q λg' qC=>?_,h0.short,⟨xs++[c0,c1,c2],?_,λj hj=>?_⟩,λb hb=>?_⟩;·show W2.os=w.os;exact FA
 .show W2.tape=w.tape;exact Fw
 .show W2.output=w.output;exact Fy
 .have m:=h0.near.size;rw[qs b E,q b E qh nN];exact h0.near.block b hb qh
 .exact ox
 .have:=qS g' qC;rw[qs g' E,q g' this.2 E (h0.apart g' qC)]
 .rw[Qi,QM];exact F1
 .have ji:∀ b,kv.ownBlock≠Z b->b<W1.heap.size->(Uc (b5 g 0) (J ks+1) cap).ownBlock≠Z b:=by exact P2
  exact qcM
 .exact FV
def cY{a b:Bool}(h:a=b):Ue (Zb a)=Zr (Zb b):=by rw[h]
def w9(n:Int):Bool:=decide (48<=n/\n<=57)
def ls{x:Int}(w:Zw)(_h0:0<=x)(_h1:x<=255):WU WV 99 #[I .u8 x] w λe b=>e=Zr (Zb (w9 x))/\b=w:=by
 by_cases h:48<=x<;>by_cases a:x<=57;all_goals
  go_in
  go_wp2
  go_ret
  exact⟨cY (by simp[w9,h,a];try omega),D⟩
def RT(s:ZB)(h:0<s.size):s.data.toList.headD 0=s[0]:=by
 cases hx:s.data.toList with
 | nil=>have:=Xc Uh hx;simp at this;simp[this]at h
 | cons a r=>simp[QX,<- Array.getElem_toList,hx]
def Ho(h:dz c=true):rP c = !w9 c.toNat:=by
 unfold dz at h;rw[Qk]at h;unfold rP w9;rcases h with h|h;·rw[QK h,QU E];rfl
 .rw[QU E,QK h];rfl
def OK(b:1<=s.size)(c:s.size<=8):c8 s=(!w9 (s[0].toNat:Int) && s.data.toList.all dz):=by
 unfold c8;rw[RT s E];cases hall:s.data.toList.all dz with
 | false=>simp
 | true=>have a:dz s[0]=true:=Qo.1 hall _ (by simp[QX]);rw[Ho a];simp[b,c]
def kO(s:ZB)(w:Zw)(u:s.size<=WX):WU WV 62 #[Zt s] w λe j=>e=Zr (Zb (c8 s))/\j=w:=by
 unfold WX at u;by_cases m:1<=s.size/\s.size<=8
 .obtain⟨n,o⟩:=m;have q:G (c8 s=(!w9 (s[0].toNat:Int) && s.data.toList.all dz)):=OK n o;have c:∀k (h:k<s.size),(s[k].toNat:Int)<=255:=λk h=>by have:=s[k].toNat_lt;omega
  have f:=c 0 E;cases hd:w9 (s[0].toNat:Int) with
  | true=>
   have HF:G (c8 s=false):=by show _=_;rw[q.out,hd];simp
   clear c;go_in;go_wp2_with fail;refine H (ls _ E f) ?_;rintro e j ⟨rfl,rfl⟩;rw[hd];exact FB
  | false=>
   have p:=a8 hd;have r:=a8 c;clear c hd;go_in;go_wp2_with fail;refine H (ls _ E f) ?_;rintro e j ⟨rfl,rfl⟩;rw[p.out];go_wp2;go_loop [19] (λi=>∃k:Nat,k<=s.size/\i=I U k/\(s.data.toList.take k).all dz=true) (λi=>s.size-(intOf i).toNat);case atStart=>exact⟨0,E,D,zS⟩
   case round=>
    obtain⟨k,v,rfl,d⟩:=hrel;have HA:=a8 d;clear d;by_cases qf:k<s.size
    .have g:=r.out k qf;have a:G (w9 (s[k].toNat:Int)=decide (48<=(s[k].toNat:Int)/\(s[k].toNat:Int)<=57)):=D;cases hb:dz s[k] with
     | true=>
      have HB:G (dz s[k]=true):=hb;unfold dz at hb;rw[Qk]at hb;rcases hb with ⟨l,t⟩|⟨l,t⟩
      .have b:w9 (s[k].toNat:Int)=false:=by rw[a.out];exact zE
       go_wp2_with (go_at_call 99;refine H (ls _ E g) ?_;rintro e j ⟨rfl,rfl⟩;rw[b]);exact J8
      .have b:w9 (s[k].toNat:Int)=true:=by rw[a.out];exact zE
       go_wp2_with (go_at_call 99;refine H (ls _ E g) ?_;rintro e j ⟨rfl,rfl⟩;rw[b]);exact J8
     | false=>
      have HF:G (c8 s=false):=by show _=_;rw[c8,lS qf hb];simp
      unfold dz at hb;rw[XD]at hb;have b:w9 (s[k].toNat:Int)=false:=by rw[a.out];exact zE
      rcases (show (s[k].toNat:Int)<97∨122<(s[k].toNat:Int) by omega) with l|l;all_goals
       clear hb
       go_wp2_with (go_at_call 99;refine H (ls _ E g) ?_;rintro e j ⟨rfl,rfl⟩;rw[b])
       go_ret
       exact⟨cY HF.symm,D⟩
    .have HF:G (c8 s=true):=by show _=_;rw[q.out,p.out,lT E HA.out];simp
     exact FB
 .have HF:G (c8 s=false):=by show _=_;rw[c8,QU m];simp
  rcases (show s.size<1∨8<s.size by omega) with l|l;all_goals
   clear m
   go_in
   exact FB
def nt (B:cR S w l v) :
  WU WV 199 #[v] w λe g=>e=Zr (Zb (ee l))/\g=w:=by
 obtain⟨C,cap,rfl,q,o,n⟩:=B;unfold WX at q;go_in;go_wp2;go_loop [7] (λi=>∃k:Nat,k<=J l/\i=I U k/\fK l k=true) (λi=>J l-(intOf i).toNat);case atStart=>exact⟨0,E,D,by simp[fK]⟩
 case round=>
  obtain⟨k,K,rfl,m⟩:=hrel;have u:G (fK l k=true):=m;clear m;by_cases d:k<J l
  .obtain⟨b,off,rfl,y,a⟩:=n (by intro h;rw[h]at d;simp at d);have f0:=a k d;have t:=o l[k] zS;have c:l.getD k WT=l[k]:=by simp[Un,d]
   cases hnm:c8 l[k] with
   | false=>
    have HF:G (ee l=false):=lX d (by simp only[gn,c,hnm,Ze]);have p:G (∀w,WU WV 62 #[Zt l[k]] w λe g=>e=Zr (Zb false)/\g=w):=λw=>by rw[<- hnm];exact kO _ w t
    clear n o a c hnm;generalize l[k]=s at *;go_wp2_with (go_at_call 62;refine H (p _) ?_;rintro e g ⟨rfl,rfl⟩);go_ret;exact⟨cY HF.symm,D⟩
   | true=>
    have p:G (∀w,WU WV 62 #[Zt l[k]] w λe g=>e=Zr (Zb true)/\g=w):=λw=>by rw[<- hnm];exact kO _ w t
    rcases Xa k with rfl|z
    .have x:G (fK l (0+1)=true):=by show _=_;rw[mP,u.out,gn,c,hnm];rfl
     clear n o a c hnm;rw[QC]at f0;generalize l[0]=s at *;go_wp2_with (go_at_call 62;refine H (p _) ?_;rintro e g ⟨rfl,rfl⟩);go_round;case rel=>exact⟨0+1,E,by go_num,x⟩
     case measure=>exact eb
    .obtain⟨j,rfl⟩:∃j,k=j+1:=⟨k-1,E⟩;have f1:=a j E;have f:l.getD j WT=l[j]:=by simp[Un,show j<J l by omega]
     cases hlt':ij l[j] l[j+1] with
     | false=>have HF:G (ee l=false):=lX d (by simp only[gn,c,Z1,f,hlt'];simp);unfold ij at hlt';clear n o a c f hnm;generalize l[j]=r at *;generalize l[j+1]=s at *;go_wp2_with (go_at_call 62;refine H (p _) ?_;rintro e g ⟨rfl,rfl⟩);go_ret;exact⟨cY HF.symm,D⟩
     | true=>
      have x:G (fK l (j+1+1)=true):=by show _=_;rw[mP,u.out,gn,c,hnm,Z1,f,hlt'];simp
      unfold ij at hlt';clear n o a c f hnm;generalize l[j]=r at *;generalize l[j+1]=s at *;go_wp2_with (go_at_call 62;refine H (p _) ?_;rintro e g ⟨rfl,rfl⟩);go_round;case rel=>exact⟨j+1+1,E,by go_num,x⟩
      case measure=>exact eb
  .have HF:G (ee l=true):=by show _=_;rw[ee,show J l=k by omega];exact u
   clear n o;go_wp2;go_ret;exact⟨cY HF.symm,D⟩
def ru (s:Int) (l:List ZB) (c:ZA) (a d:Nat) (w:Zw) (na:ZA) (nc:Nat) (b:s=1∨s=2∨s=3) :
  WU WV 267 #[UD s na (J l) nc c a d] w λe f=>e=Zr (Zb (((J l:Int)==0) && ((a:Int)==0)))/\Bw w f:=by
 rcases b with rfl|rfl|rfl;all_goals
  go_in
  go_wp2_with fail
  all_goals
   go_ret
   exact⟨cY (by simp_all),eC _ _⟩
def BM (s:Int) (l:List ZB) (c:ZA) (a d:Nat) (w:Zw) (na:ZA) (nc:Nat) (b:s=4∨s=6) :
  WU WV 267 #[UD s na (J l) nc c a d] w λe f=>e=Zr (Zb (((J l:Int)==0) && ((a:Int)==1)))/\Bw w f:=by
 rcases b with rfl|rfl;all_goals
  go_in
  go_wp2_with fail
  all_goals
   go_ret
   exact⟨cY (by simp_all),eC _ _⟩
def GX (i:ZA) (c j:Nat) (h:cR S w l (A na (J l) nc)) (g:Bd S w) :
  WU WV 267 #[UD 5 na (J l) nc i c j] w λe k=>e=Zr (Zb (((J l:Int)==(c:Int)) && ee l))/\Bw w k:=by
 by_cases d:J l=c;·subst d;have a:=(Qg w.heap.size w).alloc E (UF 5 na (J l) nc i (J l) j);have b:=h.keep (b6 a g) zI;have m:G (WU WV 199 #[A na (J l) nc] _ _):=nt b;have d:((J l:Int)==(J l:Int))=true:=zS;clear h b g;go_in;go_wp2_with fail;refine H m ?_;rintro e k ⟨rfl,rfl⟩;go_wp2;go_ret;exact⟨zS,a⟩
 .have f:((J l:Int)==(c:Int))=false:=by simp;omega
  rw[f];clear d;go_in;go_wp2;go_ret;exact⟨D,eC _ _⟩
def Ep (s:Int) (l:List ZB) (b:ZA) (d c:Nat) (w:Zw) (na:ZA) (nc:Nat)
  (g:(s==1)=false) (h:(s==2)=false) (i:(s==3)=false) (j:(s==4)=false) (k:(s==5)=false) (m:(s==6)=false) :
  WU WV 267 #[UD s na (J l) nc b d c] w λe f=>e=Zr (Zb false)/\Bw w f:=by have a:=(Qg w.heap.size w).alloc E (UF s na (J l) nc b d c);go_in;go_wp2;go_ret;exact⟨D,a⟩
def K1 (s:Int) (b:ZA) (a c:Nat) 
  (m:cR S w l (A na (J l) nc)) (k:Bd S w) :
  WU WV 267 #[UD s na (J l) nc b a c] w λe n=>e=Zr (Zb (eh s l a))/\Bw w n:=by
 unfold eh;by_cases d:s=1;·subst d;rw[Qm rfl];exact ru 1 l b a c w na nc E
 rw[Qd d];by_cases f:s=2;·subst f;rw[Qm rfl];exact ru 2 l b a c w na nc E
 rw[Qd f];by_cases g:s=3;·subst g;rw[Qm rfl];exact ru 3 l b a c w na nc E
 rw[Qd g];by_cases h:s=4;·subst h;rw[Qm rfl];exact BM 4 l b a c w na nc E
 rw[Qd h];by_cases i:s=5;·subst i;rw[Qm rfl];exact GX b a c m k
 rw[Qd i];by_cases j:s=6;·subst j;rw[Qm rfl];exact BM 6 l b a c w na nc E
 rw[Qd j];exact Ep s l b a c w na nc (by simp[d]) (by simp[f]) (by simp[g]) (by simp[h]) (by simp[i]) (by simp[j])
def Nr (s:Int) (j:ZA) (i k:Nat) (d:Int) {p:Int} (t:cR S w l (A na (J l) nc)) (n:∀ b,S b->b<w.heap.size/\b≠pb)
  (hp:M9 w pb mb ab p 40 267) (y:0<=p) (z:p<=40) :
  WU WV 283 #[UD s na (J l) nc j i k,I U d,Zp (b5 pb 0),Zp (b5 mb 0),Zp (b5 ab 0)] w
   λe m=>e=Zr (Zb (decide (p+1<=40) && decide (d<=6) && eh s l i))/\k6 m pb (p+1)/\cH pb w m:=by
 have v:=hp.parts.lt;have h:cH pb w (w.setCell ⟨pb,0,Y⟩ (I U (p+1))):=cH.set pb 0 _ (I U (p+1));have a:=h.trans (cH.alloc pb _ (UF s na (J l) nc j i k));have f:k6 ((w.setCell ⟨pb,0,Y⟩ (I U (p+1))).alloc (UF s na (J l) nc j i k)) pb (p+1):=(hp.parts.set (p+1)).keep (eC _ _);have g:=t.keep (a.same n) zI;have r:G (WU WV 267 _ _ _):=K1 s j i k g (λb u=>by have:=(n b u).1;simp;omega);have c0:=hp.parts.cell;have f0:=hp.parts.free;have B:=hp.max;have a0:=hp.acc;have nm:=hp.nm;have C:=hp.na;have N:mb<w.heap.size:=dK B;have M:ab<w.heap.size:=dK a0;have x:w.heap.size≠pb:=E;clear t g hp h n;by_cases K:p+1<=40
 .by_cases L:d<=6;·go_in;go_wp2_with fail;refine H r ?_;rintro e m ⟨rfl,c⟩;have q:k6 m pb (p+1):=(c.block pb zE).trans f;have o:=a.trans (cH.of_below (bb:=pb) c);clear c r;go_wp2;go_ret;exact⟨zE,q,o⟩
  .go_in;go_wp2;go_ret;exact⟨zE,f,a⟩
 .go_in;go_wp2;go_ret;exact⟨zE,f,a⟩
def pu(n:Nat)(t:K n)(d p:Int)(a:Nat)(w:Zw)(e:Ending)(w':Zw):Prop:=
 cH a w w' /\ ∃r,e=Zr (Zb r)/\(r=true->dj n t d=true/\p+(dF n t:Int)<=40/\k6 w' a (p+dF n t))/\(r=false->¬(dj n t d=true/\p+(dF n t:Int)<=40))
def clK(c b a:Nat):Zv:=.func (.func 283) #[] #[Zp (b5 c 0),Zp (b5 b 0),Zp (b5 a 0)]
def th(n:Nat):Prop:=∀(S:ZN)(t:K n)(c0 c1 c2:Zv)(d p:Int)(a e c:Nat)(w:Zw),cW S w n t c0 c1 c2->(∀b,S b->b<w.heap.size/\b≠a)->M9 w a e c p 40 267->0<=p->p<=40->1<=d->d<=7 ->
 WU WV 282 #[Za #[c0,c1,c2],I U d,clK a e c] w (pu n t d p a w)
def K5(a b:Zv){c:Zv}(f:∃x l k,c=A x l k)(w:Zw):WU WV 315 #[Za #[a,b,c]] w λe g=>e=Zr c/\Bw w g:=by obtain⟨x,l,k,rfl⟩:=f;have d:=(Qg w.heap.size w).alloc E (Zc #[a,b,A x l k] 177);go_in;go_wp2;go_ret;exact⟨D,d⟩
def MC {n:Nat} {t:K (n+1)} {d p:Int} (k:Nat) (f:k<J (Kd.o t))
  (h:¬(dj n (Kd.o t)[k] (d+1)=true/\p+1+(cG (λx=>dF n x) ((Kd.o t).take k):Int)+(dF n (Kd.o t)[k]:Int)<=40)):¬(dj (n+1) t d=true/\p+(dF (n+1) t:Int)<=40):=by rintro ⟨a,c⟩;apply h;simp only[dj,Qc,Qo]at a;refine⟨a.2 _ zS,?_⟩;have e:=dw (λx=>dF n x) f;have b:=eV (λx=>dF n x) ((Kd.o t).take (k+1)) ((Kd.o t).drop (k+1));rw[Q2]at b;simp only[dF]at c;omega
def IA(hn:th n):th (n+1):=by
 intro S t c0 c1 c2 d p z mb ab w ht V f ai aj am an;obtain⟨rfl,-,h3,h4⟩:=ht;obtain⟨na,nc,rfl,-,-,-⟩:=id h3;obtain⟨ka,kc,rfl,aa,-⟩:=id h4;unfold WX at aa;have j:=f.parts.lt;generalize hs:Kd.k t=s at *;have X:=(Qg w.heap.size w).alloc E (UF s na (J (Kd.q t)) nc ka (J (Kd.o t)) kc);have R:cH z w (w.alloc (UF s na (J (Kd.q t)) nc ka (J (Kd.o t)) kc)):=cH.of_below X;have qc:=h3.keep (R.same V) zI;have F:G (WU WV 283 _ _ _):=Nr s ka (J (Kd.o t)) kc d qc (λb Q=>by have:=V b Q;simp;omega) (f.keep R (f.parts.keep X)) ai aj;unfold clK;go_in;go_wp2_with fail;refine H F ?_;rintro e w1 ⟨rfl,j2,v⟩;have y:=R.trans v;have q9:=f.keep y j2;have aq:=y.size;have ap:w.heap.size<w1.heap.size:=by have:=v.size;simp at this;omega
 have k0:a7 w1 w.heap.size 0=Z (I U s):=v.cell (by simp[go_sem]) E;have k1:a7 w1 w.heap.size 1=Z (A na (J (Kd.q t)) nc):=v.cell (by simp[go_sem]) E;have k2:a7 w1 w.heap.size 2=Z (A ka (J (Kd.o t)) kc):=v.cell (by simp[go_sem]) E;have q8:=h4.keepK (y.same V) zI;clear F R X qc v h3 h4;generalize m:(decide (p+1<=40) && decide (d<=6) && eh s (Kd.q t) (J (Kd.o t)))=ok;cases ok with
 | false=>
  have HP:G (pu (n+1) t d p z w (Zr (Zb false)) w1):=by
   refine⟨y,false,D,zS,λ_=>?_⟩;rintro ⟨qa,hc⟩;simp only[dj,Qc,Qk]at qa;have ha:eh s (Kd.q t) (J (Kd.o t))=true:=by rw[<- hs];exact qa.1.2
   have:p+1<=40:=by simp only[dF]at hc;omega
   rw[ha,QK qa.1.1,QK this]at m;cases m
  clear m hs;go_wp2;go_ret;exact HP
 | true=>
  simp only[Qc,Qk]at m;have ae:G ((decide (d<=6) && wM (show Kd (K n) from t))=true):=by show (_ && eh (Kd.k t) _ _)=_;rw[hs,m.2,QK m.1.2];rfl
  obtain⟨⟨ah,ao⟩,-⟩:=m;clear hs;go_wp2_with fail;refine H (K5 _ _ ⟨_,_,_,D⟩ _) ?_;rintro e w2 ⟨rfl,C⟩;have ac:cH z w w2:=y.trans (cH.of_below C);have ak:k6 w2 z (p+1):=j2.keep C;have ar:=C.size;have h5:=q8.keepK ((cH.of_below (bb:=z) C).same (λb Q=>by have:=V b Q;omega)) zI;clear q8 C q9 y j2 k0 k1 k2;obtain⟨_,_,ag,-,g⟩:=h5;cases ag
  go_wp2;go_loopw [18] (λi wr=>∃ k:Nat,k<=J (Kd.o t)/\i=I U k/\cH z w2 wr/\k6 wr z (p+1+(cG (λx=>dF n x) ((Kd.o t).take k):Int)) /\
    p+1+(cG (λx=>dF n x) ((Kd.o t).take k):Int)<=40/\((Kd.o t).take k).all (λx=>dj n x (d+1))=true) (λi _=>J (Kd.o t)-(intOf i).toNat)
  case atStart=>exact⟨0,E,D,cH.refl _ _,by simpa [cG] using ak,by simpa [cG] using ah,zS⟩
  case round=>
   obtain⟨k,hk,rfl,l,o,a,W⟩:=hrel;have c:=a8 W;clear W;have au:=l.size;have N:=ac.trans l;have al:=o.lt;by_cases j:k<J (Kd.o t)
   .obtain⟨b,off,rfl,af,M⟩:=g (by intro h;rw[h]at j;simp at j);have⟨x0,x1,x2,e0,e1,e2,hr⟩:=M k j;have j0:=V b af;have f0:=l.cell e0 j0.2;have f1:=l.cell e1 j0.2;have f2:=l.cell e2 j0.2;have q:=hr.keep (l.same (λb Q=>by have:=V b Q;omega)) zI;obtain⟨y0,ya,yl,yc,za,zl,zc,rfl,rfl,rfl⟩:=q.shape;clear g M e0 e1 e2 hr;have q7:=(Qg wr.heap.size wr).alloc E (UF y0 ya yl yc za zl zc);have O:cH z wr (wr.alloc (UF y0 ya yl yc za zl zc)):=cH.of_below q7;have q5:=q.keep (O.same (λb Q=>by have:=V b Q;omega)) zI;have L:=f.keep (N.trans O) (o.keep q7);have F:G (WU WV 282 _ _ _):=hn S (Kd.o t)[k] _ _ _ (d+1) _ z mb ab _ q5 (λb Q=>by have:=V b Q;simp;omega) L E a E E;have B:=@MC n t d p k j;have u:G (cG (λx=>dF n x) ((Kd.o t).take (k+1))=cG (λx=>dF n x) ((Kd.o t).take k)+dF n (Kd.o t)[k]):=dw _ j;clear q q5 L q7;unfold clK at F;go_wp2_with fail;refine H F ?_;rintro e w3 ⟨qq,r,rfl,P,q6⟩;have T:=l.trans (O.trans qq);cases r with
    | false=>have HP:G (pu (n+1) t d p z w (Zr (Zb false)) w3):=⟨ac.trans T,false,D,zS,λ_=>B (q6 D)⟩;clear B q6 P u c qq T O N;go_wp2;go_ret;exact HP
    | true=>
     have⟨qa,hc,ad⟩:=P D;have HR:G (cH z w2 w3/\k6 w3 z (p+1+(cG (λx=>dF n x) ((Kd.o t).take (k+1)):Int))/\p+1+(cG (λx=>dF n x) ((Kd.o t).take (k+1)):Int)<=40/\((Kd.o t).take (k+1)).all (λx=>dj n x (d+1))=true):=by
      refine⟨T,?_,?_,k7 j c qa⟩;·rw[u.out,show p+1+((cG (λx=>dF n x) ((Kd.o t).take k)+dF n (Kd.o t)[k]:Nat):Int)=p+1+(cG (λx=>dF n x) ((Kd.o t).take k):Int)+(dF n (Kd.o t)[k]:Int) by omega];exact ad
      .rw[u.out];omega
     clear B q6 P u c qq T O N qa hc ad o a;go_wp2;go_roundw;case rel=>exact⟨k+1,E,by go_num,HR.1,HR.2.1,HR.2.2.1,HR.2.2.2⟩
     case measure=>exact eb
   .have ql:k=J (Kd.o t):=E;have HP:G (pu (n+1) t d p z w (Zr (Zb true)) wr):=by
     have h1:=c.out;rw[ql,QG]at h1 o a;have e:p+1+(cG (λx=>dF n x) (Kd.o t):Int)=p+(dF (n+1) t:Int):=by simp only[dF];omega
     rw[e]at o a;exact⟨N,true,D,λ_=>⟨by have:=ae.out;simp only[dj,this,h1,ZV],a,o⟩,zS⟩
    clear ql g c N o a;go_wp2;go_ret;exact HP
def MB:∀n,th n:=by
 intro n;induction n with
 | zero=>intro S t c0 c1 c2 d p f e c w a;exact a.elim
 | succ n b=>exact IA b
def KW {t:K n} (i:cW S w n t c0 c1 c2) (hB:Bd S w) :
  WU WV 266 #[Za #[c0,c1,c2],I U 40,.func (.func 267) #[] #[]] w λe y=>e=Zr (Zb (tI n t))/\Bw w y:=by
 have x:∀(j:Fn)(first cap:Array Zv)(w:Zw),(Instr.makeFunc j first cap).run WV w=.ok (.func j first cap) w:=λ_ _ _ _=>D;obtain⟨l,m,p,o,q,u,s,rfl,rfl,rfl⟩:=i.shape;have hb:Bw w ((((w.alloc (UF l m p o q u s)).alloc (Zc #[I U 40] 3)).alloc (Zc #[.func (.func 267) #[] #[]] 223)).alloc (Zc #[I U 0] 3)):=
  (((eC _ _).alloc zS _).alloc zE _).alloc zE _
 have d:=i.keep (b6 hb hB) zI;have f:G (WU WV 282 _ _ _):=MB n S t _ _ _ 1 0 (w.heap.size+1+1+1) (w.heap.size+1) (w.heap.size+1+1) _ d (λb hb=>y8)
  ⟨by rw[show w.heap.size+1+1+1=(((w.alloc (UF l m p o q u s)).alloc (Zc #[I U 40] 3)).alloc (Zc #[.func (.func 267) #[] #[]] 223)).heap.size by simp];exact k6.new _ 0,
   by simp[go_sem],ke,E,E⟩ E E E E
 unfold clK at f;clear i d;go_in;go_wp2_with fail;refine H f ?_;rintro e w1 ⟨k,r,rfl,a,c⟩;have g:Bw w w1:=hb.trans (k.below E zE);have B:r=tI n t:=by
  cases r with
  | true=>obtain⟨v,z,-⟩:=a D;unfold tI;rw[v,QK E];rfl
  | false=>symm;rw[XL];intro h;simp only[tI,Qc,Qk]at h;exact c D ⟨h.1,E⟩
 clear a c k hb f;go_wp2;go_ret;exact⟨D,g⟩
def Eo {t:K n} (ht:cW S w n t c0 c1 c2) (b:Bd S w) :
  WU WV 245 #[Za #[c0,c1,c2]] w λe c=>e=Zr (Zb (tI n t))/\Bw w c:=by obtain⟨d,f,h,g,i,k,j,rfl,rfl,rfl⟩:=ht.shape;have qp:=(Qg w.heap.size w).alloc E (UF d f h g i k j);have⟨zF,a⟩:=ht.step b qp;have HC:G (WU WV 266 _ _ _):=KW zF a;exact TA
open Go.RowKit Go.WideMaps Go.Maps
def oX(l:List ZB):Nat->DataW Unit
 | 0=>.map []
 | k+1=>(oX l k).put (.string (l.getD k WT).data.toList) (.lit (.int U k))
def mc(S:ZN)(w:Zw)(l:List ZB)(v:Zv):Prop:=
 ∃a,v=.map (Z a)/\S a/\w.ownsMap WV 9 (plainElem WV 3) a (J l) (oX l (J l))
def mc.keep(h:mc S w l v)(j:gw S w w')(i:∀b,S b->S' b):mc S' w' l v:=by obtain⟨c,rfl,d,e,a,f,g⟩:=h;exact⟨c,D,i c d,e,a,by rw[j c d];exact f,g⟩
def kL(S:ZN)(w:Zw):(n:Nat)->K n->Zv->Prop
 | 0,_,_=>False
 | n + 1, t, v => ∃ b c d a, v = Zp (b5 b 0) /\ S b /\ w.heap[b]? = Z (Zc #[I U (Kd.k t), c, d, a] 290 (0, 0)) /\ cR S w (Kd.q t) c /\
   (Kd.k t=5->mc S w (Kd.q t) d)/\fB S w (kL S w n) (Kd.o t) a
def kL.keep(d:gw S w w')(c:∀b,S b->S' b):∀ {n:Nat} {t:K n} {v:Zv},kL S w n t v->kL S' w' n t v:=by
 intro n;induction n with
 | zero=>intro t v h;exact h.elim
 | succ n l=>intro t v h;obtain⟨b,o,p,m,j,e,a,i,hp,g⟩:=h;exact⟨b,o,p,m,j,c b e,by rw[d b e];exact a,i.keep d c,λf=>(hp f).keep d c,g.keep d c λ_ _ _ k=>l k⟩
def kL.ptr{t:K n}(h:kL S w n t v):∃b,v=Zp (b5 b 0)/\S b:=by
 cases n with
 | zero=>exact h.elim
 | succ n=>obtain⟨b,e,f,d,c,a,-⟩:=h;exact⟨b,c,a⟩
def Tryz.skeyed:Keyed WV 9:=string_keyed underlying9
def Dw (L:cR S w l v) (K:Bd S w) :
  WU WV 268 #[v] w λe x=>∃y,e=Zr y/\mc (λb=>w.heap.size<=b/\b<x.heap.size) x l y/\Bw w x:=by
 obtain⟨N,cap,rfl,o,t,r⟩:=L;have M:∀(m:Int)(w:Zw),(Instr.makeMap 287 (Z (I U m))).run WV w=.ok (.map (Z w.heap.size)) (w.alloc (.map #[] 0)):=by intro m w;simp[Instr.makeMap,go_sem]
 unfold WX at o;go_in;go_wp2;go_loopw [11] (λi wr=>∃k:Nat,k<=J l/\i=I U k/\wr.ownsMap WV 9 (plainElem WV 3) w.heap.size k (oX l k)/\Bw w wr) (λi _=>J l-(intOf i).toNat);case atStart=>exact⟨0,E,D,Wz _ _ _ _,eC _ _⟩
 case round=>
  obtain⟨k,O,rfl,a,c⟩:=hrel;by_cases qf:k<J l
  .obtain⟨b,off,rfl,q,f⟩:=r nS;have f0:=kC c (f k qf) (K b q);have p:=t l[k] zS;have z:G (l.getD k WT=l[k]):=by show _=_;simp[Un,qf]
   have j:keyOf WV 9 (Zt l[k])=Z (.string l[k].data.toList):=Wq underlying9 p;have u:(Lit.int U (k:Int)).wf=true:=by
    have e:wrap64 (k:Int)=(k:Int):=by unfold wrap64;omega
    have h:=wrap64_wf (k:Int);rwa [e]at h
   clear r t f p;generalize l[k]=s at *;go_wp2_with (first
    | (at_mapUpdate;refine wpList_mapUpdate_own _ D _ _ _ 287 D 9 3 Tryz.skeyed underlying287 _ w.heap.size k _ D a zL _ _ _ D D j _ [] (plainElem_int underlying3 u) ?_)
    | go_in)
   intro w1 g d;have B:G (w1.ownsMap WV 9 (plainElem WV 3) w.heap.size (k+1) (oX l (k+1))):=by show World.ownsMap _ _ _ _ _ _ _;rw[oX,z.out];exact g
   have C:=c.grown d c.size zS;clear g d a;go_wp2;go_roundw;case rel=>exact⟨k+1,E,ew,B,C⟩
   case measure=>exact eb
  .have n:k=J l:=E;have HF:G (mc (λb=>w.heap.size<=b/\b<wr.heap.size) wr l (.map (Z w.heap.size))):=by rw[n]at a;exact⟨_,D,⟨E,a.lt⟩,a⟩
   clear n r t a;go_wp2;go_ret;exact⟨_,D,HF,c⟩
def Tryz.info_pk:(prog.info? 265).map (λi=>(i.zero,i.size,i.bytes))=Z (Z (Zp Y),1,8):=gZ
structure lp(S:ZN)(M n:Nat)(ks:List (K n))(s:Int)(nv:Zv)(w1:Zw)(k:Nat)(v:Zv)(wr:Zw):Prop where
 below:Below M w1 wr
 box:wr.heap[M]?=Z (Zc #[I U s,nv,.map Y,v] 290 (0,0))
 row:∃xs:List Zv,wr.ownsRow (M+1) 265 1 v k xs/\∀j (h:j<J ks) (hx:j<J xs),kL (λb=>S b∨(M+1<=b/\b<wr.heap.size/\v.ownBlock≠Z b)) wr n ks[j] xs[j]
def lp.lt{a:List (K n)}{s:Int}(h:lp S M n a s nv w1 k v wr):M<wr.heap.size:=(Qe.1 h.box).1
def Lu {q:List (K n)} {s:Int} {w2 w3:Zw} {box:Obj} (h:lp S M n q s nv w1 k v wr) (H:k<J q) (T:∀ b,S b->b<M) (_hM:M<=w1.heap.size)
  (X:∀b:Nat,W.heap[b]?=(wr.alloc box).heap[b]?) (I:W.heap.size=wr.heap.size+1) (m:W.os=wr.os/\W.tape=wr.tape/\W.output=wr.output)
  (l:wr.ownsRow (M+1) 265 1 v k xs) (O:∀j (h:j<J q) (V:j<J xs),kL (λb=>S b∨(M+1<=b/\b<wr.heap.size/\v.ownBlock≠Z b)) wr n q[j] xs[j])
  (d:Bw W w2) (B:kL (λb=>S b∨(W.heap.size<=b/\b<w2.heap.size)) w2 n q[k] kv)
  (f:w3.ownsRow (M+1) 265 1 (A (b5 g 0) (k+1) cap) (k+1) (xs++[kv])) (c:(w2.alloc one).grownBy w3 v.ownBlock) (qy:v.ownBlock=Z g∨g=w2.heap.size+1) :
  lp S M n q s nv w1 (k+1) (A (b5 g 0) (k+1) cap) (w3.setCell ⟨M,3,Y⟩ (A (b5 g 0) (k+1) cap)):=by
 have C:=h.lt;have G:=d.size;have P:=c.size;simp at P;have xp:∀b,v.ownBlock=Z b->M+1<=b/\b<wr.heap.size:=cO l;have N:J xs=k:=by simpa using l.1
 have Q:∀b,b<w2.heap.size->v.ownBlock≠Z b->w3.heap[b]?=w2.heap[b]?:=λb a qh=>by rw[c.block b zE Bb,Qf _ _ _ a]
 have x:∀b,b<wr.heap.size->v.ownBlock≠Z b->w3.heap[b]?=wr.heap[b]?:=λb a L=>by rw[Q b E L,d.block b E,X,Qf _ _ _ a]
 have r:∀b,b≠M->(w3.setCell ⟨M,3,Y⟩ (A (b5 g 0) (k+1) cap)).heap[b]?=w3.heap[b]?:=λb a=>Qr _ _ _ _ a;have qo:(w3.setCell ⟨M,3,Y⟩ (A (b5 g 0) (k+1) cap)).heap.size=w3.heap.size:=zS;have y:v.ownBlock≠Z M:=λe=>by have:=xp M e;omega
 have p:=(x M C y).trans h.box;have i:∀b,v.ownBlock≠Z b->b<w2.heap.size->(Uc (b5 g 0) (k+1) cap).ownBlock≠Z b:=by exact P2
 refine⟨⟨?_,?_,?_,by rw[qo];have:=h.below.size;omega,λb a=>?_⟩,?_,xs++[kv],?_,λj D V=>?_⟩;·show w3.os=w1.os;rw[c.os];exact d.os.trans (m.1.trans h.below.os)
 .show w3.tape=w1.tape;rw[c.tape];exact d.tape.trans (m.2.1.trans h.below.tape)
 .show w3.output=w1.output;rw[c.output];exact d.output.trans (m.2.2.trans h.below.output)
 .rw[r b E,x b E ID];exact h.below.block b a
 .simp[World.setCell,QQ,p]
 .exact cV f λR z=>r R (by have:=cO f R z;omega)
 .by_cases U:j<k
  .have w:j<J xs:=E;rw[QS w];refine (O j D w).keep (λb a=>?_) (λb a=>?_)
   .rcases a with a|⟨t,d,o⟩;·have:=T b a;rw[r b E,x b E ID]
    .rw[r b E,x b d o]
   .rcases a with a|⟨t,d,o⟩;·exact .inl a
    .exact .inr ⟨t,oA,i b o E⟩
  .have u:j=k:=by simp at V;omega
   subst u;have:(xs++[kv])[j]=kv:=by simp[<- N]
   rw[this];refine B.keep (λb a=>?_) (λb a=>?_)
   .rcases a with a|a;·have:=T b a;rw[r b E,Q b E ID]
    .rw[r b E,Q b a.2 ID]
   .rcases a with a|a;·exact .inl a
    .exact .inr ⟨E,oA,i b ID a.2⟩
def JJ{l:List (K n)}(h:l.all (λx=>dj n x d)=true):J l<=cG (λx=>dF n x) l:=by
 induction l with
 | nil=>simp
 | cons x r a=>simp only[ZW,Qc]at h;have b:=D6 n x d h.1;have c:=a h.2;simp only[cG,Qs];omega
def r7(S:ZN)(n:Nat)(t:K n)(w:Zw)(e:Ending)(w':Zw):Prop:=
 Bw w w' /\ ∃v,e=Zr v/\kL (λb=>S b∨(w.heap.size<=b/\b<w'.heap.size)) w' n t v
def wG(n:Nat):Prop:=∀(S:ZN)(t:K n)(c0 c1 c2:Zv)(d:Int)(w:Zw),cW S w n t c0 c1 c2->(Bd S w)->dj n t d=true->dF n t<=40 ->
 WU WV 246 #[Za #[c0,c1,c2]] w (r7 S n t w)
def EQ {t:K (n+1)} {s:Int} {pv:Zv} (q:Kd.k t=s) (e:lp S (w.heap.size+1) n (Kd.o t) s nv w1 (J (Kd.o t)) v wr) (hB:Bd S w) (d:Bw w w1)
  (x:J (Kd.o t)<=WX) (h:w'.heap[w.heap.size+1]?=Z (Zc #[I U s,nv,pv,v] 290 (0,0))) (B:wr.heap.size<=w'.heap.size)
  (j:∀b:Nat,b<wr.heap.size->b≠w.heap.size+1->w'.heap[b]?=wr.heap[b]?) (o:w'.os=wr.os/\w'.tape=wr.tape/\w'.output=wr.output) (z:cR S wr (Kd.q t) nv)
  (hp:s=5->mc (λb=>w.heap.size<=b/\b<w'.heap.size) w' (Kd.q t) pv):r7 S (n+1) t w (Zr (Zp (b5 (w.heap.size+1) 0))) w':=by
 have y:=e.lt;have⟨M,a,p⟩:=e.row;have L:=d.size;refine⟨⟨o.1.trans (e.below.os.trans d.os),o.2.1.trans (e.below.tape.trans d.tape),o.2.2.trans (e.below.output.trans d.output),E,λb hb=>?_⟩,_,D,w.heap.size+1,nv,pv,v,D,.inr ⟨E,E⟩,by rw[q];exact h,?_,λr=>(hp (by rw[<- q];exact r)).keep ik JT,?_⟩;·rw[j b E E,e.below.block b E];exact d.block b hb
 .exact z.keep (λb hb=>j b pf pf) FL
 .have c:=cV (w':=w') a (λg k=>j g (cO a g k).2 (by have:=cO a g k;omega));refine gM c x (λg k=>.inr ?_) (λi u C=>?_);·have:=cO c g k;omega
  .refine (p i u C).keep (λb hb=>?_) (λb hb=>?_)
   .rcases hb with hb|⟨l,f,m⟩;·exact j b pf pf
    .exact j b f E
   .rcases hb with hb|⟨l,f,m⟩;·exact .inl hb
    .exact E
def Lw(n:Nat)(hn:wG n):wG (n+1):=by
 intro S t c0 c1 c2 d w ht hB hg hc;obtain⟨rfl,-,h3,h4⟩:=ht;obtain⟨na,nc,rfl,-,-,-⟩:=id h3;obtain⟨N,O,rfl,j2,-⟩:=id h4;simp only[dj,Qc]at hg;have an:J (Kd.o t)<=40:=by have:=JJ hg.2;simp only[dF]at hc;omega
 have R:G (∀k (h:k<J (Kd.o t)),dj n (Kd.o t)[k] (d+1)=true/\dF n (Kd.o t)[k]<=40):=by intro k h;refine⟨Qo.1 hg.2 _ zS,?_⟩;have:=eK (λx=>dF n x) (Kd.o t) _ (QE h);simp only[dF]at hc;omega
 clear hg hc;unfold WX at j2;generalize hs:Kd.k t=s at *;have HS:G (Kd.k t=s):=hs;clear hs;have B:Bw w ((w.alloc (UF s na (J (Kd.q t)) nc N (J (Kd.o t)) O)).alloc (Zc #[I U s,A na (J (Kd.q t)) nc,.map Y,A Y 0 0] 290)):=
  (eC _ _).alloc zS _
 have ab:=h3.keep (b6 B hB) zI;have ac:=h4.keepK (b6 B hB) zI;have V:((w.alloc (UF s na (J (Kd.q t)) nc N (J (Kd.o t)) O)).alloc (Zc #[I U s,A na (J (Kd.q t)) nc,.map Y,A Y 0 0] 290)).heap[w.heap.size+1]? =
   Z (Zc #[I U s,A na (J (Kd.q t)) nc,.map Y,A Y 0 0] 290 (0,0)):=by
  have:=Qh (w.alloc (UF s na (J (Kd.q t)) nc N (J (Kd.o t)) O)) (Zc #[I U s,A na (J (Kd.q t)) nc,.map Y,A Y 0 0] 290)
  exact iG
 have k0:a7 ((w.alloc (UF s na (J (Kd.q t)) nc N (J (Kd.o t)) O)).alloc (Zc #[I U s,A na (J (Kd.q t)) nc,.map Y,A Y 0 0] 290)) w.heap.size 0=Z (I U s):=ke;have k1:a7 ((w.alloc (UF s na (J (Kd.q t)) nc N (J (Kd.o t)) O)).alloc (Zc #[I U s,A na (J (Kd.q t)) nc,.map Y,A Y 0 0] 290)) w.heap.size 1=Z (A na (J (Kd.q t)) nc):=ke;have aj:((w.alloc (UF s na (J (Kd.q t)) nc N (J (Kd.o t)) O)).alloc (Zc #[I U s,A na (J (Kd.q t)) nc,.map Y,A Y 0 0] 290)).heap.size=w.heap.size+1+1:=zS;obtain⟨_,_,af,-,m⟩:=ac;cases af
 clear h3 h4;go_in;go_wp2_with fail;generalize ((w.alloc (UF s na (J (Kd.q t)) nc N (J (Kd.o t)) O)).alloc (Zc #[I U s,A na (J (Kd.q t)) nc,.map Y,A Y 0 0] 290))=w1 at *;have aa:G (∀b,S b->b<w.heap.size+1):=λb hb=>pf;go_loopw [15] (λi wr=>∃(k:Nat)(v:Zv),k<=J (Kd.o t)/\i=I U k/\lp S (w.heap.size+1) n (Kd.o t) s (A na (J (Kd.q t)) nc) w1 k v wr) (λi _=>J (Kd.o t)-(intOf i).toNat);case atStart=>exact⟨0,A Y 0 0,E,D,Qg _ _,V,[],QV _ _ _ _,zS⟩
 case round=>
  obtain⟨k,v,hk,rfl,K⟩:=hrel;have⟨xs,j,q6⟩:=K.row;obtain⟨P,Q,rfl⟩:=ep j;have hX:=K.lt;have c:=K.below;have ap:=c.size;have HL:=a8 K;have HX:=a8 j;have HK:=a8 q6;have x3:a7 wr (w.heap.size+1) 3=Z (A P k Q):=by simp[WY,K.box]
  have xf:∀o,wr.frozen? ⟨w.heap.size+1,o,Y⟩=false:=λo=>by simp[World.frozen?,K.box]
  have j0:=kC c k0 E;have j1:=kC c k1 E;clear K j q6;by_cases qf:k<J (Kd.o t)
  .obtain⟨b,off,rfl,ad,y⟩:=m nS;have⟨y0,y1,y2,e0,e1,e2,hr⟩:=y k qf;have am:=hB b ad;have f0:=kC c e0 E;have f1:=kC c e1 E;have f2:=kC c e2 E;have q:=hr.keep (b6 c (fP hB)) zI;obtain⟨z0,za,zl,zc,ua,ul,uc,rfl,rfl,rfl⟩:=q.shape;clear m y e0 e1 e2 hr;have qq:=(Qg wr.heap.size wr).alloc E (UF z0 za zl zc ua ul uc);have q5:=q.keep (w':=(wr.alloc (UF z0 za zl zc ua ul uc)).drew) (b6 qq.drew (fP hB)) zI;have ql:G (WU WV 246 _ _ _):=hn S (Kd.o t)[k] _ _ _ (d+1) _ q5 (fP hB) (R k qf).1 (R k qf).2;have⟨i0,X,j3,qa,C⟩:=QY Tryz.info_pk;have z:G (_/\_/\_/\_):=⟨X,j3,qa,C⟩;clear X j3 qa C q q5 qq;go_wp2_with fail;go_region_law (first
    | (refine Xd _ cU (.tmp 23) (.tmp 26) 288 cU (w.heap.size+1+1) 265 i0 _ 1 8 underlying288 z.1 z.2.1 z.2.2.1 z.2.2.2 D zC (A P k Q) k xs cU q9 ⟨r.heap.size,0,Y⟩ 1 1 [Zp (b5 kb 0)] cU D (QB (Qh r _)) iz zC fA E zE (r.heap.size+1) zS ?_;intro g cap w3 j l T ai;have qt:=((l.block (w.heap.size+1) zE JO).trans (Qf _ _ _ E)).trans f;have qc:a7 w3 (w.heap.size+1) 3=Z (A P k Q):=rf;have q8:∀o,w3.frozen? ⟨w.heap.size+1,o,Y⟩=false:=(λo=>rg))
    | (go_simp;go_at_call 246;refine H ql ?_;rintro e r ⟨a,kv,rfl,L⟩;obtain⟨kb,rfl,-⟩:=L.ptr;have ak:wr.heap.size+1<=r.heap.size:=(by have:=a.size;simpa using this);have f:=((a.block (w.heap.size+1) zE).trans (Qf _ _ _ E)).trans HL.box;have q9:=cV (w':=r.alloc (Zc #[Zp (b5 kb 0)] 265)) HX (λg' ae=>by have:=cO HX g' ae;rw[Qf _ _ _ E];exact (a.block g' zE).trans (Qf _ _ _ E));have F:a7 r (w.heap.size+1) 3=Z (A P k Q):=(by simp[WY,f]);have ah:a7 (r.alloc (Zc #[Zp (b5 kb 0)] 265)) (w.heap.size+1) 3=Z (A P k Q):=(Ql (Qf _ _ _ FD)).trans F))
   all_goals
    have HF:G (lp S (w.heap.size+1) n (Kd.o t) s (A na (J (Kd.q t)) nc) w1 (k+1) (A (b5 g 0) (k+1) cap) (w3.setCell ⟨w.heap.size+1,3,Y⟩ (A (b5 g 0) (k+1) cap))):=
     Lu (W:=(wr.alloc (UF z0 za zl zc ua ul uc)).drew) HL qf aa E (λ_=>D) zS ⟨D,D,D⟩ HX HK a L j l T
    clear j l T L a q9 F ah qc q8 qt f
    go_wp2
    go_roundw
    case rel=>exact⟨k+1,_,E,ew,HF⟩
    case measure=>exact eb
  .have q7:k=J (Kd.o t):=E;have u:=ab.keep (b6 c (fP hB)) zI;have p:G (lp S (w.heap.size+1) n (Kd.o t) s (A na (J (Kd.q t)) nc) w1 (J (Kd.o t)) (A P k Q) wr):=by have:=HL.out;rw[q7]at this ⊢;exact this
   clear q7 m HX HK HL;by_cases h5:s=5
   .subst h5;have ql:G (WU WV 268 _ _ _):=Dw u (fP hB);go_wp2_with fail;refine H ql ?_;rintro e r ⟨pv,rfl,M,a⟩;have C:=a.size;obtain⟨mb,rfl,ao,-⟩:=id M;have f:=(a.block (w.heap.size+1) hX).trans p.box;have ar:r.frozen? ⟨w.heap.size+1,2,Y⟩=false:=by simp[World.frozen?,f]
    have aq:a7 r (w.heap.size+1) 2=Z (.map Y):=by simp[WY,f]
    have qs:∀b,b≠w.heap.size+1->(r.setCell ⟨w.heap.size+1,2,Y⟩ (.map (Z mb))).heap[b]?=r.heap[b]?:=λb hb=>Qr _ _ _ _ hb;have HP:G (r7 S (n+1) t w (Zr (Zp (b5 (w.heap.size+1) 0))) (r.setCell ⟨w.heap.size+1,2,Y⟩ (.map (Z mb)))):=by
     refine EQ (pv:=.map (Z mb)) HS p hB B zL ?_ (by simpa using C) (λb hb ag=>?_) ⟨a.os,a.tape,a.output⟩ u (λ_=>M.keep (λb hb=>qs b E) zE);·simp[World.setCell,QQ,f]
     .rw[qs b ag];exact a.block b hb
    clear ql M a f qs p u;exact ow
   .have al:(s==5)=false:=by simpa using h5
    have HP:G (r7 S (n+1) t w (Zr (Zp (b5 (w.heap.size+1) 0))) wr):=
     EQ HS p hB B zL p.box E zS ⟨D,D,D⟩ u E
    clear p u h5;exact ow
def Ox:∀n,wG n:=by
 intro n;induction n with
 | zero=>intro S t c0 c1 c2 d w a;exact a.elim
 | succ n b=>exact Lw n b
def Ne(S:ZN)(n:Nat)(t:K n)(w:Zw)(e:Ending)(w':Zw):Prop:=
 Bw w w' /\ ((tI n t=true/\∃v,e=Zr (Zu #[v,Zb true])/\kL (λb=>S b∨(w.heap.size<=b/\b<w'.heap.size)) w' n t v)∨(tI n t=false/\e=Zr (Zu #[Zp Y,Zb false])))
def AG {t:K n} (o:cW S w n t c0 c1 c2) (B:Bd S w) :
  WU WV 228 #[Za #[c0,c1,c2]] w (Ne S n t w):=by
 obtain⟨q,r,u,s,x,z,y,rfl,rfl,rfl⟩:=o.shape;have d:=(Qg w.heap.size w).alloc E (UF q r u s x z y);have l:=lP.new w (I U q) (A r u s) (A x z y) 177;have⟨g,c⟩:=o.step B d;clear o;go_in;go_wp2_with fail;refine H (Eo g c) ?_;rintro e w1 ⟨rfl,b⟩;have a:=b9 d zS b;have⟨k,i⟩:=g.step c b;have⟨N,O,P⟩:=l.keep b;have C:=a.size;clear d b l g c;cases hok:tI n t with
 | false=>have HP:G (Ne S n t w (Zr (Zu #[Zp Y,Zb false])) w1):=⟨a,zE⟩;clear hok;exact z7
 | true=>
  have m:G (tI n t=true):=hok;simp only[tI,Qc,Qk]at hok;have p:G (WU WV 246 _ _ _):=Ox n S t _ _ _ 1 w1 k i hok.1 hok.2;clear hok k i;go_wp2_with fail;refine H p ?_;rintro e M ⟨j,v,rfl,f⟩;obtain⟨L,rfl,-⟩:=id f.ptr;have HP:G (Ne S n t w (Zr (Zu #[Zp (b5 L 0),Zb true])) M):=
   ⟨b9 a a.size j,.inl ⟨m,_,D,f.keep ik IF⟩⟩
  clear j f p;exact z7
structure iK(B:Nat)(w0 w:Zw)(v:Zv)(l:List UInt8):Prop where
 own:w.ownsRow B 5 1 v (J l) (Lib.byteCells l)
 below:Below B w0 w
 le:B<=w.heap.size
 kept:Lib.OthersKept 5 Y w0 w
def iK.nil(h:B<=w.heap.size):iK B w w (A Y 0 0) []:=⟨QV _ _ _ _,Qg _ _,h,Zm _ _ _⟩
def iK.from{v0:Zv}{l b:List UInt8}(h:iK B w1 w v l)(a:iK B w0 w1 v0 b):iK B w0 w v l:=⟨h.own,a.below.trans h.below,h.le,a.kept.trans h.kept⟩
def iK.here{l:List UInt8}(h:iK B w0 w v l):iK B w w v l:=⟨h.own,Qg _ _,h.le,Zm _ _ _⟩
def iK.alloc{l:List UInt8}(h:iK B w0 w v l)(o:Obj):iK B w0 (w.alloc o) v l:=⟨h.own.alloc o,h.below.alloc h.le o,by have:=h.le;simp;omega,h.kept.alloc o⟩
def iK.grown{v':Zv}{l l':List UInt8}(h:iK B w0 w v l)(p:w'.ownsRow B 5 1 v' (J l') (Lib.byteCells l'))(b:w.grownBy w' v.ownBlock):iK B w0 w' v' l':=
 ⟨p,h.below.grown b h.le (λk n=>(h.own.lt k n).1),Q1 h.le b.size,h.kept.grown b (λg a=>by
  rcases h.own.2 with ⟨rfl,q⟩|⟨f,cap,e,rfl,i,c,o,j,m,d⟩
  .cases a
  .have:f=g:=by simpa [Value.ownBlock] using a
   subst this
   exact⟨_,_,c⟩)⟩
def iK.shape{l:List UInt8}(h:iK B w0 w v l):∃a N c,v=A a N c:=by
 rcases h.own.2 with ⟨rfl,k⟩|⟨g,cap,d,rfl,e,m,j,f,i,b⟩;·exact zS
 .exact⟨_,_,_,D⟩
def Tryz.info_byte:(prog.info? 5).map (λi=>(i.zero,i.size,i.bytes))=Z (Z (I .u8 0),1,1):=gZ
def dP {o:Oper} (k:o.guard=Y) (s x:Operand)
  (K:o.op=.call { callee:=.builtin .append,args:=#[s,x],argTypes:=#[130,130] })
  (B:Nat) (v:Zv) (l:List UInt8) (L:a.eval s=v) (r w0:Zw) (c:Int) (d:UInt8) (i:c=(d.toNat:Int)) (y:iK B r w0 v l)
  (M:a.eval x=A (b5 w0.heap.size 0) 1 1) (t:J l<=1000000)
  (h:∀f g,iK B r g f (l++[d])->wpList WV ops Q rest (a.put o.dst f) g):wpList WV ops Q (o :: rest) a (w0.alloc (Zc #[I .u8 c] 5)):=by
 subst i;have b:=y.alloc (Zc #[I .u8 (d.toNat:Int)] 5);have⟨N,C,n,p,q⟩:=QY Tryz.info_byte;refine WD _ k s x 130 K B 5 N (I .u8 0) 1 1 underlying130 C n p q D zC v _ _ L b.own ⟨w0.heap.size,0,Y⟩ 1 1 [I .u8 (d.toNat:Int)] M D ?_ ?_ zL E b.le ?_
 .intro j u e;match j,e with
  | 0,e=>simp at e;subst e;simp[Addr.add]
  | (j+1),e=>simp at e
 .intro u w;simp at w;subst w;rfl
 .intro f g m z _;refine h f g (b.grown ?_ z);simpa [Lib.byteCells] using m
def fY {o:Oper} (f:o.guard=Y) (sl x:Operand) (u:W9)
  (r:o.op=.call { callee:=.builtin .append,args:=#[sl,x],argTypes:=#[130,u] }) (y:prog.underlying u=Z .string)
  (B:Nat) (v:Zv) (l:List UInt8) (t:a.eval sl=v) (m:Zw) (d:iK B m w v l) (s:ZB) (z:a.eval x=Zt s) (n:J l+s.size<=1000000)
  (h:∀b c,iK B m c b (l++s.data.toList)->wpList WV ops Q rest (a.put o.dst b) c):wpList WV ops Q (o :: rest) a w:=by have⟨C,q,i,j,k⟩:=QY Tryz.info_byte;refine Lib.wpList_append_own_string w f sl x 130 u r B 5 C underlying130 y q i j k v _ _ t d.own s z zL E d.le ?_;intro b c g p _;refine h b c (d.grown ?_ p);have e:J (l++s.data.toList)=J l+s.size:=zS;rw[e,Lib.byteCells_append,<- Lib.strCells_eq];exact g
def rn{l:List UInt8}(a:iK B w0 w v l)(e:l≠[]):(convert 130 9 v).run WV w=.ok (Zt (bs l)) w:=by
 rcases a.own.2 with ⟨rfl,c⟩|⟨g,cap,b,rfl,-,-,-,-,-,-⟩;·exact absurd (Qj c) e
 .exact Zx (P:=WV) w 130 9 5 ⟨g,0,Y⟩ cap l underlying130 underlying5 underlying9 (λj d=>a.own.cells (g:=g) D j _ (by simp[Lib.byteCells,d]))
def iK.drew{l:List UInt8}(h:iK B w0 w v l):iK B w0 w.drew v l:=⟨h.own.drew,h.below.drew,h.le,h.kept.drew⟩
def A5 {o:Oper} {K:Act->Zw->Prop} {Ezq:Prop} (i:o.guard=Y) (s x:Operand)
  (C:o.op=.call { callee:=.builtin .append,args:=#[s,x],argTypes:=#[130,130] })
  (B:Nat) (v:Zv) (l:List UInt8) (L:a.eval s=v) (q:Zw) (d:UInt8) (g:iK B q w v l) (N:Nat)
  (O:a.eval x=A (b5 N 0) 1 1) (b:a7 w N 0=Z (I .u8 (d.toNat:Int))) (r:J l<=1000000)
  (h:∀e f,iK B q f e (l++[d])->K (a.put o.dst e) f):if Uk o (yielded ops a.tmps)=true then Oper.wp WV o a w K Q else Ezq:=by
 have M:Uk o (yielded ops a.tmps)=true:=by simp[Uk,i]
 rw[Qm M];have⟨P,z,m,n,p⟩:=QY Tryz.info_byte;refine wp_append_own w s x 130 C B 5 P (I .u8 0) 1 1 underlying130 z m n p D zC v _ _ L g.own ⟨N,0,Y⟩ 1 1 [I .u8 (d.toNat:Int)] O D ?_ ?_ zL E g.le ?_
 .intro j u c;match j,c with
  | 0,c=>simp at c;subst c;exact b
  | (j+1),c=>simp at c
 .intro u t;simp at t;subst t;rfl
 .intro e f k y _;refine h e f (g.grown ?_ y);simpa [Lib.byteCells] using k
abbrev Q5(w:Zw)(b o:Nat)(y0 y1:Int)(y2:ZB)(ya:ZA)(yl yc:Nat)(za:ZA)(zl zc:Nat):Prop:=
 a7 w b o=Z (I U y0)/\a7 w b (o+1)=Z (I U y1)/\a7 w b (o+2)=Z (Zt y2)/\a7 w b (o+3)=Z (A ya yl yc)/\a7 w b (o+4)=Z (A za zl zc)
abbrev N5(w:Zw)(b:Nat)(y0 y1:Int)(y2:ZB)(ya:ZA)(yl yc:Nat)(za:ZA)(zl zc:Nat):Prop:=
 a7 w b 0=Z (I U y0)/\a7 w b 1=Z (I U y1)/\a7 w b 2=Z (Zt y2)/\a7 w b 3=Z (A ya yl yc)/\a7 w b 4=Z (A za zl zc)
def tk {P:Program} {S:Zw->Prop} (i:Nat) (h:Uv P md ops Q S fuel (listed.setIfInBounds i true) (a.put oi.dst v) w)
  (g:ops[i]?=Z oi:=by rfl) (k:Region.noSelect ops=true:=by kernel_rfl) (f:Region.free md ops listed i=true:=by kernel_rfl) (j:(Region.ready md ops listed).contains i=true:=by kernel_rfl) (l:Region.wanted oi (yielded ops a.tmps)=true:=by kernel_rfl) (e:S w:=by assumption)
  (m:∀b,S b->Sem.run P (execOp a.eval oi) b=.ok (.value v) b:=by (intro wq hSw;(try dsimp only at hSw);go_simp;first|done|with_reducible rfl)) (d:∀c a w,Q (.panic c) (a.put oi.dst v) w->Q (.panic c) a w:=by exact λ_ _ _ h=>h) :
  Uv P md ops Q S (fuel+1) listed a w:=wpAnyH_take g k f j d (.inl ⟨l,m⟩) e h
def ic {P:Program} {S:Zw->Prop} (i:Nat) {o:Oper}
  (h:∀b:Act->Zw->Prop,Shut (∀a w,S w->(S w->Uv P md ops Q S fuel (listed.setIfInBounds i true) a w)->b a w)->if Uk o (yielded ops a.tmps)=true then Oper.wp P o a w b Q else b (a.put o.dst Ui) w)
  (c:ops[i]?=Z o:=by rfl) (d:Region.ready md ops listed=[i]:=by kernel_rfl):wpAnyH P md ops Q S (fuel+1) listed a w:=XG d (by simp) (QO c h Xy)
def ts {P:Program} {S:Zw->Prop} (i:Nat) (h:Uv P md ops Q S fuel (listed.setIfInBounds i true) (a.put oi.dst Ui) w)
  (f:ops[i]?=Z oi:=by rfl) (j:Region.noSelect ops=true:=by kernel_rfl) (e:Region.free md ops listed i=true:=by kernel_rfl) (g:(Region.ready md ops listed).contains i=true:=by kernel_rfl) (k:Region.wanted oi (yielded ops a.tmps)=false:=by kernel_rfl) (d:S w:=by assumption) (b:∀c a w,Q (.panic c) (a.put oi.dst undef) w->Q (.panic c) a w:=by exact λ_ _ _ h=>h) :
  Uv P md ops Q S (fuel+1) listed a w:=wpAnyH_take f j e g b (.inr ⟨k,D⟩) d h
abbrev Tq(P:Program)(md:Region.Mode)(ops:Array Oper)(Q:Exit->Act->Zw->Prop)(S:Zw->Prop)(listed:Array Bool)(a:Act)(i:Nat)(o:Oper)(v:Zv):Prop:=
 ops[i]?=Z o/\Region.free md ops listed i=true/\(Ut md ops listed).contains i=true/\Uk o (yielded ops a.tmps)=true/\(∀w',S w'->Sem.run P (execOp a.eval o) w'=.ok (.value v) w')/\∀c a w,Q (.panic c) (a.put o.dst v) w->Q (.panic c) a w
def zT {P:Program} {S:Zw->Prop} {o:Oper} 
  (f:ops[i]?=Z o:=by rfl) (e:Region.free md ops listed i=true:=by kernel_rfl) (g:(Region.ready md ops listed).contains i=true:=by kernel_rfl) (j:Region.wanted o (yielded ops a.tmps)=true:=by kernel_rfl)
  (k:∀b,S b->Sem.run P (execOp a.eval o) b=.ok (.value v) b:=by (intro wq hSw;(try dsimp only at hSw);go_simp;first|done|with_reducible rfl)) (d:∀c a w,Q (.panic c) (a.put o.dst v) w->Q (.panic c) a w:=by exact λ_ _ _ h=>h):Tq P md ops Q S listed a i o v:=⟨f,e,g,j,k,d⟩
section
variable {P:Program} {md:Region.Mode} {ops:Array Oper} {Q:Exit->Act->Zw->Prop} {S:Zw->Prop} {fuel:Nat} {l:Array Bool} {a:Act} {w:Zw} (i:Nat) {o0 o1 o2 o3:Oper} {v0 v1 v2 v3:Zv}
def tj(h:Uv P md ops Q S fuel (l.setIfInBounds i true) (a.put o0.dst v0) w)(b:S w)(d:Uw ops=true)(c:Tq P md ops Q S l a i o0 v0):Uv P md ops Q S (fuel+1) l a w:=wpAnyH_take c.1 d c.2.1 c.2.2.1 c.2.2.2.2.2 (.inl ⟨c.2.2.2.1,c.2.2.2.2.1⟩) b h
def t2 (j:Nat) (h:wpAnyH P md ops Q S fuel ((l.setIfInBounds i true).setIfInBounds j true) ((a.put o0.dst v0).put o1.dst v1) w) (b:S w:=by assumption) (c:Region.noSelect ops=true:=by kernel_rfl)
  (c0:Tq P md ops Q S l a i o0 v0:=by exact zT) (c1:Tq P md ops Q S (l.setIfInBounds i true) (a.put o0.dst v0) j o1 v1:=by exact zT):wpAnyH P md ops Q S (fuel+2) l a w:=tj i (tj j h b c c1) b c c0
def t4 (j k m:Nat) (h:wpAnyH P md ops Q S fuel ((((l.setIfInBounds i true).setIfInBounds j true).setIfInBounds k true).setIfInBounds m true) ((((a.put o0.dst v0).put o1.dst v1).put o2.dst v2).put o3.dst v3) w) (b:S w:=by assumption) (c:Region.noSelect ops=true:=by kernel_rfl)
  (c0:Tq P md ops Q S l a i o0 v0:=by exact zT) (c1:Tq P md ops Q S (l.setIfInBounds i true) (a.put o0.dst v0) j o1 v1:=by exact zT) (c2:Tq P md ops Q S ((l.setIfInBounds i true).setIfInBounds j true) ((a.put o0.dst v0).put o1.dst v1) k o2 v2:=by exact zT) (c3:Tq P md ops Q S (((l.setIfInBounds i true).setIfInBounds j true).setIfInBounds k true) (((a.put o0.dst v0).put o1.dst v1).put o2.dst v2) m o3 v3:=by exact zT):wpAnyH P md ops Q S (fuel+4) l a w:=t2 i j (t2 k m h b c c2 c3) b c c0 c1
end
def qk {P:Program} {S:Zw->Prop} {c:Act} (i:Nat) {o:Oper} (d:S w')
  (h:S w'->wpAnyH P md ops Q S fuel (listed.setIfInBounds i true) c w') (f:ops[i]?=Z o:=by rfl) (g:Region.ready md ops listed=[i]:=by kernel_rfl)
  (e:∀b:Act->Zw->Prop,b c w'->if Region.wanted o (yielded ops a.tmps)=true then Oper.wp P o a w b Q else b (a.put o.dst undef) w:=by (intro K hK;go_simp;exact hK)):wpAnyH P md ops Q S (fuel+1) listed a w:=
 ic i (λK hK=>e K (hK.out _ _ d h)) f g
def gQ(v:Zv):Prop:=∃(a:ZA)(n c:Nat),v=A a n c/\n<=c
def b8(S:ZN)(w:Zw):(n:Nat)->T n->Zv->Zv->Zv->Zv->Zv->Prop
 | 0,_,_,_,_,_,_=>False
 | n + 1, t, c0, c1, c2, c3, c4 => c0 = I U (F.k t) /\ c1 = I U (F.n t) /\ c2 = Zt (F.a t) /\ (F.a t).size <= WX /\
   (Lit.int U (F.k t)).wf=true/\(Lit.int U (F.n t)).wf=true/\cR S w (F.q t) c3/\dn S w (b8 S w n) (F.o t) c4/\gQ c3/\gQ c4
def b8.keep(e:gw S w w')(d:∀b,S b->S' b):∀ {n:Nat} {t:T n} {c0 c1 c2 c3 c4:Zv},b8 S w n t c0 c1 c2 c3 c4->b8 S' w' n t c0 c1 c2 c3 c4:=by
 intro n;induction n with
 | zero=>intro t c0 c1 c2 c3 c4 h;exact h.elim
 | succ n q=>intro t c0 c1 c2 c3 c4 h;obtain⟨f,g,i,o,a,c,j,k,l,m⟩:=h;exact⟨f,g,i,o,a,c,j.keep e d,k.keep e d λx _ _ _ _ _ _ p=>q p,l,m⟩
def b8.tree:∀ {n:Nat} {t:T n} {c0 c1 c2 c3 c4:Zv},b8 S w n t c0 c1 c2 c3 c4->cT S w n t c0 c1 c2 c3 c4:=by
 intro n;induction n with
 | zero=>intro t c0 c1 c2 c3 c4 h;exact h.elim
 | succ n k=>intro t c0 c1 c2 c3 c4 h;obtain⟨c,d,e,i,a,b,f,g,-,-⟩:=h;exact⟨c,d,e,i,a,b,f,g.keep ik zI λx _ _ _ _ _ _ j=>k j⟩
def b8.shape {t:T n} (h:b8 S w n t c0 c1 c2 c3 c4) :
  ∃(s m:Int)(x:ZB)(a:ZA)(l c:Nat)(b:ZA)(e d:Nat),c0=I U s/\c1=I U m/\c2=Zt x/\c3=A a l c/\c4=A b e d:=h.tree.shape
def dn.keepN{l:List (T n)}(h:dn S w (b8 S w n) l v)(c:gw S w w')(a:∀b,S b->S' b):dn S' w' (b8 S' w' n) l v:=
 h.keep c a λ_ _ _ _ _ _ _ d=>d.keep c a
def b8.step {t:T n} (h:b8 S w n t c0 c1 c2 c3 c4) (c:Bd S w) (d:Bw w w') :
  b8 S w' n t c0 c1 c2 c3 c4/\Bd S w':=
 ⟨h.keep (b6 d c) zI,λb a=>Qn (c b a) d.size⟩
def mX(x:Int)(w:Zw):WU WV 197 #[I U x] w λe a=>e=Zr (Zb (decide (-999999999<=x/\x<=999999999)))/\a=w:=by
 by_cases h : -999999999<=x<;>by_cases b:x<=999999999;all_goals
  go_in
  go_wp2
  go_ret
  exact zE
def yd(w:Zw)(j:s.size<=WX):WU WV 198 #[Zt s] w λe l=>e=Zr (Zb (eW s))/\l=w:=by
 unfold WX at j;by_cases f:s.size<=60
 .go_in;go_wp2;go_loop [9] (λi=>∃k:Nat,k<=s.size/\i=I U k/\(s.data.toList.take k).all kR=true) (λi=>s.size-(intOf i).toNat);case atStart=>exact⟨0,E,D,zS⟩
  case round=>
   obtain⟨k,o,rfl,a⟩:=hrel;have c:=a8 a;clear a;by_cases b:k<s.size
   .cases hb:kR s[k] with
    | true=>
     have g:G (kR s[k]=true):=hb;unfold kR at hb;rw[Qk]at hb;obtain⟨m,n,d⟩:=hb;have h:((s[k].toNat:Int)==34)=false:=by simpa using d
     clear d;go_wp2;go_round;case rel=>exact⟨k+1,E,by go_num,pU b c g⟩
     case measure=>exact eb
    | false=>
     have HF:G (eW s=false):=by show _=_;rw[eW,lS b hb];simp
     unfold kR at hb;rw[XD]at hb;go_wp2;all_goals first
      | (go_ret;exact⟨cY HF.symm,D⟩)
      | (exfalso;apply hb;simp_all)
   .have HF:G (eW s=true):=by show _=_;rw[eW,lT E c.out];simp[f]
    go_wp2;go_ret;exact⟨cY HF.symm,D⟩
 .go_in;go_wp2;go_ret;exact⟨cY (by simp[eW,f]),D⟩
