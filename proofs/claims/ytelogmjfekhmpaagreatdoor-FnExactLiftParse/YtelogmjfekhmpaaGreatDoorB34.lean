import Derived.Test.YtelogmjfekhmpaaGreatDoorB1
import Derived.Lib.AppendStr
import Derived.Lib.Hide
import Derived.Lib.OthersKept
import Derived.Laws.IdiomStrings
import Derived.Test.YtelogmjfekhmpaaGreatDoorB6
import Derived.Test.YtelogmjfekhmpaaGreatDoorShelf
import Derived.Lib.AppendIntMem
import Derived.Test.YtelogmjfekhmpaaGreatDoorB10
import Derived.Test.YtelogmjfekhmpaaGreatDoorB5
import Derived.Deep.RegionLaw
import Derived.Test.YtelogmjfekhmpaaGreatDoorB24
import Derived.Deep.Cut
import Derived.Deep.CutRange
namespace Go.Proofs.YtelogmjfekhmpaaGreatDoor
open Go.RowKit Go.Proofs.Tryz
structure Buf(B:Nat)(w0 w:World)(v:Value)(l:List UInt8):Prop where
 own:w.ownsRow B 5 1 v l.length (Lib.byteCells l)
 below:Below B w0 w
 le:B<=w.heap.size
 kept:Lib.OthersKept 5 none w0 w
theorem Buf.nil{B:Nat}{w:World}(h:B<=w.heap.size):Buf B w w (.slice none 0 0) []:=⟨World.ownsRow_nil _ _ _ _,Below.refl _ _,h,Lib.OthersKept.refl _ _ _⟩
theorem Buf.from{B:Nat}{w0 w1 w:World}{v v0:Value}{l l0:List UInt8}(h:Buf B w1 w v l)(hb:Buf B w0 w1 v0 l0):Buf B w0 w v l:=⟨h.own,hb.below.trans h.below,h.le,hb.kept.trans h.kept⟩
theorem Buf.here{B:Nat}{w0 w:World}{v:Value}{l:List UInt8}(h:Buf B w0 w v l):Buf B w w v l:=⟨h.own,Below.refl _ _,h.le,Lib.OthersKept.refl _ _ _⟩
theorem Buf.alloc{B:Nat}{w0 w:World}{v:Value}{l:List UInt8}(h:Buf B w0 w v l)(o:Obj):Buf B w0 (w.alloc o) v l:=⟨h.own.alloc o,h.below.alloc h.le o,by have:=h.le;simp;omega,h.kept.alloc o⟩
theorem Buf.grown{B:Nat}{w0 w w':World}{v v':Value}{l l':List UInt8}(h:Buf B w0 w v l)(ho:w'.ownsRow B 5 1 v' l'.length (Lib.byteCells l'))(hg:w.grownBy w' v.ownBlock):Buf B w0 w' v' l':=
 ⟨ho,h.below.grown hg h.le (fun k hk=>(h.own.lt k hk).1),Nat.le_trans h.le hg.size,h.kept.grown hg (fun g hg'=>by
  rcases h.own.2 with ⟨rfl,h0⟩|⟨g',cap,cur,rfl,hbg,hgg,hnc,hcm,hcs,htake⟩
  ·cases hg'
  ·have:g'=g:=by simpa [Value.ownBlock] using hg'
   subst this
   exact⟨_,_,hgg⟩)⟩
theorem Buf.shape{B:Nat}{w0 w:World}{v:Value}{l:List UInt8}(h:Buf B w0 w v l):∃a N c,v=.slice a N c:=by
 rcases h.own.2 with ⟨rfl,k⟩|⟨g,cap,d,rfl,e,m,f,i,j,b⟩
 ·exact⟨_,_,_,rfl⟩
 ·exact⟨_,_,_,rfl⟩
theorem Tryz.info_byte:(prog.info? 5).map (fun i=>(i.zero,i.size,i.bytes))=some (some (.int .u8 0),1,1):=by kernel_rfl
theorem qaV {ops:Array Oper} {rest:List Oper} {o:Oper} {a:Act} {Q:Exit->Act->World->Prop} (hgd:o.guard=none) (s x:Operand)
  (ho:o.op=.call { callee:=.builtin .append,args:=#[s,x],argTypes:=#[90,90] })
  (B:Nat) (v:Value) (l:List UInt8) (hs:a.eval s=v) (W0 w0:World) (c:Int) (d:UInt8) (hcd:c=(d.toNat:Int)) (hb:Buf B W0 w0 v l)
  (hx:a.eval x=.slice (some ⟨w0.heap.size,0,none⟩) 1 1) (hlen:l.length<=1000000)
  (h:∀v' w',Buf B W0 w' v' (l++[d])->wpList prog ops Q rest (a.put o.dst v') w'):wpList prog ops Q (o :: rest) a (w0.alloc (.cells #[.int .u8 c] 5)):=by
 subst hcd
 have b:=hb.alloc (.cells #[.int .u8 (d.toNat:Int)] 5)
 obtain⟨i0,n,f,g,i⟩:=info_parts Tryz.info_byte
 refine wpList_append_own _ hgd s x 90 ho B 5 i0 (.int .u8 0) 1 1 underlying90 n f g i rfl (by decide) v _ _ hs b.own ⟨w0.heap.size,0,none⟩ 1 1 [.int .u8 (d.toNat:Int)] hx rfl ?_ ?_ (by unfold maxLen;omega) (by omega) b.le ?_
 ·intro j u e
  match j,e with
  | 0,e=>simp at e;subst e;simp[Addr.add]
  | (j+1),e=>simp at e
 ·intro u m;simp at m;subst m;rfl
 ·intro v' w' k p _
  refine h v' w' (b.grown ?_ p)
  simpa [Lib.byteCells] using k
theorem qcG {ops:Array Oper} {rest:List Oper} {o:Oper} {a:Act} {Q:Exit->Act->World->Prop} {w:World} (hgd:o.guard=none) (sl x:Operand) (u:TypeId)
  (ho:o.op=.call { callee:=.builtin .append,args:=#[sl,x],argTypes:=#[90,u] }) (hu:prog.underlying u=some .string)
  (B:Nat) (v:Value) (l:List UInt8) (hs:a.eval sl=v) (W0:World) (hb:Buf B W0 w v l) (s:ByteArray) (hx:a.eval x=.string s) (hlen:l.length+s.size<=1000000)
  (h:∀v' w',Buf B W0 w' v' (l++s.data.toList)->wpList prog ops Q rest (a.put o.dst v') w'):wpList prog ops Q (o :: rest) a w:=by
 obtain⟨i0,g,b,c,d⟩:=info_parts Tryz.info_byte
 refine Lib.wpList_append_own_string w hgd sl x 90 u ho B 5 i0 underlying90 hu g b c d v _ _ hs hb.own s hx (by unfold maxLen;omega) (by omega) hb.le ?_
 intro v' w' f i _
 refine h v' w' (hb.grown ?_ i)
 have e:(l++s.data.toList).length=l.length+s.size:=by simp
 rw[e,Lib.byteCells_append,<- Lib.strCells_eq]
 exact f
theorem qoY(B:Nat)(w0 w:World)(v:Value)(l:List UInt8)(hb:Buf B w0 w v l)(hl:l≠[]):(convert 90 9 v).run prog w=.ok (.string (bs l)) w:=by
 rcases hb.own.2 with ⟨rfl,b⟩|⟨g,cap,c,rfl,-,-,-,-,-,-⟩
 ·exact absurd (List.eq_nil_of_length_eq_zero b) hl
 ·exact run_convert_bytes_back (P:=prog) w 90 9 5 ⟨g,0,none⟩ cap l underlying90 underlying5 underlying9 (fun j hj=>hb.own.cells (g:=g) rfl j _ (by simp[Lib.byteCells,hj]))
theorem Buf.drew{B:Nat}{w0 w:World}{v:Value}{l:List UInt8}(h:Buf B w0 w v l):Buf B w0 w.drew v l:=⟨h.own.drew,h.below.drew,h.le,h.kept.drew⟩
theorem qqP {ops:Array Oper} {o:Oper} {a:Act} {K:Act->World->Prop} {Q:Exit->Act->World->Prop} {E:Prop} {w:World} (hgd:o.guard=none) (s x:Operand)
  (ho:o.op=.call { callee:=.builtin .append,args:=#[s,x],argTypes:=#[90,90] })
  (B:Nat) (v:Value) (l:List UInt8) (hs:a.eval s=v) (W0:World) (d:UInt8) (hb:Buf B W0 w v l) (N:Nat)
  (hx:a.eval x=.slice (some ⟨N,0,none⟩) 1 1) (hcell:w.cell? ⟨N,0,none⟩=some (.int .u8 (d.toNat:Int))) (hlen:l.length<=1000000)
  (h:∀v' w',Buf B W0 w' v' (l++[d])->K (a.put o.dst v') w'):if Region.wanted o (yielded ops a.tmps)=true then Oper.wp prog o a w K Q else E:=by
 have m:Region.wanted o (yielded ops a.tmps)=true:=by simp[Region.wanted,hgd]
 rw[if_pos m]
 obtain⟨i0,n,e,f,g⟩:=info_parts Tryz.info_byte
 refine wp_append_own w s x 90 ho B 5 i0 (.int .u8 0) 1 1 underlying90 n e f g rfl (by decide) v _ _ hs hb.own ⟨N,0,none⟩ 1 1 [.int .u8 (d.toNat:Int)] hx rfl ?_ ?_ (by unfold maxLen;omega) (by omega) hb.le ?_
 ·intro j u b
  match j,b with
  | 0,b=>simp at b;subst b;exact hcell
  | (j+1),b=>simp at b
 ·intro u k;simp at k;subst k;rfl
 ·intro v' w' i p _
  refine h v' w' (hb.grown ?_ p)
  simpa [Lib.byteCells] using i
theorem xjP (B:Nat) (w0 w:World) (v:Value) (l:List UInt8) (i:Int) (h0 : -9223372036854775808<=i) (h1:i<=9223372036854775807) (hb:Buf B w0 w v l) (hlen:l.length<=1000000)
  (htab:Lib.TabBelow prog B w "internal/strconv.uint64pow10" .u64 Lib.pow10Tab) :
  Calls prog 148 #[v,.int .i64 i,.int .i64 10] w fun e w'=>∃v',e=.returned v' /\ Buf B w0 w' v' (l++Lib.itoa i):=by
 refine (Tryz.strconv_AppendInt_10 B l.length i h0 h1 v (Lib.byteCells l) w hb.own hb.le (by omega) htab).mono ?_
 rintro e w' ⟨v',rfl,c,a,b⟩
 refine⟨v',rfl,?_,hb.below.trans a,Nat.le_trans hb.le a.size,hb.kept.trans b⟩
 rw[List.length_append,Lib.byteCells_append]
 exact c
set_option maxRecDepth 100000
set_option maxHeartbeats 16000000
def Tens (B:Nat) (w:World):Prop:=Lib.TabBelow prog B w "internal/strconv.uint64pow10" .u64 Lib.pow10Tab
def qkE(n:Nat):Prop:=∀(B:Nat)(w0 w:World)(v:Value)(l:List UInt8)(t:T n)(iv:Value)(d:Int),Buf B w0 w v l->InnerT (fun b=>b<B) w n t iv->goodT n t d=true->cntT n t<=120->l.length+(txtL n t).length<=20000->Tens B w ->
 Calls prog 118 #[v,iv] w fun e w'=>∃v',e=.returned v' /\ Buf B w0 w' v' (l++txtL n t)
theorem Tens.on{B:Nat}{w w':World}(h:Tens B w)(hb:Below B w w'):Tens B w':=Lib.TabBelow.on h hb
theorem qcX{B:Nat}{w0 w:World}{v:Value}{l l':List UInt8}(h:Buf B w0 w v l)(e:l=l'):Buf B w0 w v l':=e ▸ h
theorem qnS (n:Nat) (hn:qkE n) (B:Nat) (w0 w:World) (v:Value) (l:List UInt8) (ks:List (T n)) (kv:Value) (d:Int) (hb:Buf B w0 w v l) (hr:Row1 (fun b=>b<B) w (InnerT (fun b=>b<B) w n) ks kv)
  (hg:ks.all (fun x=>goodT n x d)=true) (hc:1+sumL (fun x=>cntT n x) ks<=120) (hl:l.length+(joinL (ks.map (txtL n))).length+2<=20000) (hT:Tens B w) :
  Calls prog 150 #[v,kv] w fun e w'=>∃v',e=.returned v' /\ Buf B w0 w' v' (l++(91 :: joinL (ks.map (txtL n))++[93])):=by
 obtain⟨ao,cap,rfl,H,j⟩:=hr
 unfold maxLen at H
 obtain⟨U,V,X,rfl⟩:=hb.shape
 have Z:Hid (∀k (h:k<ks.length),goodT n ks[k] d=true/\cntT n ks[k]<=120):=fun k h=>by
  refine⟨List.all_eq_true.1 hg _ (List.getElem_mem h),?_⟩
  have:=qcA (fun x=>cntT n x) ks _ (List.getElem_mem h)
  omega
 have t:Hid (∀k,(joinL ((ks.map (txtL n)).take k)).length<=(joinL (ks.map (txtL n))).length):=fun k=>qdA _ k
 have O:Hid (Buf B w0 w (.slice U V X) l):=hb
 clear hg
 go_enter func150,ntmps150
 go_wp2_with (at_builtin;refine qaV rfl (.tmp 7) (.tmp 8) rfl B (.slice U V X) l rfl w w 91 91 rfl hb.here rfl (by omega) ?_;intro v1 w1 I;obtain⟨aC,aD,aE,rfl⟩:=I.shape;refine Hid.out ?_)
 refine Lib.hid ?_
 go_wp2_with fail
 go_loopw [0,12] (fun a i wr=>∃k:Nat,k<=ks.length/\i=.int .i64 k/\Buf B w wr a (l++[91]++joinL ((ks.map (txtL n)).take k))) (fun _ i _=>ks.length-(intOf i).toNat)
 case atStart=>exact⟨0,Nat.zero_le _,rfl,qcX I (by simp[joinL])⟩
 case round=>
  obtain⟨k,hk,rfl,q⟩:=hrel
  obtain⟨u,y,z,rfl⟩:=q.shape
  have aA:=t.out k
  by_cases hlt:k<ks.length
  ·obtain⟨b,R,rfl,S,J⟩:=j (by intro h;rw[h]at hlt;simp at hlt)
   obtain⟨c,Y,A⟩:=J k hlt
   obtain⟨ku,kx,rfl⟩:=A.iface
   have P:=(q.below.cell (p:=⟨b,R+k,none⟩) S).trans Y
   have r:=Z.out k hlt
   have D:k<(ks.map (txtL n)).length:=by simpa using hlt
   have N:Hid (joinL ((ks.map (txtL n)).take (k+1))=(if k=0 then [] else joinL ((ks.map (txtL n)).take k)++[44])++txtL n ks[k]):=by show _=_;rw[qcC _ _ D];simp
   have E:Hid (∀W,Below B w W->InnerT (fun b=>b<B) W n ks[k] (.iface ku kx)):=fun W hW=>A.keep (qaB hW (fun _ h=>h)) (fun _ h=>h)
   clear j J Y A D
   have g:Hid _:=q
   clear q
   rcases Nat.eq_zero_or_pos k with rfl|aF
   ·rw[Nat.add_zero]at P
    go_wp2_with fail
    refine (hn B w wr _ _ ks[0] _ d g.out (E.out _ g.out.below) r.1 r.2 (by have F:=t.out (0+1);rw[N.out]at F;simp[joinL]at F ⊢;omega) (hT.on g.out.below)).mono ?_
    rintro e w2 ⟨v2,rfl,m⟩
    obtain⟨K,L,M,rfl⟩:=m.shape
    have C:=qcX m (l':=l++[91]++joinL ((ks.map (txtL n)).take (0+1))) (by rw[N.out];simp[joinL])
    have Q:Hid _:=C
    clear m P C
    go_wp2_with fail
    go_roundw
    case rel=>exact⟨0+1,by omega,by go_num,Q.out⟩
    case measure=>simp[intOf];omega
   ·have aB:decide ((0:Int)<(k:Int))=true:=decide_eq_true (by omega)
    go_wp2_with (at_builtin;refine qaV rfl (.tmp 19) (.tmp 20) rfl B (.slice u y z) _ rfl w wr 44 44 rfl g.out rfl (by simp;omega) ?_;intro v3 w3 o;obtain⟨K,L,M,rfl⟩:=o.shape;refine Hid.out ?_)
    refine Lib.hid ?_
    have s:Hid _:=o
    clear o
    go_wp2_with fail
    refine (hn B w w3 _ _ ks[k] _ d s.out (E.out _ s.out.below) r.1 r.2 (by have F:=t.out (k+1);rw[N.out,if_neg (by omega)]at F;simp at F ⊢;omega) (hT.on s.out.below)).mono ?_
    rintro e w2 ⟨v2,rfl,m⟩
    obtain⟨aG,aH,aI,rfl⟩:=m.shape
    have C:Hid _:=qcX m (l':=l++[91]++joinL ((ks.map (txtL n)).take (k+1))) (by rw[N.out,if_neg (by omega)];simp)
    clear m P s g
    go_wp2_with fail
    go_roundw
    case rel=>exact⟨k+1,by omega,by go_num,C.out⟩
    case measure=>simp[intOf];omega
  ·have G:k=ks.length:=by omega
   have g:Hid (Buf B w wr (.slice u y z) (l++[91]++joinL (ks.map (txtL n)))):=qcX q (by rw[G,<- List.length_map (f:=txtL n),List.take_length])
   clear j q G
   go_wp2_with (at_builtin;refine qaV rfl (.tmp 26) (.tmp 27) rfl B (.slice u y z) _ rfl w wr 93 93 rfl g.out rfl (by simp;omega) ?_;intro v3 w3 o;obtain⟨K,L,M,rfl⟩:=o.shape;refine Hid.out ?_)
   refine Lib.hid ?_
   have C:Hid _:=qcX (o.from O.out) (l':=l++(91 :: joinL (ks.map (txtL n))++[93])) (by simp)
   clear o g
   go_wp2_with fail
   go_ret
   exact⟨_,rfl,C.out⟩
theorem qmT (n:Nat) (hn:qkE n) (B:Nat) (w0 w:World) (v:Value) (l:List UInt8) (ks:List (T n)) (kv:Value) (d:Int) (hb:Buf B w0 w v l) (hr:Row1 (fun b=>b<B) w (InnerT (fun b=>b<B) w n) ks kv)
  (hg:ks.all (fun x=>goodT n x d)=true) (hc:1+sumL (fun x=>cntT n x) ks<=120) (hl:l.length+(qeZ (txtL n) ks).length<=20000) (hT:Tens B w) :
  Calls prog 152 #[v,kv] w fun e w'=>∃v',e=.returned v' /\ Buf B w0 w' v' (l++qeZ (txtL n) ks):=by
 obtain⟨V,cap,rfl,i,f⟩:=hr
 unfold maxLen at i
 obtain⟨u,y,z,rfl⟩:=hb.shape
 cases ks with
 | nil=>
  rw[List.length_nil]
  simp only[qeZ,List.length_cons,List.length_nil]at hl
  go_enter func152,ntmps152
  go_wp2_with (at_builtin;refine qaV rfl (.tmp 8) (.tmp 9) rfl B (.slice u y z) l rfl w0 w 126 126 rfl hb rfl (by omega) ?_;intro o Q a;obtain⟨D,E,F,rfl⟩:=a.shape;refine Hid.out ?_)
  refine Lib.hid ?_
  have A:Hid _:=a
  clear a hb
  go_wp2_with fail
  go_ret
  exact⟨_,rfl,A.out⟩
 | cons k r=>
  obtain⟨b,q,rfl,s,t⟩:=f (by simp)
  obtain⟨c,H,g⟩:=t 0 (by simp)
  rw[Nat.add_zero]at H
  rw[List.getElem_cons_zero]at g
  obtain⟨I,J,rfl⟩:=g.iface
  rw[List.length_cons]at i ⊢
  have K:(((r.length:Nat):Int)+1==0)=false:=by simp;omega
  simp only[qeZ,List.length_cons]at hl
  simp only[List.all_cons,Bool.and_eq_true]at hg
  simp only[sumL]at hc
  have L:=hb.le
  have G:Hid (Buf B w w (.slice u y z) l):=hb.here
  have C:Hid (Buf B w0 w (.slice u y z) l):=hb
  have M:Hid (∀(W:World)(o:Value),Buf B w W o (l++[63])->Calls prog 118 #[o,.iface I J] W fun e w'=>∃v',e=.returned v' /\ Buf B w w' v' (l++[63]++txtL n k)):=fun W o h1=>
   hn B w W o _ k _ d h1 (g.keep (qaB h1.below (fun _ h=>h)) (fun _ h=>h)) hg.1 (by omega) (by simp;omega) (hT.on h1.below)
  have j:Hid (∀W,Below B w W->W.cell? ⟨b,q,none⟩=some (.iface I J)):=fun W hW=>(hW.cell (p:=⟨b,q,none⟩) s).trans H
  clear f t g hn hT hg hc hb
  have N:b<w.heap.size:=by have:b<B:=s;omega
  go_enter func152,ntmps152
  go_wp2_with fail
  go_region_law (first
   | (refine qqP rfl (.tmp 11) (.tmp 12) rfl B (.slice u y z) l rfl w 63 (by first|exact (G.out.alloc _).drew|exact G.out.drew.alloc _) w.heap.size rfl (by simp[go_sem]) (by omega) ?_;intro o Q a;obtain⟨D,E,F,rfl⟩:=a.shape;have O:=j.out _ a.below)
   | (go_simp;go_at_call 118;refine (M.out _ _ (by first|assumption|exact Buf.drew (by assumption))).mono ?_;rintro e w2 ⟨v2,rfl,m⟩;obtain⟨R,S,U,rfl⟩:=m.shape))
  all_goals
   have P:Hid _:=qcX (m.from C.out) (l':=l++qeZ (txtL n) (k :: r)) (by simp[qeZ])
   clear m
   go_wp2_with fail
   go_ret
   exact⟨_,rfl,P.out⟩
theorem qnT (n:Nat) (hn:qkE n) (B:Nat) (w0 w:World) (v:Value) (l:List UInt8) (ns:List ByteArray) (nv:Value) (ks:List (T n)) (kv:Value) (d:Int) (hN:StrsIn (fun b=>b<B) w ns nv) (hll:ns.length=ks.length) (hl8:∀ s,s∈ns->s.size<=8)
  (hb:Buf B w0 w v l) (hr:Row1 (fun b=>b<B) w (InnerT (fun b=>b<B) w n) ks kv)
  (hg:ks.all (fun x=>goodT n x d)=true) (hc:1+sumL (fun x=>cntT n x) ks<=120) (hl:l.length+(joinL (zipL ns (ks.map (txtL n)))).length+2<=20000) (hT:Tens B w) :
  Calls prog 151 #[v,nv,kv,.func (.func 118) #[] #[]] w fun e w'=>∃v',e=.returned v' /\ Buf B w0 w' v' (l++(123 :: joinL (zipL ns (ks.map (txtL n)))++[125])):=by
 obtain⟨ao,cap,rfl,Y,m⟩:=hr
 obtain⟨no,aP,rfl,-,-,g⟩:=hN
 unfold maxLen at Y
 obtain⟨va,vn,vc,rfl⟩:=hb.shape
 have aQ:=hb.le
 have HG:Hid (∀k (h:k<ks.length),goodT n ks[k] d=true/\cntT n ks[k]<=120):=fun k h=>by
  refine⟨List.all_eq_true.1 hg _ (List.getElem_mem h),?_⟩
  have:=qcA (fun x=>cntT n x) ks _ (List.getElem_mem h)
  omega
 have G:Hid (∀k,(joinL ((zipL ns (ks.map (txtL n))).take k)).length<=(joinL (zipL ns (ks.map (txtL n)))).length):=fun k=>qdA _ k
 have H:Hid (ns.length=ks.length):=hll
 have Q:Hid (Buf B w0 w (.slice va vn vc) l):=hb
 clear hg hll
 go_enter func151,ntmps151
 go_wp2_with (at_builtin;refine qaV rfl (.tmp 11) (.tmp 12) rfl B (.slice va vn vc) l rfl w w 123 123 rfl Q.out.here rfl (by omega) ?_;intro v1 w1 L;obtain⟨aT,aU,aV,rfl⟩:=L.shape;refine Hid.out ?_)
 refine Lib.hid ?_
 have R:Hid _:=L
 clear L
 go_wp2_with fail
 go_loopw [0,16] (fun a i wr=>∃k:Nat,k<=ks.length/\i=.int .i64 k/\Buf B w wr a (l++[123]++joinL ((zipL ns (ks.map (txtL n))).take k))) (fun _ i _=>ks.length-(intOf i).toNat)
 case atStart=>exact⟨0,Nat.zero_le _,rfl,qcX R.out (by simp[joinL])⟩
 case round=>
  obtain⟨k,hk,rfl,u⟩:=hrel
  obtain⟨C,D,E,rfl⟩:=u.shape
  have aR:=G.out k
  clear R
  by_cases hlt:k<ks.length
  ·obtain⟨b,aE,rfl,aF,Z⟩:=m (by intro h;rw[h]at hlt;simp at hlt)
   obtain⟨c,e0,M⟩:=Z k hlt
   obtain⟨ku,kx,rfl⟩:=M.iface
   have f0:=(u.below.cell (p:=⟨b,aE+k,none⟩) aF).trans e0
   have A:=HG.out k hlt
   have y:k<ns.length:=by rw[H.out];exact hlt
   obtain⟨nb,F,rfl,aG,aA⟩:=g (by intro h;rw[h]at y;simp at y)
   have aN:=hl8 ns[k] (List.getElem_mem y)
   have I:Hid (∀W,Below B w W->W.cell? ⟨nb,F+k,none⟩=some (.string ns[k])):=fun W hW=>(hW.cell (p:=⟨nb,F+k,none⟩) aG).trans (aA k y)
   have J:k<(zipL ns (ks.map (txtL n))).length:=by rw[qbN _ _ (by simpa using H.out)];simpa using hlt
   have HS:Hid (joinL ((zipL ns (ks.map (txtL n))).take (k+1))=(if k=0 then [] else joinL ((zipL ns (ks.map (txtL n))).take k)++[44])++(ns[k].data.toList++58 :: txtL n ks[k])):=by
    show _=_
    rw[qcC _ _ J,qiG ns (ks.map (txtL n)) k y (by simpa using hlt) J,List.getElem_map]
   have S:Hid (∀W,Below B w W->InnerT (fun b=>b<B) W n ks[k] (.iface ku kx)):=fun W hW=>M.keep (qaB hW (fun _ h=>h)) (fun _ h=>h)
   have aO:ns[k].data.toList.length=ns[k].size:=by simp
   clear m Z e0 M J g aA
   have j:Hid _:=u
   clear u
   rcases Nat.eq_zero_or_pos k with rfl|aW
   ·rw[Nat.add_zero]at f0
    rw[Nat.add_zero]at I
    generalize ns[0]=nm at *
    have K:Hid _:=j.out
    have q0:=I.out _ K.out.below
    go_wp2_with (at_builtin;refine qcG rfl (.tmp 26) (.tmp 30) 9 rfl underlying9 B (.slice C D E) _ rfl w K.out nm rfl (by simp[joinL];omega) ?_;intro v5 w5 o;obtain⟨N,O,P,rfl⟩:=o.shape;refine Hid.out ?_)
    refine Lib.hid ?_
    have z:Hid _:=o
    clear o K q0 j f0
    go_wp2_with (at_builtin;refine qaV rfl (.tmp 32) (.tmp 33) rfl B (.slice N O P) _ rfl w w5 58 58 rfl z.out rfl (by simp[joinL];omega) ?_;intro v6 w6 q;obtain⟨aH,aI,aJ,rfl⟩:=q.shape;refine Hid.out ?_)
    refine Lib.hid ?_
    have f:Hid _:=q
    clear q z
    go_wp2_with fail
    refine (hn B w w6 _ _ ks[0] _ d f.out (S.out _ f.out.below) A.1 A.2 (by have U:=G.out (0+1);rw[HS.out]at U;simp[joinL]at U ⊢;omega) (hT.on f.out.below)).mono ?_
    rintro e w7 ⟨v7,rfl,r⟩
    obtain⟨aK,aL,aM,rfl⟩:=r.shape
    have V:Hid _:=qcX r (l':=l++[123]++joinL ((zipL ns (ks.map (txtL n))).take (0+1))) (by rw[HS.out];simp[joinL])
    clear r f
    go_wp2_with fail
    go_roundw
    case rel=>exact⟨0+1,by omega,by go_num,V.out⟩
    case measure=>simp[intOf];omega
   ·have aS:decide ((0:Int)<(k:Int))=true:=decide_eq_true (by omega)
    generalize ns[k]=nm at *
    go_wp2_with (at_builtin;refine qaV rfl (.tmp 23) (.tmp 24) rfl B (.slice C D E) _ rfl w wr 44 44 rfl j.out rfl (by simp;omega) ?_;intro v3 w3 t;obtain⟨aB,aC,aD,rfl⟩:=t.shape;refine Hid.out ?_)
    refine Lib.hid ?_
    have K:Hid _:=t
    clear t
    have q0:=I.out _ K.out.below
    go_wp2_with (at_builtin;refine qcG rfl (.tmp 26) (.tmp 30) 9 rfl underlying9 B (.slice aB aC aD) _ rfl w K.out nm rfl (by simp;omega) ?_;intro v5 w5 o;obtain⟨N,O,P,rfl⟩:=o.shape;refine Hid.out ?_)
    refine Lib.hid ?_
    have z:Hid _:=o
    clear o K q0 j f0
    go_wp2_with (at_builtin;refine qaV rfl (.tmp 32) (.tmp 33) rfl B (.slice N O P) _ rfl w w5 58 58 rfl z.out rfl (by simp;omega) ?_;intro v6 w6 q;obtain⟨aH,aI,aJ,rfl⟩:=q.shape;refine Hid.out ?_)
    refine Lib.hid ?_
    have f:Hid _:=q
    clear q z
    go_wp2_with fail
    refine (hn B w w6 _ _ ks[k] _ d f.out (S.out _ f.out.below) A.1 A.2 (by have U:=G.out (k+1);rw[HS.out,if_neg (by omega)]at U;simp at U ⊢;omega) (hT.on f.out.below)).mono ?_
    rintro e w7 ⟨v7,rfl,r⟩
    obtain⟨aK,aL,aM,rfl⟩:=r.shape
    have V:Hid _:=qcX r (l':=l++[123]++joinL ((zipL ns (ks.map (txtL n))).take (k+1))) (by rw[HS.out,if_neg (by omega)];simp)
    clear r f
    go_wp2_with fail
    go_roundw
    case rel=>exact⟨k+1,by omega,by go_num,V.out⟩
    case measure=>simp[intOf];omega
  ·have X:k=ks.length:=by omega
   have j:Hid (Buf B w wr (.slice C D E) (l++[123]++joinL (zipL ns (ks.map (txtL n))))):=qcX u (by
    have e:ks.length=(zipL ns (ks.map (txtL n))).length:=by rw[qbN _ _ (by simpa using H.out)];simp
    rw[X,e,List.take_length])
   clear m u X g
   go_wp2_with (at_builtin;refine qaV rfl (.tmp 40) (.tmp 41) rfl B (.slice C D E) _ rfl w wr 125 125 rfl j.out rfl (by simp;omega) ?_;intro v3 w3 t;obtain⟨aB,aC,aD,rfl⟩:=t.shape;refine Hid.out ?_)
   refine Lib.hid ?_
   have V:Hid _:=qcX (t.from Q.out) (l':=l++(123 :: joinL (zipL ns (ks.map (txtL n)))++[125])) (by simp)
   clear t j
   go_wp2_with fail
   go_ret
   exact⟨_,rfl,V.out⟩
theorem qnU (B:Nat) (w0 w:World) (v:Value) (l:List UInt8) (x:Int) (hb:Buf B w0 w v l) (h0 : -999999999<=x) (h1:x<=999999999) (hl:l.length<=20000) (hT:Tens B w) :
  Calls prog 118 #[v,.iface 166 (.int .i64 x)] w fun e w'=>∃v',e=.returned v' /\ Buf B w0 w' v' (l++Lib.itoa x):=by
 have c:=Tryz.yes_num
 obtain⟨i,j,k,rfl⟩:=hb.shape
 have d:Hid (Calls prog 148 _ w _):=xjP B w0 w _ l x (by omega) (by omega) hb (by omega) hT
 clear hb hT
 go_enter func118,ntmps118
 go_wp2_with fail
 refine d.out.mono ?_
 rintro e m ⟨n,rfl,a⟩
 obtain⟨f,g,h,rfl⟩:=a.shape
 have b:Hid _:=a
 clear a d
 go_wp2_with fail
 go_ret
 exact⟨_,rfl,b.out⟩
theorem qmU (B:Nat) (w0 w:World) (v:Value) (l:List UInt8) (x:ByteArray) (hb:Buf B w0 w v l) (hx:x.size<=60) (hl:l.length<=20000) :
  Calls prog 118 #[v,.iface 167 (.string x)] w fun e w'=>∃v',e=.returned v' /\ Buf B w0 w' v' (l++(34 :: x.data.toList++[34])):=by
 have o:=Tryz.no_num_text
 have p:=Tryz.yes_text
 obtain⟨s,t,u,rfl⟩:=hb.shape
 have r:x.data.toList.length=x.size:=by simp
 have q:Hid _:=hb
 clear hb
 go_enter func118,ntmps118
 go_wp2_with (at_builtin;refine qaV rfl (.tmp 21) (.tmp 22) rfl B (.slice s t u) _ rfl w0 w 34 34 rfl q.out rfl (by omega) ?_;intro C D a;obtain⟨h,i,j,rfl⟩:=a.shape;refine Hid.out ?_)
 refine Lib.hid ?_
 have d:Hid _:=a
 clear a q
 go_wp2_with (at_builtin;refine qcG rfl (.tmp 24) (.tmp 25) 167 rfl underlying167 B (.slice h i j) _ rfl w0 d.out x rfl (by simp;omega) ?_;intro v2 w2 b;obtain⟨k,m,n,rfl⟩:=b.shape;refine Hid.out ?_)
 refine Lib.hid ?_
 have f:Hid _:=b
 clear b d
 go_wp2_with (at_builtin;refine qaV rfl (.tmp 27) (.tmp 28) rfl B (.slice k m n) _ rfl w0 w2 34 34 rfl f.out rfl (by simp;omega) ?_;intro v3 w3 c;obtain⟨y,z,A,rfl⟩:=c.shape;refine Hid.out ?_)
 refine Lib.hid ?_
 have g:Hid _:=qcX c (l':=l++(34 :: x.data.toList++[34])) (by simp)
 clear c f
 go_wp2_with fail
 go_ret
 exact⟨_,rfl,g.out⟩
theorem qtI(x:Bool)(w:World):Calls prog 149 #[.bool x] w fun e w'=>e=.returned (.string (bs (if x=true then [121,101,115] else [110,111])))/\w=w':=by
 cases x
 all_goals
  go_enter func149,ntmps149
  go_wp2
  go_ret
  exact⟨rfl,rfl⟩
theorem qmV (B:Nat) (w0 w:World) (v:Value) (l:List UInt8) (x:Bool) (hb:Buf B w0 w v l) (hl:l.length<=20000) :
  Calls prog 118 #[v,.iface 168 (.bool x)] w fun e w'=>∃v',e=.returned v' /\ Buf B w0 w' v' (l++(if x=true then [121,101,115] else [110,111])):=by
 have g:=Tryz.no_num_flag
 have h:=Tryz.no_text_flag
 have i:=Tryz.yes_flag
 obtain⟨k,m,n,rfl⟩:=hb.shape
 have j:Hid _:=hb
 have d:(if x=true then [121,101,115] else [110,111]:List UInt8).length<=3:=by split<;>simp
 have o:Hid (∀u:List UInt8,u=(if x=true then [121,101,115] else [110,111])->Buf B w0 w (.slice k m n) l):=fun _ _=>hb
 obtain⟨a,b⟩:∃a:List UInt8,a=(if x=true then [121,101,115] else [110,111]):=⟨_,rfl⟩
 rw[<- b]at d ⊢
 have p:Hid (Calls prog 149 #[.bool x] w fun e w'=>e=.returned (.string (bs a))/\w=w'):=by rw[b];exact qtI x w
 have q:(bs a).size=a.length:=qaL a
 have r:(bs a).data.toList=a:=qcB a
 clear hb b o
 go_enter func118,ntmps118
 go_wp2_with fail
 refine p.out.mono ?_
 rintro e z ⟨rfl,rfl⟩
 go_wp2_with (at_builtin;refine qcG rfl (.tmp 33) (.tmp 35) 9 rfl underlying9 B (.slice k m n) _ rfl w0 j.out (bs a) rfl (by omega) ?_;intro v2 w2 c;obtain⟨s,t,y,rfl⟩:=c.shape;refine Hid.out ?_)
 refine Lib.hid ?_
 have f:Hid _:=qcX c (l':=l++a) (by rw[qcB])
 clear c j
 go_wp2_with fail
 go_ret
 exact⟨_,rfl,f.out⟩
theorem qmW (B:Nat) (w0 w:World) (v:Value) (l r:List UInt8) (ka:Option Addr) (kl kc:Nat) (hb:Buf B w0 w v l) (HQ:Hid (Calls prog 150 #[v,.slice ka kl kc] w fun e w'=>∃ v',e=.returned v' /\ Buf B w0 w' v' r)) :
  Calls prog 118 #[v,.iface 170 (.slice ka kl kc)] w fun e w'=>∃v',e=.returned v' /\ Buf B w0 w' v' r:=by
 have c:=Tryz.no_num_list
 have d:=Tryz.no_text_list
 have f:=Tryz.no_flag_list
 have g:=Tryz.yes_list
 obtain⟨k,m,n,rfl⟩:=hb.shape
 clear hb
 go_enter func118,ntmps118
 go_wp2_with fail
 refine HQ.out.mono ?_
 rintro e o ⟨p,rfl,a⟩
 obtain⟨h,i,j,rfl⟩:=a.shape
 have b:Hid _:=a
 clear a HQ
 go_wp2_with fail
 go_ret
 exact⟨_,rfl,b.out⟩
theorem qmX (B:Nat) (w0 w:World) (v:Value) (l r:List UInt8) (na ka:Option Addr) (nl nc kl kc:Nat) (hb:Buf B w0 w v l)
  (HQ:Hid (Calls prog 151 #[v,.slice na nl nc,.slice ka kl kc,.func (.func 118) #[] #[]] (w.alloc (.cells #[.slice na nl nc,.slice ka kl kc] 173)) fun e w'=>∃v',e=.returned v' /\ Buf B w0 w' v' r)) :
  Calls prog 118 #[v,.iface 173 (.agg #[.slice na nl nc,.slice ka kl kc])] w fun e w'=>∃v',e=.returned v' /\ Buf B w0 w' v' r:=by
 have c:=Tryz.no_num_form
 have d:=Tryz.no_text_form
 have f:=Tryz.no_flag_form
 have g:=Tryz.no_list_form
 have h:=Tryz.yes_form
 obtain⟨m,n,o,rfl⟩:=hb.shape
 clear hb
 go_enter func118,ntmps118
 go_wp2_with fail
 refine HQ.out.mono ?_
 rintro e p ⟨q,rfl,a⟩
 obtain⟨i,j,k,rfl⟩:=a.shape
 have b:Hid _:=a
 clear a HQ
 go_wp2_with fail
 go_ret
 exact⟨_,rfl,b.out⟩
theorem qkW (B:Nat) (w0 w:World) (v:Value) (l r:List UInt8) (ka:Option Addr) (kl kc:Nat) (hb:Buf B w0 w v l) (HQ:Hid (Calls prog 152 #[v,.slice ka kl kc] w fun e w'=>∃ v',e=.returned v' /\ Buf B w0 w' v' r)) :
  Calls prog 118 #[v,.iface 175 (.slice ka kl kc)] w fun e w'=>∃v',e=.returned v' /\ Buf B w0 w' v' r:=by
 have c:=Tryz.no_num_maybe
 have d:=Tryz.no_text_maybe
 have f:=Tryz.no_flag_maybe
 have g:=Tryz.no_list_maybe
 have h:=Tryz.no_form_maybe
 have i:=Tryz.yes_maybe
 obtain⟨n,o,p,rfl⟩:=hb.shape
 clear hb
 go_enter func118,ntmps118
 go_wp2_with fail
 refine HQ.out.mono ?_
 rintro e q ⟨s,rfl,a⟩
 obtain⟨j,k,m,rfl⟩:=a.shape
 have b:Hid _:=a
 clear a HQ
 go_wp2_with fail
 go_ret
 exact⟨_,rfl,b.out⟩
theorem xhK(n:Nat)(hn:qkE n):qkE (n+1):=by
 intro B g w v l t z d e h s u i o
 have a:=s
 simp only[goodT,Bool.and_eq_true]at a
 have b:qaO (Nd.sort t) (Nd.num t) (Nd.text t) (Nd.names t) (Nd.kids t).length=true:=a.1.2
 have k:1+sumL (fun x=>cntT n x) (Nd.kids t)<=120:=by simpa only[cntT] using u
 unfold qaO at b
 simp only[txtL]at i ⊢
 rcases h with ⟨c,rfl⟩|⟨c,rfl⟩|⟨c,rfl⟩|⟨c,r,rfl,j⟩|⟨c,A,r,rfl,m,j⟩|⟨c,r,rfl,j⟩
 ·rw[if_pos c]at b i ⊢
  simp only[Bool.and_eq_true,decide_eq_true_eq]at b
  exact qnU B g w v l _ e b.1.1.1.1 b.1.1.1.2 (by omega) o
 ·rw[if_neg (by omega),if_pos c]at b i ⊢
  simp only[Bool.and_eq_true,textB,decide_eq_true_eq]at b
  exact qmU B g w v l _ e b.1.1.2.1 (by omega)
 ·rw[if_neg (by omega),if_neg (by omega),if_pos c]at i ⊢
  have:=qmV B g w v l (Nd.num t==1) e (by omega)
  simpa using this
 ·rw[if_neg (by omega),if_neg (by omega),if_neg (by omega),if_neg (by omega),if_neg (by omega)]at i ⊢
  obtain⟨p,q,rfl,-⟩:=id j
  simp only[List.length_append,List.length_cons,List.length_nil]at i
  exact qmW B g w v l _ _ _ _ e (qnS n hn B g w v l (Nd.kids t) _ (d+1) e j a.2 k (by omega) o)
 ·rw[if_neg (by omega),if_neg (by omega),if_neg (by omega),if_neg (by omega),if_pos c]at i ⊢
  rw[if_neg (by omega),if_neg (by omega),if_neg (by omega),if_neg (by omega),if_pos c]at b
  simp only[Bool.and_eq_true,beq_iff_eq]at b
  obtain⟨p,q,rfl,-⟩:=id j
  obtain⟨na,y,rfl,-⟩:=id m
  simp only[List.length_append,List.length_cons,List.length_nil]at i
  have f:=(Below.refl B w).alloc e.le (.cells #[.slice na (Nd.names t).length y,.slice p (Nd.kids t).length q] 173)
  exact qmX B g w v l _ _ _ _ _ _ _ e (qnT n hn B g _ v l (Nd.names t) _ (Nd.kids t) _ (d+1) (m.keep (qaB f (fun _ h=>h)) (fun _ h=>h)) (by omega) (qeY _ b.2) (e.alloc _)
   (j.keep (qaB f (fun _ h=>h)) (fun _ h=>h) (fun _ _ _ hx=>hx.keep (qaB f (fun _ h=>h)) (fun _ h=>h))) a.2 k (by omega) (o.on f))
 ·rw[if_neg (by omega),if_neg (by omega),if_neg (by omega),if_pos c]at i ⊢
  obtain⟨p,q,rfl,-⟩:=id j
  exact qkW B g w v l _ _ _ _ e (qmT n hn B g w v l (Nd.kids t) _ (d+1) e j a.2 k (by omega) o)
theorem qnV:∀n,qkE n:=by
 intro n
 induction n with
 | zero=>intro B a w v l t b d c h;exact h.elim
 | succ n ih=>exact xhK n ih
theorem xjQ:∀(n:Nat)(t:T n)(d:Int),goodT n t d=true->txtL n t≠[]:=by
 intro n t d h
 cases n with
 | zero=>simp[goodT]at h
 | succ n=>
  simp only[txtL]
  by_cases h1:Nd.sort t=1
  ·rw[if_pos h1]
   intro e
   have:(Lib.itoa (Nd.num t)).length=0:=by rw[e];rfl
   unfold Lib.itoa at this
   split at this
   ·simp at this
   ·rw[Lib.decDigits_length]at this
    unfold Lib.nDigits at this
    split at this<;>omega
  rw[if_neg h1]
  by_cases h2:Nd.sort t=2
  ·rw[if_pos h2];simp
  rw[if_neg h2]
  by_cases h3:Nd.sort t=3
  ·rw[if_pos h3];split<;>simp
  rw[if_neg h3]
  by_cases h6:Nd.sort t=6
  ·rw[if_pos h6];cases Nd.kids t<;>simp[qeZ]
  rw[if_neg h6]
  by_cases h5:Nd.sort t=5
  ·rw[if_pos h5];simp
  rw[if_neg h5];simp
def TensIn (w:World):Prop:=Lib.TabBelow prog w.heap.size w "internal/strconv.uint64pow10" .u64 Lib.pow10Tab
theorem TensIn.step{w w':World}(h:TensIn w)(hb:Below w.heap.size w w'):TensIn w':=fun w2 h2=>h w2 (hb.trans (h2.mono hb.size))
theorem qqS (n:Nat) (S:Nat->Prop) (t:T n) (c0 c1 c2 c3 c4:Value) (w:World) (ht:TreeIn S w n t c0 c1 c2 c3 c4) (hB:∀ b,S b->b<w.heap.size) (hT:TensIn w) :
  Calls prog 92 #[.agg #[c0,c1,c2,c3,c4]] w fun e w'=>e=.returned (.string (textF n t))/\Below w.heap.size w w':=by
 obtain⟨z,A,B,C,D,E,F,G,H,rfl,rfl,rfl,rfl,rfl⟩:=ht.shape
 have c:=(Below.refl w.heap.size w).alloc (Nat.le_refl _) (.cells #[.int .i64 z,.int .i64 A,.string B,.slice C D E,.slice F G H] 67)
 have j:=ht.keep (qaB c hB) (fun _ h=>h)
 clear ht
 go_enter func92,ntmps92
 go_wp2_with fail
 refine (qqR n S t _ _ _ _ _ _ j (fun b i=>by have:=hB b i;simp;omega)).mono ?_
 rintro e k ⟨i,⟨a,v,rfl,r⟩|⟨a,rfl⟩⟩
 ·have l:=quN a
  have g:=qaA c (by simp) i
  have s:=i.size
  simp at s
  have d:InnerT (fun b=>b<k.heap.size) k n t v:=r.keep (fun _ _=>rfl) (fun b i=>i.elim (fun h=>by have:=hB b h;omega) (fun h=>h.2))
  obtain⟨I,J,rfl⟩:=id d.iface
  have m:=qhC n t 1 l.1
  have o:=xjQ n t 1 l.1
  have x:Hid (textF n t=bs (txtL n t)):=by show _=_;rw[textF,if_pos a]
  have p:Hid (Calls prog 118 #[.slice none 0 0,_] k _):=qnV n k.heap.size k k (.slice none 0 0) [] t _ 1 (Buf.nil (Nat.le_refl _)) d l.1 l.2 (by simp;omega) (hT.step g)
  have u:Hid (txtL n t≠[]):=o
  clear i a r d c j l o m
  go_wp2_with fail
  refine p.out.mono ?_
  rintro e w2 ⟨v2,rfl,f⟩
  rw[List.nil_append]at f
  have y:=qoY _ _ _ _ _ f u.out
  have q:=g.trans (f.below.mono g.size)
  obtain⟨K,L,M,rfl⟩:=f.shape
  clear f g p
  go_wp2_with fail
  go_ret
  exact⟨qdU x.out.symm,q⟩
 ·have p:Hid (textF n t=bs []/\Below w.heap.size w k):=⟨by rw[textF,if_neg (by rw[a];simp)],qaA c (by simp) i⟩
  clear i a c j
  go_wp2_with fail
  go_ret
  exact⟨qdU p.out.1.symm,p.out.2⟩
structure Wrt(B wb bk:Nat)(w0 w:World)(v:Value)(l:List UInt8):Prop where
 own:w.ownsRow B 5 1 v l.length (Lib.byteCells l)
 below:Below B w0 w
 le:B<=w.heap.size
 kept:Lib.OthersKept 5 (some wb) w0 w
 box:w.heap[wb]?=some (.cells #[.pointer (some ⟨bk,0,none⟩),v] 109 (0,0))
 ge:B<=wb
theorem Wrt.here{B wb bk:Nat}{w0 w:World}{v:Value}{l:List UInt8}(h:Wrt B wb bk w0 w v l):Wrt B wb bk w w v l:=⟨h.own,Below.refl _ _,h.le,Lib.OthersKept.refl _ _ _,h.box,h.ge⟩
theorem Wrt.from{B wb bk:Nat}{w0 w1 w:World}{v v0:Value}{l l0:List UInt8}(h:Wrt B wb bk w1 w v l)(h0:Wrt B wb bk w0 w1 v0 l0):Wrt B wb bk w0 w v l:=⟨h.own,h0.below.trans h.below,h.le,h0.kept.trans h.kept,h.box,h.ge⟩
theorem Wrt.buf{B wb bk:Nat}{w0 w:World}{v:Value}{l:List UInt8}(h:Wrt B wb bk w0 w v l):Buf B w w v l:=⟨h.own,Below.refl _ _,h.le,Lib.OthersKept.refl _ _ _⟩
theorem xeK{e:TypeId}{b:Option Nat}{w w':World}(h:Lib.OthersKept e none w w'):Lib.OthersKept e b w w':=fun k o hk _ ho=>h k o hk (by simp) ho
theorem xeL{w:World}{B wb:Nat}{v x:Value}{n:Nat}{xs:List Value}{o:Obj}(h:w.ownsRow B 5 1 v n xs)(hb:w.heap[wb]?=some o)(ho:∀c fz,o≠.cells c 5 fz)(i:Nat):(w.setCell ⟨wb,i,none⟩ x).ownsRow B 5 1 v n xs:=by
 refine⟨h.1,?_⟩
 rcases h.2 with j|⟨g,cap,a,k,b,d,l⟩
 ·exact .inl j
 ·refine .inr ⟨g,cap,a,k,b,?_,l⟩
  rw[Below.heap_setCell _ _ _ _ (fun e=>?_)]
  ·exact d
  ·have f:g=wb:=e
   subst f
   rw[d]at hb
   exact ho _ _ (Option.some.inj hb).symm
theorem Wrt.took{B wb bk:Nat}{w0 w w1:World}{v v1:Value}{l l1:List UInt8}(h:Wrt B wb bk w0 w v l)(hb:Buf B w w1 v1 l1):Wrt B wb bk w0 (w1.setCell ⟨wb,1,none⟩ v1) v1 l1:=by
 have a:w1.heap[wb]?=some (.cells #[.pointer (some ⟨bk,0,none⟩),v] 109 (0,0)):=hb.kept wb _ h.box (by simp) (fun c fz e=>by cases e)
 exact⟨xeL hb.own a (fun c fz e=>by cases e) 1,(h.below.trans hb.below).setCell h.ge _,by have:=hb.le;simpa using this,(h.kept.trans (xeK hb.kept)).setCell _ rfl _,xiV a _,h.ge⟩
theorem Wrt.lt{B wb bk:Nat}{w0 w:World}{v:Value}{l:List UInt8}(h:Wrt B wb bk w0 w v l):wb<w.heap.size:=(Array.getElem?_eq_some_iff.1 h.box).1
theorem Wrt.alloc{B wb bk:Nat}{w0 w:World}{v:Value}{l:List UInt8}(h:Wrt B wb bk w0 w v l)(o:Obj):Wrt B wb bk w0 (w.alloc o) v l:=
 ⟨h.own.alloc o,h.below.alloc h.le o,by have:=h.le;simp;omega,h.kept.alloc o,(Below.heap_alloc _ _ _ h.lt).trans h.box,h.ge⟩
theorem Wrt.drew{B wb bk:Nat}{w0 w:World}{v:Value}{l:List UInt8}(h:Wrt B wb bk w0 w v l):Wrt B wb bk w0 w.drew v l:=
 ⟨h.own.drew,h.below.drew,h.le,h.kept.drew,h.box,h.ge⟩
theorem Wrt.on{B wb bk:Nat}{w0 w w':World}{v:Value}{l:List UInt8}(h:Wrt B wb bk w0 w v l)(hb:Below w.heap.size w w'):Wrt B wb bk w0 w' v l:=by
 refine⟨⟨h.own.1,?_⟩,h.below.trans (hb.mono h.le),Nat.le_trans h.le hb.size,h.kept.trans (fun k o hk _ _=>(hb.block k (Array.getElem?_eq_some_iff.1 hk).1).trans hk),(hb.block wb h.lt).trans h.box,h.ge⟩
 rcases h.own.2 with e|⟨g,cap,b,f,c,d,i⟩
 ·exact .inl e
 ·exact .inr ⟨g,cap,b,f,c,(hb.block g (Array.getElem?_eq_some_iff.1 d).1).trans d,i⟩
theorem Wrt.cells{B wb bk:Nat}{w0 w:World}{v:Value}{l:List UInt8}(h:Wrt B wb bk w0 w v l):w.cell? ⟨wb,0,none⟩=some (.pointer (some ⟨bk,0,none⟩))/\w.cell? ⟨wb,1,none⟩=some v/\w.frozen? ⟨wb,1,none⟩=false:=by
 have:=h.box
 refine⟨?_,?_,?_⟩<;>simp[World.cell?,World.frozen?,this]
def WPost(B wb bk:Nat)(w:World)(k:Nat)(e:Ending)(w':World):Prop:=e=.returned (.tuple #[])/\∃v' l',Wrt B wb bk w w' v' l' /\ l'.length=k
theorem qgK (B wb bk:Nat) (w:World) (v:Value) (l:List UInt8) (s:ByteArray) (h:Wrt B wb bk w w v l) (hl:l.length+1+s.size<=900000) :
  Calls prog 91 #[.pointer (some ⟨wb,0,none⟩),.string s] w (WPost B wb bk w (wk l.length s.size)):=by
 obtain⟨A,y,C,rfl⟩:=h.buf.shape
 obtain⟨-,c1,f1⟩:=h.cells
 have r:y=l.length:=by
  rcases h.own.2 with ⟨F,p⟩|⟨g,cap,M,F,-⟩
  ·cases F;exact p.symm
  ·cases F;rfl
 by_cases p:l.length=0
 ·obtain rfl:y=0:=by omega
  have t:=hidF h.buf
  have z:Hid (wk l.length s.size=s.size/\l.length=0):=⟨by simp[wk,p],p⟩
  have b:l.length+s.size<=1000000:=by omega
  clear p r hl
  go_enter func91,ntmps91
  go_wp2_with (at_builtin;refine qcG rfl (.tmp 23) (.tmp 24) 9 rfl underlying9 B (.slice A 0 C) l rfl w t.out s rfl b ?_;intro N q a;obtain⟨d,f,i,rfl⟩:=a.shape;refine Hid.out ?_)
  refine Lib.hid ?_
  have o:=h.took a
  have k:=a.kept wb _ h.box (by simp) (fun c fz e=>by cases e)
  have J:q.cell? ⟨wb,1,none⟩=some (.slice A 0 C):=by simp[World.cell?,k]
  have K:q.frozen? ⟨wb,1,none⟩=false:=by simp[World.frozen?,k]
  have D:Hid (WPost B wb bk w (wk l.length s.size) (.returned (.tuple #[])) (q.setCell ⟨wb,1,none⟩ (.slice d f i))):=⟨rfl,_,_,o,by rw[List.length_append,z.out.1,z.out.2];simp⟩
  clear a o h t k
  go_wp2_with fail
  refine bodyPost_end (results_none rfl _ _ _) rfl ?_
  exact D.out
 ·have L:(0:Int)<(y:Int):=by omega
  have t:=hidF h.buf
  have z:Hid (wk l.length s.size=l.length+1+s.size):=qeN (by omega) _
  have b:l.length<=1000000:=by omega
  have m:(l++[32]).length+s.size<=1000000:=by simp;omega
  clear p r hl
  go_enter func91,ntmps91
  go_wp2_with (at_builtin;refine qaV rfl (.tmp 14) (.tmp 15) rfl B (.slice A y C) l rfl w w 32 32 rfl t.out rfl b ?_;intro N q a;obtain⟨d,f,i,rfl⟩:=a.shape;refine Hid.out ?_)
  refine Lib.hid ?_
  have o:=h.took a
  have k:=a.kept wb _ h.box (by simp) (fun c fz e=>by cases e)
  have J:q.cell? ⟨wb,1,none⟩=some (.slice A y C):=by simp[World.cell?,k]
  have K:q.frozen? ⟨wb,1,none⟩=false:=by simp[World.frozen?,k]
  have E:=hidF o
  have u:=hidF o.buf
  clear a o h t k
  go_wp2_with (at_builtin;refine qcG rfl (.tmp 23) (.tmp 24) 9 rfl underlying9 B (.slice d f i) (l++[32]) rfl _ u.out s rfl m ?_;intro v2 w2 j;obtain⟨G,H,I,rfl⟩:=j.shape;refine Hid.out ?_)
  refine Lib.hid ?_
  have x:=E.out.took j
  have n:=j.kept wb _ E.out.box (by simp) (fun c fz e=>by cases e)
  have O:w2.cell? ⟨wb,1,none⟩=some (.slice d f i):=by simp[World.cell?,n]
  have P:w2.frozen? ⟨wb,1,none⟩=false:=by simp[World.frozen?,n]
  have D:Hid (WPost B wb bk w (wk l.length s.size) (.returned (.tuple #[])) (w2.setCell ⟨wb,1,none⟩ (.slice G H I))):=⟨rfl,_,_,x,by rw[List.length_append,List.length_append,z.out];simp⟩
  clear j x E u n J K
  go_wp2_with fail
  refine bodyPost_end (results_none rfl _ _ _) rfl ?_
  exact D.out
def NodeW(m:Nat):Prop:=∀(B wb bk:Nat)(w:World)(v:Value)(l:List UInt8)(t:T m)(c0 c1 c2 c3 c4:Value)(d:Int),Wrt B wb bk w w v l->NodeIn (fun b=>b<B) w m t c0 c1 c2 c3 c4->Book w bk->bk<B->goodN m t d=true ->
 wk l.length (lenN m t)<=800000->Tens B w->Calls prog 70 #[.pointer (some ⟨wb,0,none⟩),.agg #[c0,c1,c2,c3,c4]] w (WPost B wb bk w (wk l.length (lenN m t)))
theorem wk_le(k x:Nat):k+x<=wk k x:=by unfold wk;split<;>omega
theorem qxC{α:Type}(lk:α->Nat):∀(ns:List ByteArray)(ks:List α)(k:Nat),k<=lenFs lk ns ks k:=by
 intro ns
 induction ns with
 | nil=>intro ks k;simp[lenFs]
 | cons a ns ih=>
  intro ks k
  cases ks with
  | nil=>simp[lenFs]
  | cons x r=>
   rw[lenFs]
   have b:=ih r (wk (wk k a.size) (lk x))
   have c:=wk_le (wk k a.size) (lk x)
   have d:=wk_le k a.size
   omega
theorem Wrt.same{B wb bk:Nat}{w0 w:World}{v:Value}{l:List UInt8}(h:Wrt B wb bk w0 w v l):Same (fun b=>b<B) w0 w:=fun b hb=>h.below.block b hb
theorem qzL (m:Nat) (hn:NodeW m) (B wb bk:Nat) (w:World) (v:Value) (l:List UInt8) (n:Nd (T m)) (na ka:Option Addr) (nc kc:Nat) (d:Int) (h:Wrt B wb bk w w v l)
  (h3:StrsIn (fun b=>b<B) w n.names (.slice na n.names.length nc)) (h4:RowIn (fun b=>b<B) w (NodeIn (fun b=>b<B) w m) n.kids (.slice ka n.kids.length kc)) (hle:n.names.length=n.kids.length) (hbk:Book w bk) (hbB:bk<B)
  (hg:n.kids.all (fun x=>goodN m x d)=true) (hl:lenFs (lenN m) n.names n.kids l.length<=800000) (hT:Tens B w) :
  Calls prog 95 #[.pointer (some ⟨wb,0,none⟩),.agg #[.int .i64 n.sort,.int .i64 n.num,.string n.text,.slice na n.names.length nc,.slice ka n.kids.length kc]] w (WPost B wb bk w (wk (lenFs (lenN m) n.names n.kids l.length) 3)):=by
 obtain⟨W,V⟩:∃W,W=w.alloc (.cells #[.int .i64 n.sort,.int .i64 n.num,.string n.text,.slice na n.names.length nc,.slice ka n.kids.length kc] 25):=⟨_,rfl⟩
 have t:Wrt B wb bk w W v l:=by rw[V];exact h.alloc _
 have u:W.heap[w.heap.size]?=some (.cells #[.int .i64 n.sort,.int .i64 n.num,.string n.text,.slice na n.names.length nc,.slice ka n.kids.length kc] 25 (0,0)):=by rw[V];exact heap_alloc_last _ _
 have aJ:=h.lt
 have F:=t.same
 obtain⟨_,_,hv,aF,aN,I⟩:=h3.keep F (fun _ h=>h)
 cases hv
 obtain⟨_,_,hv,aG,J⟩:=h4.keepN F (fun _ h=>h)
 cases hv
 have L:Book W bk:=hbk.keep (t.below.block bk hbB)
 have aA:Tens B W:=hT.on t.below
 have HG:Hid (∀k (h:k<n.kids.length),goodN m n.kids[k] d=true):=fun k h=>List.all_eq_true.1 hg _ (List.getElem_mem h)
 have HL:Hid (lenFs (lenN m) n.names n.kids l.length<=800000):=hl
 have M:=hidF t
 have aK:n.names.length<=n.kids.length:=by omega
 have aL:n.kids.length<=n.names.length:=by omega
 have N:=hidF V
 unfold maxLen at aF aG
 clear hg hl h3 h4 hle hbk hT h F t V
 obtain⟨q0,q1,q2,q3,q4⟩:=qdM u
 rw[N.out]at q0 q1 q2 q3 q4
 go_enter func95,ntmps95
 go_wp2_with fail
 rw[<- N.out]
 clear q0 q1 q2 q3 q4
 go_loopw [9] (fun i wr=>∃(k:Nat)(X:Value)(l':List UInt8),k<=n.names.length/\i=.int .i64 k/\Wrt B wb bk W wr X l' /\ Hid (lenFs (lenN m) (n.names.drop k) (n.kids.drop k) l'.length=lenFs (lenN m) n.names n.kids l.length)) (fun i _=>n.names.length-(intOf i).toNat)
 case atStart=>exact⟨0,v,l,Nat.zero_le _,rfl,M.out.here,by rw[List.drop_zero,List.drop_zero];exact rfl⟩
 case round=>
  obtain⟨k,X,l',hk,rfl,j,Y⟩:=hrel
  have G:=(j.kept w.heap.size _ u (by simp;omega) (fun c fz e=>by cases e))
  obtain⟨z0,z1,z2,z3,z4⟩:=qdM G
  by_cases hlt:k<n.names.length
  ·obtain⟨b,aH,rfl,aI,A⟩:=I (by intro h;rw[h]at hlt;simp at hlt)
   have e0:=(j.below.cell (p:=⟨b,aH+k,none⟩) aI).trans (A k hlt)
   have H:k<n.kids.length:=by omega
   obtain⟨C,a,rfl,o,r⟩:=J (by intro h;have:=List.length_eq_zero_iff.2 h;omega)
   obtain⟨d0,d1,d2,d3,d4,Z,k1,k2,k3,k4,K⟩:=r k H
   obtain⟨x0,x1,x2,xa,xl,xc,ya,yl,yc,rfl,rfl,rfl,rfl,rfl⟩:=K.shape
   have HS:Hid (lenFs (lenN m) (n.names.drop (k+1)) (n.kids.drop (k+1)) (wk (wk l'.length n.names[k].size) (lenN m n.kids[k]))=lenFs (lenN m) n.names n.kids l.length):=by
    have:=Y.out
    rw[List.drop_eq_getElem_cons hlt,List.drop_eq_getElem_cons H,lenFs]at this
    exact this
   have O:=qxC (lenN m) (n.names.drop (k+1)) (n.kids.drop (k+1)) (wk (wk l'.length n.names[k].size) (lenN m n.kids[k]))
   rw[HS.out]at O
   have hL:=HL.out
   have g1:=wk_le (wk l'.length n.names[k].size) (lenN m n.kids[k])
   have g2:=wk_le l'.length n.names[k].size
   have y:Hid (Calls prog 91 _ wr _):=qgK B wb bk wr X l' n.names[k] j.here (by omega)
   have P:Hid (∀w2 v2 s,Wrt B wb bk wr w2 v2 s->s.length=wk l'.length n.names[k].size->Calls prog 70 #[.pointer (some ⟨wb,0,none⟩),.agg #[.int .i64 x0,.int .i64 x1,.string x2,.slice xa xl xc,.slice ya yl yc]] w2 (WPost B wb bk w2 (wk (wk l'.length n.names[k].size) (lenN m n.kids[k])))):=by
    intro w2 v2 s f q
    have g:=f.from j
    have:=hn B wb bk w2 v2 s n.kids[k] _ _ _ _ _ d f.here (K.keep g.same (fun _ h=>h)) (L.keep (g.below.block bk hbB)) hbB (HG.out k H) (by rw[q];omega) (aA.on g.below)
    rw[q]at this
    exact this
   have HK:Hid (∀w2 v2 s,Wrt B wb bk wr w2 v2 s->(w2.cell? ⟨w.heap.size,4,none⟩=some (.slice (some ⟨C,a,none⟩) n.kids.length kc)/\w2.cell? ⟨C,a+k*5,none⟩=some (.int .i64 x0)/\w2.cell? ⟨C,a+k*5+1,none⟩=some (.int .i64 x1)/\w2.cell? ⟨C,a+k*5+2,none⟩=some (.string x2)/\w2.cell? ⟨C,a+k*5+3,none⟩=some (.slice xa xl xc)/\w2.cell? ⟨C,a+k*5+4,none⟩=some (.slice ya yl yc))):=by
    intro w2 v2 s f
    have g:=f.from j
    have aB:=qdM (g.kept w.heap.size _ u (by simp;omega) (fun c fz e=>by cases e))
    exact⟨aB.2.2.2.2,(g.below.cell (p:=⟨C,a+k*5,none⟩) o).trans Z,(g.below.cell (p:=⟨C,a+k*5+1,none⟩) o).trans k1,(g.below.cell (p:=⟨C,a+k*5+2,none⟩) o).trans k2,(g.below.cell (p:=⟨C,a+k*5+3,none⟩) o).trans k3,(g.below.cell (p:=⟨C,a+k*5+4,none⟩) o).trans k4⟩
   have D:=hidF j
   clear I J A r K G O g1 g2 hL j Z k1 k2 k3 k4 Y
   have aM:(k:Int)<(n.kids.length:Int):=by omega
   generalize n.names[k]=nm at *
   go_wp2_with fail
   refine y.out.mono ?_
   rintro e w2 ⟨rfl,v2,s,f,q⟩
   have Q:=hidF (P.out w2 v2 s f q)
   obtain⟨y4,Z,k1,k2,k3,k4⟩:=HK.out w2 v2 s f
   have R:=hidF f
   clear f y P HK z0 z1 z2 z3 z4 e0
   go_wp2_with fail
   refine Q.out.mono ?_
   rintro e w3 ⟨rfl,v3,l3,U,E⟩
   have aC:=hidF ((U.from R.out).from D.out)
   have aD:Hid (lenFs (lenN m) (n.names.drop (k+1)) (n.kids.drop (k+1)) l3.length=lenFs (lenN m) n.names n.kids l.length):=by show _=_;rw[E];exact HS.out
   clear U Q y4 Z k1 k2 k3 k4 R D HS E q
   go_wp2_with fail
   go_roundw
   case rel=>exact⟨k+1,v3,l3,by omega,by go_num,aC.out,aD⟩
   case measure=>simp[intOf];omega
  ·have S:k=n.names.length:=by omega
   have z:l'.length=lenFs (lenN m) n.names n.kids l.length:=by
    have:=Y.out
    rw[S,List.drop_length]at this
    simpa [lenFs] using this
   have y:Hid (Calls prog 91 _ wr _):=qgK B wb bk wr X l' ⟨#[101,110,100]⟩ j.here (by rw[z];have:=HL.out;show _+3<=_;omega)
   have D:=hidF (j.from M.out)
   have aE:=hidF z
   clear I J G j S z Y z0 z1 z2 z3 z4
   go_wp2_with fail
   refine y.out.mono ?_
   rintro e w2 ⟨rfl,v2,s,f,q⟩
   have HP:Hid (WPost B wb bk w (wk (lenFs (lenN m) n.names n.kids l.length) 3) (.returned (.tuple #[])) w2):=⟨rfl,v2,s,f.from D.out,by rw[q,aE.out];rfl⟩
   clear f q y
   go_wp2_with fail
   refine bodyPost_end (results_none rfl _ _ _) rfl ?_
   exact HP.out
theorem qvF{α:Type}(lk:α->Nat)(n:Nd α):∀(ps:List UInt8)(ns:List ByteArray)(ks:List α)(k:Nat),k<=lenP lk n ps ns ks k:=by
 intro ps
 induction ps with
 | nil=>intro ns ks k;rw[lenP.eq_def];exact Nat.le_refl _
 | cons p ps ih=>
  intro ns ks k
  rw[lenP.eq_def];dsimp only
  split
  ·have:=ih ns ks (wk k (leafL n.sort n.num n.text).length);have:=wk_le k (leafL n.sort n.num n.text).length;omega
  split
  ·have:=ih ns ks (wk k (Lib.itoa n.num).length);have:=wk_le k (Lib.itoa n.num).length;omega
  split
  ·have:=ih ns ks (wk k n.text.size);have:=wk_le k n.text.size;omega
  split
  ·have:=ih ns ks (wk (lenFs lk n.names n.kids k) 3);have:=wk_le (lenFs lk n.names n.kids k) 3;have:=qxC lk n.names n.kids k;omega
  split
  ·cases ns with
   | nil=>exact Nat.le_refl _
   | cons a q=>have:=ih q ks (wk k a.size);have:=wk_le k a.size;show k<=lenP lk n ps q ks (wk k a.size);omega
  ·cases ks with
   | nil=>exact Nat.le_refl _
   | cons x q=>have:=ih ns q (wk k (lk x));have:=wk_le k (lk x);show k<=lenP lk n ps ns q (wk k (lk x));omega
theorem prt_T:∀k,k<44->84∈prt k->k≠24/\preL k=[84]:=by decide
theorem prt_n:∀k,k<44->35∈prt k->k≠24/\(preL k=[35]∨preL k=[78,35]):=by decide
theorem prt_F:∀k,k<44->70∈prt k->k=24:=by decide
theorem xhL:∀k,k<44->0<=lst k/\mst k<=99:=by decide
theorem qlI{α:Type}(po:α->Int)(n:Nd α)(k:Nat)(hk:n.sort=(k:Int))(hj:justB po n=true):k<44/\(84∈prt k->qaO n.sort n.num n.text [] 0=true)/\(35∈prt k->0<=n.num/\n.num<=99)/\(70∈prt k->n.names.length=n.kids.length):=by
 have f:1<=n.sort/\n.sort<=43:=by
  have h:=hj
  unfold justB at h;simp only[Bool.and_eq_true,decide_eq_true_eq]at h;exact h.1
 have b:k<44:=by omega
 have c:n.sort.toNat=k:=by omega
 refine⟨b,fun h=>?_,fun h=>?_,fun h=>?_⟩
 ·obtain⟨e,d⟩:=prt_T k b h
  rw[qfA po n f.1 f.2 (by omega),c,d]at hj
  simp only[preC,Bool.and_eq_true]at hj
  exact hj.1.1
 ·obtain⟨e,d⟩:=prt_n k b h
  rw[qfA po n f.1 f.2 (by omega),c]at hj
  have:=xhL k b
  rcases d with d|d<;>rw[d]at hj<;>simp only[preC,Bool.and_eq_true,decide_eq_true_eq,c]at hj
  ·have:=hj.1.1.1;omega
  ·have:=hj.1.1.1;omega
 ·have e:=prt_F k b h
  rw[qdT po n (by omega)]at hj
  simp only[Bool.and_eq_true]at hj
  have:=hj.1;unfold qeK at this;simp only[Bool.and_eq_true,beq_iff_eq]at this;exact this.1
theorem Wrt.iter{B wb bk ib:Nat}{w0 w:World}{v:Value}{l:List UInt8}{s:ByteArray}{pos:Nat}(h:Wrt B wb bk w0 w v l)(hi:w.heap[ib]?=some (.stringIter s pos))(h0:w0.heap.size<=ib)(hB:B<=w0.heap.size)(pos':Nat):Wrt B wb bk w0 (w.iterAt ib s pos') v l:=by
 have a:wb≠ib:=by
  intro e;have:=h.box;rw[e,hi]at this;cases this
 refine⟨⟨h.own.1,?_⟩,Lib.below_iterAt h.below (by omega) _ _,by rw[Lib.iterAt_size];exact h.le,?_,(Lib.iterAt_other w ib wb _ _ a).trans h.box,h.ge⟩
 ·rcases h.own.2 with j|⟨g,cap,b,m,c,d,n⟩
  ·exact .inl j
  ·refine .inr ⟨g,cap,b,m,c,?_,n⟩
   rw[Lib.iterAt_other w ib g _ _ (fun e=>by rw[e,hi]at d;cases d)]
   exact d
 ·intro k o f p q
  have i:k<w0.heap.size:=(Array.getElem?_eq_some_iff.1 f).1
  rw[Lib.iterAt_other w ib k _ _ (by omega)]
  exact h.kept k o f p q
structure NodAt(m B wb bk:Nat)(W0 wr:World)(n:Nd (T m))(d:Int)(k pos ib L:Nat)(a b v:Value)(l:List UInt8)(ns:List ByteArray)(ks:List (T m)):Prop where
 wrt:Wrt B wb bk W0 wr v l
 iter:wr.heap[ib]?=some (.stringIter (bs (prt k)) pos)
 le:pos<=(prt k).length
 names:StrsIn (fun b=>b<B) W0 ns a
 capn:CapOk a
 kids:RowIn (fun b=>b<B) W0 (NodeIn (fun b=>b<B) W0 m) ks b
 capk:CapOk b
 len:lenP (lenN m) n ((prt k).drop pos) ns ks l.length=L
 fit:fitP (poT m) ((prt k).drop pos) ns ks
 good:ks.all (fun x=>goodN m x d)=true
theorem xeM (m:Nat) (hn:NodeW m) (B wb bk:Nat) (w:World) (v:Value) (l:List UInt8) (n:Nd (T m)) (na ka:Option Addr) (nc kc:Nat) (d:Int) (h:Wrt B wb bk w w v l) (hw0:(Lit.int .i64 n.sort).wf=true) (hw1:(Lit.int .i64 n.num).wf=true) (hx:n.text.size<=maxLen)
  (h3:StrsIn (fun b=>b<B) w n.names (.slice na n.names.length nc)) (hc3:n.names.length<=nc) (h4:RowIn (fun b=>b<B) w (NodeIn (fun b=>b<B) w m) n.kids (.slice ka n.kids.length kc)) (hc4:n.kids.length<=kc) (hbk:Book w bk) (hbB:bk<B)
  (hj:justB (poT m) n=true) (hg:n.kids.all (fun x=>goodN m x d)=true) (hl:wk l.length (lenF (lenN m) n)<=800000) (hT:Tens B w) :
  Calls prog 70 #[.pointer (some ⟨wb,0,none⟩),.agg #[.int .i64 n.sort,.int .i64 n.num,.string n.text,.slice na n.names.length nc,.slice ka n.kids.length kc]] w (WPost B wb bk w (wk l.length (lenF (lenN m) n))):=by
 obtain⟨k,hk⟩:∃k:Nat,n.sort=(k:Int):=⟨n.sort.toNat,by
  have h:=hj
  unfold justB at h;simp only[Bool.and_eq_true,decide_eq_true_eq]at h;omega⟩
 obtain⟨aE,bB,bC,bD⟩:=qlI (poT m) n k hk hj
 have aF:n.sort.toNat=k:=by omega
 obtain⟨aS,aT⟩:=xfQ (poT m) (lenN m) n hj l.length
 rw[aF]at aS aT
 obtain⟨W1,aH⟩:∃W1,W1=w.alloc (.cells #[.int .i64 n.sort,.int .i64 n.num,.string n.text,.slice na n.names.length nc,.slice ka n.kids.length kc] 25):=⟨_,rfl⟩
 obtain⟨W2,aI⟩:∃W2,W2=(W1.alloc (.cells #[.string (wrd k),.string (bs (prt k)),.int .i64 (lst k),.int .i64 (mst k)] 98)).drew:=⟨_,rfl⟩
 have aY:Wrt B wb bk w W1 v l:=by rw[aH];exact h.alloc _
 have aZ:Wrt B wb bk w W2 v l:=by rw[aI];exact (aY.alloc _).drew
 have cY:=h.lt
 have dB:=h.le
 have bE:W1.heap.size=w.heap.size+1:=by rw[aH];simp
 have cG:W2.heap.size=w.heap.size+2:=by rw[aI];show (W1.heap.push _).size=_;simp;exact bE
 have aK:W1.heap[w.heap.size]?=some (.cells #[.int .i64 n.sort,.int .i64 n.num,.string n.text,.slice na n.names.length nc,.slice ka n.kids.length kc] 25 (0,0)):=by rw[aH];exact heap_alloc_last _ _
 have aL:W2.heap[w.heap.size]?=some (.cells #[.int .i64 n.sort,.int .i64 n.num,.string n.text,.slice na n.names.length nc,.slice ka n.kids.length kc] 25 (0,0)):=by
  rw[aI];exact (Below.heap_alloc _ _ _ (by show w.heap.size<W1.heap.size;omega)).trans aK
 have Y:W2.heap[w.heap.size+1]?=some (.cells #[.string (wrd k),.string (bs (prt k)),.int .i64 (lst k),.int .i64 (mst k)] 98 (0,0)):=by
  rw[aI,<- bE];exact heap_alloc_last W1 _
 obtain⟨b0,b1,b2,b3⟩:=hbk k aE
 have cZ:=hbk.lt
 obtain⟨r0,-,-⟩:=h.cells
 have y0:W2.cell? ⟨w.heap.size+1,0,none⟩=some (.string (wrd k)):=by simp[World.cell?,Y]
 rw[hk]at aH
 have cH:=hidF aH
 have cI:=hidF aI
 have aX:=hidF aZ
 have cJ:=hidF aS
 have cK:=hidF aT
 have dC:Hid (NodeW m):=hn
 have cL:Hid (∀ (wr:World) (R:Value) (l':List UInt8),Wrt B wb bk w wr R l'->70∈prt k->lenFs (lenN m) n.names n.kids l'.length<=800000 ->
   Calls prog 95 #[.pointer (some ⟨wb,0,none⟩),.agg #[.int .i64 (k:Int),.int .i64 n.num,.string n.text,.slice na n.names.length nc,.slice ka n.kids.length kc]] wr (WPost B wb bk wr (wk (lenFs (lenN m) n.names n.kids l'.length) 3))):=by
  intro wr R l' K hF bL
  have:=qzL m hn B wb bk wr R l' n na ka nc kc d K.here (h3.keep K.same (fun _ h=>h)) (h4.keepN K.same (fun _ h=>h)) (bD hF) (hbk.keep (K.below.block bk hbB)) hbB hg bL (hT.on K.below)
  rw[hk]at this
  exact this
 have HK:Hid (∀ (wr:World) (R:Value) (l':List UInt8) (t:T m) (c0 c1 c2 c3 c4:Value),Wrt B wb bk w wr R l'->NodeIn (fun b=>b<B) wr m t c0 c1 c2 c3 c4->goodN m t d=true->wk l'.length (lenN m t)<=800000 ->
   Calls prog 70 #[.pointer (some ⟨wb,0,none⟩),.agg #[c0,c1,c2,c3,c4]] wr (WPost B wb bk wr (wk l'.length (lenN m t)))):=by
  intro wr R l' t c0 c1 c2 c3 c4 K aJ aG bL
  exact hn B wb bk wr R l' t _ _ _ _ _ d K.here aJ (hbk.keep (K.below.block bk hbB)) hbB aG bL (hT.on K.below)
 have cM:Hid (∀(wr:World)(R:Value)(l':List UInt8),Wrt B wb bk w wr R l'->84∈prt k->Calls prog 92 #[.agg #[.int .i64 (k:Int),.int .i64 n.num,.string n.text,.slice none 0 0,.slice none 0 0]] wr fun e w'=>e=.returned (.string (bs (leafL n.sort n.num n.text)))/\Below wr.heap.size wr w'):=by
  intro wr R l' K bY
  have cN:TensIn wr:=fun w2 h2=>(hT.on K.below) w2 (h2.mono K.le)
  have:=qqS 1 (fun _=>False) (leafT n.sort n.num n.text) _ _ _ _ _ wr (qwQ _ wr n.sort n.num n.text hw0 hw1 hx) (fun _ h=>h.elim) cN
  have e:textF 1 (leafT n.sort n.num n.text)=bs (leafL n.sort n.num n.text):=by
   unfold textF;rw[if_pos (by rw[xiZ];exact bB bY)];rfl
  rw[e,hk]at this
  rw[hk]
  exact this
 have cO:Hid (∀w,Calls prog 93 #[.agg #[.int .i64 (k:Int),.int .i64 n.num,.string n.text,.slice na n.names.length nc,.slice ka n.kids.length kc]] w _):=fun w=>qnL k n.num n.text na ka n.names.length n.kids.length nc kc w
 have cP:Hid (35∈prt k->∀w,Calls prog 94 #[.int .i64 n.num] w fun e w'=>e=.returned (.string (bs (Lib.itoa n.num)))/\w'=w):=by
  intro hN w
  obtain⟨h0,dF⟩:=bC hN
  have:=Tryz.strconv_Itoa_small n.num.toNat (by omega) w
  rw[show ((n.num.toNat:Nat):Int)=n.num by omega]at this
  have e:Lib.itoa n.num=Lib.decDigits n.num.toNat:=by unfold Lib.itoa;rw[if_neg (by omega)]
  rw[e]
  exact this
 have cQ:Hid (StrsIn (fun b=>b<B) w n.names (.slice na n.names.length nc)/\RowIn (fun b=>b<B) w (NodeIn (fun b=>b<B) w m) n.kids (.slice ka n.kids.length kc)/\n.names.length<=nc/\n.kids.length<=kc/\n.kids.all (fun x=>goodN m x d)=true):=⟨h3,h4,hc3,hc4,hg⟩
 rw[hk]
 have cR:=hidF hk
 have bP:Hid (wk l.length (lenF (lenN m) n)<=800000):=hl
 have cS:Hid ((k<5->(wrd k).size=0)/\(5<=k->1<=(wrd k).size/\(wrd k).size<=6)):=qkZ k aE
 clear h3 h4 hbk hn hT hj hg bB bC bD aS aT aY aZ aH aI hc3 hc4 aF hl hw0 hw1 hx hk
 have aM:=hidF aL
 have aN:=hidF Y
 have bA:w.heap.size+2<=W2.heap.size:=by omega
 clear aK aL Y
 go_enter func70,ntmps70
 go_wp2_with fail
 go_region
 rw[<- cH.out,<- cI.out]
 clear b0 b1 b2 b3 r0 bE
 go_upto_if 21 with fail
 go_cut [] from 9 to 25 (fun wx=>∃v3 l3,Wrt B wb bk w wx v3 l3/\l3.length=wk0 k l.length/\wx.heap[w.heap.size]?=some (.cells #[.int .i64 n.sort,.int .i64 n.num,.string n.text,.slice na n.names.length nc,.slice ka n.kids.length kc] 25 (0,0))/\wx.heap[w.heap.size+1]?=some (.cells #[.string (wrd k),.string (bs (prt k)),.int .i64 (lst k),.int .i64 (mst k)] 98 (0,0))/\w.heap.size+2<=wx.heap.size)
 case first=>
  have U:Hid ((!(wrd k).toList.isEmpty)=true↔(wrd k).size≠0):=by
   show _↔_
   rw[ByteArray.toList_eq]
   have h2:(wrd k).data.toList.length=(wrd k).size:=by simp
   rw[<- h2]
   cases (wrd k).data.toList<;>simp
  have cT:(wrd k).size<=6:=by
   have:=cS.out
   by_cases h5:k<5
   ·have:=this.1 h5;omega
   ·exact (this.2 (by omega)).2
  have bQ:=hidF (qgK B wb bk W2 v l (wrd k) aX.out.here (by have:=bP.out;have:=wk_le l.length (lenF (lenN m) n);omega))
  clear cT
  go_wp2_with fail
  ·have h0:=U.out.1 (by assumption)
   refine bQ.out.mono ?_
   rintro e W3 ⟨rfl,v3,l3,bZ,aU⟩
   have HR:=hidF bZ
   have bF:Hid (l3.length=wk0 k l.length):=by show _=_;unfold wk0;rw[if_neg h0];exact aU
   clear bZ aU bQ
   go_wp2_with fail
   go_meet
   have hr:=HR.out.kept (w.heap.size+1) _ aN.out (by simp;omega) (fun c fz e=>by cases e)
   exact⟨v3,l3,HR.out.from aX.out,bF.out,HR.out.kept w.heap.size _ aM.out (by simp;omega) (fun c fz e=>by cases e),hr,(Array.getElem?_eq_some_iff.1 hr).1⟩
  ·have hw:(!(wrd k).toList.isEmpty)=false:=by assumption
   have h0:(wrd k).size=0:=Decidable.of_not_not fun h=>by rw[U.out.2 h]at hw;cases hw
   go_meet
   exact⟨v,l,aX.out,by unfold wk0;rw[if_pos h0],aM.out,aN.out,bA⟩
 case rest=>
  obtain⟨v3,l3,cA,aU,cB,cC,cD⟩:=hcut
  have bG:=hidF cA
  have bF:=hidF aU
  have bR:=hidF cB
  have cU:=hidF cC
  have cV:=hidF cD
  clear cA aU cB cC cD y0 aM aN cG bA aX
  have X:=bG.out
  have cW:B<=wc.heap.size:=X.le
  have dD:w.heap.size+2<=wc.heap.size:=cV.out
  obtain⟨p0,p1,p2,p3,p4⟩:=qdM bR.out
  have p5:wc.cell? ⟨w.heap.size+1,1,none⟩=some (.string (bs (prt k))):=by simp[World.cell?,cU.out]
  have HJ:Hid (∀j,NodAt m B wb bk wc ((wc.drewN j).iter (bs (prt k)) 0) n d k 0 wc.heap.size (wk l.length (lenF (lenN m) n)) (.slice na n.names.length nc) (.slice ka n.kids.length kc) v3 l3 n.names n.kids):=by
   intro j
   obtain⟨g3,g4,g5,g6,g7⟩:=cQ.out
   refine⟨?_,World.iter_heap (wc.drewN j) _ _,Nat.zero_le _,g3.keep X.same (fun _ h=>h),⟨_,_,_,rfl,g5⟩,g4.keepN X.same (fun _ h=>h),⟨_,_,_,rfl,g6⟩,?_,?_,g7⟩
   ·have h0:Wrt B wb bk wc (wc.drewN j) v3 l3:=⟨X.own,⟨rfl,rfl,rfl,Nat.le_refl _,fun _ _=>rfl⟩,X.le,fun _ _ h _ _=>h,X.box,X.ge⟩
    exact h0.alloc _
   ·have h0:=cJ.out
    rw[<- bF.out]at h0
    rw[List.drop_zero];exact h0
   ·rw[List.drop_zero];exact cK.out
  clear X
  go_wp2_with fail
  go_quiet (fail)
  go_wp2_with fail
  go_loopw [5,6] (fun a b wr=>∃pos R l' ns ks,NodAt m B wb bk wc wr n d k pos wc.heap.size (wk l.length (lenF (lenN m) n)) a b R l' ns ks) (fun _ _ wr=>(prt k).length-wr.iterPos wc.heap.size)
  case atStart=>exact⟨0,_,_,_,_,HJ.out _⟩
  case round=>
   obtain⟨pos,R,l',ns,ks,hj⟩:=hrel
   have dE:=hj.le
   have Z:=hj.iter
   by_cases hp:pos<(prt k).length
   ·have i:=fun ty=>Lib.run_next_ascii_at (P:=prog) wr wc.heap.size (bs (prt k)) pos ty Z (by rw[qaL];exact hp) (by rw[qkQ];exact qmK k aE _ (List.getElem_mem hp))
    rw[qkQ]at i
    obtain⟨V,hV⟩:∃V,V=wr.iterAt wc.heap.size (bs (prt k)) (pos+1):=⟨_,rfl⟩
    rw[<- hV]at i
    have aO:Wrt B wb bk wc V R l':=by rw[hV];exact hj.wrt.iter Z (Nat.le_refl _) cW _
    have bS:V.heap[wc.heap.size]?=some (.stringIter (bs (prt k)) (pos+1)):=by rw[hV];exact Lib.iterAt_heap _ _ _ _ _ Z
    have bT:=aO.kept w.heap.size _ bR.out (by simp;omega) (fun c fz e=>by cases e)
    obtain⟨z0,z1,z2,z3,z4⟩:=qdM bT
    rw[cR.out]at z0
    have aA:=List.drop_eq_getElem_cons hp
    have E:=List.getElem_mem hp
    have f:=hj.len
    rw[aA]at f
    have g:=hj.fit
    rw[aA]at g
    obtain⟨xa,xl,xc,rfl,cE⟩:=hj.capn
    obtain⟨ya,yl,yc,rfl,cF⟩:=hj.capk
    have HI:Hid (wr.iterPos wc.heap.size=pos):=iterPos_of Z
    have L:=hidF aO
    have bH:=hidF (aO.from bG.out)
    have o:=hidF hj
    have dA:wk l.length (lenF (lenN m) n)<=800000:=bP.out
    have J:Hid (∀(G:World)(I:Value)(H:List UInt8),Wrt B wb bk V G I H->Wrt B wb bk wc G I H/\G.heap[wc.heap.size]?=some (.stringIter (bs (prt k)) (pos+1))/\G.iterPos wc.heap.size=pos+1):=by
     intro G I H h6
     have bU:=h6.kept wc.heap.size _ bS (by simp;omega) (fun c fz e=>by cases e)
     exact⟨h6.from aO,bU,iterPos_of bU⟩
    have S:=fun q=>qvF (lenN m) n ((prt k).drop (pos+1)) ns ks q
    clear hj Z hV aO bS bT aA
    rcases xdE k aE _ E with W|W|W|W|W|W|W|W
    ·rw[W]at f g i E
     have F:∀ty,(Instr.next (.pointer (some ⟨wc.heap.size,0,none⟩)) true ty).run prog wr=.ok (.tuple #[.bool true,.int .i64 (pos:Int),.int .i32 84]) V:=i
     rw[lp_T]at f
     rw[fp_O _ (.inl rfl)]at g
     have s:=S (wk l'.length (leafL n.sort n.num n.text).length)
     rw[f]at s
     have M:=wk_le l'.length (leafL n.sort n.num n.text).length
     have u:=hidF f
     have r:=hidF g
     have cX:l'.length+1+(bs (leafL n.sort n.num n.text)).size<=900000:=by rw[qaL];omega
     clear f g i S s M W
     go_wp2_with fail
     refine (cO.out _).mono ?_
     rintro e w4 ⟨rfl,bM⟩
     have aP:=hidF (cM.out w4 R l' (bH.out.on bM) E)
     have bI:=hidF (L.out.here.on bM)
     clear bM
     go_wp2_with fail
     refine aP.out.mono ?_
     rintro e w5 ⟨rfl,bN⟩
     have bV:=hidF (bI.out.on bN)
     have y:=hidF (qgK B wb bk w5 R l' _ (bI.out.on bN).here cX)
     clear bN aP bI
     go_wp2_with fail
     refine y.out.mono ?_
     rintro e G ⟨rfl,I,H,C,D⟩
     have z:=hidF (C.from bV.out)
     have A:Hid (H.length=wk l'.length (leafL n.sort n.num n.text).length):=by show _=_;rw[D,qaL]
     clear C D y bV
     have U:Hid (NodAt m B wb bk wc G n d k (pos+1) wc.heap.size (wk l.length (lenF (lenN m) n)) (.slice xa xl xc) (.slice ya yl yc) I H ns ks/\G.iterPos wc.heap.size=pos+1):=by
      obtain⟨g1,g2,g3⟩:=J.out G I H z.out
      exact⟨⟨g1,g2,hp,o.out.names,o.out.capn,o.out.kids,o.out.capk,by rw[A.out];exact u.out,r.out,o.out.good⟩,g3⟩
     clear z A u r J F z0 z1 z2 z3 z4
     go_wp2_with fail
     go_roundw
     case rel=>exact⟨pos+1,I,H,_,_,U.out.1⟩
     case measure=>rw[U.out.2,HI.out];omega
    ·rw[W]at f g i E
     have F:∀ty,(Instr.next (.pointer (some ⟨wc.heap.size,0,none⟩)) true ty).run prog wr=.ok (.tuple #[.bool true,.int .i64 (pos:Int),.int .i32 75]) V:=i
     rw[lp_K]at f
     rw[fp_O _ (.inr (.inr (.inl rfl)))]at g
     have s:=S (wk l'.length n.text.size)
     rw[f]at s
     have M:=wk_le l'.length n.text.size
     have u:=hidF f
     have r:=hidF g
     have y:=hidF (qgK B wb bk V R l' n.text L.out.here (by omega))
     clear f g i S s M W
     go_wp2_with fail
     refine y.out.mono ?_
     rintro e G ⟨rfl,I,H,C,D⟩
     have z:=hidF C
     have A:=hidF D
     clear C D y
     have U:Hid (NodAt m B wb bk wc G n d k (pos+1) wc.heap.size (wk l.length (lenF (lenN m) n)) (.slice xa xl xc) (.slice ya yl yc) I H ns ks/\G.iterPos wc.heap.size=pos+1):=by
      obtain⟨g1,g2,g3⟩:=J.out G I H z.out
      exact⟨⟨g1,g2,hp,o.out.names,o.out.capn,o.out.kids,o.out.capk,by rw[A.out];exact u.out,r.out,o.out.good⟩,g3⟩
     clear z A u r J F z0 z1 z2 z3 z4
     go_wp2_with fail
     go_roundw
     case rel=>exact⟨pos+1,I,H,_,_,U.out.1⟩
     case measure=>rw[U.out.2,HI.out];omega
    ·rw[W]at f g i E
     have F:∀ty,(Instr.next (.pointer (some ⟨wc.heap.size,0,none⟩)) true ty).run prog wr=.ok (.tuple #[.bool true,.int .i64 (pos:Int),.int .i32 70]) V:=i
     rw[lp_F]at f
     rw[fp_O _ (.inr (.inr (.inr rfl)))]at g
     have s:=S (wk (lenFs (lenN m) n.names n.kids l'.length) 3)
     rw[f]at s
     have M:=wk_le (lenFs (lenN m) n.names n.kids l'.length) 3
     have u:=hidF f
     have r:=hidF g
     have y:=hidF (cL.out V R l' bH.out E (by omega))
     clear f g i S s M W
     go_wp2_with fail
     refine y.out.mono ?_
     rintro e G ⟨rfl,I,H,C,D⟩
     have z:=hidF C
     have A:=hidF D
     clear C D y
     have U:Hid (NodAt m B wb bk wc G n d k (pos+1) wc.heap.size (wk l.length (lenF (lenN m) n)) (.slice xa xl xc) (.slice ya yl yc) I H ns ks/\G.iterPos wc.heap.size=pos+1):=by
      obtain⟨g1,g2,g3⟩:=J.out G I H z.out
      exact⟨⟨g1,g2,hp,o.out.names,o.out.capn,o.out.kids,o.out.capk,by rw[A.out];exact u.out,r.out,o.out.good⟩,g3⟩
     clear z A u r J F z0 z1 z2 z3 z4
     go_wp2_with fail
     go_roundw
     case rel=>exact⟨pos+1,I,H,_,_,U.out.1⟩
     case measure=>rw[U.out.2,HI.out];omega
    ·rw[W]at f g i E
     have F:∀ty,(Instr.next (.pointer (some ⟨wc.heap.size,0,none⟩)) true ty).run prog wr=.ok (.tuple #[.bool true,.int .i64 (pos:Int),.int .i32 35]) V:=i
     rw[lp_n]at f
     rw[fp_O _ (.inr (.inl rfl))]at g
     have s:=S (wk l'.length (Lib.itoa n.num).length)
     rw[f]at s
     have M:=wk_le l'.length (Lib.itoa n.num).length
     have u:=hidF f
     have r:=hidF g
     have aP:=hidF (cP.out E V)
     have y:=hidF (qgK B wb bk V R l' (bs (Lib.itoa n.num)) L.out.here (by rw[qaL];omega))
     clear f g i S s M W
     go_wp2_with fail
     refine aP.out.mono ?_
     rintro e w5 ⟨rfl,rfl⟩
     go_wp2_with fail
     refine y.out.mono ?_
     rintro e G ⟨rfl,I,H,C,D⟩
     have z:=hidF C
     have A:Hid (H.length=wk l'.length (Lib.itoa n.num).length):=by show _=_;rw[D,qaL]
     clear C D y aP
     have U:Hid (NodAt m B wb bk wc G n d k (pos+1) wc.heap.size (wk l.length (lenF (lenN m) n)) (.slice xa xl xc) (.slice ya yl yc) I H ns ks/\G.iterPos wc.heap.size=pos+1):=by
      obtain⟨g1,g2,g3⟩:=J.out G I H z.out
      exact⟨⟨g1,g2,hp,o.out.names,o.out.capn,o.out.kids,o.out.capk,by rw[A.out];exact u.out,r.out,o.out.good⟩,g3⟩
     clear z A u r J F z0 z1 z2 z3 z4
     go_wp2_with fail
     go_roundw
     case rel=>exact⟨pos+1,I,H,_,_,U.out.1⟩
     case measure=>rw[U.out.2,HI.out];omega
    iterate 2
     ·rw[W]at f g i E
      first
       | have F:∀ty,(Instr.next (.pointer (some ⟨wc.heap.size,0,none⟩)) true ty).run prog wr=.ok (.tuple #[.bool true,.int .i64 (pos:Int),.int .i32 78]) V:=i
       | have F:∀ty,(Instr.next (.pointer (some ⟨wc.heap.size,0,none⟩)) true ty).run prog wr=.ok (.tuple #[.bool true,.int .i64 (pos:Int),.int .i32 88]) V:=i
      obtain⟨nm,nq,rfl,aV⟩:=fp_N _ (by first|exact .inl rfl|exact .inr rfl) _ _ _ g
      first
       | rw[lp_N _ _ (.inl rfl)]at f
       | rw[lp_N _ _ (.inr rfl)]at f
      have s:=qvF (lenN m) n ((prt k).drop (pos+1)) nq ks (wk l'.length nm.size)
      rw[f]at s
      have M:=wk_le l'.length nm.size
      obtain⟨_,_,hv,bO,-,aW⟩:=id o.out.names
      cases hv
      obtain⟨b,O,rfl,aC,Q⟩:=aW (by simp)
      have e0:=Q 0 (by simp)
      have e1:=(L.out.below.cell (p:=⟨b,O,none⟩) aC).trans e0
      simp only[List.getElem_cons_zero]at e1
      have bJ:1<=(nm :: nq).length:=by simp
      have aB:=o.out.names.tail cE
      clear aW Q e0
      generalize aF:(nm :: nq).length=kn at *
      have bK:=qoL (P:=prog) 22 1 underlying22 (fun _=>by simp[go_sem]) (some ⟨b,O,none⟩) kn xc bJ
      obtain⟨ta,tn,tc,aD⟩:∃ta tn tc,sliced (some ⟨b,O,none⟩) 1 kn xc 1=.slice ta tn tc:=⟨_,_,_,rfl⟩
      have N:CapOk (.slice ta tn tc):=by
       rw[<- aD];exact⟨_,_,_,rfl,by omega⟩
      rw[aD]at bK aB
      have u:=hidF f
      have r:=hidF aV
      have aQ:=hidF aB
      have aR:=hidF N
      have y:=hidF (qgK B wb bk V R l' nm L.out.here (by omega))
      have bW:(1:Int)<=(kn:Int):=by omega
      unfold maxLen at bO
      clear f g i S s M W aB N aD aV aF
      go_wp2_with fail
      refine y.out.mono ?_
      rintro e G ⟨rfl,I,H,C,D⟩
      have z:=hidF C
      have A:=hidF D
      clear C D y
      have U:Hid (NodAt m B wb bk wc G n d k (pos+1) wc.heap.size (wk l.length (lenF (lenN m) n)) (.slice ta tn tc) (.slice ya yl yc) I H nq ks/\G.iterPos wc.heap.size=pos+1):=by
       obtain⟨g1,g2,g3⟩:=J.out G I H z.out
       exact⟨⟨g1,g2,hp,aQ.out,aR.out,o.out.kids,o.out.capk,by rw[A.out];exact u.out,r.out,o.out.good⟩,g3⟩
      clear z A u r J F z0 z1 z2 z3 z4 aQ aR e1
      go_wp2_with fail
      go_roundw
      case rel=>exact⟨pos+1,I,H,_,_,U.out.1⟩
      case measure=>rw[U.out.2,HI.out];omega
    iterate 2
     ·rw[W]at f g i E
      first
       | have F:∀ty,(Instr.next (.pointer (some ⟨wc.heap.size,0,none⟩)) true ty).run prog wr=.ok (.tuple #[.bool true,.int .i64 (pos:Int),.int .i32 86]) V:=i
       | have F:∀ty,(Instr.next (.pointer (some ⟨wc.heap.size,0,none⟩)) true ty).run prog wr=.ok (.tuple #[.bool true,.int .i64 (pos:Int),.int .i32 65]) V:=i
      obtain⟨kx,kq,rfl,-,aV⟩:=fp_V _ (by first|exact .inl rfl|exact .inr rfl) _ _ _ g
      first
       | rw[lp_V _ _ (.inl rfl)]at f
       | rw[lp_V _ _ (.inr rfl)]at f
      have s:=qvF (lenN m) n ((prt k).drop (pos+1)) ns kq (wk l'.length (lenN m kx))
      rw[f]at s
      have M:=wk_le l'.length (lenN m kx)
      have aG:=o.out.good
      simp only[List.all_cons,Bool.and_eq_true]at aG
      obtain⟨_,_,hv,bO,aW⟩:=id o.out.kids
      cases hv
      obtain⟨b,O,rfl,aC,Q⟩:=aW (by simp)
      obtain⟨d0,d1,d2,d3,d4,k0,k1,k2,k3,k4,aJ⟩:=Q 0 (by simp)
      obtain⟨x0,x1,x2,dG,dH,dI,dJ,dK,dL,rfl,rfl,rfl,rfl,rfl⟩:=aJ.shape
      simp only[Nat.zero_mul,Nat.add_zero,List.getElem_cons_zero]at k0 k1 k2 k3 k4 aJ
      have o0:=(L.out.below.cell (p:=⟨b,O,none⟩) aC).trans k0
      have o1:=(L.out.below.cell (p:=⟨b,O+1,none⟩) aC).trans k1
      have o2:=(L.out.below.cell (p:=⟨b,O+2,none⟩) aC).trans k2
      have o3:=(L.out.below.cell (p:=⟨b,O+3,none⟩) aC).trans k3
      have o4:=(L.out.below.cell (p:=⟨b,O+4,none⟩) aC).trans k4
      have y:=hidF (HK.out V R l' kx _ _ _ _ _ bH.out (aJ.keep L.out.same (fun _ h=>h)) aG.1 (by omega))
      have bJ:1<=(kx :: kq).length:=by simp
      have aB:=o.out.kids.tail cF
      clear Q aW k0 k1 k2 k3 k4 aJ
      generalize aF:(kx :: kq).length=kn at *
      have bK:=qoL (P:=prog) 23 5 underlying23 (fun _=>by simp[go_sem]) (some ⟨b,O,none⟩) kn yc bJ
      obtain⟨ta,tn,tc,aD⟩:∃ta tn tc,sliced (some ⟨b,O,none⟩) 1 kn yc 5=.slice ta tn tc:=⟨_,_,_,rfl⟩
      have N:CapOk (.slice ta tn tc):=by
       rw[<- aD];exact⟨_,_,_,rfl,by omega⟩
      rw[aD]at bK aB
      have u:=hidF f
      have r:=hidF aV
      have aQ:=hidF aB
      have aR:=hidF N
      have bX:=hidF aG.2
      have bW:(1:Int)<=(kn:Int):=by omega
      unfold maxLen at bO
      clear f g i S s M W aB N aD aV aF aG
      go_wp2_with fail
      refine y.out.mono ?_
      rintro e G ⟨rfl,I,H,C,D⟩
      have z:=hidF C
      have A:=hidF D
      clear C D y
      have U:Hid (NodAt m B wb bk wc G n d k (pos+1) wc.heap.size (wk l.length (lenF (lenN m) n)) (.slice xa xl xc) (.slice ta tn tc) I H ns kq/\G.iterPos wc.heap.size=pos+1):=by
       obtain⟨g1,g2,g3⟩:=J.out G I H z.out
       exact⟨⟨g1,g2,hp,o.out.names,o.out.capn,aQ.out,aR.out,by rw[A.out];exact u.out,r.out,bX.out⟩,g3⟩
      clear z A u r J F z0 z1 z2 z3 z4 aQ aR bX o0 o1 o2 o3 o4
      go_wp2_with fail
      go_roundw
      case rel=>exact⟨pos+1,I,H,_,_,U.out.1⟩
      case measure=>rw[U.out.2,HI.out];omega
   ·have F:=fun ty=>Lib.run_next_end_at (P:=prog) wr wc.heap.size (bs (prt k)) pos ty Z (by rw[qaL];exact hp)
    have f:=hj.len
    rw[List.drop_of_length_le (by omega),lenP]at f
    have HP:Hid (WPost B wb bk w (wk l.length (lenF (lenN m) n)) (.returned (.tuple #[])) wr):=⟨rfl,R,l',hj.wrt.from bG.out,f⟩
    obtain⟨xa,xl,xc,rfl,cE⟩:=hj.capn
    obtain⟨ya,yl,yc,rfl,cF⟩:=hj.capk
    clear hj Z f
    go_wp2_with fail
    refine bodyPost_end (results_none rfl _ _ _) rfl ?_
    exact HP.out
theorem xeN:∀m,NodeW m:=by
 intro m
 induction m with
 | zero=>intro B n o w v l t c0 c1 c2 c3 c4 d h a;exact a.elim
 | succ m ih=>
  intro B n o w v l t c0 c1 c2 c3 c4 d h a b c e r s
  obtain⟨rfl,rfl,rfl,u,f,g,p,q,⟨na,nl,x,rfl,i⟩,⟨y,kl,z,rfl,j⟩⟩:=a
  obtain⟨_,_,k,-⟩:=id p
  cases k
  obtain⟨_,_,k,-⟩:=id q
  cases k
  simp only[goodN,Bool.and_eq_true]at e
  exact xeM m ih B n o w v l (show Nd (T m) from t) na y x z (d+1) h f g u p i q j b c e.1.2 e.2 r s
theorem qxD{α:Type}(n:Nd α)(k:Nat)(h5:5<=k)(h:preC n (preL k)=true)(hk:k<44)(h24:k≠24):szN n.names+(if n.text.size=0 then 0 else n.text.size+1)<=850:=by
 have nm:∀a,nameB a=true->a.size<=8:=fun a ha=>by
  simp only[nameB,Bool.and_eq_true,decide_eq_true_eq]at ha;exact ha.1.1.2
 have d:∀a,freeB a=true->a.size<=8:=fun a ha=>nm a (by
  simp only[freeB,Bool.and_eq_true]at ha;exact ha.1.1.1.1)
 rcases (qeA k hk).resolve_left h24 with e|e|e|e|e|e|e|e
 ·rw[e]at h
  simp only[preC,Bool.and_eq_true,beq_iff_eq]at h
  have c:n.names=[]:=List.eq_nil_of_length_eq_zero (by omega)
  rw[if_pos (qaG _ h.1.2),c];simp[szN]
 ·exact absurd e (qvY k hk h5)
 ·rw[e]at h
  simp only[preC,Bool.and_eq_true,beq_iff_eq]at h
  have c:n.names=[]:=List.eq_nil_of_length_eq_zero (by omega)
  have g:n.text.size<=800:=by
   have:=h.1.2
   unfold kindB at this
   obtain⟨q,f⟩:=Option.isSome_iff_exists.1 this
   exact (qhE f).1
  rw[c];simp only[szN];split<;>omega
 ·rw[e]at h
  simp only[preC,Bool.and_eq_true,beq_iff_eq]at h
  have c:n.names=[]:=List.eq_nil_of_length_eq_zero (by omega)
  rw[if_pos (qaG _ h.1.2),c];simp[szN]
 ·rw[e]at h
  simp only[preC,Bool.and_eq_true]at h
  rw[if_pos (qaG _ h.1.2)]
  match c:n.names,h.2 with
  | [a],h2=>have:=d a h2;simp only[szN];omega
 ·rw[e]at h
  simp only[preC,Bool.and_eq_true]at h
  rw[if_pos (qaG _ h.1.2)]
  match c:n.names,h.2 with
  | [a],h2=>have:=nm a h2;simp only[szN];omega
 ·rw[e]at h
  simp only[preC,Bool.and_eq_true]at h
  rw[if_pos (qaG _ h.1.2)]
  match c:n.names,h.2 with
  | [a,b],h2=>
   simp only[Bool.and_eq_true]at h2
   have:=d a h2.1.1;have:=d b h2.1.2;simp only[szN];omega
 ·rw[e]at h
  simp only[preC,Bool.and_eq_true]at h
  rw[if_pos (qaG _ h.1.2)]
  match c:n.names,h.2 with
  | [a],h2=>have:=nm a h2;simp only[szN];omega
theorem qoZ{α:Type}(po:α->Int)(n:Nd α)(h:qeK po n=true):szN n.names<=9*n.kids.length:=by
 unfold qeK at h
 simp only[Bool.and_eq_true,beq_iff_eq]at h
 have b:=h.2
 rw[<- h.1]
 unfold qdD at b
 rw[List.all_eq_true]at b
 have d:∀(l:List ByteArray),(∀s,s∈l->s.size<=8)->szN l<=9*l.length:=by
  intro l
  induction l with
  | nil=>intro _;simp[szN]
  | cons a r ih=>
   intro c
   have g:=c a (List.mem_cons_self ..)
   have b:=ih (fun s hs2=>c s (List.mem_cons_of_mem _ hs2))
   simp only[szN,List.length_cons];omega
 refine d _ fun s c=>?_
 obtain⟨i,f,rfl⟩:=List.getElem_of_mem c
 have:=b i (List.mem_range.2 f)
 simp only[Bool.and_eq_true,qcM,qdQ]at this
 have e:=this.1.1.1
 simp only[nameB,Bool.and_eq_true,decide_eq_true_eq,List.getD_eq_getElem?_getD,List.getElem?_eq_getElem f,Option.getD_some]at e
 exact e.1.1.2
theorem qxE(s m:Int)(x:ByteArray)(h:qaO s m x [] 0=true):(leafL s m x).length<=800:=by
 have a:goodT 1 (leafT s m x) 1=true:=by
  show (decide ((1:Int)<=6) && qaO s m x [] 0 && List.all ([]:List (T 0)) _)=_
  rw[h];rfl
 have:=qhC 1 (leafT s m x) 1 a
 have b:cntT 1 (leafT s m x)=1:=rfl
 rw[b]at this
 unfold leafL
 omega
theorem xhM:∀n:Int,0<=n->n<=99->(Lib.itoa n).length<=20:=by
 intro n b c
 unfold Lib.itoa
 rw[if_neg (by omega)]
 have a:n.toNat<100:=by omega
 generalize n.toNat=k at a
 rw[Lib.decDigits]
 split
 ·simp
 ·rw[Lib.decDigits]
  split
  ·simp
  ·omega
theorem qvG:∀(m:Nat)(t:T m)(d:Int),goodN m t d=true->lenN m t+100<=1000*cntT m t:=by
 intro m
 induction m with
 | zero=>intro t d h;simp[goodN]at h
 | succ m ih=>
  intro t d h
  simp only[goodN,Bool.and_eq_true,List.all_eq_true]at h
  obtain⟨⟨-,C⟩,D⟩:=h
  obtain⟨n,j⟩:∃n:Nd (T m),n=t:=⟨t,rfl⟩
  have w:cntT (m+1) t=1+sumL (fun k=>cntT m k) n.kids:=by rw[j];rfl
  have y:lenN (m+1) t=lenF (lenN m) n:=by rw[j];rfl
  have o:∀x,x∈n.kids->goodN m x (d+1)=true:=by rw[j];exact D
  have b:justB (poT m) n=true:=by rw[j];exact C
  rw[w,y]
  have u:sumL (fun x=>lenN m x+100) n.kids<=1000*sumL (fun x=>cntT m x) n.kids:=by
   rw[<- qkY]
   exact qpC _ _ _ (fun x p=>ih x (d+1) (o x p))
  have z:sumL (fun x=>lenN m x+1) n.kids+9*n.kids.length<=sumL (fun x=>lenN m x+100) n.kids:=by
   have:∀l:List (T m),sumL (fun x=>lenN m x+1) l+9*l.length<=sumL (fun x=>lenN m x+100) l:=by
    intro l
    induction l with
    | nil=>simp[sumL]
    | cons a r ih2=>simp only[sumL,List.length_cons];omega
   exact this _
  obtain⟨k,s⟩:∃k:Nat,n.sort=(k:Int):=⟨n.sort.toNat,by
   have h:=b
   unfold justB at h;simp only[Bool.and_eq_true,decide_eq_true_eq]at h;omega⟩
  have i:1<=n.sort/\n.sort<=43:=by
   have h:=b
   unfold justB at h;simp only[Bool.and_eq_true,decide_eq_true_eq]at h;exact h.1
  obtain⟨c,f,g,v⟩:=qlI (poT m) n k s b
  have e:n.sort.toNat=k:=by omega
  have A:=qkZ k c
  unfold lenF
  by_cases h3:n.sort<=3
  ·rw[if_pos h3]
   have:=qxE _ _ _ (f (by rcases (by omega:k=1∨k=2∨k=3) with rfl|rfl|rfl<;>decide))
   omega
  rw[if_neg h3]
  by_cases h4:n.sort=4
  ·rw[if_pos h4]
   rw[qfA (poT m) n i.1 i.2 (by omega),e,show k=4 by omega,pre_name.1]at b
   simp only[preC,Bool.and_eq_true]at b
   match hnn:n.names,b.1.2 with
   | [a],h2=>
    have:a.size<=8:=by
     simp only[freeB,nameB,Bool.and_eq_true,decide_eq_true_eq]at h2;exact h2.1.1.1.1.1.1.2
    simp only[List.headD_cons];omega
  rw[if_neg h4,e]
  have B:=(A.2 (by omega)).2
  by_cases h24:n.sort=24
  ·rw[qdT (poT m) n h24]at b
   simp only[Bool.and_eq_true]at b
   have p:=qaG _ b.2.2
   have E:=qoZ (poT m) n b.1
   rw[if_pos p,if_neg (by omega),if_pos h24]
   omega
  ·rw[qfA (poT m) n i.1 i.2 h24,e]at b
   simp only[Bool.and_eq_true]at b
   have F:=qxD n k (by omega) b.1 c (by omega)
   have G:(if n.sort=37∨n.sort=39 then (Lib.itoa n.num).length+1 else 0)<=21:=by
    split
    ·have q:35∈prt k:=by
      have:k=37∨k=39:=by omega
      rcases this with rfl|rfl<;>decide
     have:=g q
     have:=xhM n.num this.1 this.2
     omega
    ·omega
   rw[if_neg h24]
   omega
def okN(m:Nat)(t:T m):Bool:=goodN m t 1 && decide (cntT m t<=200) && decide (lenN m t<=3000)
theorem qzM (m bk:Nat) (S:Nat->Prop) (w:World) (t:T m) (c0 c1 c2 c3 c4:Value) (d:Int) (hin:NodeIn S w m t c0 c1 c2 c3 c4) (hB:∀ b,S b->b<w.heap.size) (hbk:Book w bk) (hg:goodN m t d=true) (hc:cntT m t<=200) (hT:TensIn w) :
  Calls prog 53 #[.pointer (some ⟨bk,0,none⟩),.agg #[c0,c1,c2,c3,c4]] w fun e w'=>Below w.heap.size w w' /\ ∃s,e=.returned (.string s)/\s.size=lenN m t:=by
 obtain⟨r,u,v,x,y,z,A,B,C,rfl,rfl,rfl,rfl,rfl⟩:=hin.shape
 have G:=qvG m t d hg
 obtain⟨W,o⟩:∃W,W=(w.alloc (.cells #[.int .i64 r,.int .i64 u,.string v,.slice x y z,.slice A B C] 25)).alloc (.cells #[.pointer (some ⟨bk,0,none⟩),.slice none 0 0] 109):=⟨_,rfl⟩
 have c:Below w.heap.size w W:=by rw[o];exact ((Below.refl _ _).alloc (Nat.le_refl _) _).alloc (by simp) _
 have O:W.heap.size=w.heap.size+2:=by rw[o];simp
 have h:W.heap[w.heap.size+1]?=some (.cells #[.pointer (some ⟨bk,0,none⟩),.slice none 0 0] 109 (0,0)):=by
  have:=heap_alloc_last (w.alloc (.cells #[.int .i64 r,.int .i64 u,.string v,.slice x y z,.slice A B C] 25)) (.cells #[.pointer (some ⟨bk,0,none⟩),.slice none 0 0] 109)
  rw[show (w.alloc (.cells #[.int .i64 r,.int .i64 u,.string v,.slice x y z,.slice A B C] 25)).heap.size=w.heap.size+1 by simp]at this
  rw[o];exact this
 have i:Wrt w.heap.size (w.heap.size+1) bk W W (.slice none 0 0) []:=⟨World.ownsRow_nil _ _ _ _,Below.refl _ _,by omega,Lib.OthersKept.refl _ _ _,h,by omega⟩
 have k:Tens w.heap.size W:=fun w2 h2=>hT w2 (c.trans h2)
 have E:Hid (Calls prog 70 _ W _):=xeN m w.heap.size (w.heap.size+1) bk W _ [] t _ _ _ _ _ d i (hin.keep (qaB c hB) hB) (hbk.keep (c.block bk hbk.lt)) hbk.lt hg (by simp only[List.length_nil,wk,if_true];omega) k
 have q:=hidF c
 clear hin hbk i k c h
 subst o
 go_enter func53,ntmps53
 go_wp2_with fail
 refine E.out.mono ?_
 rintro e l ⟨rfl,R,p,a,n⟩
 obtain⟨-,K,-⟩:=a.cells
 obtain⟨L,M,F,rfl⟩:=a.buf.shape
 have f:p.length=lenN m t:=by rw[n];rfl
 have H:Hid (Below w.heap.size w l):=q.out.trans a.below
 have Q:=hidF f
 have I:(convert 90 9 (.slice L M F)).run prog l=.ok (.string (bs p)) l:=by
  by_cases hne:p=[]
  ·subst hne
   rcases a.own.2 with ⟨D,-⟩|⟨g,cap,N,D,-⟩
   ·cases D;exact run_convert_bytes_nil l 90 5 underlying90 underlying5 0 0 9 underlying9
   ·cases D
    exact run_convert_bytes_back (P:=prog) l 90 9 5 ⟨g,0,none⟩ F [] underlying90 underlying5 underlying9 (fun j hj=>by simp at hj)
  ·exact qoY _ _ _ _ _ a.buf hne
 have J:Hid ((bs p).size=lenN m t):=by show _=_;rw[qaL];exact f
 clear a E n f
 go_wp2_with fail
 go_ret
 exact⟨H.out,_,rfl,J.out⟩
def okA(m:Nat)(t:T m):Bool:=decide (poT m t=65) && okN m t
theorem qzN(s m:Int)(x:ByteArray)(h:qaO s m x [] 0=true)(h3:s<=3)(h1:1<=s):x.size<=800:=by
 have a:=qxE s m x h
 have b:s=1∨s=2∨s=3:=by omega
 rcases b with rfl|rfl|rfl
 ·simp only[qaO,if_pos,Bool.and_eq_true]at h
  have:=qaG _ h.1.1.2
  omega
 ·have e:leafL 2 m x=34 :: x.data.toList++[34]:=by
   unfold leafL
   show (if (2:Int)=1 then _ else if (2:Int)=2 then _ else _)=_
   rw[if_neg (by decide),if_pos rfl];rfl
  rw[e]at a
  simp at a
  omega
 ·rw[qaO,if_neg (by decide),if_neg (by decide),if_pos rfl]at h
  simp only[Bool.and_eq_true]at h
  have:=qaG _ h.1.1.2
  omega
theorem xjR:∀(m:Nat)(t:T m)(d:Int),goodN m t d=true->szT m t+100<=1000*cntT m t:=by
 intro m
 induction m with
 | zero=>intro t d h;simp[goodN]at h
 | succ m ih=>
  intro t d h
  simp only[goodN,Bool.and_eq_true,List.all_eq_true]at h
  obtain⟨⟨-,C⟩,D⟩:=h
  obtain⟨n,j⟩:∃n:Nd (T m),n=t:=⟨t,rfl⟩
  have z:cntT (m+1) t=1+sumL (fun k=>cntT m k) n.kids:=by rw[j];rfl
  have A:szT (m+1) t=n.text.size+szN n.names+sumL (fun k=>szT m k+1) n.kids:=by rw[j];rfl
  have o:∀x,x∈n.kids->goodN m x (d+1)=true:=by rw[j];exact D
  have b:justB (poT m) n=true:=by rw[j];exact C
  rw[z,A]
  have v:sumL (fun x=>szT m x+100) n.kids<=1000*sumL (fun x=>cntT m x) n.kids:=by
   rw[<- qkY]
   exact qpC _ _ _ (fun x i=>ih x (d+1) (o x i))
  have B:sumL (fun x=>szT m x+1) n.kids+9*n.kids.length<=sumL (fun x=>szT m x+100) n.kids:=by
   have:∀l:List (T m),sumL (fun x=>szT m x+1) l+9*l.length<=sumL (fun x=>szT m x+100) l:=by
    intro l
    induction l with
    | nil=>simp[sumL]
    | cons a r ih2=>simp only[sumL,List.length_cons];omega
   exact this _
  obtain⟨k,u⟩:∃k:Nat,n.sort=(k:Int):=⟨n.sort.toNat,by
   have h:=b
   unfold justB at h;simp only[Bool.and_eq_true,decide_eq_true_eq]at h;omega⟩
  have p:1<=n.sort/\n.sort<=43:=by
   have h:=b
   unfold justB at h;simp only[Bool.and_eq_true,decide_eq_true_eq]at h;exact h.1
  obtain⟨f,g,w,y⟩:=qlI (poT m) n k u b
  have q:n.sort.toNat=k:=by omega
  by_cases h24:n.sort=24
  ·rw[qdT (poT m) n h24]at b
   simp only[Bool.and_eq_true]at b
   have i:=qaG _ b.2.2
   have E:=qoZ (poT m) n b.1
   omega
  rw[qfA (poT m) n p.1 p.2 h24,q]at b
  simp only[Bool.and_eq_true]at b
  by_cases h3:n.sort<=3
  ·have i:=qzN _ _ _ (g (by rcases (by omega:k=1∨k=2∨k=3) with rfl|rfl|rfl<;>decide)) h3 p.1
   have s:preL k=[84]:=by
    have:k=1∨k=2∨k=3:=by omega
    rcases this with rfl|rfl|rfl<;>decide
   have c:=b.1
   rw[s]at c
   simp only[preC,Bool.and_eq_true,beq_iff_eq]at c
   have e:n.names=[]:=List.eq_nil_of_length_eq_zero (by omega)
   rw[e]
   simp only[szN]
   omega
  by_cases h4:n.sort=4
  ·have c:=b.1
   rw[show k=4 by omega,pre_name.1]at c
   simp only[preC,Bool.and_eq_true]at c
   have i:=qaG _ c.1.2
   match e:n.names,c.2 with
   | [a],h2=>
    have:a.size<=8:=by
     simp only[freeB,nameB,Bool.and_eq_true,decide_eq_true_eq]at h2;exact h2.1.1.1.1.1.1.2
    simp only[szN];omega
  have c:=qxD n k (by omega) b.1 f (by omega)
  have:n.text.size<=(if n.text.size=0 then 0 else n.text.size+1):=by split<;>omega
  omega
end Go.Proofs.YtelogmjfekhmpaaGreatDoor
