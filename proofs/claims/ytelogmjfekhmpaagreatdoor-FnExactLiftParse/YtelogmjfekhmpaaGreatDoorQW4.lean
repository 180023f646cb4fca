import Derived.Test.YtelogmjfekhmpaaGreatDoorB25
import Derived.Test.YtelogmjfekhmpaaGreatDoorB15
import Derived.Test.YtelogmjfekhmpaaGreatDoorB36
import Derived.Deep.AppendLies
import Derived.Deep.RegionHeld
import Derived.Stop.RegionWithIn
namespace Go.Proofs.YtelogmjfekhmpaaGreatDoor
set_option maxRecDepth 100000
set_option maxHeartbeats 16000000
open Go.RowKit Go.Proofs.Tryz
attribute [local go_sem] Oper.semAt_some
structure Gath(n₀ B R bk:Nat)(w:World)(pre:List ByteArray)(W:World)(wv:Value):Prop where
 var:Boxed W B 62 (.pointer (some ⟨R,0,none⟩))
 box:W.heap[R]?=some (.cells #[.pointer (some ⟨bk,0,none⟩),wv,.int .i64 0,.int .i64 0] 84 (0,0))
 book:Book W bk
 nk:bk≠R
 nB:bk≠B
 nw:some bk≠wv.ownBlock
 row:W.ownsRow n₀ 9 1 wv pre.length (pre.map .string)
 below:Below n₀ w W
theorem qvQ{W:World}{n₀ k b:Nat}{v:Value}{xs:List Value}{ca:Array Value}{t:TypeId}{fz:Nat×Nat}(h:W.ownsRow n₀ 9 1 v k xs)(hb:W.heap[b]?=some (.cells ca t fz))(ht:t≠9):some b≠v.ownBlock:=by
 rcases h.2 with ⟨rfl,_⟩|⟨g,cap,c,rfl,_,a,_⟩
 ·simp[Value.ownBlock]
 ·intro d
  obtain rfl:b=g:=by simpa [Value.ownBlock] using d
  rw[hb]at a
  cases a
  exact ht rfl
theorem Gath.step {n₀ B R bk:Nat} {w W w1:World} {pre:List ByteArray} {wv:Value} {x:ByteArray} {g cap:Nat} (h:Gath n₀ B R bk w pre W wv) (hR:n₀<=R) (hBR:B≠R) (hn:n₀<=W.heap.size)
  (hown:w1.ownsRow n₀ 9 1 (.slice (some ⟨g,0,none⟩) (pre.length+1) cap) (pre.length+1) (pre.map .string++[.string x])) (hgrow:(W.drew.alloc (.cells #[.string x] 9)).grownBy w1 wv.ownBlock) (hat:wv.ownBlock=some g∨g=W.heap.size+1) :
  (w1.cell? ⟨B,0,none⟩=some (.pointer (some ⟨R,0,none⟩))/\w1.cell? ⟨R,1,none⟩=some wv/\w1.frozen? ⟨R,1,none⟩=false) /\
  Gath n₀ B R bk w (pre++[x]) (w1.setCell ⟨R,1,none⟩ (.slice (some ⟨g,0,none⟩) (pre.length+1) cap)) (.slice (some ⟨g,0,none⟩) (pre.length+1) cap) /\
  KeepsOthers W (w1.setCell ⟨R,1,none⟩ (.slice (some ⟨g,0,none⟩) (pre.length+1) cap))/\Below n₀ W (w1.setCell ⟨R,1,none⟩ (.slice (some ⟨g,0,none⟩) (pre.length+1) cap)):=by
 have l:R<W.heap.size:=(Array.getElem?_eq_some_iff.1 h.box).1
 have m:=h.var.lt
 have c:=h.book.lt
 have v:some R≠wv.ownBlock:=qvQ h.row h.box (by decide)
 have nB:some B≠wv.ownBlock:=qvQ h.row (show W.heap[B]?=some (.cells #[_] _ (0,0)) from h.var) (by decide)
 have nk:=h.nw
 have q:∀b,b<W.heap.size->some b≠wv.ownBlock->w1.heap[b]?=W.heap[b]?:=fun b d hne=>(hgrow.block b (by simp;omega) hne).trans (Below.heap_alloc _ _ _ (by simpa using d))
 have f:=(q R l v).trans h.box
 have t:w1.heap[B]?=_:=(q B m nB).trans h.var
 have i:∀b,b≠R->(w1.setCell ⟨R,1,none⟩ (.slice (some ⟨g,0,none⟩) (pre.length+1) cap)).heap[b]?=w1.heap[b]?:=fun b d=>Below.heap_setCell _ _ _ _ d
 have y:g≠R:=fun e=>by
  have:=qvQ hown f (by decide)
  exact this (by simp[Value.ownBlock,e])
 have a:Below n₀ W (w1.setCell ⟨R,1,none⟩ (.slice (some ⟨g,0,none⟩) (pre.length+1) cap)):=by
  refine ((((Below.refl n₀ W).drew).alloc (by simpa using hn) _).grown hgrow (by simp;omega) fun j ej=>?_).setCell (p:=⟨R,1,none⟩) hR _
  rcases h.row.2 with ⟨rfl,_⟩|⟨g,cap,r,rfl,d,_,_⟩
  ·simp[Value.ownBlock]at ej
  ·obtain rfl:g=j:=by simpa [Value.ownBlock] using ej
   exact d
 refine⟨⟨by simp[World.cell?,t],by simp[World.cell?,f],by simp[World.frozen?,f]⟩,⟨?_,?_,?_,h.nk,h.nB,?_,?_,h.below.trans a⟩,?_,a⟩
 ·show (w1.setCell _ _).heap[B]?=_
  rw[i B hBR];exact t
 ·simp[World.setCell,Array.getElem?_modify,f]
 ·exact h.book.keep (by rw[i bk h.nk];exact q bk c nk)
 ·intro e
  have e:bk=g:=by simpa [Value.ownBlock] using e
  rcases hat with u|u
  ·exact nk (by rw[u,e])
  ·omega
 ·rw[List.length_append,List.length_singleton,List.map_append,List.map_singleton]
  exact qaK hown fun g' hg'=>i g' (by have:=(by simpa [Value.ownBlock] using hg':g=g');omega)
 ·refine⟨by have:=hgrow.size;simp at this ⊢;omega,fun k o hk ho=>?_⟩
  have c:k<W.heap.size:=(Array.getElem?_eq_some_iff.1 hk).1
  have n:k≠R:=fun e=>by rw[e,h.box]at hk;cases hk;cases ho
  rw[i k n,q k c ?_]
  ·exact hk
  ·rcases h.row.2 with ⟨rfl,_⟩|⟨g,cap,r,rfl,_,s,_⟩
   ·simp[Value.ownBlock]
   ·intro e
    obtain rfl:k=g:=by simpa [Value.ownBlock] using e
    rw[s]at hk;cases hk;cases ho
theorem xaB{ops:Array Oper}(h:ops.all (fun o=>match o.op with|.defer _=>false|_=>true)=true):∀(i:Nat)(o:Oper),ops[i]?=some o->∀c,o.op≠.defer c:=by
 intro i o a c b
 obtain⟨d,rfl⟩:=Array.getElem?_eq_some_iff.1 a
 have:=Array.all_eq_true.1 h i d
 rw[b]at this
 cases this
theorem qkI(f:Nat)(l:List UInt8):(qbI f l).length<=f:=by
 induction f generalizing l with
 | zero=>simp[qbI]
 | succ f ih=>
  rw[qbI]
  split
  ·simp
  ·rw[List.length_cons]
   exact Nat.succ_le_succ (ih _)
theorem qkU(f:Nat)(l:List UInt8)(hl:l.length<=3000):∀x,x∈qbI f l->x.size<=3000:=by
 induction f generalizing l with
 | zero=>intro x a;simp[qbI]at a
 | succ f ih=>
  intro x a
  have b:=(List.dropWhile_suffix (l:=l) qaP).length_le
  rw[qbI]at a
  split at a
  ·simp at a
  ·rename_i c r e
   rw[e]at b
   rcases List.mem_cons.1 a with rfl|h
   ·show ((c :: r).take _).toArray.size<=3000
    simp only[List.size_toArray,List.length_take]
    omega
   ·exact ih _ (by rw[List.length_drop];omega) x h
theorem qtQ (s:ByteArray) (hs:s.size<=3000) (w:World) :
  CallsIn Fence.wide 3 prog 34 #[.string s] w fun e w'=>∃R bk wv,e=.returned (.pointer (some ⟨R,0,none⟩))/\w.heap.size<=R/\Below w.heap.size w w' /\ Rdr w' R bk wv (qbI s.size s.data.toList) 0 0:=by
 have HN:=Lib.hid (qpO w)
 refine callsIn_of_wp_marks func34 rfl trivial ?_ rfl
 simp only[ntmps34,List.size_toArray,List.length_cons,List.length_nil,Nat.reduceAdd,Nat.reduceSub,Array.replicate_succ,Array.replicate_zero,List.push_toArray,List.append_toArray,List.nil_append,List.cons_append]
 gi_wp2_with (first|(refine⟨trivial,?_⟩;gi_at_call 49;refine (callsIn_wide.2 HN.out).mono ?_;clear HN;rintro e a ⟨bk,rfl,aJ,aC,P,n⟩)|(refine⟨trivial,?_⟩;gi_at_call 50;refine (qzR _ _ _).mono ?_;rintro e w2 ⟨rfl,rfl⟩))
 obtain⟨y,m⟩:∃y,y=((a.alloc (.cells #[.pointer (some ⟨bk,0,none⟩),.slice none 0 0,.int .i64 0,.int .i64 0] 84)).alloc (.cells #[.pointer (some ⟨a.heap.size,0,none⟩)] 62)).alloc (.cells #[.string s] 9):=⟨_,rfl⟩
 have aF:y.heap.size=a.heap.size+3:=by rw[m];simp
 have q:Below a.heap.size a y:=by rw[m];exact (((Below.refl _ _).alloc (Nat.le_refl _) _).alloc (by simp) _).alloc (by simp;omega) _
 have v:Below w.heap.size w y:=n.trans (q.mono n.size)
 have bT:Boxed y (a.heap.size+2) 9 (.string s):=by
  rw[m]
  have:=Boxed.new ((a.alloc (.cells #[.pointer (some ⟨bk,0,none⟩),.slice none 0 0,.int .i64 0,.int .i64 0] 84)).alloc (.cells #[.pointer (some ⟨a.heap.size,0,none⟩)] 62)) 9 (.string s)
  rw[show ((a.alloc (.cells #[.pointer (some ⟨bk,0,none⟩),.slice none 0 0,.int .i64 0,.int .i64 0] 84)).alloc (.cells #[.pointer (some ⟨a.heap.size,0,none⟩)] 62)).heap.size=a.heap.size+2 by simp]at this
  exact this
 have I:Gath w.heap.size (a.heap.size+1) a.heap.size bk w [] y (.slice none 0 0):=by
  refine⟨?_,?_,P.keep (q.block bk aC),by omega,by omega,(by simp[Value.ownBlock]),World.ownsRow_nil _ _ _ _,v⟩
  ·rw[m]
   have:=Boxed.new (a.alloc (.cells #[.pointer (some ⟨bk,0,none⟩),.slice none 0 0,.int .i64 0,.int .i64 0] 84)) 62 (.pointer (some ⟨a.heap.size,0,none⟩))
   rw[World.size_alloc]at this
   exact this.alloc _
  ·rw[m,Below.heap_alloc _ _ _ (by simp;omega),Below.heap_alloc _ _ _ (by simp)]
   exact heap_alloc_new _ _
 rw[<- m]
 refine wpIn_rangeFunc_ownG rfl (by decide) (gf:=62) (lb:=#[.pointer (some ⟨a.heap.size+2,0,none⟩)]) rfl trivial (enters_of func62 (by kernel_rfl) rfl)
  (qvJ 2 (by decide) (a.heap.size+2) w.heap.size s hs y (by omega) bT.cell) belowK_t (belowK_b (by have:=n.size;omega)) (Below.refl _ _) (fun _=>rfl)
  (fun i W=>∃wv,Gath w.heap.size (a.heap.size+1) a.heap.size bk w i W wv)
  (fun _ _ _=>False) ?own
  (fun _ _ _ _ _ hs _ _=>hs)
  ⟨_,I⟩
  (fun x=>{ tmps:=#[.string s,undef,.pointer none,.pointer (some ⟨a.heap.size+1,0,none⟩),.string x,.pointer (some ⟨bk,0,none⟩),.agg #[.pointer (some ⟨bk,0,none⟩),.slice none 0 0,.int .i64 0,.int .i64 0],.pointer (some ⟨a.heap.size,0,none⟩),.string s,.func (.func 62) #[] #[.pointer (some ⟨a.heap.size+2,0,none⟩)],.string x,undef,undef,undef,undef,undef,undef,undef,undef,undef,undef,undef],defers:=[] }) ?assign ?body ?done ?stop
 case own=>
  rintro i A C row ⟨wv,h⟩ u hr
  have E:∀k,k<y.heap.size->some k≠row:=fun k hk e=>by have:=(hr k e.symm).1;omega
  have F:a.heap.size<A.heap.size:=(Array.getElem?_eq_some_iff.1 h.box).1
  refine⟨wv,h.var.kept u (E _ (by omega)),(u.block _ F (E _ (by omega))).trans h.box,h.book.keep (u.block bk h.book.lt (E _ (by omega))),h.nk,h.nB,h.nw,h.row.kept u ?_,h.below.grown u h.below.size (fun k e=>?_)⟩
  ·rcases h.row.2 with ⟨rfl,_⟩|⟨g,cap,aD,rfl,_,r,_⟩
   ·exact .inl rfl
   ·refine .inr fun e'=>?_
    obtain⟨o,ho,J⟩:=(hr g (by simpa [Value.ownBlock] using e'.symm)).2
    rw[r]at ho;cases ho;cases J
  ·have:=(hr k e).1
   have:=v.size
   omega
 case assign=>
  intro l x W K hK
  gi_wp2
  exact hK
 case body=>
  rintro l i x W ⟨wv,p⟩ aE
  have J:=p.var.cell
  have Y:W.cell? ⟨a.heap.size,1,none⟩=some wv:=by simp[World.cell?,p.box]
  have H:=Lib.hid p
  have Z:=n.size
  clear I bT v q m P n p
  gi_wp2
  have aG:=aE
  have aA:=qkI s.size s.data.toList
  have aH:=H.out.below.size
  have aB:=H.out.var.lt
  have aI:w.heap.size<=a.heap.size:=Z
  have L:Hid ((W.drew.alloc (.cells #[.string x] 9)).ownsRow w.heap.size 9 1 wv i.length (i.map .string)):=qaK H.out.row fun g u=>Below.heap_alloc _ _ _ (qaF H.out.row g u).2
  have G:Hid ((W.drew.alloc (.cells #[.string x] 9)).cell? ⟨a.heap.size+1,0,none⟩=some (.pointer (some ⟨a.heap.size,0,none⟩))/\(W.drew.alloc (.cells #[.string x] 9)).cell? ⟨a.heap.size,1,none⟩=some wv):=
   ⟨(World.cell?_of_block (Below.heap_alloc W.drew _ _ (by simpa using aB))).trans J,(World.cell?_of_block (Below.heap_alloc W.drew _ _ (by show a.heap.size<W.heap.size;omega))).trans Y⟩
  obtain⟨Q,B,T,U,V⟩:=info_parts Tryz.info_strN
  have j:Hid (_/\_/\_/\_):=⟨B,T,U,V⟩
  clear B T U V
  refine qnF (by kernel_rfl) (xaB (by kernel_rfl)) (fun h=>(by obtain⟨_,_,h⟩:=h;exact h)) ?_
  refine wpAny_of_held (S:=fun w'=>w'.cell? ⟨a.heap.size+1,0,none⟩=some (.pointer (some ⟨a.heap.size,0,none⟩))) _ _ _ _ ?_
  have hHeld:W.drew.cell? ⟨a.heap.size+1,0,none⟩=some (.pointer (some ⟨a.heap.size,0,none⟩)):=J
  refine tk 0 ?_
  refine tk 1 ?_
  refine tk 2 ?_
  refine tk 3 ?_
  refine tk 5 ?_
  refine wpAnyH_ready (rs:=[4,6]) (by kernel_rfl) (by simp) ?_
  refine AllReadyH.cons rfl (fun K hK=>?_) (AllReadyH.cons rfl (fun K hK=>?_) AllReadyH.nil)
  ·go_simp
   refine hK.out _ _ hHeld (fun hHeld=>?_)
   clear hK K
   refine wpAnyH_ready (rs:=[6]) (by kernel_rfl) (by simp) ?_
   refine AllReadyH.cons rfl (fun K hK=>?_) AllReadyH.nil
   go_simp
   refine hK.out _ _ G.out.1 (fun hHeld=>?_)
   clear hK K
   refine wpAnyH_ready (rs:=[7]) (by kernel_rfl) (by simp) ?_
   refine AllReadyH.cons rfl (fun K hK=>?_) AllReadyH.nil
   refine step_append_lies _ (by rfl) (.tmp 15) (.tmp 17) 22 (by rfl) w.heap.size 9 Q _ 1 16 underlying22 j.out.1 j.out.2.1 j.out.2.2.1 j.out.2.2.2 rfl (by decide) wv i.length (i.map .string) (by rfl) L.out ⟨W.heap.size,0,none⟩ 1 1 [.string x] (by rfl) rfl (World.news_of_block (heap_alloc_new W.drew _)) (by simp[Value.oneCell']) (by decide) (by unfold maxLen;omega) (by omega) (by simp;omega) (W.heap.size+1) (by simp) ?_
   intro g cap w5 f b t X
   have d:=Lib.hid (H.out.step (by omega) (by omega) (by omega) f b t)
   obtain⟨k0,k1,k2⟩:=d.out.1
   refine hK.out _ _ k0 (fun hHeld=>?_)
   clear hK K f b
   refine tk 8 ?_
   refine tk 9 ?_
   refine wpAnyH_ready (rs:=[10]) (by kernel_rfl) (by simp) ?_
   refine AllReadyH.cons rfl (fun K hK=>?_) AllReadyH.nil
   go_simp
   refine hK.out _ _ ?_ (fun hHeld=>?_)
   ·exact d.out.2.1.var.cell
   clear hK K
   refine wpAnyH_done (by kernel_rfl) ?_ _
   exact⟨d.out.2.2.1.from _,d.out.2.2.2,_,d.out.2.1⟩
  ·go_simp
   refine hK.out _ _ G.out.1 (fun hHeld=>?_)
   clear hK K
   have M:(W.alloc (.cells #[.string x] 9)).cell? ⟨a.heap.size,1,none⟩=some wv:=G.out.2
   refine wpAnyH_ready (rs:=[4]) (by kernel_rfl) (by simp) ?_
   refine AllReadyH.cons rfl (fun K hK=>?_) AllReadyH.nil
   go_simp
   refine hK.out _ _ hHeld (fun hHeld=>?_)
   clear hK K M
   refine wpAnyH_ready (rs:=[7]) (by kernel_rfl) (by simp) ?_
   refine AllReadyH.cons rfl (fun K hK=>?_) AllReadyH.nil
   refine step_append_lies _ (by rfl) (.tmp 15) (.tmp 17) 22 (by rfl) w.heap.size 9 Q _ 1 16 underlying22 j.out.1 j.out.2.1 j.out.2.2.1 j.out.2.2.2 rfl (by decide) wv i.length (i.map .string) (by rfl) L.out ⟨W.heap.size,0,none⟩ 1 1 [.string x] (by rfl) rfl (World.news_of_block (heap_alloc_new W.drew _)) (by simp[Value.oneCell']) (by decide) (by unfold maxLen;omega) (by omega) (by simp;omega) (W.heap.size+1) (by simp) ?_
   intro g cap w5 f b t X
   have d:=Lib.hid (H.out.step (by omega) (by omega) (by omega) f b t)
   obtain⟨k0,k1,k2⟩:=d.out.1
   refine hK.out _ _ k0 (fun hHeld=>?_)
   clear hK K f b
   refine tk 8 ?_
   refine tk 9 ?_
   refine wpAnyH_ready (rs:=[10]) (by kernel_rfl) (by simp) ?_
   refine AllReadyH.cons rfl (fun K hK=>?_) AllReadyH.nil
   go_simp
   refine hK.out _ _ ?_ (fun hHeld=>?_)
   ·exact d.out.2.1.var.cell
   clear hK K
   refine wpAnyH_done (by kernel_rfl) ?_ _
   exact⟨d.out.2.2.1.from _,d.out.2.2.2,_,d.out.2.1⟩
 case done=>
  rintro D ys W hD rfl ⟨wv,p⟩ hK
  have J:=p.var.cell
  gi_wp2
  refine⟨by simp,.inl ⟨_,_,rfl,run_takeDeferred hK,?_⟩⟩
  refine⟨_,results_tmp rfl _ _ _,a.heap.size,bk,wv,rfl,n.size,p.below.trans (belowK_b (w:=w) (Nat.le_refl _) W D _ _ (by have:=v.size;omega) hK rfl rfl),?_⟩
  have u:=grownBy_putObj' W D (.deferred none)
  have F:a.heap.size<W.heap.size:=(Array.getElem?_eq_some_iff.1 p.box).1
  have N:(W.putObj D (.deferred none)).heap[a.heap.size]?=some (.cells #[.pointer (some ⟨bk,0,none⟩),wv,.int .i64 0,.int .i64 0] 84 (0,0)):=(u.block _ F (by intro e;cases e;omega)).trans p.box
  have O:=qkU s.size s.data.toList (by show s.size<=3000;exact hs)
  have aA:=qkI s.size s.data.toList
  have z:=ownsRow_putObj p.row (.deferred none) hK rfl
  refine⟨N,qdW z (by omega) (fun x hx=>by have:=O x hx;omega) (fun g e=>?_),p.book.keep (u.block bk p.book.lt (by intro e;cases e;omega)),p.nk,O,by omega⟩
  rcases z.2 with ⟨rfl,_⟩|⟨g',cap,aD,rfl,_,r,_⟩
  ·cases e
  ·have e1:g'=g:=by simpa [Value.ownBlock] using e
   subst e1
   refine⟨(Array.getElem?_eq_some_iff.1 r).1,fun e2=>?_⟩
   rw[e2,N]at r
   simp at r
 case stop=>
  rintro D c i W _ _ h _
  exact h.elim
theorem qvR(s:ByteArray)(hs:s.size<=3000):qvP s (qbI s.size s.data.toList):=fun W=>callsIn_wide.1 (qtQ s hs W)
end Go.Proofs.YtelogmjfekhmpaaGreatDoor
