import Derived.Test.YtelogmjfekhmpaaGreatDoorQW3
import Derived.Test.YtelogmjfekhmpaaGreatDoorPNE
import Derived.Test.YtelogmjfekhmpaaGreatDoorQW5
import Derived.Deep.AppendLies
import Derived.Deep.RegionHeld
import Derived.Stop.RegionWithIn
namespace Go.Proofs.YtelogmjfekhmpaaGreatDoor
set_option maxRecDepth 100000
set_option maxHeartbeats 16000000
open Go.RowKit
attribute [local go_sem] Oper.semAt_some
structure Gath (n₀ B R bk:Nat) (w:World) (pre:List ByteArray) (W:World) (wv:Value):Prop where
 var:Boxed W B 62 (.pointer (some ⟨R,0,none⟩))
 box:W.heap[R]?=some (.cells #[.pointer (some ⟨bk,0,none⟩),wv,.int .i64 0,.int .i64 0] 84 (0,0))
 book:Book W bk
 nk:bk≠R
 nB:bk≠B
 nw:some bk≠wv.ownBlock
 row:W.ownsRow n₀ 9 1 wv pre.length (pre.map .string)
 below:Below n₀ w W
theorem qvQ {W:World} {n₀ k b:Nat} {v:Value} {xs:List Value} {ca:Array Value} {t:TypeId} {fz:Nat × Nat} (h:W.ownsRow n₀ 9 1 v k xs) (hb:W.heap[b]?=some (.cells ca t fz)) (ht:t≠9):some b≠v.ownBlock:=by
 rcases h.2 with ⟨rfl,_⟩|⟨g,cap,cur,rfl,_,aA,_⟩
 ·simp[Value.ownBlock]
 ·intro e'
  obtain rfl:b=g:=by simpa [Value.ownBlock] using e'
  rw[hb]at aA
  cases aA
  exact ht rfl
theorem Gath.step {n₀ B R bk:Nat} {w W w1:World} {pre:List ByteArray} {wv:Value} {x:ByteArray} {g cap:Nat} (h:Gath n₀ B R bk w pre W wv) (hR:n₀<=R) (hBR:B≠R) (hn:n₀<=W.heap.size)
  (hown:w1.ownsRow n₀ 9 1 (.slice (some ⟨g,0,none⟩) (pre.length+1) cap) (pre.length+1) (pre.map .string++[.string x])) (hgrow:(W.drew.alloc (.cells #[.string x] 9)).grownBy w1 wv.ownBlock) (hat:wv.ownBlock=some g∨g=W.heap.size+1) :
  (w1.cell? ⟨B,0,none⟩=some (.pointer (some ⟨R,0,none⟩))/\w1.cell? ⟨R,1,none⟩=some wv/\w1.frozen? ⟨R,1,none⟩=false) /\
  Gath n₀ B R bk w (pre++[x]) (w1.setCell ⟨R,1,none⟩ (.slice (some ⟨g,0,none⟩) (pre.length+1) cap)) (.slice (some ⟨g,0,none⟩) (pre.length+1) cap) /\
  KeepsOthers W (w1.setCell ⟨R,1,none⟩ (.slice (some ⟨g,0,none⟩) (pre.length+1) cap))/\Below n₀ W (w1.setCell ⟨R,1,none⟩ (.slice (some ⟨g,0,none⟩) (pre.length+1) cap)):=by
 have aC:R<W.heap.size:=(Array.getElem?_eq_some_iff.1 h.box).1
 have aD:=h.var.lt
 have aB:=h.book.lt
 have nR:some R≠wv.ownBlock:=qvQ h.row h.box (by decide)
 have nB:some B≠wv.ownBlock:=qvQ h.row (show W.heap[B]?=some (.cells #[_] _ (0,0)) from h.var) (by decide)
 have nk:=h.nw
 have q:∀ b,b<W.heap.size->some b≠wv.ownBlock->w1.heap[b]?=W.heap[b]?:=fun b hb hne=>(hgrow.block b (by simp;omega) hne).trans (Below.heap_alloc _ _ _ (by simpa using hb))
 have bR:=(q R aC nR).trans h.box
 have bB:w1.heap[B]?=_:=(q B aD nB).trans h.var
 have qs:∀ b,b≠R->(w1.setCell ⟨R,1,none⟩ (.slice (some ⟨g,0,none⟩) (pre.length+1) cap)).heap[b]?=w1.heap[b]?:=fun b hb=>Below.heap_setCell _ _ _ _ hb
 have aG:g≠R:=fun e=>by
  have:=qvQ hown bR (by decide)
  exact this (by simp[Value.ownBlock,e])
 have aA:Below n₀ W (w1.setCell ⟨R,1,none⟩ (.slice (some ⟨g,0,none⟩) (pre.length+1) cap)):=by
  refine ((((Below.refl n₀ W).drew).alloc (by simpa using hn) _).grown hgrow (by simp;omega) fun j ej=>?_).setCell (p:=⟨R,1,none⟩) hR _
  rcases h.row.2 with ⟨rfl,_⟩|⟨g,cap,cur,rfl,hb,_,_⟩
  ·simp[Value.ownBlock]at ej
  ·obtain rfl:g=j:=by simpa [Value.ownBlock] using ej
   exact hb
 refine⟨⟨by simp[World.cell?,bB],by simp[World.cell?,bR],by simp[World.frozen?,bR]⟩,⟨?_,?_,?_,h.nk,h.nB,?_,?_,h.below.trans aA⟩,?_,aA⟩
 ·show (w1.setCell _ _).heap[B]?=_
  rw[qs B hBR];exact bB
 ·simp[World.setCell,Array.getElem?_modify,bR]
 ·exact h.book.keep (by rw[qs bk h.nk];exact q bk aB nk)
 ·intro e
  have e:bk=g:=by simpa [Value.ownBlock] using e
  rcases hat with h1|h1
  ·exact nk (by rw[h1,e])
  ·omega
 ·rw[List.length_append,List.length_singleton,List.map_append,List.map_singleton]
  exact qaL hown fun g' hg'=>qs g' (by have:g=g':=by simpa [Value.ownBlock] using hg'
                         omega)
 ·refine⟨by have:=hgrow.size;simp at this ⊢;omega,fun k o hk ho=>?_⟩
  have aB:k<W.heap.size:=(Array.getElem?_eq_some_iff.1 hk).1
  have aE:k≠R:=fun e=>by rw[e,h.box]at hk;cases hk;cases ho
  rw[qs k aE,q k aB ?_]
  ·exact hk
  ·rcases h.row.2 with ⟨rfl,_⟩|⟨g,cap,cur,rfl,_,aF,_⟩
   ·simp[Value.ownBlock]
   ·intro e
    obtain rfl:k=g:=by simpa [Value.ownBlock] using e
    rw[aF]at hk;cases hk;cases ho
theorem xaB {ops:Array Oper} (h:ops.all (fun o=>match o.op with|.defer _=>false|_=>true)=true):∀ (i:Nat) (o:Oper),ops[i]?=some o->∀ c,o.op≠.defer c:=by
 intro i o hi c hc
 obtain⟨hl,rfl⟩:=Array.getElem?_eq_some_iff.1 hi
 have:=Array.all_eq_true.1 h i hl
 rw[hc]at this
 cases this
theorem qkN (f:Nat) (l:List UInt8):(qbJ f l).length<=f:=by
 induction f generalizing l with
 | zero=>simp[qbJ]
 | succ f ih=>
  rw[qbJ]
  split
  ·simp
  ·rw[List.length_cons]
   exact Nat.succ_le_succ (ih _)
theorem qkX (f:Nat) (l:List UInt8) (hl:l.length<=3000):∀ x,x∈qbJ f l->x.size<=3000:=by
 induction f generalizing l with
 | zero=>intro x hx;simp[qbJ]at hx
 | succ f ih=>
  intro x hx
  have hd:=(List.dropWhile_suffix (l:=l) qaR).length_le
  rw[qbJ]at hx
  split at hx
  ·simp at hx
  ·rename_i c r e
   rw[e]at hd
   rcases List.mem_cons.1 hx with rfl|h
   ·show ((c :: r).take _).toArray.size<=3000
    simp only[List.size_toArray,List.length_take]
    omega
   ·exact ih _ (by rw[List.length_drop];omega) x h
theorem qtQ (s:ByteArray) (hs:s.size<=3000) (w:World) :
  CallsIn Fence.wide 3 Tryz.prog 34 #[.string s] w fun e w'=>∃ R bk wv,e=.returned (.pointer (some ⟨R,0,none⟩))/\w.heap.size<=R/\Below w.heap.size w w' /\ Rdr w' R bk wv (qbJ s.size s.data.toList) 0 0:=by
 have HN:=Lib.hid (qpO w)
 refine callsIn_of_wp_marks Tryz.func34 rfl trivial ?_ rfl
 simp only[Tryz.ntmps34,List.size_toArray,List.length_cons,List.length_nil,Nat.reduceAdd,Nat.reduceSub,Array.replicate_succ,Array.replicate_zero,List.push_toArray,List.append_toArray,List.nil_append,List.cons_append]
 gi_wp2_with (first|(refine⟨trivial,?_⟩;gi_at_call 49;refine (callsIn_wide.2 HN.out).mono ?_;clear HN;rintro e w1 ⟨bk,rfl,bJ,bD,aV,aH⟩)|(refine⟨trivial,?_⟩;gi_at_call 50;refine (qzR _ _ _).mono ?_;rintro e w2 ⟨rfl,rfl⟩))
 obtain⟨W0,aF⟩:∃ W0,W0=((w1.alloc (.cells #[.pointer (some ⟨bk,0,none⟩),.slice none 0 0,.int .i64 0,.int .i64 0] 84)).alloc (.cells #[.pointer (some ⟨w1.heap.size,0,none⟩)] 62)).alloc (.cells #[.string s] 9):=⟨_,rfl⟩
 have bF:W0.heap.size=w1.heap.size+3:=by rw[aF];simp
 have aE:Below w1.heap.size w1 W0:=by rw[aF];exact (((Below.refl _ _).alloc (Nat.le_refl _) _).alloc (by simp) _).alloc (by simp;omega) _
 have aL:Below w.heap.size w W0:=aH.trans (aE.mono aH.size)
 have bT:Boxed W0 (w1.heap.size+2) 9 (.string s):=by
  rw[aF]
  have:=Boxed.new ((w1.alloc (.cells #[.pointer (some ⟨bk,0,none⟩),.slice none 0 0,.int .i64 0,.int .i64 0] 84)).alloc (.cells #[.pointer (some ⟨w1.heap.size,0,none⟩)] 62)) 9 (.string s)
  rw[show ((w1.alloc (.cells #[.pointer (some ⟨bk,0,none⟩),.slice none 0 0,.int .i64 0,.int .i64 0] 84)).alloc (.cells #[.pointer (some ⟨w1.heap.size,0,none⟩)] 62)).heap.size=w1.heap.size+2 by simp]at this
  exact this
 have aR:Gath w.heap.size (w1.heap.size+1) w1.heap.size bk w [] W0 (.slice none 0 0):=by
  refine⟨?_,?_,aV.keep (aE.block bk bD),by omega,by omega,(by simp[Value.ownBlock]),World.ownsRow_nil _ _ _ _,aL⟩
  ·rw[aF]
   have:=Boxed.new (w1.alloc (.cells #[.pointer (some ⟨bk,0,none⟩),.slice none 0 0,.int .i64 0,.int .i64 0] 84)) 62 (.pointer (some ⟨w1.heap.size,0,none⟩))
   rw[World.size_alloc]at this
   exact this.alloc _
  ·rw[aF,Below.heap_alloc _ _ _ (by simp;omega),Below.heap_alloc _ _ _ (by simp)]
   exact heap_alloc_new _ _
 rw[<- aF]
 refine wpIn_rangeFunc_ownG rfl (by decide) (gf:=62) (lb:=#[.pointer (some ⟨w1.heap.size+2,0,none⟩)]) rfl trivial (enters_of Tryz.func62 (by kernel_rfl) rfl)
  (qvJ 2 (by decide) (w1.heap.size+2) w.heap.size s hs W0 (by omega) bT.cell) belowK_t (belowK_b (by have:=aH.size;omega)) (Below.refl _ _) (fun _=>rfl)
  (fun pre W=>∃ wv,Gath w.heap.size (w1.heap.size+1) w1.heap.size bk w pre W wv)
  (fun _ _ _=>False) ?own
  (fun _ _ _ _ _ hs _ _=>hs)
  ⟨_,aR⟩
  (fun x=>{ tmps:=#[.string s,undef,.pointer none,.pointer (some ⟨w1.heap.size+1,0,none⟩),.string x,.pointer (some ⟨bk,0,none⟩),.agg #[.pointer (some ⟨bk,0,none⟩),.slice none 0 0,.int .i64 0,.int .i64 0],.pointer (some ⟨w1.heap.size,0,none⟩),.string s,.func (.func 62) #[] #[.pointer (some ⟨w1.heap.size+2,0,none⟩)],.string x,undef,undef,undef,undef,undef,undef,undef,undef,undef,undef,undef],defers:=[] }) ?assign ?body ?done ?stop
 case own=>
  rintro pre A C row ⟨wv,h⟩ hg hr
  have aM:∀ k,k<W0.heap.size->some k≠row:=fun k hk e=>by have:=(hr k e.symm).1;omega
  have aN:w1.heap.size<A.heap.size:=(Array.getElem?_eq_some_iff.1 h.box).1
  refine⟨wv,h.var.kept hg (aM _ (by omega)),(hg.block _ aN (aM _ (by omega))).trans h.box,h.book.keep (hg.block bk h.book.lt (aM _ (by omega))),h.nk,h.nB,h.nw,h.row.kept hg ?_,h.below.grown hg h.below.size (fun k e=>?_)⟩
  ·rcases h.row.2 with ⟨rfl,_⟩|⟨g,cap,cur,rfl,_,aJ,_⟩
   ·exact .inl rfl
   ·refine .inr fun e'=>?_
    obtain⟨o,ho,hc⟩:=(hr g (by simpa [Value.ownBlock] using e'.symm)).2
    rw[aJ]at ho;cases ho;cases hc
  ·have:=(hr k e).1
   have:=aL.size
   omega
 case assign=>
  intro l x W K hK
  gi_wp2
  exact hK
 case body=>
  rintro l pre x W ⟨wv,hG⟩ bE
  have hc:=hG.var.cell
  have aZ:W.cell? ⟨w1.heap.size,1,none⟩=some wv:=by simp[World.cell?,hG.box]
  have HG:=Lib.hid hG
  have bA:=aH.size
  clear aR bT aL aE aF aV aH hG
  gi_wp2
  have bG:=bE
  have bB:=qkN s.size s.data.toList
  have bH:=HG.out.below.size
  have bC:=HG.out.var.lt
  have bI:w.heap.size<=w1.heap.size:=bA
  have aS:Hid ((W.drew.alloc (.cells #[.string x] 9)).ownsRow w.heap.size 9 1 wv pre.length (pre.map .string)):=qaL HG.out.row fun g hg=>Below.heap_alloc _ _ _ (qaF HG.out.row g hg).2
  have aO:Hid ((W.drew.alloc (.cells #[.string x] 9)).cell? ⟨w1.heap.size+1,0,none⟩=some (.pointer (some ⟨w1.heap.size,0,none⟩))/\(W.drew.alloc (.cells #[.string x] 9)).cell? ⟨w1.heap.size,1,none⟩=some wv):=
   ⟨(World.cell?_of_block (Below.heap_alloc W.drew _ _ (by simpa using bC))).trans hc,(World.cell?_of_block (Below.heap_alloc W.drew _ _ (by show w1.heap.size<W.heap.size;omega))).trans aZ⟩
  obtain⟨is0,aK,aW,aX,aY⟩:=info_parts Tryz.info_strN
  have aD:Hid (_/\_/\_/\_):=⟨aK,aW,aX,aY⟩
  clear aK aW aX aY
  refine qnG (by kernel_rfl) (xaB (by kernel_rfl)) (fun h=>(by obtain⟨_,_,h⟩:=h;exact h)) ?_
  refine wpAny_of_held (S:=fun w'=>w'.cell? ⟨w1.heap.size+1,0,none⟩=some (.pointer (some ⟨w1.heap.size,0,none⟩))) _ _ _ _ ?_
  have hHeld:W.drew.cell? ⟨w1.heap.size+1,0,none⟩=some (.pointer (some ⟨w1.heap.size,0,none⟩)):=hc
  refine wpAnyH_take (i:=0) (v:=?_) rfl (by kernel_rfl) (by kernel_rfl) (by kernel_rfl) (fun _ _ _ h=>h) (Or.inl ⟨by kernel_rfl,?_⟩) (by assumption) ?_
  rotate_left 1
  ·(intro wq hSw;(try dsimp only at hSw);go_simp;first|done|with_reducible rfl)
  refine wpAnyH_take (i:=1) (v:=?_) rfl (by kernel_rfl) (by kernel_rfl) (by kernel_rfl) (fun _ _ _ h=>h) (Or.inl ⟨by kernel_rfl,?_⟩) (by assumption) ?_
  rotate_left 1
  ·(intro wq hSw;(try dsimp only at hSw);go_simp;first|done|with_reducible rfl)
  refine wpAnyH_take (i:=2) (v:=?_) rfl (by kernel_rfl) (by kernel_rfl) (by kernel_rfl) (fun _ _ _ h=>h) (Or.inl ⟨by kernel_rfl,?_⟩) (by assumption) ?_
  rotate_left 1
  ·(intro wq hSw;(try dsimp only at hSw);go_simp;first|done|with_reducible rfl)
  refine wpAnyH_take (i:=3) (v:=?_) rfl (by kernel_rfl) (by kernel_rfl) (by kernel_rfl) (fun _ _ _ h=>h) (Or.inl ⟨by kernel_rfl,?_⟩) (by assumption) ?_
  rotate_left 1
  ·(intro wq hSw;(try dsimp only at hSw);go_simp;first|done|with_reducible rfl)
  refine wpAnyH_take (i:=5) (v:=?_) rfl (by kernel_rfl) (by kernel_rfl) (by kernel_rfl) (fun _ _ _ h=>h) (Or.inl ⟨by kernel_rfl,?_⟩) (by assumption) ?_
  rotate_left 1
  ·(intro wq hSw;(try dsimp only at hSw);go_simp;first|done|with_reducible rfl)
  refine wpAnyH_ready (rs:=[4,6]) (by kernel_rfl) (by simp) ?_
  refine AllReadyH.cons rfl (fun K hK=>?_) (AllReadyH.cons rfl (fun K hK=>?_) AllReadyH.nil)
  ·go_simp
   refine hK.out _ _ hHeld (fun hHeld=>?_)
   clear hK K
   refine wpAnyH_ready (rs:=[6]) (by kernel_rfl) (by simp) ?_
   refine AllReadyH.cons rfl (fun K hK=>?_) AllReadyH.nil
   go_simp
   refine hK.out _ _ aO.out.1 (fun hHeld=>?_)
   clear hK K
   refine wpAnyH_ready (rs:=[7]) (by kernel_rfl) (by simp) ?_
   refine AllReadyH.cons rfl (fun K hK=>?_) AllReadyH.nil
   refine step_append_lies _ (by rfl) (.tmp 15) (.tmp 17) 22 (by rfl) w.heap.size 9 is0 _ 1 16 Tryz.underlying22 aD.out.1 aD.out.2.1 aD.out.2.2.1 aD.out.2.2.2 rfl (by decide) wv pre.length (pre.map .string) (by rfl) aS.out ⟨W.heap.size,0,none⟩ 1 1 [.string x] (by rfl) rfl (World.news_of_block (heap_alloc_new W.drew _)) (by simp[Value.oneCell']) (by decide) (by unfold maxLen;omega) (by omega) (by simp;omega) (W.heap.size+1) (by simp) ?_
   intro g cap w5 aB aA aG aQ
   have aC:=Lib.hid (HG.out.step (by omega) (by omega) (by omega) aB aA aG)
   obtain⟨k0,k1,k2⟩:=aC.out.1
   refine hK.out _ _ k0 (fun hHeld=>?_)
   clear hK K aB aA
   refine wpAnyH_take (i:=8) (v:=?_) rfl (by kernel_rfl) (by kernel_rfl) (by kernel_rfl) (fun _ _ _ h=>h) (Or.inl ⟨by kernel_rfl,?_⟩) (by assumption) ?_
   rotate_left 1
   ·(intro wq hSw;(try dsimp only at hSw);go_simp;first|done|with_reducible rfl)
   refine wpAnyH_take (i:=9) (v:=?_) rfl (by kernel_rfl) (by kernel_rfl) (by kernel_rfl) (fun _ _ _ h=>h) (Or.inl ⟨by kernel_rfl,?_⟩) (by assumption) ?_
   rotate_left 1
   ·(intro wq hSw;(try dsimp only at hSw);go_simp;first|done|with_reducible rfl)
   refine wpAnyH_ready (rs:=[10]) (by kernel_rfl) (by simp) ?_
   refine AllReadyH.cons rfl (fun K hK=>?_) AllReadyH.nil
   go_simp
   refine hK.out _ _ ?_ (fun hHeld=>?_)
   ·exact aC.out.2.1.var.cell
   clear hK K
   refine wpAnyH_done (by kernel_rfl) ?_ _
   exact⟨aC.out.2.2.1.from _,aC.out.2.2.2,_,aC.out.2.1⟩
  ·go_simp
   refine hK.out _ _ aO.out.1 (fun hHeld=>?_)
   clear hK K
   have aP:(W.alloc (.cells #[.string x] 9)).cell? ⟨w1.heap.size,1,none⟩=some wv:=aO.out.2
   refine wpAnyH_ready (rs:=[4]) (by kernel_rfl) (by simp) ?_
   refine AllReadyH.cons rfl (fun K hK=>?_) AllReadyH.nil
   go_simp
   refine hK.out _ _ hHeld (fun hHeld=>?_)
   clear hK K aP
   refine wpAnyH_ready (rs:=[7]) (by kernel_rfl) (by simp) ?_
   refine AllReadyH.cons rfl (fun K hK=>?_) AllReadyH.nil
   refine step_append_lies _ (by rfl) (.tmp 15) (.tmp 17) 22 (by rfl) w.heap.size 9 is0 _ 1 16 Tryz.underlying22 aD.out.1 aD.out.2.1 aD.out.2.2.1 aD.out.2.2.2 rfl (by decide) wv pre.length (pre.map .string) (by rfl) aS.out ⟨W.heap.size,0,none⟩ 1 1 [.string x] (by rfl) rfl (World.news_of_block (heap_alloc_new W.drew _)) (by simp[Value.oneCell']) (by decide) (by unfold maxLen;omega) (by omega) (by simp;omega) (W.heap.size+1) (by simp) ?_
   intro g cap w5 aB aA aG aQ
   have aC:=Lib.hid (HG.out.step (by omega) (by omega) (by omega) aB aA aG)
   obtain⟨k0,k1,k2⟩:=aC.out.1
   refine hK.out _ _ k0 (fun hHeld=>?_)
   clear hK K aB aA
   refine wpAnyH_take (i:=8) (v:=?_) rfl (by kernel_rfl) (by kernel_rfl) (by kernel_rfl) (fun _ _ _ h=>h) (Or.inl ⟨by kernel_rfl,?_⟩) (by assumption) ?_
   rotate_left 1
   ·(intro wq hSw;(try dsimp only at hSw);go_simp;first|done|with_reducible rfl)
   refine wpAnyH_take (i:=9) (v:=?_) rfl (by kernel_rfl) (by kernel_rfl) (by kernel_rfl) (fun _ _ _ h=>h) (Or.inl ⟨by kernel_rfl,?_⟩) (by assumption) ?_
   rotate_left 1
   ·(intro wq hSw;(try dsimp only at hSw);go_simp;first|done|with_reducible rfl)
   refine wpAnyH_ready (rs:=[10]) (by kernel_rfl) (by simp) ?_
   refine AllReadyH.cons rfl (fun K hK=>?_) AllReadyH.nil
   go_simp
   refine hK.out _ _ ?_ (fun hHeld=>?_)
   ·exact aC.out.2.1.var.cell
   clear hK K
   refine wpAnyH_done (by kernel_rfl) ?_ _
   exact⟨aC.out.2.2.1.from _,aC.out.2.2.2,_,aC.out.2.1⟩
 case done=>
  rintro D ys W hD rfl ⟨wv,hG⟩ hK
  have hc:=hG.var.cell
  gi_wp2
  refine⟨by simp,.inl ⟨_,_,rfl,run_takeDeferred hK,?_⟩⟩
  refine⟨_,results_tmp rfl _ _ _,w1.heap.size,bk,wv,rfl,aH.size,hG.below.trans (belowK_b (w:=w) (Nat.le_refl _) W D _ _ (by have:=aL.size;omega) hK rfl rfl),?_⟩
  have hg:=grownBy_putObj' W D (.deferred none)
  have aN:w1.heap.size<W.heap.size:=(Array.getElem?_eq_some_iff.1 hG.box).1
  have aT:(W.putObj D (.deferred none)).heap[w1.heap.size]?=some (.cells #[.pointer (some ⟨bk,0,none⟩),wv,.int .i64 0,.int .i64 0] 84 (0,0)):=(hg.block _ aN (by intro e;cases e;omega)).trans hG.box
  have aU:=qkX s.size s.data.toList (by show s.size<=3000;exact hs)
  have bB:=qkN s.size s.data.toList
  have aI:=ownsRow_putObj hG.row (.deferred none) hK rfl
  refine⟨aT,qdZ aI (by omega) (fun x hx=>by have:=aU x hx;omega) (fun g e=>?_),hG.book.keep (hg.block bk hG.book.lt (by intro e;cases e;omega)),hG.nk,aU,by omega⟩
  rcases aI.2 with ⟨rfl,_⟩|⟨g',cap,cur,rfl,_,aJ,_⟩
  ·cases e
  ·have e1:g'=g:=by simpa [Value.ownBlock] using e
   subst e1
   refine⟨(Array.getElem?_eq_some_iff.1 aJ).1,fun e2=>?_⟩
   rw[e2,aT]at aJ
   simp at aJ
 case stop=>
  rintro D c pre W _ _ h _
  exact h.elim
theorem qvR (s:ByteArray) (hs:s.size<=3000):qvP s (qbJ s.size s.data.toList):=fun W=>callsIn_wide.1 (qtQ s hs W)
end Go.Proofs.YtelogmjfekhmpaaGreatDoor
