import Derived.Test.YtelogmjfekhmpaaGreatDoorPN8
namespace Go.Proofs.YtelogmjfekhmpaaGreatDoor
open Go.RowKit
structure Gd (R bk:Nat) (wv:Value) (ws:List ByteArray) (a c:Nat) (W1 W:World):Prop where
 rdr:Rdr W R bk wv ws a c
 near:Near R W1 W
theorem Gd.r0 {R bk:Nat} {wv:Value} {ws:List ByteArray} {a c:Nat} {W1 W:World} (h:Gd R bk wv ws a c W1 W):W.cell? ⟨R,0,none⟩=some (.pointer (some ⟨bk,0,none⟩)):=h.rdr.cells.1.1
theorem Gd.ge {R bk:Nat} {wv:Value} {ws:List ByteArray} {a c:Nat} {W1 W:World} (h:Gd R bk wv ws a c W1 W):W1.heap.size<=W.heap.size:=h.near.size
theorem Gd.alloc {R bk:Nat} {wv:Value} {ws:List ByteArray} {a c:Nat} {W1 W:World} (h:Gd R bk wv ws a c W1 W) (o:Obj):Gd R bk wv ws a c W1 (W.alloc o):=⟨h.rdr.same ((Below.refl _ _).alloc (Nat.le_refl _) o),h.near.trans (Near.alloc R W o)⟩
theorem Gd.laid5 {R bk:Nat} {wv:Value} {ws:List ByteArray} {a c X:Nat} {W1 W:World} (h:Gd R bk wv ws a c W1 W) (hr:Rdr W1 R bk wv ws a c) (hX:W1.heap.size<=X) (k:Nat):Gd R bk wv ws a c W1 (put5 W X 0 (.int .i64 (k:Int)) (.int .i64 0) (.string ⟨#[]⟩) (.slice none 0 0) (.slice none 0 0)):=by
 have hR:=hr.lt
 have hz:(put5 W X 0 (.int .i64 (k:Int)) (.int .i64 0) (.string ⟨#[]⟩) (.slice none 0 0) (.slice none 0 0)).heap.size=W.heap.size:=qbQ
 have hb:Below 0 W (put5 W X 0 (.int .i64 (k:Int)) (.int .i64 0) (.string ⟨#[]⟩) (.slice none 0 0) (.slice none 0 0)):=qaZ (Below.refl 0 W) (Nat.zero_le _)
 have q:∀ b,b≠X->(put5 W X 0 (.int .i64 (k:Int)) (.int .i64 0) (.string ⟨#[]⟩) (.slice none 0 0) (.slice none 0 0)).heap[b]?=W.heap[b]?:=fun b hb=>qaS hb
 have hn:Near R W1 (put5 W X 0 (.int .i64 (k:Int)) (.int .i64 0) (.string ⟨#[]⟩) (.slice none 0 0) (.slice none 0 0)):=⟨hb.os.trans h.near.os,hb.tape.trans h.near.tape,hb.output.trans h.near.output,by rw[hz];exact h.near.size,fun b h1 h2=>(q b (by omega)).trans (h.near.block b h1 h2)⟩
 exact⟨hr.keep hn ((q R (by omega)).trans h.rdr.box),hn⟩
theorem xhR {W:World} {X:Nat} {z0 z1 z2 z3 z4 c0 c1 c2 c3 c4:Value} {t:TypeId} (h:W.heap[X]?=some (.cells #[z0,z1,z2,z3,z4] t (0,0))):(put5 W X 0 c0 c1 c2 c3 c4).heap[X]?=some (.cells #[c0,c1,c2,c3,c4] t (0,0)):=by
 unfold put5
 simp[World.setCell,Array.getElem?_modify,h]
theorem qtP {S:Nat->Prop} {n:Nat} {w:World} {M:Nat} {e:TypeId} {v:Value} {l:List (T n)} {xs:List Value} (h:w.ownsRow M e 5 v l.length xs) (hl:l.length<=20000) (hS:∀ g,v.ownBlock=some g->S g)
  (hk:∀ j (h:j<l.length),∃ c0 c1 c2 c3 c4,(xs[j*5]?=some c0/\xs[j*5+1]?=some c1/\xs[j*5+2]?=some c2/\xs[j*5+3]?=some c3/\xs[j*5+4]?=some c4)/\NodeIn S w n l[j] c0 c1 c2 c3 c4):RowIn S w (NodeIn S w n) l v:=by
 have aA:l.length<=maxLen:=by unfold maxLen;omega
 rcases id h.2 with ⟨rfl,h0⟩|⟨g,cap,cur,rfl,aC,hg,aD,aE,aF,aB⟩
 ·exact⟨none,0,by rw[h0],aA,fun hne=>absurd (List.eq_nil_of_length_eq_zero h0) hne⟩
 ·refine⟨_,_,rfl,aA,fun _=>⟨g,0,rfl,hS g rfl,fun i hi=>?_⟩⟩
  obtain⟨c0,c1,c2,c3,c4,⟨e0,e1,e2,e3,e4⟩,ht⟩:=hk i hi
  have hc:∀ j u,xs[j]?=some u->w.cell? ⟨g,0+j,none⟩=some u:=fun j u hu=>by
   have:=h.cells (g:=g) rfl j u hu
   rwa [Addr.add_lit]at this
  exact⟨c0,c1,c2,c3,c4,hc _ _ e0,hc _ _ e1,hc _ _ e2,hc _ _ e3,hc _ _ e4,ht⟩
theorem qxI {w:World} {M:Nat} {e:TypeId} {z:Nat} {ao:Option Addr} {k c:Nat} {xs:List Value} (h:w.ownsRow M e z (.slice ao k c) k xs):k<=c:=by
 rcases h.2 with ⟨hv,h0⟩|⟨g,cap,cur,hv,aC,hg,aB,aD,aE,aA⟩
 ·omega
 ·cases hv;exact aB
theorem xeY:∀ k,k<44->(((wrd k).size=0)↔k<=4):=by decide
structure NAt (M B R X Y Z bk m k:Nat) (wv:Value) (ws:List ByteArray) (w w0 wr:World) (act:Bool) (d:Int) (a c pos:Nat) (n1:Nd (T m)) (a1 c1:Nat) (na:Option Addr) (nc:Nat) (ka:Option Addr) (kc:Nat):Prop where
 st:PSt B R X Y (.stringIter (bs (prt k)) pos) bk m wv ws w0 wr n1 a1 c1 na nc ka kc
 le:pos<=(prt k).length
 rest:qcP M (fun b=>qaI M ws m b (d+1)) ws ((prt k).drop pos) n1 a1 c1=qaI M ws (m+1) act d a c
 sort:n1.sort=(k:Int)
 al:a1<=ws.length
 cl:c1<=200
 leaf:pos=0->k<=3->∃ (h:a1<ws.length) (l:Int × Int × ByteArray),leafW M ws[a1]=some l
 zero:wr.heap[Z]?=some (.cells #[.int .i64 0,.int .i64 0,.string ⟨#[]⟩,.slice none 0 0,.slice none 0 0] 25 (0,0))
 zx:Z<w0.heap.size/\Z≠R/\Z=w.heap.size
 near:Near R w w0
 rd:Rdr w R bk wv ws a c
theorem xeZ:∀ k,k<44->∀ p,p∈prt k->p=84->k<=3/\(prt k).length=1:=by decide
theorem NAt.step {M B R X Y Z bk m k:Nat} {wv:Value} {ws:List ByteArray} {w w0 wr:World} {act:Bool} {d:Int} {a c pos:Nat} {n1:Nd (T m)} {a1 c1:Nat} {na:Option Addr} {nc:Nat} {ka:Option Addr} {kc:Nat} (h:NAt M B R X Y Z bk m k wv ws w w0 wr act d a c pos n1 a1 c1 na nc ka kc) (hM:3000<=M) (hI:qhC M m) (hk:k<44) (hd:1<=d) (hdm:d+1+(m:Int)=26) (hp:pos<(prt k).length) :
  Calls Tryz.prog 69 #[.pointer (some ⟨R,0,none⟩),.pointer (some ⟨X,0,none⟩),.int .i32 ((prt k)[pos].toNat:Int),.int .i64 d] (wr.iterAt Y (bs (prt k)) (pos+1)) fun e w'=>
   (e=.returned (.tuple #[])/\∃ n1 a1 c1 na nc ka kc,NAt M B R X Y Z bk m k wv ws w w0 w' act d a c (pos+1) n1 a1 c1 na nc ka kc)∨(∃ code at',e=.panicked (qbV code at')/\qaI M ws (m+1) act d a c=.error (code,at')/\Near R w w'):=by
 have aC:=h.st.xy
 have aD:=h.st.wx
 have hT:PSt B R X Y (.stringIter (bs (prt k)) (pos+1)) bk m wv ws w0 (wr.iterAt Y (bs (prt k)) (pos+1)) n1 a1 c1 na nc ka kc:=
  h.st.turn (Lib.iterAt_size _ _ _ _) ⟨rfl,rfl,rfl⟩ (fun b hb=>Lib.iterAt_other wr Y b _ _ hb) (Lib.iterAt_heap wr Y _ _ _ h.st.iter)
 have aA:(prt k).drop pos=(prt k)[pos] :: (prt k).drop (pos+1):=List.drop_eq_getElem_cons hp
 have aB:=List.getElem_mem hp
 refine (xhQ hM hI k h.sort hk (prt k)[pos] (quS k hk _ aB) d hd hdm h.cl h.al (fun e84=>?_) hT).mono ?_
 ·have:=xeZ k hk _ aB e84
  exact h.leaf (by omega) this.1
 ·have hr:=h.rest
  rw[aA,qcP]at hr
  rintro e w' (⟨n',a',c',na',nc',ka',kc',h1,rfl,h2⟩|⟨code,at',h1,rfl,h2⟩)
  ·left
   rw[h1]at hr
   obtain⟨b1,b2,b3⟩:=qvN M ws _ _ _ _ (xeX M ws m d) _ _ _ _ _ h1 h.cl
   refine⟨rfl,n',a',c',na',nc',ka',kc',h2,hp,hr,by rw[b1];exact h.sort,b2,b3,fun h0=>absurd h0 (by omega),?_,h.zx,h.near,h.rd⟩
   have hz:=h.zx
   rw[h2.many.near.block Z hz.1 hz.2.1,<- h.st.many.near.block Z hz.1 hz.2.1]
   exact h.zero
  ·right
   rw[h1]at hr
   exact⟨code,at',rfl,hr.symm,h.near.trans h2⟩
theorem NAt.out {M B R X Y Z bk m k:Nat} {wv:Value} {ws:List ByteArray} {w w0 wr:World} {act:Bool} {d:Int} {a c pos:Nat} {n1:Nd (T m)} {a1 c1:Nat} {na:Option Addr} {nc:Nat} {ka:Option Addr} {kc:Nat} (h:NAt M B R X Y Z bk m k wv ws w w0 wr act d a c pos n1 a1 c1 na nc ka kc) (hp:¬ pos<(prt k).length) :
  qnF (m+1) R bk wv ws a w (qaI M ws (m+1) act d a c) (.returned (.agg #[.int .i64 n1.sort,.int .i64 n1.num,.string n1.text,.slice na n1.names.length nc,.slice ka n1.kids.length kc])) (put5 wr Z 0 (.int .i64 n1.sort) (.int .i64 n1.num) (.string n1.text) (.slice na n1.names.length nc) (.slice ka n1.kids.length kc)):=by
 have hr:=h.rest
 rw[List.drop_of_length_le (by omega),qcP]at hr
 have hg:=qbU M ws (m+1) act d a c _ hr.symm
 dsimp only at hg
 obtain⟨wf0,wf1,wf2⟩:=xjV hg.1
 have hz:=h.zx
 have aG:=h.st.wx
 have aH:=h.st.xy
 have aF:=h.st.few
 have aI:=h.st.rdr.few
 have aJ:=h.al
 obtain⟨a0,c0,aM⟩:=h.st.rdr0
 have aA:(put5 wr Z 0 (.int .i64 n1.sort) (.int .i64 n1.num) (.string n1.text) (.slice na n1.names.length nc) (.slice ka n1.kids.length kc)).heap.size=wr.heap.size:=qbQ
 have hb:Below 0 wr (put5 wr Z 0 (.int .i64 n1.sort) (.int .i64 n1.num) (.string n1.text) (.slice na n1.names.length nc) (.slice ka n1.kids.length kc)):=qaZ (Below.refl 0 wr) (Nat.zero_le _)
 have q:∀ b,b≠Z->(put5 wr Z 0 (.int .i64 n1.sort) (.int .i64 n1.num) (.string n1.text) (.slice na n1.names.length nc) (.slice ka n1.kids.length kc)).heap[b]?=wr.heap[b]?:=fun b hb=>qaS hb
 have aB:Near R w wr:=h.near.trans h.st.many.near
 have hn:Near R w (put5 wr Z 0 (.int .i64 n1.sort) (.int .i64 n1.num) (.string n1.text) (.slice na n1.names.length nc) (.slice ka n1.kids.length kc)):=⟨hb.os.trans aB.os,hb.tape.trans aB.tape,hb.output.trans aB.output,by rw[aA];exact aB.size,fun b h1 h2=>(q b (by omega)).trans (aB.block b h1 h2)⟩
 have aK:Near R w0 wr:=h.st.many.near
 obtain⟨xs,aC,hk⟩:=h.st.many.kids
 have aD:=qaF h.st.many.names
 have aE:=qaF aC
 have aL:=h.near.size
 refine⟨hn,.inl ⟨n1,a1,c1,_,_,_,_,_,hr.symm,rfl,⟨rfl,rfl,rfl,by unfold maxLen;omega,wf0,wf1,?_,?_,⟨_,_,_,rfl,?_⟩,⟨_,_,_,rfl,?_⟩⟩,?_,?_,hg.2.2.2.2.1⟩⟩
 ·refine qcR (qaL h.st.many.names fun g hg=>q g (by have:=aD g hg;omega)) (by omega) h.st.many.short fun g hg=>?_
  have:=aD g hg
  exact⟨by omega,by rw[aA];exact this.2⟩
 ·refine qtP (qaL aC fun g hg=>q g (by have:=aE g hg;omega)) (by omega) (fun g hg=>?_) fun j hj=>?_
  ·have:=aE g hg
   exact⟨by omega,by rw[aA];exact this.2⟩
  ·obtain⟨e0,e1,e2,e3,e4,hc,ht⟩:=hk j hj
   refine⟨e0,e1,e2,e3,e4,hc,ht.keep (fun b hb=>q b (by have:=hb.1;omega)) (fun b hb=>⟨by have:=hb.1;omega,by rw[aA];exact hb.2.1⟩)⟩
 ·exact qxI h.st.many.names
 ·exact qxI aC
 ·have:=h.st.many.owns (by omega) (by omega)
  exact this.keep (fun b hb=>q b (by have:=hb.1;omega)) (fun b hb=>⟨by have:=hb.1;omega,by rw[aA];exact hb.2⟩)
 ·exact h.rd.keep hn ((q R (by omega)).trans h.st.rdr.box)
end Go.Proofs.YtelogmjfekhmpaaGreatDoor
