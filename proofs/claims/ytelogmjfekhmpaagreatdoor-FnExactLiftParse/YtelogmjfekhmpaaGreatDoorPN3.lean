import Derived.Test.YtelogmjfekhmpaaGreatDoorPN2
import Derived.Test.YtelogmjfekhmpaaGreatDoorNP1
namespace Go.Proofs.YtelogmjfekhmpaaGreatDoor
open Go.RowKit
def qnF (m R bk:Nat) (wv:Value) (ws:List ByteArray) (a:Nat) (w:World) (r:Rd3 (T m)) (e:Ending) (w':World):Prop:=
 Near R w w' /\ ((∃ (t:T m) (a' c':Nat) (c0 c1 c2 c3 c4:Value),r=.ok (t,a',c')/\e=.returned (.agg #[c0,c1,c2,c3,c4])/\NodeIn (fun b=>w.heap.size<=b/\b<w'.heap.size) w' m t c0 c1 c2 c3 c4/\OwnN (fun b=>w.heap.size<=b/\b<w'.heap.size) w' m t c3 c4/\Rdr w' R bk wv ws a' c' /\ a<a') ∨
  (∃ code at',r=.error (code,at')/\e=.panicked (qbV code at')))
def actI (act:Bool):Int:=if act=true then 65 else 86
def qhC (M m:Nat):Prop:=∀ (B R bk:Nat) (wv:Value) (ws:List ByteArray) (a c:Nat) (act:Bool) (d:Int) (w:World),LaidU B w->B<=R->Rdr w R bk wv ws a c->1<=d->d+(m:Int)=26->c<=200 ->
 Calls Tryz.prog 51 #[.pointer (some ⟨R,0,none⟩),.int .i32 (actI act),.int .i64 d] w (qnF m R bk wv ws a w (qaI M ws m act d a c))
theorem Tryz.info_nodeR:(Tryz.prog.info? 25).map (fun i=>(i.zero,i.size,i.bytes))=some (some (.agg #[.int .i64 0,.int .i64 0,.string ⟨#[]⟩,.slice none 0 0,.slice none 0 0]),5,80):=by kernel_rfl
theorem qeG {R:Nat} {wc W:World} (hW:W=wc.drew∨W=wc.drew.alloc zeroN):Near R wc W:=by
 rcases hW with rfl|rfl
 ·exact qaK (Near.refl R wc) 1
 ·exact (qaK (Near.refl R wc) 1).trans (Near.alloc R _ _)
theorem qqW {w W:World} {R bk:Nat} {wv:Value} {ws:List ByteArray} {a c:Nat} (h:Rdr w R bk wv ws a c) (hW:W=w.drew∨W=w.drew.alloc zeroN):Rdr W R bk wv ws a c:=by
 refine h.keep (qeG hW) (Eq.trans ?_ h.box)
 rcases hW with rfl|rfl
 ·rfl
 ·exact Below.heap_alloc _ _ _ h.lt
theorem qtO {M m B R bk:Nat} (hI:qhC M m) {wv:Value} {ws:List ByteArray} {a c:Nat} {wc:World} (act:Bool) (d:Int) (hL:LaidU B wc) (hB:B<=R) (h:Rdr wc R bk wv ws a c) (hd:1<=d) (hdm:d+(m:Int)=26) (hc:c<=200) (W:World) (hW:W=wc.drew∨W=wc.drew.alloc zeroN) :
  Calls Tryz.prog 51 #[.pointer (some ⟨R,0,none⟩),.int .i32 (actI act),.int .i64 d] W fun e w'=>Near R W w' /\ Near R wc w' /\ ((∃ (t:T m) (a' c':Nat) (c0 c1 c2 c3 c4:Value),qaI M ws m act d a c=.ok (t,a',c')/\e=.returned (.agg #[c0,c1,c2,c3,c4])/\NodeIn (fun b=>wc.heap.size<=b/\b<w'.heap.size) w' m t c0 c1 c2 c3 c4/\OwnN (fun b=>wc.heap.size<=b/\b<w'.heap.size) w' m t c3 c4/\Rdr w' R bk wv ws a' c' /\ a<a') ∨
   (∃ code at',qaI M ws m act d a c=.error (code,at')/\e=.panicked (qbV code at'))):=by
 refine (hI B R bk wv ws a c act d W (hL.near (qeG hW) hB h.lt) hB (qqW h hW) hd hdm hc).mono ?_
 rintro e w' ⟨hn,⟨t,a',c',c0,c1,c2,c3,c4,h1,h2,h3,h4,h5,h6⟩|⟨code,at',h1,h2⟩⟩
 ·exact⟨hn,(qeG hW).trans hn,.inl ⟨t,a',c',c0,c1,c2,c3,c4,h1,h2,h3.keep (fun _ _=>rfl) (fun b hb=>⟨Nat.le_trans (qeG (R:=R) hW).size hb.1,hb.2⟩),h4.keep (fun _ _=>rfl) (fun b hb=>⟨Nat.le_trans (qeG (R:=R) hW).size hb.1,hb.2⟩),h5,h6⟩⟩
 ·exact⟨hn,(qeG hW).trans hn,.inr ⟨code,at',h1,h2⟩⟩
theorem xeS {m:Nat} {wc v2:World} {t:T m} {c0 c1 c2 c3 c4:Value} (h:NodeIn (fun b=>wc.heap.size<=b/\b<v2.heap.size) v2 m t c0 c1 c2 c3 c4) (o:Obj):NodeIn (fun b=>wc.heap.size<=b/\b<(v2.alloc o).heap.size) (v2.alloc o) m t c0 c1 c2 c3 c4:=
 h.keep (fun b hb=>Below.heap_alloc _ _ _ hb.2) (fun b hb=>⟨hb.1,by have:=hb.2;simp;omega⟩)
theorem xeT {m:Nat} {wc v2:World} {t:T m} {c3 c4:Value} (h:OwnN (fun b=>wc.heap.size<=b/\b<v2.heap.size) v2 m t c3 c4) (o:Obj):OwnN (fun b=>wc.heap.size<=b/\b<(v2.alloc o).heap.size) (v2.alloc o) m t c3 c4:=
 h.keep (fun b hb=>Below.heap_alloc _ _ _ hb.2) (fun b hb=>⟨hb.1,by have:=hb.2;simp;omega⟩)
theorem qlM {B R X Y bk m j g cap:Nat} {it:Obj} {wv:Value} {ws:List ByteArray} {w0 wc Wp v3:World} {n:Nd (T m)} {a c a' c':Nat} {na:Option Addr} {nc:Nat} {ka:Option Addr} {kc:Nat} {t:T m} {c0 c1 c2 c3 c4 z0 z1 z2 z3 z4:Value} {xs:List Value} {Ps:List (List Spot)}
  (h:PSt B R X Y it bk m wv ws w0 wc n a c na nc ka kc) (hkl:n.kids.length=j) (hn:Near R wc Wp) (ht:NodeIn (fun b=>wc.heap.size<=b/\b<Wp.heap.size) Wp m t c0 c1 c2 c3 c4) (hot:OwnN (fun b=>wc.heap.size<=b/\b<Wp.heap.size) Wp m t c3 c4)
  (hxs:wc.ownsRow (Y+1) 25 5 (.slice ka j kc) j xs) (hpl:Ps.length=n.kids.length) (hko:KidsOwnN (Far (Y+1) (.slice na n.names.length nc) (.slice ka n.kids.length kc) wc.heap.size) wc m n.kids xs Ps) (hln:Ps.flatten.length+3*n.kids.length=sumL (fun x=>3+spL m x) n.kids)
  (hown:v3.ownsRow (Y+1) 25 5 (.slice (some ⟨g,0,none⟩) (j+1) cap) (j+1) (xs++[z0,z1,z2,z3,z4])) (hgrow:Wp.grownBy v3 (Value.slice ka j kc).ownBlock) (hat:(Value.slice ka j kc).ownBlock=some g∨g=Wp.heap.size) (hcp:Rdr Wp R bk wv ws a' c') (ha:a<a') :
  PSt B R X Y it bk m wv ws w0 ((((((v3.setCell ⟨g,j*5,none⟩ c0).setCell ⟨g,j*5+1,none⟩ c1).setCell ⟨g,j*5+2,none⟩ c2).setCell ⟨g,j*5+3,none⟩ c3).setCell ⟨g,j*5+4,none⟩ c4).setCell ⟨X,4,none⟩ (.slice (some ⟨g,0,none⟩) (j+1) cap)) ⟨n.sort,n.num,n.text,n.names,n.kids++[t]⟩ a' c' na nc (some ⟨g,0,none⟩) cap /\
  PSt B R X Y it bk m wv ws w0 ((((((v3.setCell ⟨X,4,none⟩ (.slice (some ⟨g,0,none⟩) (j+1) cap)).setCell ⟨g,j*5,none⟩ c0).setCell ⟨g,j*5+1,none⟩ c1).setCell ⟨g,j*5+2,none⟩ c2).setCell ⟨g,j*5+3,none⟩ c3).setCell ⟨g,j*5+4,none⟩ c4) ⟨n.sort,n.num,n.text,n.names,n.kids++[t]⟩ a' c' na nc (some ⟨g,0,none⟩) cap:=by
 subst hkl
 have aC:=qaF hown g rfl
 have aA:=h.rx
 have aB:=h.many.xy
 have hF:=ManyNP.kidZ h.many.toManyN aA h.wx hn ht hot hxs hpl hko hln hown hgrow hat
 have hC:=xdW (R:=R) (X:=X) (g:=g) (W:=wc) (Wp:=Wp) (W2:=v3) (q:=n.kids.length*5) (u:=.slice (some ⟨g,0,none⟩) (n.kids.length+1) cap) (c0:=c0) (c1:=c1) (c2:=c2) (c3:=c3) (c4:=c4) aA aB.1 hxs hgrow (show X<g by omega) hcp.lt hcp.box
 obtain⟨a0,k0,hr⟩:=h.rdr0
 have e:(n.kids++[t]).length=n.kids.length+1:=by rw[List.length_append];rfl
 have key:∀ W,W=(put5 v3 g (n.kids.length*5) c0 c1 c2 c3 c4).setCell ⟨X,4,none⟩ (.slice (some ⟨g,0,none⟩) (n.kids.length+1) cap)->PSt B R X Y it bk m wv ws w0 W ⟨n.sort,n.num,n.text,n.names,n.kids++[t]⟩ a' c' na nc (some ⟨g,0,none⟩) cap:=by
  rintro W rfl
  refine⟨?_,hr.keep hF.near hC,⟨a0,k0,hr⟩,h.laid,h.br,h.rx,h.wx,?_,h.xy,?_⟩
  ·show ManyNP R X Y m w0 _ n.sort n.num n.text n.names (n.kids++[t]) _ (.slice (some ⟨g,0,none⟩) (n.kids++[t]).length cap)
   rw[e];exact hF
  ·show n.names.length+(n.kids++[t]).length<=a'
   have:=h.few
   rw[e];omega
  ·have h1:=h.xy
   rw[Below.heap_setCell _ _ _ _ (by show Y≠X;omega),qaS (by omega),hgrow.block Y (by have:=hn.size;omega) (fun e=>by have:=qaF hxs Y e.symm;omega),hn.block Y aB.2 (by omega)]
   exact h.iter
 refine⟨key _ rfl,key _ ?_⟩
 have:=xdV v3 X 4 g (n.kids.length*5) (.slice (some ⟨g,0,none⟩) (n.kids.length+1) cap) c0 c1 c2 c3 c4 (by omega)
 exact this
end Go.Proofs.YtelogmjfekhmpaaGreatDoor
