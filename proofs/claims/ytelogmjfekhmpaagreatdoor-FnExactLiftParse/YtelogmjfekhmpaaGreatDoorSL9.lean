import Derived.Test.YtelogmjfekhmpaaGreatDoorSL2
import Derived.Test.YtelogmjfekhmpaaGreatDoorB34
import Derived.Test.YtelogmjfekhmpaaGreatDoorB10
import Derived.BigQuiet
import Derived.Deep.RegionHeld
namespace Go.Proofs.YtelogmjfekhmpaaGreatDoor
set_option maxRecDepth 100000
set_option maxHeartbeats 16000000
open Go.RowKit Go.Proofs.Tryz
def TextS(m:Nat):Prop:=∀(S:Nat->Prop)(t:T m)(c0 c1 c2 c3 c4:Value)(d:Int)(w:World),NodeIn S w m t c0 c1 c2 c3 c4->(∀b,S b->b<w.heap.size)->goodN m t d=true->lenN m t<=800000 ->
 Calls prog 32 #[.agg #[c0,c1,c2,c3,c4]] w fun e w'=>Below w.heap.size w w' /\ ∃s,e=.returned (.string s)/\s.size=lenN m t
theorem qcO(a b:ByteArray):(a++b).size=a.size+b.size:=by simp
theorem qkS{α:Type}(f:α->Nat)(l:List α)(k:Nat):sumL f (l.take k)<=sumL f l:=by
 have:=qcP f (l.take k) (l.drop k)
 rw[List.take_append_drop]at this;omega
theorem qmY(l:List ByteArray)(k:Nat):szN (l.take k)<=szN l:=by
 have:=qoE (l.take k) (l.drop k)
 rw[List.take_append_drop]at this;omega
theorem qzO (m:Nat) (hn:TextS m) (S:Nat->Prop) (n:Nd (T m)) (na ka:Option Addr) (nc kc:Nat) (d:Int) (w:World) (hB:∀ b,S b->b<w.heap.size) (h3:StrsIn S w n.names (.slice na n.names.length nc)) (h4:RowIn S w (NodeIn S w m) n.kids (.slice ka n.kids.length kc))
  (hle:n.names.length=n.kids.length) (hg:n.kids.all (fun x=>goodN m x d)=true) (hl:8+szN n.names+sumL (fun x=>lenN m x+1) n.kids<=800000) :
  Calls prog 32 #[.agg #[.int .i64 24,.int .i64 n.num,.string n.text,.slice na n.names.length nc,.slice ka n.kids.length kc]] w fun e w'=>Below w.heap.size w w' /\ ∃s,e=.returned (.string s)/\s.size=8+szN n.names+sumL (fun x=>lenN m x+1) n.kids:=by
 obtain⟨W,K⟩:∃W,W=w.alloc (.cells #[.int .i64 24,.int .i64 n.num,.string n.text,.slice na n.names.length nc,.slice ka n.kids.length kc] 25):=⟨_,rfl⟩
 have l:Below w.heap.size w W:=by rw[K];exact (Below.refl _ _).alloc (Nat.le_refl _) _
 have aH:w.heap.size<W.heap.size:=by rw[K];simp
 have t:W.heap[w.heap.size]?=some (.cells #[.int .i64 24,.int .i64 n.num,.string n.text,.slice na n.names.length nc,.slice ka n.kids.length kc] 25 (0,0)):=by rw[K];exact heap_alloc_last _ _
 obtain⟨_,_,R,U,V,v⟩:=h3.keep (qaB l hB) (fun _ h=>h)
 cases R
 obtain⟨_,_,R,X,y⟩:=h4.keepN (qaB l hB) (fun _ h=>h)
 cases R
 have HG:Hid (∀k (h:k<n.kids.length),goodN m n.kids[k] d=true):=fun k h=>List.all_eq_true.1 hg _ (List.getElem_mem h)
 have L:Hid (8+szN n.names+sumL (fun x=>lenN m x+1) n.kids<=800000):=hl
 have aC:n.names.length<=n.kids.length:=by omega
 have aD:n.kids.length<=n.names.length:=by omega
 have M:=hidF l
 unfold maxLen at U X
 clear hg hl h3 h4 hle l
 subst K
 go_enter func32,ntmps32
 go_wp2_with fail
 go_loopw [3,4] (fun a i wr=>∃(k:Nat)(s:ByteArray),k<=n.kids.length/\i=.int .i64 k/\a=.string s/\Hid (s.size=4+szN (n.names.take k)+sumL (fun x=>lenN m x+1) (n.kids.take k))/\Below (w.heap.size+1) (w.alloc (.cells #[.int .i64 24,.int .i64 n.num,.string n.text,.slice na n.names.length nc,.slice ka n.kids.length kc] 25)) wr) (fun _ i _=>n.kids.length-(intOf i).toNat)
 case atStart=>exact⟨0,⟨#[102,111,114,109]⟩,Nat.zero_le _,rfl,rfl,rfl,Below.refl _ _⟩
 case round=>
  obtain⟨k,s,hk,rfl,rfl,Y,j⟩:=hrel
  obtain⟨z0,z1,z2,z3,z4⟩:=qdM ((j.block w.heap.size (by omega)).trans t)
  by_cases hlt:k<n.kids.length
  ·have q:k<n.names.length:=by omega
   obtain⟨b,o,rfl,Z,u⟩:=v (by intro h;rw[h]at q;simp at q)
   have aI:=hB b Z
   have e0:=(j.cell (p:=⟨b,o+k,none⟩) (by show b<_;omega)).trans (u k q)
   obtain⟨f,c,rfl,D,r⟩:=y (by intro h;have:=List.length_eq_zero_iff.2 h;omega)
   have aE:=hB f D
   obtain⟨d0,d1,d2,d3,d4,k0,k1,k2,k3,k4,z⟩:=r k hlt
   obtain⟨x0,x1,x2,xa,xl,xc,ya,yl,yc,rfl,rfl,rfl,rfl,rfl⟩:=z.shape
   have f0:=(j.cell (p:=⟨f,c+k*5,none⟩) (by show f<_;omega)).trans k0
   have f1:=(j.cell (p:=⟨f,c+k*5+1,none⟩) (by show f<_;omega)).trans k1
   have f2:=(j.cell (p:=⟨f,c+k*5+2,none⟩) (by show f<_;omega)).trans k2
   have f3:=(j.cell (p:=⟨f,c+k*5+3,none⟩) (by show f<_;omega)).trans k3
   have f4:=(j.cell (p:=⟨f,c+k*5+4,none⟩) (by show f<_;omega)).trans k4
   have I:=j.size
   have HC:Hid (∀E,Below wr.heap.size wr E->Calls prog 32 #[.agg #[.int .i64 x0,.int .i64 x1,.string x2,.slice xa xl xc,.slice ya yl yc]] E fun e w'=>∃s,e=.returned (.string s)/\s.size=lenN m n.kids[k]/\Below wr.heap.size wr w' /\ (w'.cell? ⟨w.heap.size,3,none⟩=some (.slice (some ⟨b,o,none⟩) n.names.length nc)/\w'.cell? ⟨w.heap.size,4,none⟩=some (.slice (some ⟨f,c,none⟩) n.kids.length kc)/\w'.cell? ⟨b,o+k,none⟩=some (.string n.names[k])/\w'.cell? ⟨f,c+k*5,none⟩=some (.int .i64 x0)/\w'.cell? ⟨f,c+k*5+1,none⟩=some (.int .i64 x1)/\w'.cell? ⟨f,c+k*5+2,none⟩=some (.string x2)/\w'.cell? ⟨f,c+k*5+3,none⟩=some (.slice xa xl xc)/\w'.cell? ⟨f,c+k*5+4,none⟩=some (.slice ya yl yc))):=by
    intro E A
    have aF:=qcA (fun x=>lenN m x+1) n.kids _ (List.getElem_mem hlt)
    have hL:=L.out
    have l:Below (w.heap.size+1) (w.alloc (.cells #[.int .i64 24,.int .i64 n.num,.string n.text,.slice (some ⟨b,o,none⟩) n.names.length nc,.slice (some ⟨f,c,none⟩) n.kids.length kc] 25)) E:=j.trans (A.mono (by simp at I;omega))
    refine (hn S n.kids[k] _ _ _ _ _ d E (z.keep (qaB l (fun b F=>by have:=hB b F;omega)) (fun _ h=>h)) (fun b F=>by have:=hB b F;have:=l.size;simp at this;omega) (HG.out k hlt) (by omega)).mono ?_
    rintro e w' ⟨F,s',rfl,aA⟩
    have g:Below wr.heap.size wr w':=A.trans (F.mono A.size)
    simp at I
    exact⟨s',rfl,aA,g,(g.cell (p:=⟨w.heap.size,3,none⟩) (by show w.heap.size<_;omega)).trans z3,(g.cell (p:=⟨w.heap.size,4,none⟩) (by show w.heap.size<_;omega)).trans z4,(g.cell (p:=⟨b,o+k,none⟩) (by show b<_;omega)).trans e0,(g.cell (p:=⟨f,c+k*5,none⟩) (by show f<_;omega)).trans f0,(g.cell (p:=⟨f,c+k*5+1,none⟩) (by show f<_;omega)).trans f1,(g.cell (p:=⟨f,c+k*5+2,none⟩) (by show f<_;omega)).trans f2,(g.cell (p:=⟨f,c+k*5+3,none⟩) (by show f<_;omega)).trans f3,(g.cell (p:=⟨f,c+k*5+4,none⟩) (by show f<_;omega)).trans f4⟩
   have J:Hid (szN (n.names.take (k+1))=szN (n.names.take k)+(n.names[k].size+1)/\sumL (fun x=>lenN m x+1) (n.kids.take (k+1))=sumL (fun x=>lenN m x+1) (n.kids.take k)+(lenN m n.kids[k]+1)):=⟨qiE _ _ q,qbB _ _ _ hlt⟩
   have aJ:s.size+n.names[k].size+lenN m n.kids[k]+2<=900000:=by
    have B:=qmY n.names (k+1)
    have h2:=qkS (fun x=>lenN m x+1) n.kids (k+1)
    have h3:=L.out
    rw[J.out.1]at B
    rw[J.out.2]at h2
    rw[Y.out];omega
   have hD:Below wr.heap.size wr wr.drew:=(Below.refl _ _).drew
   have aK:(k:Int)<(n.kids.length:Int):=by omega
   have aG:(k:Int)<(n.names.length:Int):=by omega
   have N:=hidF j
   have O:=hidF I
   clear v y u r z k0 k1 k2 k3 k4 t V z0 z1 z2 j I
   generalize n.names[k]=nm at *
   generalize lenN m n.kids[k]=lk at *
   go_wp2_with fail
   go_region_held (fun w'=>w'.cell? ⟨w.heap.size,3,none⟩=some (.slice (some ⟨b,o,none⟩) n.names.length nc)/\w'.cell? ⟨w.heap.size,4,none⟩=some (.slice (some ⟨f,c,none⟩) n.kids.length kc)/\w'.cell? ⟨b,o+k,none⟩=some (.string nm)/\w'.cell? ⟨f,c+k*5,none⟩=some (.int .i64 x0)/\w'.cell? ⟨f,c+k*5+1,none⟩=some (.int .i64 x1)/\w'.cell? ⟨f,c+k*5+2,none⟩=some (.string x2)/\w'.cell? ⟨f,c+k*5+3,none⟩=some (.slice xa xl xc)/\w'.cell? ⟨f,c+k*5+4,none⟩=some (.slice ya yl yc)) (first|with_reducible assumption|go_keep) (first|(go_at_call 32;refine (HC.out _ hD).mono ?_;rintro e w2 ⟨s2,rfl,G,H,aB⟩))
   all_goals
    have P:Hid (Below (w.heap.size+1) _ w2):=N.out.trans (H.mono (by have:=O.out;simp at this;omega))
    have Q:Hid ((((s++⟨#[32]⟩)++nm)++⟨#[32]⟩++s2).size=4+szN (n.names.take (k+1))+sumL (fun x=>lenN m x+1) (n.kids.take (k+1))):=by
     show _=_
     rw[J.out.1,J.out.2,qcO,qcO,qcO,qcO,Y.out,G]
     show _+1+_+1+_=_
     omega
    clear H aB G HC f0 f1 f2 f3 f4 e0 z3 z4
    go_wp2_with fail
    go_roundw
    case rel=>exact⟨k+1,_,by omega,by go_num,rfl,Q,P.out⟩
    case measure=>simp[intOf];omega
  ·have C:k=n.kids.length:=by omega
   have HE:Hid ((s++⟨#[32,101,110,100]⟩).size=8+szN n.names+sumL (fun x=>lenN m x+1) n.kids):=by
    show _=_
    have B:=Y.out
    rw[C,List.take_length,List.take_of_length_le (by omega)]at B
    rw[qcO,B]
    show _+4=_
    omega
   have HB:=hidF (M.out.trans (j.mono (by omega)))
   have aL:s.size<=900000:=by
    have B:=HE.out
    rw[qcO]at B
    have:=L.out
    omega
   clear v y C j t z0 z1 z2 z3
   go_wp2_with fail
   go_ret
   exact⟨HB.out,_,rfl,HE.out⟩
theorem qzP (m:Nat) (n:Nd (T m)) (na ka:Option Addr) (nc kc k:Nat) (hk:n.sort=(k:Int)) (h1:1<=k) (h3:k<=3) (w:World) (hw0:(Lit.int .i64 n.sort).wf=true) (hw1:(Lit.int .i64 n.num).wf=true) (hx:n.text.size<=maxLen) (hal:qaO n.sort n.num n.text [] 0=true) :
  Calls prog 32 #[.agg #[.int .i64 (k:Int),.int .i64 n.num,.string n.text,.slice na n.names.length nc,.slice ka n.kids.length kc]] w fun e w'=>Below w.heap.size w w' /\ ∃s,e=.returned (.string s)/\s.size=(leafL n.sort n.num n.text).length:=by
 have c:=(Below.refl w.heap.size w).alloc (Nat.le_refl _) (.cells #[.int .i64 (k:Int),.int .i64 n.num,.string n.text,.slice na n.names.length nc,.slice ka n.kids.length kc] 25)
 have d:Hid (∀w,Calls prog 47 #[.agg #[.int .i64 (k:Int),.int .i64 n.num,.string n.text,.slice none 0 0,.slice none 0 0]] w fun e w'=>e=.returned (.string (bs (leafL n.sort n.num n.text)))/\Below w.heap.size w w'):=by
  intro w
  have f:goodT 1 (leafT n.sort n.num n.text) 1=true:=by
   show (decide ((1:Int)<=6) && qaO n.sort n.num n.text [] 0 && List.all ([]:List (T 0)) _)=_
   rw[hal];rfl
  have:=qoJ 1 (fun _=>False) (leafT n.sort n.num n.text) _ _ _ _ _ 1 w (qwQ _ w n.sort n.num n.text hw0 hw1 hx) (fun _ h=>h.elim) f (by show (1:Nat)<=120;omega)
  rw[hk]at this ⊢
  exact this
 have g:Hid ((bs (leafL n.sort n.num n.text)).size=(leafL n.sort n.num n.text).length):=qaL _
 generalize bs (leafL n.sort n.num n.text)=s at *
 have a:k=1∨k=2∨k=3:=by omega
 clear hk h1 h3 hal hw0 hw1 hx
 rcases a with rfl|rfl|rfl
 all_goals
  go_enter func32,ntmps32
  go_wp2_with fail
  refine (d.out _).mono ?_
  rintro e j ⟨rfl,b⟩
  have i:=hidF (qaA c (by simp) b)
  clear b d
  go_wp2_with fail
  go_ret
  exact⟨i.out,_,rfl,g.out⟩
theorem qzQ (S:Nat->Prop) (m:Nat) (n:Nd (T m)) (na ka:Option Addr) (nc kc:Nat) (w:World) (hB:∀ b,S b->b<w.heap.size) (h3:StrsIn S w n.names (.slice na n.names.length nc)) (hne:n.names≠[]) :
  Calls prog 32 #[.agg #[.int .i64 4,.int .i64 n.num,.string n.text,.slice na n.names.length nc,.slice ka n.kids.length kc]] w fun e w'=>Below w.heap.size w w' /\ ∃s,e=.returned (.string s)/\s.size=(n.names.headD ByteArray.empty).size:=by
 have c:=(Below.refl w.heap.size w).alloc (Nat.le_refl _) (.cells #[.int .i64 4,.int .i64 n.num,.string n.text,.slice na n.names.length nc,.slice ka n.kids.length kc] 25)
 obtain⟨_,_,j,p,-,f⟩:=h3.keep (qaB c hB) (fun _ h=>h)
 cases j
 obtain⟨b,k,rfl,l,a⟩:=f hne
 have d:0<n.names.length:=List.length_pos_iff.2 hne
 have g:=a 0 d
 rw[Nat.add_zero]at g
 have i:Hid (n.names[0].size=(n.names.headD ByteArray.empty).size):=by
  show _=_
  rw[List.headD_eq_head?_getD,List.head?_eq_getElem?,List.getElem?_eq_getElem d];rfl
 have o:(0:Int)<(n.names.length:Int):=by omega
 generalize n.names[0]=s at *
 clear f a h3 hne
 go_enter func32,ntmps32
 go_wp2_with fail
 go_ret
 exact⟨c,_,rfl,i.out⟩
end Go.Proofs.YtelogmjfekhmpaaGreatDoor
