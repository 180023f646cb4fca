import Derived.Test.YtelogmjfekhmpaaGreatDoorSL2
import Derived.Test.YtelogmjfekhmpaaGreatDoorNW3
import Derived.Test.YtelogmjfekhmpaaGreatDoorSpecText2
import Derived.BigQuiet
import Derived.Deep.RegionHeld
namespace Go.Proofs.YtelogmjfekhmpaaGreatDoor
set_option maxRecDepth 100000
set_option maxHeartbeats 16000000
open Go.RowKit
def TextS (m:Nat):Prop:=∀ (S:Nat->Prop) (t:T m) (c0 c1 c2 c3 c4:Value) (d:Int) (w:World),NodeIn S w m t c0 c1 c2 c3 c4->(∀ b,S b->b<w.heap.size)->goodN m t d=true->lenN m t<=800000 ->
 Calls Tryz.prog 32 #[.agg #[c0,c1,c2,c3,c4]] w fun e w'=>Below w.heap.size w w' /\ ∃ s,e=.returned (.string s)/\s.size=lenN m t
theorem qaP (a b:ByteArray):(a++b).size=a.size+b.size:=by simp
theorem qcS {α:Type} (f:α->Nat) (l:List α) (k:Nat):sumL f (l.take k)<=sumL f l:=by
 have:=qcQ f (l.take k) (l.drop k)
 rw[List.take_append_drop]at this;omega
theorem qmZ (l:List ByteArray) (k:Nat):szN (l.take k)<=szN l:=by
 have:=qoF (l.take k) (l.drop k)
 rw[List.take_append_drop]at this;omega
theorem qzO (m:Nat) (hn:TextS m) (S:Nat->Prop) (n:Nd (T m)) (na ka:Option Addr) (nc kc:Nat) (d:Int) (w:World) (hB:∀ b,S b->b<w.heap.size) (h3:StrsIn S w n.names (.slice na n.names.length nc)) (h4:RowIn S w (NodeIn S w m) n.kids (.slice ka n.kids.length kc))
  (hle:n.names.length=n.kids.length) (hg:n.kids.all (fun x=>goodN m x d)=true) (hl:8+szN n.names+sumL (fun x=>lenN m x+1) n.kids<=800000) :
  Calls Tryz.prog 32 #[.agg #[.int .i64 24,.int .i64 n.num,.string n.text,.slice na n.names.length nc,.slice ka n.kids.length kc]] w fun e w'=>Below w.heap.size w w' /\ ∃ s,e=.returned (.string s)/\s.size=8+szN n.names+sumL (fun x=>lenN m x+1) n.kids:=by
 obtain⟨W,hW⟩:∃ W,W=w.alloc (.cells #[.int .i64 24,.int .i64 n.num,.string n.text,.slice na n.names.length nc,.slice ka n.kids.length kc] 25):=⟨_,rfl⟩
 have aF:Below w.heap.size w W:=by rw[hW];exact (Below.refl _ _).alloc (Nat.le_refl _) _
 have bF:w.heap.size<W.heap.size:=by rw[hW];simp
 have aG:W.heap[w.heap.size]?=some (.cells #[.int .i64 24,.int .i64 n.num,.string n.text,.slice na n.names.length nc,.slice ka n.kids.length kc] 25 (0,0)):=by rw[hW];exact heap_alloc_last _ _
 obtain⟨_,_,hv,aZ,bA,aH⟩:=h3.keep (qaB aF hB) (fun _ h=>h)
 cases hv
 obtain⟨_,_,hv,bB,aI⟩:=h4.keepN (qaB aF hB) (fun _ h=>h)
 cases hv
 have HG:Hid (∀ k (h:k<n.kids.length),goodN m n.kids[k] d=true):=fun k h=>List.all_eq_true.1 hg _ (List.getElem_mem h)
 have HL:Hid (8+szN n.names+sumL (fun x=>lenN m x+1) n.kids<=800000):=hl
 have aP:n.names.length<=n.kids.length:=by omega
 have aQ:n.kids.length<=n.names.length:=by omega
 have aR:=hidF aF
 unfold maxLen at aZ bB
 clear hg hl h3 h4 hle aF
 subst hW
 go_enter Tryz.func32,Tryz.ntmps32
 go_wp2_with fail
 go_loopw [3,4] (fun a i wr=>∃ (k:Nat) (s:ByteArray),k<=n.kids.length/\i=.int .i64 k/\a=.string s/\Hid (s.size=4+szN (n.names.take k)+sumL (fun x=>lenN m x+1) (n.kids.take k))/\Below (w.heap.size+1) (w.alloc (.cells #[.int .i64 24,.int .i64 n.num,.string n.text,.slice na n.names.length nc,.slice ka n.kids.length kc] 25)) wr) (fun _ i _=>n.kids.length - (intOf i).toNat)
 case atStart=>exact⟨0,⟨#[102,111,114,109]⟩,Nat.zero_le _,rfl,rfl,rfl,Below.refl _ _⟩
 case round=>
  obtain⟨k,s,hk,rfl,rfl,HS,aB⟩:=hrel
  obtain⟨z0,z1,z2,z3,z4⟩:=qcF ((aB.block w.heap.size (by omega)).trans aG)
  by_cases hlt:k<n.kids.length
  ·have aD:k<n.names.length:=by omega
   obtain⟨b,off,rfl,bC,aE⟩:=aH (by intro h;rw[h]at aD;simp at aD)
   have bG:=hB b bC
   have e0:=(aB.cell (p:=⟨b,off+k,none⟩) (by show b<_;omega)).trans (aE k aD)
   obtain⟨b2,off2,rfl,aJ,aC⟩:=aI (by intro h;have:=List.length_eq_zero_iff.2 h;omega)
   have aS:=hB b2 aJ
   obtain⟨d0,d1,d2,d3,d4,k0,k1,k2,k3,k4,aK⟩:=aC k hlt
   obtain⟨x0,x1,x2,xa,xl,xc,ya,yl,yc,rfl,rfl,rfl,rfl,rfl⟩:=aK.shape
   have f0:=(aB.cell (p:=⟨b2,off2+k*5,none⟩) (by show b2<_;omega)).trans k0
   have f1:=(aB.cell (p:=⟨b2,off2+k*5+1,none⟩) (by show b2<_;omega)).trans k1
   have f2:=(aB.cell (p:=⟨b2,off2+k*5+2,none⟩) (by show b2<_;omega)).trans k2
   have f3:=(aB.cell (p:=⟨b2,off2+k*5+3,none⟩) (by show b2<_;omega)).trans k3
   have f4:=(aB.cell (p:=⟨b2,off2+k*5+4,none⟩) (by show b2<_;omega)).trans k4
   have hz:=aB.size
   have HC:Hid (∀ W',Below wr.heap.size wr W'->Calls Tryz.prog 32 #[.agg #[.int .i64 x0,.int .i64 x1,.string x2,.slice xa xl xc,.slice ya yl yc]] W' fun e w'=>∃ s,e=.returned (.string s)/\s.size=lenN m n.kids[k]/\Below wr.heap.size wr w' /\ (w'.cell? ⟨w.heap.size,3,none⟩=some (.slice (some ⟨b,off,none⟩) n.names.length nc)/\w'.cell? ⟨w.heap.size,4,none⟩=some (.slice (some ⟨b2,off2,none⟩) n.kids.length kc)/\w'.cell? ⟨b,off+k,none⟩=some (.string n.names[k])/\w'.cell? ⟨b2,off2+k*5,none⟩=some (.int .i64 x0)/\w'.cell? ⟨b2,off2+k*5+1,none⟩=some (.int .i64 x1)/\w'.cell? ⟨b2,off2+k*5+2,none⟩=some (.string x2)/\w'.cell? ⟨b2,off2+k*5+3,none⟩=some (.slice xa xl xc)/\w'.cell? ⟨b2,off2+k*5+4,none⟩=some (.slice ya yl yc))):=by
    intro W' aL
    have aT:=qcB (fun x=>lenN m x+1) n.kids _ (List.getElem_mem hlt)
    have hL:=HL.out
    have aF:Below (w.heap.size+1) (w.alloc (.cells #[.int .i64 24,.int .i64 n.num,.string n.text,.slice (some ⟨b,off,none⟩) n.names.length nc,.slice (some ⟨b2,off2,none⟩) n.kids.length kc] 25)) W':=aB.trans (aL.mono (by simp at hz;omega))
    refine (hn S n.kids[k] _ _ _ _ _ d W' (aK.keep (qaB aF (fun b hb=>by have:=hB b hb;omega)) (fun _ h=>h)) (fun b hb=>by have:=hB b hb;have:=aF.size;simp at this;omega) (HG.out k hlt) (by omega)).mono ?_
    rintro e w' ⟨hb,s',rfl,bD⟩
    have aA:Below wr.heap.size wr w':=aL.trans (hb.mono aL.size)
    simp at hz
    exact⟨s',rfl,bD,aA,(aA.cell (p:=⟨w.heap.size,3,none⟩) (by show w.heap.size<_;omega)).trans z3,(aA.cell (p:=⟨w.heap.size,4,none⟩) (by show w.heap.size<_;omega)).trans z4,(aA.cell (p:=⟨b,off+k,none⟩) (by show b<_;omega)).trans e0,(aA.cell (p:=⟨b2,off2+k*5,none⟩) (by show b2<_;omega)).trans f0,(aA.cell (p:=⟨b2,off2+k*5+1,none⟩) (by show b2<_;omega)).trans f1,(aA.cell (p:=⟨b2,off2+k*5+2,none⟩) (by show b2<_;omega)).trans f2,(aA.cell (p:=⟨b2,off2+k*5+3,none⟩) (by show b2<_;omega)).trans f3,(aA.cell (p:=⟨b2,off2+k*5+4,none⟩) (by show b2<_;omega)).trans f4⟩
   have HN:Hid (szN (n.names.take (k+1))=szN (n.names.take k)+(n.names[k].size+1)/\sumL (fun x=>lenN m x+1) (n.kids.take (k+1))=sumL (fun x=>lenN m x+1) (n.kids.take k)+(lenN m n.kids[k]+1)):=⟨qiH _ _ aD,qaO _ _ _ hlt⟩
   have bH:s.size+n.names[k].size+lenN m n.kids[k]+2<=900000:=by
    have h1:=qmZ n.names (k+1)
    have h2:=qcS (fun x=>lenN m x+1) n.kids (k+1)
    have h3:=HL.out
    rw[HN.out.1]at h1
    rw[HN.out.2]at h2
    rw[HS.out];omega
   have hD:Below wr.heap.size wr wr.drew:=(Below.refl _ _).drew
   have bI:(k:Int)<(n.kids.length:Int):=by omega
   have aU:(k:Int)<(n.names.length:Int):=by omega
   have aV:=hidF aB
   have aW:=hidF hz
   clear aH aI aE aC aK k0 k1 k2 k3 k4 aG bA z0 z1 z2 aB hz
   generalize n.names[k]=nm at *
   generalize lenN m n.kids[k]=lk at *
   go_wp2_with fail
   go_region_held (fun w'=>w'.cell? ⟨w.heap.size,3,none⟩=some (.slice (some ⟨b,off,none⟩) n.names.length nc)/\w'.cell? ⟨w.heap.size,4,none⟩=some (.slice (some ⟨b2,off2,none⟩) n.kids.length kc)/\w'.cell? ⟨b,off+k,none⟩=some (.string nm)/\w'.cell? ⟨b2,off2+k*5,none⟩=some (.int .i64 x0)/\w'.cell? ⟨b2,off2+k*5+1,none⟩=some (.int .i64 x1)/\w'.cell? ⟨b2,off2+k*5+2,none⟩=some (.string x2)/\w'.cell? ⟨b2,off2+k*5+3,none⟩=some (.slice xa xl xc)/\w'.cell? ⟨b2,off2+k*5+4,none⟩=some (.slice ya yl yc)) (first|with_reducible assumption|go_keep) (first|(go_at_call 32;refine (HC.out _ hD).mono ?_;rintro e w2 ⟨s2,rfl,aN,aO,bE⟩))
   all_goals
    have aX:Hid (Below (w.heap.size+1) _ w2):=aV.out.trans (aO.mono (by have:=aW.out;simp at this;omega))
    have aY:Hid ((((s++⟨#[32]⟩)++nm)++⟨#[32]⟩++s2).size=4+szN (n.names.take (k+1))+sumL (fun x=>lenN m x+1) (n.kids.take (k+1))):=by
     show _=_
     rw[HN.out.1,HN.out.2,qaP,qaP,qaP,qaP,HS.out,aN]
     show _+1+_+1+_=_
     omega
    clear aO bE aN HC f0 f1 f2 f3 f4 e0 z3 z4
    go_wp2_with fail
    go_roundw
    case rel=>exact⟨k+1,_,by omega,by go_num,rfl,aY,aX.out⟩
    case measure=>simp[intOf];omega
  ·have aM:k=n.kids.length:=by omega
   have HE:Hid ((s++⟨#[32,101,110,100]⟩).size=8+szN n.names+sumL (fun x=>lenN m x+1) n.kids):=by
    show _=_
    have h1:=HS.out
    rw[aM,List.take_length,List.take_of_length_le (by omega)]at h1
    rw[qaP,h1]
    show _+4=_
    omega
   have HB:=hidF (aR.out.trans (aB.mono (by omega)))
   have bJ:s.size<=900000:=by
    have h1:=HE.out
    rw[qaP]at h1
    have:=HL.out
    omega
   clear aH aI aM aB aG z0 z1 z2 z3
   go_wp2_with fail
   go_ret
   exact⟨HB.out,_,rfl,HE.out⟩
theorem qzP (m:Nat) (n:Nd (T m)) (na ka:Option Addr) (nc kc k:Nat) (hk:n.sort=(k:Int)) (h1:1<=k) (h3:k<=3) (w:World) (hw0:(Lit.int .i64 n.sort).wf=true) (hw1:(Lit.int .i64 n.num).wf=true) (hx:n.text.size<=maxLen) (hal:qaQ n.sort n.num n.text [] 0=true) :
  Calls Tryz.prog 32 #[.agg #[.int .i64 (k:Int),.int .i64 n.num,.string n.text,.slice na n.names.length nc,.slice ka n.kids.length kc]] w fun e w'=>Below w.heap.size w w' /\ ∃ s,e=.returned (.string s)/\s.size=(leafL n.sort n.num n.text).length:=by
 have aC:=(Below.refl w.heap.size w).alloc (Nat.le_refl _) (.cells #[.int .i64 (k:Int),.int .i64 n.num,.string n.text,.slice na n.names.length nc,.slice ka n.kids.length kc] 25)
 have HC:Hid (∀ w,Calls Tryz.prog 47 #[.agg #[.int .i64 (k:Int),.int .i64 n.num,.string n.text,.slice none 0 0,.slice none 0 0]] w fun e w'=>e=.returned (.string (bs (leafL n.sort n.num n.text)))/\Below w.heap.size w w'):=by
  intro w
  have hg:goodT 1 (leafT n.sort n.num n.text) 1=true:=by
   show (decide ((1:Int)<=6) && qaQ n.sort n.num n.text [] 0 && List.all ([]:List (T 0)) _)=_
   rw[hal];rfl
  have:=qoK 1 (fun _=>False) (leafT n.sort n.num n.text) _ _ _ _ _ 1 w (qwQ _ w n.sort n.num n.text hw0 hw1 hx) (fun _ h=>h.elim) hg (by show (1:Nat)<=120;omega)
  rw[hk]at this ⊢
  exact this
 have HS:Hid ((bs (leafL n.sort n.num n.text)).size=(leafL n.sort n.num n.text).length):=qaJ _
 generalize bs (leafL n.sort n.num n.text)=s at *
 have aA:k=1∨k=2∨k=3:=by omega
 clear hk h1 h3 hal hw0 hw1 hx
 rcases aA with rfl|rfl|rfl
 all_goals
  go_enter Tryz.func32,Tryz.ntmps32
  go_wp2_with fail
  refine (HC.out _).mono ?_
  rintro e w1 ⟨rfl,aB⟩
  have HB:=hidF (qaA aC (by simp) aB)
  clear aB HC
  go_wp2_with fail
  go_ret
  exact⟨HB.out,_,rfl,HS.out⟩
theorem qzQ (S:Nat->Prop) (m:Nat) (n:Nd (T m)) (na ka:Option Addr) (nc kc:Nat) (w:World) (hB:∀ b,S b->b<w.heap.size) (h3:StrsIn S w n.names (.slice na n.names.length nc)) (hne:n.names≠[]) :
  Calls Tryz.prog 32 #[.agg #[.int .i64 4,.int .i64 n.num,.string n.text,.slice na n.names.length nc,.slice ka n.kids.length kc]] w fun e w'=>Below w.heap.size w w' /\ ∃ s,e=.returned (.string s)/\s.size=(n.names.headD ByteArray.empty).size:=by
 have aB:=(Below.refl w.heap.size w).alloc (Nat.le_refl _) (.cells #[.int .i64 4,.int .i64 n.num,.string n.text,.slice na n.names.length nc,.slice ka n.kids.length kc] 25)
 obtain⟨_,_,hv,hl,-,hc⟩:=h3.keep (qaB aB hB) (fun _ h=>h)
 cases hv
 obtain⟨b,off,rfl,aC,aA⟩:=hc hne
 have h0:0<n.names.length:=List.length_pos_iff.2 hne
 have e0:=aA 0 h0
 rw[Nat.add_zero]at e0
 have HS:Hid (n.names[0].size=(n.names.headD ByteArray.empty).size):=by
  show _=_
  rw[List.headD_eq_head?_getD,List.head?_eq_getElem?,List.getElem?_eq_getElem h0];rfl
 have hi:(0:Int)<(n.names.length:Int):=by omega
 generalize n.names[0]=s at *
 clear hc aA h3 hne
 go_enter Tryz.func32,Tryz.ntmps32
 go_wp2_with fail
 go_ret
 exact⟨aB,_,rfl,HS.out⟩
end Go.Proofs.YtelogmjfekhmpaaGreatDoor
