import Derived.Test.YtelogmjfekhmpaaGreatDoorRet
import Derived.Test.YtelogmjfekhmpaaGreatDoorNRep
import Derived.Test.YtelogmjfekhmpaaGreatDoorEqN
namespace Go.Proofs.YtelogmjfekhmpaaGreatDoor
set_option maxRecDepth 100000
set_option maxHeartbeats 16000000
open Go.RowKit
def qrE (n:Nat):Prop:=∀ (S S':Nat->Prop) (t:T n) (c0 c1 c2 c3 c4 d0 d1 d2 d3 d4:Value) (w:World),TreeIn S w n t c0 c1 c2 c3 c4->TreeIn S' w n t d0 d1 d2 d3 d4 ->
 (∀ b,S b->b<w.heap.size)->(∀ b,S' b->b<w.heap.size) ->
 Calls Tryz.prog 6 #[.agg #[c0,c1,c2,c3,c4],.agg #[d0,d1,d2,d3,d4]] w fun e w'=>e=.returned (.bool true)/\Below w.heap.size w w'
theorem qtT (n:Nat) (hn:qrE n) (S S':Nat->Prop) (l:List (T n)) (v v':Value) (w:World) (hl:RowIn S w (TreeIn S w n) l v) (hl':RowIn S' w (TreeIn S' w n) l v')
  (hB:∀ b,S b->b<w.heap.size) (hB':∀ b,S' b->b<w.heap.size) :
  Calls Tryz.prog 16 #[v,v'] w fun e w'=>e=.returned (.bool true)/\Below w.heap.size w w':=by
 obtain⟨ao,cap,rfl,aH,hc⟩:=hl
 obtain⟨ao',cap',rfl,-,aI⟩:=hl'
 unfold maxLen at aH
 have aL:((l.length:Int) != (l.length:Int))=false:=by simp
 go_enter Tryz.func16,Tryz.ntmps16
 go_wp2_with fail
 go_loopw [5] (fun i wr=>∃ k:Nat,k<=l.length/\i=.int .i64 k/\Below w.heap.size w wr) (fun i _=>l.length - (intOf i).toNat)
 case atStart=>exact⟨0,Nat.zero_le _,rfl,Below.refl _ _⟩
 case round=>
  obtain⟨k,hk,rfl,aA⟩:=hrel
  by_cases aE:k<l.length
  ·obtain⟨b,off,rfl,aF,aD⟩:=hc (by intro h;rw[h]at aE;simp at aE)
   obtain⟨b',off',rfl,aB,aC⟩:=aI (by intro h;rw[h]at aE;simp at aE)
   obtain⟨x0,x1,x2,x3,x4,e0,e1,e2,e3,e4,hr⟩:=aD k aE
   obtain⟨y0,y1,y2,y3,y4,e0',e1',e2',e3',e4',aJ⟩:=aC k aE
   have f0:=(aA.cell (p:=⟨b,off+k*5,none⟩) (hB b aF)).trans e0
   have f1:=(aA.cell (p:=⟨b,off+k*5+1,none⟩) (hB b aF)).trans e1
   have f2:=(aA.cell (p:=⟨b,off+k*5+2,none⟩) (hB b aF)).trans e2
   have f3:=(aA.cell (p:=⟨b,off+k*5+3,none⟩) (hB b aF)).trans e3
   have f4:=(aA.cell (p:=⟨b,off+k*5+4,none⟩) (hB b aF)).trans e4
   have f5:=(aA.cell (p:=⟨b',off'+k*5,none⟩) (hB' b' aB)).trans e0'
   have f6:=(aA.cell (p:=⟨b',off'+k*5+1,none⟩) (hB' b' aB)).trans e1'
   have f7:=(aA.cell (p:=⟨b',off'+k*5+2,none⟩) (hB' b' aB)).trans e2'
   have f8:=(aA.cell (p:=⟨b',off'+k*5+3,none⟩) (hB' b' aB)).trans e3'
   have f9:=(aA.cell (p:=⟨b',off'+k*5+4,none⟩) (hB' b' aB)).trans e4'
   clear hc aI aD aC e0 e1 e2 e3 e4 e0' e1' e2' e3' e4'
   have q:=hr.keep (qaB aA hB) (fun _ h=>h)
   have q':=aJ.keep (qaB aA hB') (fun _ h=>h)
   have aG:=aA.size
   have HC:Hid (∀ m:Nat,Calls Tryz.prog 6 #[.agg #[x0,x1,x2,x3,x4],.agg #[y0,y1,y2,y3,y4]] (wr.drewN m) fun e w'=>e=.returned (.bool true)/\Below wr.heap.size wr w'):=by
    intro m
    have hm:Below wr.heap.size wr (wr.drewN m):=below_drewN (Below.refl _ _) m
    have aK:(wr.drewN m).heap.size=wr.heap.size:=by simp
    refine (hn S S' l[k] _ _ _ _ _ _ _ _ _ _ (wr.drewN m) (q.keep (qaB hm (fun b hb=>Nat.lt_of_lt_of_le (hB b hb) aG)) (fun _ h=>h)) (q'.keep (qaB hm (fun b hb=>Nat.lt_of_lt_of_le (hB' b hb) aG)) (fun _ h=>h))
     (fun b hb=>by have:=hB b hb;omega) (fun b hb=>by have:=hB' b hb;omega)).mono ?_
    rintro e w' ⟨rfl,h⟩
    rw[aK]at h
    exact⟨rfl,hm.trans h⟩
   clear hr aJ q q' hn
   go_wp2_with fail
   go_region_with (go_at_call 6;refine (HC.out 1).mono ?_;rintro e w' ⟨rfl,aM⟩)
   all_goals go_wp2_with fail
   all_goals
    go_roundw
    case rel=>exact⟨k+1,by omega,by go_num,qaA aA aG (by assumption)⟩
    case measure=>simp[intOf];omega
  ·clear hc aI
   go_wp2_with fail
   go_ret
   exact⟨rfl,aA⟩
theorem qvS (n:Nat) (hn:qrE n):qrE (n+1):=by
 intro S S' t c0 c1 c2 c3 c4 d0 d1 d2 d3 d4 w ht aJ hB aC
 obtain⟨rfl,rfl,rfl,hs,-,-,h3,h4⟩:=ht
 obtain⟨rfl,rfl,rfl,-,-,-,aE,aF⟩:=aJ
 have aA:Below w.heap.size w ((w.alloc (.cells #[.int .i64 (Nd.sort t),.int .i64 (Nd.num t),.string (Nd.text t),c3,c4] 25)).alloc (.cells #[.int .i64 (Nd.sort t),.int .i64 (Nd.num t),.string (Nd.text t),d3,d4] 25)):=
  ((Below.refl _ _).alloc (Nat.le_refl _) _).alloc (by simp) _
 have k3:=h3.keep (qaB aA hB) (fun _ h=>h)
 have k3':=aE.keep (qaB aA aC) (fun _ h=>h)
 have k4:=h4.keepT (qaB aA hB) (fun _ h=>h)
 have k4':=aF.keepT (qaB aA aC) (fun _ h=>h)
 have aK:(Nd.sort t != Nd.sort t)=false:=by simp
 have aL:(Nd.num t != Nd.num t)=false:=by simp
 clear h3 aE h4 aF
 go_enter Tryz.func6,Tryz.ntmps6
 go_wp2_with fail
 refine (qnO S S' _ _ _ _ k3 k3' (fun b hb=>by have:=hB b hb;simp;omega) (fun b hb=>by have:=aC b hb;simp;omega)).mono ?_
 rintro e w1 ⟨rfl,aB⟩
 obtain⟨hc,hf⟩:=bcell aB
 have aH:=aB.size
 simp at aH
 have aD:=qaA aA (by simp;omega) aB
 have m4:=k4.keepT (qaB aB (fun b hb=>by have:=hB b hb;simp;omega)) (fun _ h=>h)
 have m4':=k4'.keepT (qaB aB (fun b hb=>by have:=aC b hb;simp;omega)) (fun _ h=>h)
 clear k3 k3' k4 k4' aB aA
 go_wp2_with fail
 refine (qtT n hn S S' _ _ _ _ m4 m4' (fun b hb=>by have:=hB b hb;omega) (fun b hb=>by have:=aC b hb;omega)).mono ?_
 rintro e w2 ⟨rfl,aG⟩
 have aI:=qaA aD (by omega) aG
 clear m4 m4' aD aG hc hf
 go_wp2_with fail
 go_ret
 exact⟨rfl,aI⟩
theorem qnH:∀ n,qrE n:=by
 intro n
 induction n with
 | zero=>intro S S' t c0 c1 c2 c3 c4 d0 d1 d2 d3 d4 w ht;exact ht.elim
 | succ n ih=>exact qvS n ih
end Go.Proofs.YtelogmjfekhmpaaGreatDoor
