import Derived.Test.YtelogmjfekhmpaaGreatDoorB1
import Derived.Deep.RegionWith
import Derived.Test.YtelogmjfekhmpaaGreatDoorB20
import Derived.Test.YtelogmjfekhmpaaGreatDoorB21
import Derived.Test.YtelogmjfekhmpaaGreatDoorKCaught
namespace Go.Proofs.YtelogmjfekhmpaaGreatDoor
open Go.RowKit Go.Proofs.Tryz
set_option maxRecDepth 100000
set_option maxHeartbeats 16000000
theorem qnN (S S':Nat->Prop) (l:List ByteArray) (v v':Value) (w:World) (hl:StrsIn S w l v) (hl':StrsIn S' w l v') (hB:∀ b,S b->b<w.heap.size) (hB':∀ b,S' b->b<w.heap.size) :
  Calls prog 15 #[v,v'] w fun e w'=>e=.returned (.bool true)/\Below w.heap.size w w':=by
 obtain⟨B,cap,rfl,g,n,o⟩:=hl
 obtain⟨z,t,rfl,-,-,f⟩:=hl'
 unfold maxLen at g
 have x:((l.length:Int) != (l.length:Int))=false:=by simp
 go_enter func15,ntmps15
 go_wp2_with fail
 go_loopw [5] (fun i wr=>∃k:Nat,k<=l.length/\i=.int .i64 k/\Below w.heap.size w wr) (fun i _=>l.length-(intOf i).toNat)
 case atStart=>exact⟨0,Nat.zero_le _,rfl,Below.refl _ _⟩
 case round=>
  obtain⟨k,C,rfl,a⟩:=hrel
  by_cases hlt:k<l.length
  ·obtain⟨b,q,rfl,r,d⟩:=o (by intro h;rw[h]at hlt;simp at hlt)
   obtain⟨u,j,rfl,m,c⟩:=f (by intro h;rw[h]at hlt;simp at hlt)
   have A:=(a.cell (p:=⟨b,q+k,none⟩) (hB b r)).trans (d k hlt)
   have f1:=(a.cell (p:=⟨u,j+k,none⟩) (hB' u m)).trans (c k hlt)
   have y:=n l[k] (List.getElem_mem hlt)
   clear o f d c n
   generalize l[k]=s at *
   go_wp2_with fail
   go_region
   all_goals go_wp2_with fail
   all_goals
    go_roundw
    case rel=>exact⟨k+1,by omega,by go_num,a.drew⟩
    case measure=>simp[intOf];omega
  ·clear o f n
   go_wp2_with fail
   go_ret
   exact⟨rfl,a⟩
def qgB(m:Nat)(k:K m)(ok:Bool)(w:World)(e:Ending)(w':World):Prop:=
 Below w.heap.size w w' /\ ∃c0 c1 c2 L3 L4,e=.returned (.tuple #[.agg #[c0,c1,c2],.bool ok])/\KindIn (fun b=>w.heap.size<=b/\b<w'.heap.size) w' m k c0 c1 c2 /\
  SpN w' c1 L3/\SpK w' (m-1) c2 L4/\Own (fun b=>w.heap.size<=b/\b<w'.heap.size) (L3++L4)/\(L3++L4).length<=1000
theorem qmJ{m:Nat}{s:ByteArray}{w w':World}(h:readK (m+1) s=none)(hb:Below w.heap.size w w'):qgB (m+1) (ansR m s) (okR m s) w (.returned (.tuple #[.agg #[.int .i64 0,.slice none 0 0,.slice none 0 0],.bool false])) w':=by
 obtain⟨a,b⟩:=qsN h
 rw[a,b]
 exact⟨hb,_,_,_,[],[],rfl,qwP _ _ m,SpN.no _,SpK.no _ _,Own.nil _,by simp⟩
theorem qqB (s:ByteArray) (m:Nat) (hm:s.size<=m) (hs:s.size<=1048576) (w:World) :
  Calls prog 88 #[.string s] w (qgB (m+1) (ansR m s) (okR m s) w):=by
 obtain⟨W1,u⟩:∃W1,W1=w.alloc (.cells #[.int .i64 0,.slice none 0 0,.slice none 0 0] 55):=⟨_,rfl⟩
 have L:W1.heap.size=w.heap.size+1:=by rw[u];simp
 have C:Below w.heap.size w W1:=by rw[u];exact (Below.refl _ _).alloc (Nat.le_refl _) _
 have f:W1.heap[w.heap.size]?=some (.cells #[.int .i64 0,.slice none 0 0,.slice none 0 0] 55 (0,0)):=by rw[u];exact heap_alloc_new _ _
 have i:Hid (∀W:World,Below w.heap.size w W->Below w.heap.size w (put3 W w.heap.size 0 (.int .i64 0) (.slice none 0 0) (.slice none 0 0))):=fun W h=>qeW h (Nat.le_refl _)
 by_cases h8:s.size<=800
 case neg=>
  have G:Hid (readK (m+1) s=none):=qoQ h8
  have aC:(800:Int)<(s.size:Int):=by omega
  obtain⟨⟨r0,I,J⟩,f0,f1,f2⟩:=qeX f
  rw[u]at r0 I J f0 f1 f2
  have H:Hid (∀o,qgB (m+1) (ansR m s) (okR m s) w (.returned (.tuple #[.agg #[.int .i64 0,.slice none 0 0,.slice none 0 0],.bool false])) (w.alloc o)):=fun o=>qmJ G.out ((Below.refl _ _).alloc (Nat.le_refl _) _)
  clear C f L G h8
  go_enter func88,ntmps88
  go_wp2_with fail
  refine bodyPost_ret (v:=.tuple #[.agg #[.int .i64 0,.slice none 0 0,.slice none 0 0],.bool false]) (by simp[results,results88,go_sem]) rfl ?_
  exact H.out _
 have aD:¬(800:Int)<(s.size:Int):=by omega
 have aE:∀(fn:Fn)(first cap:Array Value)(w:World),(Instr.makeFunc fn first cap).run prog w=.ok (.func fn first cap) w:=fun _ _ _ _=>rfl
 have M:Hid (Calls prog 111 #[.string s] W1 _):=qjZ s W1
 obtain⟨W2,x⟩:∃W2,W2=W1.alloc (.cells #[.string s,.int .i64 0] 180):=⟨_,rfl⟩
 have aF:W2.heap.size=W1.heap.size+1:=by rw[x];simp
 have z:Below w.heap.size w W2:=by rw[x];exact C.alloc C.size _
 have n:W2.heap[w.heap.size+1]?=some (.cells #[.string s,.int .i64 0] 180 (0,0)):=by rw[x,<- L];exact heap_alloc_new _ _
 have p:W2.heap[w.heap.size]?=some (.cells #[.int .i64 0,.slice none 0 0,.slice none 0 0] 55 (0,0)):=by rw[x,Below.heap_alloc _ _ _ (by omega)];exact f
 have N:Sc W2 (w.heap.size+1) s 0:=⟨by simp[World.cell?,n],by simp[World.cell?,n],by simp[World.frozen?,n]⟩
 have O:Hid (Calls prog 110 #[.func (.func 112) #[.pointer (some ⟨w.heap.size+1,0,none⟩)] #[]] W2 (qhL (w.heap.size+1) s (m+1) W2)):=qyJ (m+1) (w.heap.size+1) s W2 N (by omega) (by omega)
 clear n N f C
 go_enter func88,ntmps88
 go_wp2_with fail
 rw[<- u]
 clear u
 refine M.out.mono ?_
 rintro e w' ⟨rfl,rfl⟩
 clear M
 go_wp2_with fail
 rw[<- x]
 clear x
 refine O.out.mono ?_
 rintro e w3 ⟨l,aB⟩
 have aG:=l.size
 have A:Below w.heap.size w w3:=⟨l.os.trans z.os,l.tape.trans z.tape,l.output.trans z.output,by omega,fun b hb=>(l.block b (by omega) (by omega)).trans (z.block b hb)⟩
 have a:w3.heap[w.heap.size]?=some (.cells #[.int .i64 0,.slice none 0 0,.slice none 0 0] 55 (0,0)):=(l.block _ (by omega) (by omega)).trans p
 clear O z p l
 rcases aB with ⟨k,c0,c1,c2,P,rfl,y4⟩|⟨P,rfl⟩
 case inr=>
  have G:Hid (readK (m+1) s=none):=xgT P
  have g:=A.alloc (by omega) (.cells #[.int .i64 0,.slice none 0 0,.slice none 0 0] 55)
  obtain⟨⟨r0,I,J⟩,f0,f1,f2⟩:=qeX ((Below.heap_alloc w3 (.cells #[.int .i64 0,.slice none 0 0,.slice none 0 0] 55) w.heap.size (by omega)).trans a)
  have H:Hid (qgB (m+1) (ansR m s) (okR m s) w _ _):=qmJ G.out (i.out _ g)
  clear P G A a g i
  go_wp2_with fail
  refine bodyPost_ret (v:=.tuple #[.agg #[.int .i64 0,.slice none 0 0,.slice none 0 0],.bool false]) (by simp[results,results88,go_sem,r0,I,J]) rfl ?_
  exact H.out
 obtain⟨z0,za,zl,zc,ua,ul,uc,rfl,rfl,rfl⟩:=y4.shape
 obtain⟨Q,D⟩:∃Q,Q=w3.alloc (.cells #[.int .i64 z0,.slice za zl zc,.slice ua ul uc] 55):=⟨_,rfl⟩
 have aH:Q.heap.size=w3.heap.size+1:=by rw[D];simp
 have r:Below w3.heap.size w3 Q:=by rw[D];exact (Below.refl _ _).alloc (Nat.le_refl _) _
 have g:=qaA A A.size r
 have c:=(r.block w.heap.size (by omega)).trans a
 obtain⟨R,E⟩:=y4.step (fun b hb=>hb.2) r
 have HC:Hid (Calls prog 113 _ _ _):=qpW (m+1) _ k _ _ _ Q R E
 have HY:Hid (qaM (m+1) s.data.toList=some (k,[])):=P
 clear P y4 A a r R
 go_wp2_with fail
 rw[<- D]
 clear D
 refine HC.out.mono ?_
 rintro e w5 ⟨j,⟨y,v,rfl,K⟩|⟨y,rfl⟩⟩
 case inr=>
  have aA:=j.size
  have G:Hid (readK (m+1) s=none):=xdC HY.out y
  have d:=qaA g g.size j
  obtain⟨⟨r0,I,J⟩,f0,f1,f2⟩:=qeX ((j.block w.heap.size (by omega)).trans c)
  have H:Hid (qgB (m+1) (ansR m s) (okR m s) w _ _):=qmJ G.out (i.out _ d)
  clear G HC HY y j g c d i E
  go_wp2_with fail
  refine bodyPost_ret (v:=.tuple #[.agg #[.int .i64 0,.slice none 0 0,.slice none 0 0],.bool false]) (by simp[results,results88,go_sem,r0,I,J]) rfl ?_
  exact H.out
 obtain⟨kb,rfl,-⟩:=id K.ptr
 have hp:=qpF y
 have aA:=j.size
 have d:=qaA g g.size j
 have t:=(j.block w.heap.size (by omega)).trans c
 have HO:Hid (Calls prog 114 _ _ _):=qpY (m+1) _ k _ 1 w5 K (fun b hb=>hb.elim (fun h=>by have:=E b h;omega) (fun h=>h.2)) hp.1 hp.2
 have HR:Hid (ansR m s=k/\okR m s=true/\spKL (m+1) k<=1000):=by
  obtain⟨q1,q2⟩:=qsM (xdD h8 HY.out y)
  exact⟨q1,q2,by have:=xiY (m+1) k 1 hp.1;omega⟩
 clear HC HY y hp K j g c E i
 go_wp2_with fail
 refine HO.out.mono ?_
 rintro e S ⟨F,g0,g1,g2,L3,L4,rfl,B,T,U,ho,hl⟩
 obtain⟨V,X,Y,Z,ya,yl,yc,rfl,rfl,rfl⟩:=B.shape
 have aI:=F.size
 obtain⟨⟨r0,I,J⟩,f0,f1,f2⟩:=qeX ((F.block w.heap.size (by omega)).trans t)
 have H:Hid (qgB (m+1) (ansR m s) (okR m s) w (.returned (.tuple #[.agg #[.int .i64 V,.slice X Y Z,.slice ya yl yc],.bool true])) (put3 S w.heap.size 0 (.int .i64 V) (.slice X Y Z) (.slice ya yl yc))):=by
  obtain⟨q1,q2,q3⟩:=HR.out
  rw[q1,q2]
  have q:∀b,w5.heap.size<=b->(put3 S w.heap.size 0 (.int .i64 V) (.slice X Y Z) (.slice ya yl yc)).heap[b]?=S.heap[b]?:=fun b h=>qcV (by omega)
  have hS:∀b,(w5.heap.size<=b/\b<S.heap.size)->w.heap.size<=b/\b<(put3 S w.heap.size 0 (.int .i64 V) (.slice X Y Z) (.slice ya yl yc)).heap.size:=fun b h=>by rw[qfG];omega
  exact⟨qeW (qaA d d.size F) (Nat.le_refl _),_,_,_,L3,L4,rfl,B.keep (fun b h=>q b h.1) hS,T.same (fun s h=>q _ (ho.1 s (List.mem_append_left _ h)).1),U.same (fun s h=>q _ (ho.1 s (List.mem_append_right _ h)).1),ho.mono hS,by rw[hl];exact q3⟩
 clear HO HR B T U ho hl F d t
 go_wp2_with fail
 refine bodyPost_ret (v:=.tuple #[.agg #[.int .i64 V,.slice X Y Z,.slice ya yl yc],.bool true]) (by simp[results,results88,go_sem,r0,I,J]) rfl ?_
 exact H.out
def qrE(n:Nat):Prop:=∀(S S':Nat->Prop)(t:T n)(c0 c1 c2 c3 c4 d0 d1 d2 d3 d4:Value)(w:World),TreeIn S w n t c0 c1 c2 c3 c4->TreeIn S' w n t d0 d1 d2 d3 d4 ->
 (∀b,S b->b<w.heap.size)->(∀b,S' b->b<w.heap.size) ->
 Calls prog 6 #[.agg #[c0,c1,c2,c3,c4],.agg #[d0,d1,d2,d3,d4]] w fun e w'=>e=.returned (.bool true)/\Below w.heap.size w w'
theorem qtT (n:Nat) (hn:qrE n) (S S':Nat->Prop) (l:List (T n)) (v v':Value) (w:World) (hl:RowIn S w (TreeIn S w n) l v) (hl':RowIn S' w (TreeIn S' w n) l v')
  (hB:∀b,S b->b<w.heap.size) (hB':∀b,S' b->b<w.heap.size) :
  Calls prog 16 #[v,v'] w fun e w'=>e=.returned (.bool true)/\Below w.heap.size w w':=by
 obtain⟨ao,cap,rfl,u,F⟩:=hl
 obtain⟨Q,H,rfl,-,t⟩:=hl'
 unfold maxLen at u
 have O:((l.length:Int) != (l.length:Int))=false:=by simp
 go_enter func16,ntmps16
 go_wp2_with fail
 go_loopw [5] (fun i wr=>∃k:Nat,k<=l.length/\i=.int .i64 k/\Below w.heap.size w wr) (fun i _=>l.length-(intOf i).toNat)
 case atStart=>exact⟨0,Nat.zero_le _,rfl,Below.refl _ _⟩
 case round=>
  obtain⟨k,hk,rfl,a⟩:=hrel
  by_cases hlt:k<l.length
  ·obtain⟨b,g,rfl,j,o⟩:=F (by intro h;rw[h]at hlt;simp at hlt)
   obtain⟨r,c,rfl,d,f⟩:=t (by intro h;rw[h]at hlt;simp at hlt)
   obtain⟨R,U,V,W,X,I,J,K,L,M,N⟩:=o k hlt
   obtain⟨Y,Z,y2,y3,y4,x,y,z,A,B,C⟩:=f k hlt
   have f0:=(a.cell (p:=⟨b,g+k*5,none⟩) (hB b j)).trans I
   have f1:=(a.cell (p:=⟨b,g+k*5+1,none⟩) (hB b j)).trans J
   have f2:=(a.cell (p:=⟨b,g+k*5+2,none⟩) (hB b j)).trans K
   have f3:=(a.cell (p:=⟨b,g+k*5+3,none⟩) (hB b j)).trans L
   have f4:=(a.cell (p:=⟨b,g+k*5+4,none⟩) (hB b j)).trans M
   have f5:=(a.cell (p:=⟨r,c+k*5,none⟩) (hB' r d)).trans x
   have f6:=(a.cell (p:=⟨r,c+k*5+1,none⟩) (hB' r d)).trans y
   have f7:=(a.cell (p:=⟨r,c+k*5+2,none⟩) (hB' r d)).trans z
   have f8:=(a.cell (p:=⟨r,c+k*5+3,none⟩) (hB' r d)).trans A
   have f9:=(a.cell (p:=⟨r,c+k*5+4,none⟩) (hB' r d)).trans B
   clear F t o f I J K L M x y z A B
   have q:=N.keep (qaB a hB) (fun _ h=>h)
   have G:=C.keep (qaB a hB') (fun _ h=>h)
   have s:=a.size
   have P:Hid (∀m:Nat,Calls prog 6 #[.agg #[R,U,V,W,X],.agg #[Y,Z,y2,y3,y4]] (wr.drewN m) fun e w'=>e=.returned (.bool true)/\Below wr.heap.size wr w'):=by
    intro m
    have D:Below wr.heap.size wr (wr.drewN m):=below_drewN (Below.refl _ _) m
    have E:(wr.drewN m).heap.size=wr.heap.size:=by simp
    refine (hn S S' l[k] _ _ _ _ _ _ _ _ _ _ (wr.drewN m) (q.keep (qaB D (fun b hb=>Nat.lt_of_lt_of_le (hB b hb) s)) (fun _ h=>h)) (G.keep (qaB D (fun b hb=>Nat.lt_of_lt_of_le (hB' b hb) s)) (fun _ h=>h))
     (fun b hb=>by have:=hB b hb;omega) (fun b hb=>by have:=hB' b hb;omega)).mono ?_
    rintro e w' ⟨rfl,h⟩
    rw[E]at h
    exact⟨rfl,D.trans h⟩
   clear N C q G hn
   go_wp2_with fail
   go_region_with (go_at_call 6;refine (P.out 1).mono ?_;rintro e w' ⟨rfl,aA⟩)
   all_goals go_wp2_with fail
   all_goals
    go_roundw
    case rel=>exact⟨k+1,by omega,by go_num,qaA a s (by assumption)⟩
    case measure=>simp[intOf];omega
  ·clear F t
   go_wp2_with fail
   go_ret
   exact⟨rfl,a⟩
theorem qvS(n:Nat)(hn:qrE n):qrE (n+1):=by
 intro S u t c0 c1 c2 c3 c4 F G H A B w C r k d
 obtain⟨rfl,rfl,rfl,I,-,-,v,x⟩:=C
 obtain⟨rfl,rfl,rfl,-,-,-,l,m⟩:=r
 have a:Below w.heap.size w ((w.alloc (.cells #[.int .i64 (Nd.sort t),.int .i64 (Nd.num t),.string (Nd.text t),c3,c4] 25)).alloc (.cells #[.int .i64 (Nd.sort t),.int .i64 (Nd.num t),.string (Nd.text t),A,B] 25)):=
  ((Below.refl _ _).alloc (Nat.le_refl _) _).alloc (by simp) _
 have k3:=v.keep (qaB a k) (fun _ h=>h)
 have f:=l.keep (qaB a d) (fun _ h=>h)
 have k4:=x.keepT (qaB a k) (fun _ h=>h)
 have g:=m.keepT (qaB a d) (fun _ h=>h)
 have y:(Nd.sort t != Nd.sort t)=false:=by simp
 have z:(Nd.num t != Nd.num t)=false:=by simp
 clear v l x m
 go_enter func6,ntmps6
 go_wp2_with fail
 refine (qnN S u _ _ _ _ k3 f (fun b hb=>by have:=k b hb;simp;omega) (fun b hb=>by have:=d b hb;simp;omega)).mono ?_
 rintro e J ⟨rfl,c⟩
 obtain⟨D,E⟩:=bcell c
 have p:=c.size
 simp at p
 have i:=qaA a (by simp;omega) c
 have s:=k4.keepT (qaB c (fun b hb=>by have:=k b hb;simp;omega)) (fun _ h=>h)
 have j:=g.keepT (qaB c (fun b hb=>by have:=d b hb;simp;omega)) (fun _ h=>h)
 clear k3 f k4 g c a
 go_wp2_with fail
 refine (qtT n hn S u _ _ _ _ s j (fun b hb=>by have:=k b hb;omega) (fun b hb=>by have:=d b hb;omega)).mono ?_
 rintro e w2 ⟨rfl,o⟩
 have q:=qaA i (by omega) o
 clear s j i o D E
 go_wp2_with fail
 go_ret
 exact⟨rfl,q⟩
theorem qnG:∀n,qrE n:=by
 intro n
 induction n with
 | zero=>intro S b t c0 c1 c2 c3 c4 c d e f g w a;exact a.elim
 | succ n ih=>exact qvS n ih
end Go.Proofs.YtelogmjfekhmpaaGreatDoor
