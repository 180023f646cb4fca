import Derived.Test.YtelogmjfekhmpaaGreatDoorB25
import Derived.Test.YtelogmjfekhmpaaGreatDoorB29
import Derived.Test.YtelogmjfekhmpaaGreatDoorB27
import Derived.Test.YtelogmjfekhmpaaGreatDoorB12
import Derived.Deep.RegionHeld3
import Derived.Test.YtelogmjfekhmpaaGreatDoorB22
namespace Go.Proofs.YtelogmjfekhmpaaGreatDoor
open Go.RowKit Go.Proofs.Tryz
set_option maxRecDepth 100000
set_option maxHeartbeats 16000000
theorem Tryz.info_strN:(prog.info? 9).map (fun i=>(i.zero,i.size,i.bytes))=some (some (.string ⟨#[]⟩),1,16):=by kernel_rfl
structure PSt(B R X Y:Nat)(it:Obj)(bk m:Nat)(wv:Value)(ws:List ByteArray)(w0 w:World)(n:Nd (T m))(a c:Nat)(na:Option Addr)(nc:Nat)(ka:Option Addr)(kc:Nat):Prop where
 many:ManyNP R X Y m w0 w n.sort n.num n.text n.names n.kids (.slice na n.names.length nc) (.slice ka n.kids.length kc)
 rdr:Rdr w R bk wv ws a c
 rdr0:∃a0 c0,Rdr w0 R bk wv ws a0 c0
 laid:LaidU B w0
 br:B<=R
 rx:R<X
 wx:w0.heap.size<=X
 few:n.names.length+n.kids.length<=a
 xy:X<Y
 iter:w.heap[Y]?=some it
def qaW(B R X Y:Nat)(it:Obj)(bk m:Nat)(wv:Value)(ws:List ByteArray)(w0:World)(r:Rd3 (Nd (T m)))(e:Ending)(w':World):Prop:=
 (∃n' a' c' na nc ka kc,r=.ok (n',a',c')/\e=.returned (.tuple #[])/\PSt B R X Y it bk m wv ws w0 w' n' a' c' na nc ka kc) ∨
  (∃code at',r=.error (code,at')/\e=.panicked (qbT code at')/\Near R w0 w')
theorem qoT{R X Y k z:Nat}{e:TypeId}{v:Value}{xs:List Value}{W w2 w3:World}{o:Obj}{c:Obj}(h:W.ownsRow (Y+1) e z v k xs)(hRX:R<X)(hXY:X<=Y)(hRl:R<w2.heap.size)(hg:(w2.alloc o).grownBy w3 v.ownBlock)(u:Value)(q:Nat)(hc:w2.heap[R]?=some c):(w3.setCell ⟨X,q,none⟩ u).heap[R]?=some c:=by
 rw[Below.heap_setCell _ _ _ _ (by show R≠X;omega),hg.block R (by simp;omega) (fun e=>by have:=qaF h R e.symm;omega),Below.heap_alloc _ _ _ hRl]
 exact hc
theorem qkB{R X Y k z:Nat}{e:TypeId}{v:Value}{xs:List Value}{W w2 w3:World}{o:Obj}(h:W.ownsRow (Y+1) e z v k xs)(hX:X<W.heap.size)(hRX:R<X)(hXY:X<=Y)(hn:Near R W w2)(hg:(w2.alloc o).grownBy w3 v.ownBlock):w3.heap[X]?=W.heap[X]?:=by
 have:=hn.size
 rw[hg.block X (by simp;omega) (fun e=>by have:=qaF h X e.symm;omega),Below.heap_alloc _ _ _ (by omega),hn.block X hX (by omega)]
theorem qoU{R X Y k z:Nat}{e:TypeId}{v:Value}{xs:List Value}{W w2 w3:World}{o it:Obj}(h:W.ownsRow (Y+1) e z v k xs)(hY:Y<W.heap.size)(hRX:R<X)(hXY:X<Y)(hn:Near R W w2)(hg:(w2.alloc o).grownBy w3 v.ownBlock)(u:Value)(q:Nat)(hi:W.heap[Y]?=some it):(w3.setCell ⟨X,q,none⟩ u).heap[Y]?=some it:=by
 rw[Below.heap_setCell _ _ _ _ (by show Y≠X;omega),qkB h hY (show R<Y by omega) (Nat.le_refl Y) hn hg]
 exact hi
theorem qaC {w:World} {N:Nat} {so nm tx nv kv:Value} (h:w.heap[N]?=some (.cells #[so,nm,tx,nv,kv] 25 (0,0))) :
  (w.cell? ⟨N,0,none⟩=some so/\w.cell? ⟨N,1,none⟩=some nm/\w.cell? ⟨N,2,none⟩=some tx/\w.cell? ⟨N,3,none⟩=some nv/\w.cell? ⟨N,4,none⟩=some kv)/\∀o,w.frozen? ⟨N,o,none⟩=false:=by
 refine⟨⟨?_,?_,?_,?_,?_⟩,fun o=>?_⟩<;>simp[World.cell?,World.frozen?,h]
theorem PSt.names {B R X Y bk m:Nat} {it:Obj} {wv:Value} {ws:List ByteArray} {w0 w:World} {n:Nd (T m)} {a c:Nat} {na:Option Addr} {nc:Nat} {ka:Option Addr} {kc:Nat} (h:PSt B R X Y it bk m wv ws w0 w n a c na nc ka kc) (ha:a<=3000) :
  StrsIn (fun b=>b<w.heap.size) w n.names (.slice na n.names.length nc):=by
 have d:=h.few
 exact qcQ h.many.names (by omega) h.many.short (fun g hg=>(qaF h.many.names g hg).2)
theorem PSt.laidW{B R X Y bk m:Nat}{it:Obj}{wv:Value}{ws:List ByteArray}{w0 w:World}{n:Nd (T m)}{a c:Nat}{na:Option Addr}{nc:Nat}{ka:Option Addr}{kc:Nat}(h:PSt B R X Y it bk m wv ws w0 w n a c na nc ka kc):LaidU B w:=by
 obtain⟨a0,c0,b⟩:=h.rdr0
 exact h.laid.near h.many.near h.br b.lt
theorem PSt.on{B R X Y bk m:Nat}{it:Obj}{wv:Value}{ws:List ByteArray}{w0 w W:World}{n:Nd (T m)}{a c a' c':Nat}{na:Option Addr}{nc:Nat}{ka:Option Addr}{kc:Nat}(h:PSt B R X Y it bk m wv ws w0 w n a c na nc ka kc)(hn:Near R w W)(hr:Rdr W R bk wv ws a' c')(ha:a<=a'):PSt B R X Y it bk m wv ws w0 W n a' c' na nc ka kc:=
 ⟨h.many.keep h.rx hn,hr,h.rdr0,h.laid,h.br,h.rx,h.wx,by have:=h.few;omega,h.xy,(hn.block Y h.many.xy.2 (by have:=h.rx;have:=h.xy;omega)).trans h.iter⟩
theorem PSt.more {B R X Y bk m nl:Nat} {it:Obj} {wv:Value} {ws:List ByteArray} {w0 w W:World} {n:Nd (T m)} {a c g cap:Nat} {na:Option Addr} {nc:Nat} {ka:Option Addr} {kc:Nat} {s:ByteArray} (h:PSt B R X Y it bk m wv ws w0 w n a c na nc ka kc) (hnl:n.names.length=nl)
  (hF:ManyNP R X Y m w0 W n.sort n.num n.text (n.names++[s]) n.kids (.slice (some ⟨g,0,none⟩) (nl+1) cap) (.slice ka n.kids.length kc))
  (hb:W.heap[R]?=some (.cells #[.pointer (some ⟨bk,0,none⟩),wv,.int .i64 ((a+1:Nat):Int),.int .i64 (c:Int)] 84 (0,0))) (hit:W.heap[Y]?=some it) :
  PSt B R X Y it bk m wv ws w0 W ⟨n.sort,n.num,n.text,n.names++[s],n.kids⟩ (a+1) c (some ⟨g,0,none⟩) cap ka kc:=by
 obtain⟨a0,c0,b⟩:=h.rdr0
 have e:(n.names++[s]).length=nl+1:=by rw[List.length_append,hnl];rfl
 refine⟨?_,b.keep hF.near hb,⟨a0,c0,b⟩,h.laid,h.br,h.rx,h.wx,?_,h.xy,hit⟩
 ·show ManyNP R X Y m w0 W n.sort n.num n.text (n.names++[s]) n.kids (.slice (some ⟨g,0,none⟩) (n.names++[s]).length cap) _
  rw[e];exact hF
 ·show (n.names++[s]).length+n.kids.length<=a+1
  have:=h.few
  rw[e];omega
theorem qsT (M:Nat) {B R X Y bk m:Nat} {it:Obj} {wv:Value} {ws:List ByteArray} {w0 w:World} {n:Nd (T m)} {a c:Nat} {na:Option Addr} {nc:Nat} {ka:Option Addr} {kc:Nat} (rk:Bool->Nat->Nat->Rd3 (T m)) (p:UInt8) (pi:Int) (hpi:(p.toNat:Int)=pi) (hp:pi=78∨pi=88) (d:Int)
  (h:PSt B R X Y it bk m wv ws w0 w n a c na nc ka kc) :
  Calls prog 69 #[.pointer (some ⟨R,0,none⟩),.pointer (some ⟨X,0,none⟩),.int .i32 pi,.int .i64 d] w (qaW B R X Y it bk m wv ws w0 (stepR M rk ws p n a c)):=by
 have J:p=78∨p=88:=by
  rcases hp with rfl|rfl
  ·exact .inl (UInt8.toNat_inj.1 (by rw[(by omega:p.toNat=78)];rfl))
  ·exact .inr (UInt8.toNat_inj.1 (by rw[(by omega:p.toNat=88)];rfl))
 have HS:Hid (stepR M rk ws p n a c=match ws[a]? with|none=>.error (2,a)|some s=>if qaY p s n.names=true then .ok (⟨n.sort,n.num,n.text,n.names++[s],n.kids⟩,a+1,c) else .error (2,a)):=by
  show _=_
  unfold stepR
  rcases J with rfl|rfl<;>rfl
 clear J
 have aP:=h.many.lt
 have E:=h.rx
 have aQ:=h.rdr.lt
 have L:=Lib.hid h
 obtain⟨⟨r0,r1,r2,r3⟩,-⟩:=h.rdr.cells
 obtain⟨⟨x0,x1,x2,x3,x4⟩,xf⟩:=qaC h.many.box
 by_cases ha:a<ws.length
 case neg=>
  have N:Hid (Calls prog 66 _ w.drew _):=qjB (h.rdr.drewN 1) ha
  have HP:Hid (∀k,qaW B R X Y it bk m wv ws w0 (stepR M rk ws p n a c) (.panicked (qbT 2 a)) (w.drew.drewN k)):=fun k=>.inr ⟨2,a,by rw[HS.out,List.getElem?_eq_none (by omega)],rfl,h.many.near.trans (qaJ (qaJ (Near.refl R w) 1) k)⟩
  clear h HS L ha
  rcases hp with rfl|rfl
  all_goals
   go_enter func69,ntmps69
   go_wp2_with fail
   go_region_dies
   all_goals (go_at_call 66;refine N.out.mono ?_;rintro e w' ⟨rfl,k,rfl⟩;exact⟨rfl,HP.out k⟩)
 obtain⟨s,r⟩:∃s,ws[a]=s:=⟨_,rfl⟩
 have aR:s.size<=3000:=by rw[<- r];exact h.rdr.short _ (List.getElem_mem ha)
 have aM:=h.rdr.few
 have i:Hid (stepR M rk ws p n a c=if qaY p s n.names=true then .ok (⟨n.sort,n.num,n.text,n.names++[s],n.kids⟩,a+1,c) else .error (2,a)):=by
  show _=_
  rw[HS.out,List.getElem?_eq_getElem ha,r]
 have N:Hid (∀k,Calls prog 66 #[.pointer (some ⟨R,0,none⟩)] (w.drewN k) fun e w'=>e=.returned (.string s)/\∃n,w'=(w.drewN k).drewN n):=fun k=>by
  have:=qgC (h.rdr.drewN k) ha
  rw[r]at this
  exact this
 have q:Hid (∀k,Calls prog 90 #[.pointer (some ⟨bk,0,none⟩),.int .i32 pi,.string s,.slice na n.names.length nc] (w.drewN k) fun e w'=>e=.returned (.bool (qaY p s n.names))/\w'=w.drewN k):=fun k=>by
  have:=qrZ (fun b=>b<w.heap.size) bk p s n.names _ (w.drewN k) (by unfold maxLen;omega) (h.rdr.drewN k).book (h.names (by omega))
  rw[hpi]at this
  exact this
 have O:Hid (n.names.length=n.names.length):=rfl
 clear HS
 obtain⟨nl,y⟩:∃nl,n.names.length=nl:=⟨_,rfl⟩
 rw[y]at q x3
 cases hnb:qaY p s n.names with
 | false=>
  rw[hnb]at q i
  have HD:Hid (∀k,Calls prog 52 _ (w.drewN k) _):=fun k=>qcE (h.rdr.drewN k) 2
  have HP:Hid (∀k,qaW B R X Y it bk m wv ws w0 (stepR M rk ws p n a c) (.panicked (qbT 2 a)) (w.drewN k)):=fun k=>.inr ⟨2,a,by rw[i.out];rfl,rfl,h.many.near.trans (qaJ (Near.refl R w) k)⟩
  clear h i L ha hnb y O r
  rcases hp with rfl|rfl
  all_goals
   go_enter func69,ntmps69
   go_wp2_with fail
   refine wp_region_held_drew (S:=(fun w'=>w'.cell? ⟨R,0,none⟩=some (.pointer (some ⟨bk,0,none⟩))/\w'.cell? ⟨X,3,none⟩=some (.slice na nl nc))) (by kernel_rfl) (by exact⟨r0,x3⟩) (fun hHeld=>?_)
   refine tk 0 ?_
   refine tk 1 ?_
   refine tk 2 ?_
   refine tk 3 ?_
   refine tk 4 ?_
   refine tk 5 ?_
   refine tk 6 ?_
   refine tk 8 ?_
   refine tk 9 ?_
   refine tk 10 ?_
   refine tk 11 ?_
   refine wpAnyH_ready (rs:=[7]) (by kernel_rfl) (by simp) ?_
   refine AllReadyH.cons rfl (fun K hK=>?_) AllReadyH.nil
   go_simp
   go_at_call 66
   refine (N.out 1).mono ?_
   rintro e w1 ⟨rfl,k1,rfl⟩
   refine hK.out _ _ (hHeld) (fun hHeld=>?_)
   clear hK K
   refine wpAnyH_ready (rs:=[12]) (by kernel_rfl) (by simp) ?_
   refine AllReadyH.cons rfl (fun K hK=>?_) AllReadyH.nil
   go_simp
   go_at_call 90
   refine (q.out (1+k1)).mono ?_
   rintro e w2 ⟨rfl,rfl⟩
   refine hK.out _ _ (hHeld) (fun hHeld=>?_)
   clear hK K
   refine wpAnyH_ready (rs:=[13]) (by kernel_rfl) (by simp) ?_
   refine AllReadyH.cons rfl (fun K hK=>?_) AllReadyH.nil
   go_simp
   go_at_call 52
   refine (HD.out (1+k1)).mono ?_
   rintro e w3 ⟨rfl,rfl⟩
   exact⟨rfl,HP.out (1+k1)⟩
 | true=>
  rw[hnb]at q i
  rw[if_pos rfl]at i
  have aH:Hid (n.kids.length<=3000/\nl<=3000):=by have:=h.few;show _/\_;omega
  have aN:nl<=3000:=aH.out.2
  have j:=hidF y
  have aI:Hid (∃h:a<ws.length,ws[a]=s):=⟨ha,r⟩
  obtain⟨aK,A,aD,aE,aF⟩:=info_parts Tryz.info_strN
  have v:Hid (_/\_/\_/\_):=⟨A,aD,aE,aF⟩
  clear h ha hnb y O r A aD aE aF
  rcases hp with rfl|rfl
  all_goals
   go_enter func69,ntmps69
   go_wp2_with fail
   go_quiet (first|(go_at_call 66;refine Calls.quiet_of (N.out _))|(go_at_call 90;refine Calls.quiet_of_same (q.out _))|(go_at_call 52;refine Calls.quiet_of_same (qbK _ _ _)))
   go_wp2_with fail
   obtain⟨V,hV⟩:∃V,V=w.drewN nq:=⟨_,rfl⟩
   have u:Hid (PSt B R X Y it bk m wv ws w0 V n a c na nc ka kc):=by rw[hV];exact L.out.on (qaJ (Near.refl R w) nq) (L.out.rdr.drewN nq) (Nat.le_refl _)
   have aS:V.heap.size=w.heap.size:=by rw[hV];rfl
   have P:X<V.heap.size:=by omega
   have F:=u.out.many.xy
   have HK:Hid (Calls prog 68 #[.pointer (some ⟨R,0,none⟩)] V.drew fun e w'=>e=.returned (.string s)/\Near R V.drew w' /\ Rdr w' R bk wv ws (a+1) c):=by
    obtain⟨hq,aL⟩:=aI.out
    have:=qfJ (u.out.rdr.drewN 1) hq
    rw[aL]at this
    exact this
   have Q:Hid (V.ownsRow (Y+1) 9 1 (.slice na nl nc) nl (n.names.map .string)):=by
    have:=u.out.many.names
    rw[j.out]at this
    exact this
   have G:Hid (V.heap[X]?=some (.cells #[.int .i64 n.sort,.int .i64 n.num,.string n.text,.slice na nl nc,.slice ka n.kids.length kc] 25 (0,0))):=by
    have:=u.out.many.box
    rw[j.out]at this
    exact this
   have U:V.cell? ⟨X,3,none⟩=some (.slice na nl nc):=(qaC G.out).1.2.2.2.1
   rw[<- hV]
   clear hV N q L r0 r1 r2 r3 x0 x1 x2 x3 x4 xf
   go_region_law (first
    | (refine step_append_lies _ (by rfl) (.tmp 109) (.tmp 112) 22 (by rfl) (Y+1) 9 aK _ 1 16 underlying22 v.out.1 v.out.2.1 v.out.2.2.1 v.out.2.2.2 rfl (by decide) (.slice na nl nc) nl (n.names.map .string) (by rfl) (z _) ⟨v2.heap.size,0,none⟩ 1 1 [.string s] (by rfl) rfl (World.news_of_block (heap_alloc_new v2 _)) (by simp[Value.oneCell']) (by decide) (by unfold maxLen;omega) (by omega) (by simp;omega) (v2.heap.size+1) (by simp) ?_;intro g2 C v3 t f D aG;have H:=(qkB (W:=V.drew) Q.out P (by omega) F.1 l f).trans G.out;have Z:v3.cell? ⟨X,3,none⟩=some (.slice na nl nc):=(by simp[World.cell?,H]);have aA:v3.frozen? ⟨X,3,none⟩=false:=(by simp[World.frozen?,H]))
    | (go_simp;go_at_call 68;refine HK.out.mono ?_;rintro e v2 ⟨rfl,l,I⟩;have aO:V.heap.size<=v2.heap.size:=l.size;have z:=fun o=>qhX (R:=R) (X:=Y) (W:=V.drew) Q.out (by omega) l o;have aB:v2.cell? ⟨X,3,none⟩=some (.slice na nl nc):=(World.cell?_of_block (l.block X (by simpa using P) (by omega))).trans U;have aJ:(v2.alloc (.cells #[.string s] 9)).cell? ⟨X,3,none⟩=some (.slice na nl nc):=(World.cell?_of_block (Below.heap_alloc _ _ _ (by show X<_;omega))).trans aB))
   all_goals
    have aC:Near R V v2:=(qaJ (Near.refl R V) 1).trans l
    have hF:=ManyNP.name (W:=v2) (Wa:=v2.alloc (.cells #[.string s] 9)) (one:=.cells #[.string s] 9) (x:=s) (g:=g2) (cap:=C) (u.out.many.keep E aC) u.out.wx rfl ⟨rfl,rfl,rfl⟩ (by omega) (by rw[j.out];exact t) (by rw[j.out];exact f) (by rw[j.out];exact D)
    rw[j.out]at hF
    have HF:Hid (qaW B R X Y it bk m wv ws w0 (stepR M rk ws p n a c) (.returned (.tuple #[])) (v3.setCell ⟨X,3,none⟩ (.slice (some ⟨g2,0,none⟩) (nl+1) C))):=
     .inl ⟨_,_,_,_,_,_,_,i.out,rfl,u.out.more j.out hF (qoT (W:=V.drew) Q.out E F.1 I.lt f _ 3 I.box) (qoU (W:=V.drew) Q.out F.2 E u.out.xy l f _ 3 u.out.iter)⟩
    clear hF t f D aG I l z aB aJ Z aA H aC U u HK Q G i
    go_wp2_with fail
    exact bodyPost_end (results_none rfl _ _ _) rfl HF.out
def qhN(M:Nat)(s:ByteArray)(w:World)(e:Ending)(w':World):Prop:=
 Below w.heap.size w w' /\ ((∃l,leafW M s=some l/\e=.returned (.tuple #[.agg #[.int .i64 l.1,.int .i64 l.2.1,.string l.2.2,.slice none 0 0,.slice none 0 0],.bool true])) ∨
  (leafW M s=none/\freeB s=true/\∃g,w.heap.size<=g/\w'.heap[g]?=some (.cells #[.string s] 9 (0,0))/\e=.returned (.tuple #[.agg #[.int .i64 4,.int .i64 0,.string ⟨#[]⟩,.slice (some ⟨g,0,none⟩) 1 1,.slice none 0 0],.bool true])) ∨
  (leafW M s=none/\freeB s=false/\e=.returned (.tuple #[.agg #[.int .i64 0,.int .i64 0,.string ⟨#[]⟩,.slice none 0 0,.slice none 0 0],.bool false])))
theorem qsU (M:Nat) (hM:3000<=M) (P:Nat) (s:ByteArray) (hs:s.size<=3000) (w:World) :
  Calls prog 22 #[.pointer (some ⟨P,0,none⟩),.string s] w (qhN M s w):=by
 obtain⟨J,o⟩:∃J,J=w.alloc zeroN:=⟨_,rfl⟩
 have Z:Below w.heap.size w J:=by rw[o];exact (Below.refl _ _).alloc (Nat.le_refl _) _
 have aN:J.heap.size=w.heap.size+1:=by rw[o];simp
 have aA:J.heap[w.heap.size]?=some (.cells #[.int .i64 0,.int .i64 0,.string ⟨#[]⟩,.slice none 0 0,.slice none 0 0] 25 (0,0)):=by rw[o];exact heap_alloc_new w zeroN
 have HT:Hid (Calls prog 37 #[.string s] J (qfE (M+1) (ansU M s) (okU M s) J)):=qiU s M (by omega) (by omega) J
 have HF:Hid (∀w',Calls prog 38 #[.string s] w' fun e w''=>e=.returned (.bool (freeB s))/\Below w'.heap.size w' w''):=fun w'=>qfF s w' (by unfold maxLen;omega)
 have aB:=Lib.hid Z
 have aC:=Lib.hid aA
 clear Z aA
 rcases qjH M s with ⟨t,hr,p,aG,i⟩|⟨hr,p,i⟩
 case' inl=>
  have aD:=qwT hr
  rw[p,aG]at HT
  clear p aG hr
 case' inr=>
  rw[p]at HT
  clear p hr
  have aE:=i
  generalize ansU M s=t at *
 all_goals
  go_enter func22,ntmps22
  go_wp2_with fail
  rw[<- o]
  clear o
  refine HT.out.mono ?_
  rintro e w2 ⟨I,d0,d1,d2,d3,d4,rfl,ht⟩
  obtain⟨q,K,L,xa,xl,xc,ya,yl,yc,rfl,rfl,rfl,rfl,rfl⟩:=ht.shape
  obtain⟨W,A⟩:∃W,W=w2.alloc (.cells #[.int .i64 q,.int .i64 K,.string L,.slice xa xl xc,.slice ya yl yc] 67):=⟨_,rfl⟩
  have aO:=I.size
  have aP:W.heap.size=w2.heap.size+1:=by rw[A];simp
  have d:Hid (Below w.heap.size w W):=by rw[A];exact (aB.out.trans (I.mono (by omega))).alloc (by omega) _
  have N:W.heap[w.heap.size]?=some (.cells #[.int .i64 0,.int .i64 0,.string ⟨#[]⟩,.slice none 0 0,.slice none 0 0] 25 (0,0)):=by
   rw[A,Below.heap_alloc _ _ _ (by omega)]
   exact (I.block _ (by omega)).trans aC.out
  have b0:W.cell? ⟨w2.heap.size,0,none⟩=some (.int .i64 q):=by rw[A];exact (Box5.new w2 _ _ _ _ _ _).c0
  have b1:W.cell? ⟨w2.heap.size,1,none⟩=some (.int .i64 K):=by rw[A];exact (Box5.new w2 _ _ _ _ _ _).c1
  have b2:W.cell? ⟨w2.heap.size,2,none⟩=some (.string L):=by rw[A];exact (Box5.new w2 _ _ _ _ _ _).c2
  have l:Hid (q=Nd.sort t):=(Value.int.inj ht.1).2
  have B:Hid (K=Nd.num t):=(Value.int.inj ht.2.1).2
  have C:Hid (L=Nd.text t):=(Value.string.inj ht.2.2.1)
  have aQ:¬w.heap.size=w2.heap.size:=by omega
  have aM:¬w2.heap.size=w.heap.size:=by omega
  obtain⟨⟨z0,X,z2,z3,z4⟩,Y⟩:=qaC N
  have D:=Y 0
  have E:=Y 1
  have F:=Y 2
  have G:=Y 3
  have H:=Y 4
  have j:=Lib.hid N
  clear Y I ht HT aB aC N
 ·go_upto_region 2 with fail
  rw[<- A]
  clear A aE l B C
  have k:=Lib.hid i
  clear i
  have f:=Lib.hid (HF.out W)
  clear HF
  cases hf:freeB s with
  | true=>
   rw[hf]at f
   have h:=Lib.hid hf
   clear hf
   go_wp2_with fail
   refine f.out.mono ?_
   rintro e w3 ⟨rfl,b⟩
   have O:=b.size
   have c:Below w.heap.size w w3:=d.out.trans (b.mono d.out.size)
   have g:=(b.block w.heap.size (by omega)).trans j.out
   obtain⟨⟨r,u,x,y,z⟩,a⟩:=qaC g
   have Q:=a 0
   have R:=a 1
   have S:=a 2
   have T:=a 3
   have U:=a 4
   have n:Hid (qhN M s w (.returned (.tuple #[.agg #[.int .i64 4,.int .i64 0,.string ⟨#[]⟩,.slice (some ⟨w3.heap.size,0,none⟩) 1 1,.slice none 0 0],.bool true])) (put5 (w3.alloc (.cells #[.string s] 9)) w.heap.size 0 (.int .i64 4) (.int .i64 0) (.string ⟨#[]⟩) (.slice (some ⟨w3.heap.size,0,none⟩) 1 1) (.slice none 0 0))):=
    ⟨qaX (c.alloc c.size _) (Nat.le_refl _),.inr (.inl ⟨k.out,h.out,w3.heap.size,c.size,by rw[qaQ (by omega)];exact heap_alloc_new _ _,rfl⟩)⟩
   obtain⟨⟨y0,y1,y2,y3,y4⟩,m⟩:=qaC ((Below.heap_alloc w3 (.cells #[.string s] 9) w.heap.size (by omega)).trans g)
   have aH:=m 0
   have aI:=m 1
   have aJ:=m 2
   have aK:=m 3
   have aL:=m 4
   clear m
   have aF:¬w.heap.size=w3.heap.size:=by omega
   have V:¬w3.heap.size=w.heap.size:=by omega
   clear a g c b f d j k h z0 X z2 z3 z4 D E F G H b0 b1 b2
   go_wp2_with fail
   refine bodyPost_ret (v:=.tuple #[.agg #[.int .i64 4,.int .i64 0,.string ⟨#[]⟩,.slice (some ⟨w3.heap.size,0,none⟩) 1 1,.slice none 0 0],.bool true]) (by simp[results,results22,go_sem,y0,y1,y2,y3,y4]) rfl ?_
   exact n.out
  | false=>
   rw[hf]at f
   have h:=Lib.hid hf
   clear hf
   go_wp2_with fail
   refine f.out.mono ?_
   rintro e w3 ⟨rfl,b⟩
   have O:=b.size
   have c:Below w.heap.size w w3:=d.out.trans (b.mono d.out.size)
   have g:=(b.block w.heap.size (by omega)).trans j.out
   obtain⟨⟨r,u,x,y,z⟩,a⟩:=qaC g
   have Q:=a 0
   have R:=a 1
   have S:=a 2
   have T:=a 3
   have U:=a 4
   have n:Hid (qhN M s w (.returned (.tuple #[.agg #[.int .i64 0,.int .i64 0,.string ⟨#[]⟩,.slice none 0 0,.slice none 0 0],.bool false])) (put5 w3 w.heap.size 0 (.int .i64 0) (.int .i64 0) (.string ⟨#[]⟩) (.slice none 0 0) (.slice none 0 0))):=
    ⟨qaX c (Nat.le_refl _),.inr (.inr ⟨k.out,h.out,rfl⟩)⟩
   clear a g c b f d j k h z0 X z2 z3 z4 D E F G H b0 b1 b2
   go_wp2_with fail
   refine bodyPost_ret (v:=.tuple #[.agg #[.int .i64 0,.int .i64 0,.string ⟨#[]⟩,.slice none 0 0,.slice none 0 0],.bool false]) (by simp[results,results22,go_sem,r,u,x,y,z]) rfl ?_
   exact n.out
 ·go_upto_region 2 with fail
  rw[<- A]
  clear A
  rcases i with ⟨h3,i⟩|⟨h3,i⟩
  ·have n:Hid (qhN M s w (.returned (.tuple #[.agg #[.int .i64 q,.int .i64 K,.string L,.slice none 0 0,.slice none 0 0],.bool true])) (put5 W w.heap.size 0 (.int .i64 q) (.int .i64 K) (.string L) (.slice none 0 0) (.slice none 0 0))):=
    ⟨qaX d.out (Nat.le_refl _),.inl ⟨_,i,by rw[l.out,B.out,C.out]⟩⟩
   have hc:q=1∨q=2∨q=3:=by have:=l.out;omega
   clear l B C d j HF i h3 aD
   rcases hc with rfl|rfl|rfl
   ·go_wp2_with fail
    refine bodyPost_ret (v:=.tuple #[.agg #[.int .i64 1,.int .i64 K,.string L,.slice none 0 0,.slice none 0 0],.bool true]) (by simp[results,results22,go_sem,z0,X,z2,z3,z4]) rfl ?_
    exact n.out
   ·go_wp2_with fail
    refine bodyPost_ret (v:=.tuple #[.agg #[.int .i64 2,.int .i64 K,.string L,.slice none 0 0,.slice none 0 0],.bool true]) (by simp[results,results22,go_sem,z0,X,z2,z3,z4]) rfl ?_
    exact n.out
   ·go_wp2_with fail
    refine bodyPost_ret (v:=.tuple #[.agg #[.int .i64 3,.int .i64 K,.string L,.slice none 0 0,.slice none 0 0],.bool true]) (by simp[results,results22,go_sem,z0,X,z2,z3,z4]) rfl ?_
    exact n.out
  ·have e1:(q==1)=false:=by have:=l.out;simp;omega
   have e2:(q==2)=false:=by have:=l.out;simp;omega
   have e3:(q==3)=false:=by have:=l.out;simp;omega
   have k:=Lib.hid i
   clear i h3 aD l B C
   have f:=Lib.hid (HF.out W)
   clear HF
   cases hf:freeB s with
   | true=>
    rw[hf]at f
    have h:=Lib.hid hf
    clear hf
    go_wp2_with fail
    refine f.out.mono ?_
    rintro e w3 ⟨rfl,b⟩
    have O:=b.size
    have c:Below w.heap.size w w3:=d.out.trans (b.mono d.out.size)
    have g:=(b.block w.heap.size (by omega)).trans j.out
    obtain⟨⟨r,u,x,y,z⟩,a⟩:=qaC g
    have Q:=a 0
    have R:=a 1
    have S:=a 2
    have T:=a 3
    have U:=a 4
    have n:Hid (qhN M s w (.returned (.tuple #[.agg #[.int .i64 4,.int .i64 0,.string ⟨#[]⟩,.slice (some ⟨w3.heap.size,0,none⟩) 1 1,.slice none 0 0],.bool true])) (put5 (w3.alloc (.cells #[.string s] 9)) w.heap.size 0 (.int .i64 4) (.int .i64 0) (.string ⟨#[]⟩) (.slice (some ⟨w3.heap.size,0,none⟩) 1 1) (.slice none 0 0))):=
     ⟨qaX (c.alloc c.size _) (Nat.le_refl _),.inr (.inl ⟨k.out,h.out,w3.heap.size,c.size,by rw[qaQ (by omega)];exact heap_alloc_new _ _,rfl⟩)⟩
    obtain⟨⟨y0,y1,y2,y3,y4⟩,m⟩:=qaC ((Below.heap_alloc w3 (.cells #[.string s] 9) w.heap.size (by omega)).trans g)
    have aH:=m 0
    have aI:=m 1
    have aJ:=m 2
    have aK:=m 3
    have aL:=m 4
    clear m
    have aF:¬w.heap.size=w3.heap.size:=by omega
    have V:¬w3.heap.size=w.heap.size:=by omega
    clear a g c b f d j k h z0 X z2 z3 z4 D E F G H b0 b1 b2
    go_wp2_with fail
    refine bodyPost_ret (v:=.tuple #[.agg #[.int .i64 4,.int .i64 0,.string ⟨#[]⟩,.slice (some ⟨w3.heap.size,0,none⟩) 1 1,.slice none 0 0],.bool true]) (by simp[results,results22,go_sem,y0,y1,y2,y3,y4]) rfl ?_
    exact n.out
   | false=>
    rw[hf]at f
    have h:=Lib.hid hf
    clear hf
    go_wp2_with fail
    refine f.out.mono ?_
    rintro e w3 ⟨rfl,b⟩
    have O:=b.size
    have c:Below w.heap.size w w3:=d.out.trans (b.mono d.out.size)
    have g:=(b.block w.heap.size (by omega)).trans j.out
    obtain⟨⟨r,u,x,y,z⟩,a⟩:=qaC g
    have Q:=a 0
    have R:=a 1
    have S:=a 2
    have T:=a 3
    have U:=a 4
    have n:Hid (qhN M s w (.returned (.tuple #[.agg #[.int .i64 0,.int .i64 0,.string ⟨#[]⟩,.slice none 0 0,.slice none 0 0],.bool false])) (put5 w3 w.heap.size 0 (.int .i64 0) (.int .i64 0) (.string ⟨#[]⟩) (.slice none 0 0) (.slice none 0 0))):=
     ⟨qaX c (Nat.le_refl _),.inr (.inr ⟨k.out,h.out,rfl⟩)⟩
    clear a g c b f d j k h z0 X z2 z3 z4 D E F G H b0 b1 b2
    go_wp2_with fail
    refine bodyPost_ret (v:=.tuple #[.agg #[.int .i64 0,.int .i64 0,.string ⟨#[]⟩,.slice none 0 0,.slice none 0 0],.bool false]) (by simp[results,results22,go_sem,r,u,x,y,z]) rfl ?_
    exact n.out
def qnE(m R bk:Nat)(wv:Value)(ws:List ByteArray)(a:Nat)(w:World)(r:Rd3 (T m))(e:Ending)(w':World):Prop:=
 Near R w w' /\ ((∃(t:T m)(a' c':Nat)(c0 c1 c2 c3 c4:Value),r=.ok (t,a',c')/\e=.returned (.agg #[c0,c1,c2,c3,c4])/\NodeIn (fun b=>w.heap.size<=b/\b<w'.heap.size) w' m t c0 c1 c2 c3 c4/\OwnN (fun b=>w.heap.size<=b/\b<w'.heap.size) w' m t c3 c4/\Rdr w' R bk wv ws a' c' /\ a<a') ∨
  (∃code at',r=.error (code,at')/\e=.panicked (qbT code at')))
def actI(act:Bool):Int:=if act=true then 65 else 86
def qhA(M m:Nat):Prop:=∀(B R bk:Nat)(wv:Value)(ws:List ByteArray)(a c:Nat)(act:Bool)(d:Int)(w:World),LaidU B w->B<=R->Rdr w R bk wv ws a c->1<=d->d+(m:Int)=26->c<=200 ->
 Calls prog 51 #[.pointer (some ⟨R,0,none⟩),.int .i32 (actI act),.int .i64 d] w (qnE m R bk wv ws a w (qaI M ws m act d a c))
theorem Tryz.info_nodeR:(prog.info? 25).map (fun i=>(i.zero,i.size,i.bytes))=some (some (.agg #[.int .i64 0,.int .i64 0,.string ⟨#[]⟩,.slice none 0 0,.slice none 0 0]),5,80):=by kernel_rfl
theorem qeD{R:Nat}{wc W:World}(hW:W=wc.drew∨W=wc.drew.alloc zeroN):Near R wc W:=by
 rcases hW with rfl|rfl
 ·exact qaJ (Near.refl R wc) 1
 ·exact (qaJ (Near.refl R wc) 1).trans (Near.alloc R _ _)
theorem qqW{w W:World}{R bk:Nat}{wv:Value}{ws:List ByteArray}{a c:Nat}(h:Rdr w R bk wv ws a c)(hW:W=w.drew∨W=w.drew.alloc zeroN):Rdr W R bk wv ws a c:=by
 refine h.keep (qeD hW) (Eq.trans ?_ h.box)
 rcases hW with rfl|rfl
 ·rfl
 ·exact Below.heap_alloc _ _ _ h.lt
theorem qtO {M m B R bk:Nat} (hI:qhA M m) {wv:Value} {ws:List ByteArray} {a c:Nat} {wc:World} (act:Bool) (d:Int) (hL:LaidU B wc) (hB:B<=R) (h:Rdr wc R bk wv ws a c) (hd:1<=d) (hdm:d+(m:Int)=26) (hc:c<=200) (W:World) (hW:W=wc.drew∨W=wc.drew.alloc zeroN) :
  Calls prog 51 #[.pointer (some ⟨R,0,none⟩),.int .i32 (actI act),.int .i64 d] W fun e w'=>Near R W w' /\ Near R wc w' /\ ((∃(t:T m)(a' c':Nat)(c0 c1 c2 c3 c4:Value),qaI M ws m act d a c=.ok (t,a',c')/\e=.returned (.agg #[c0,c1,c2,c3,c4])/\NodeIn (fun b=>wc.heap.size<=b/\b<w'.heap.size) w' m t c0 c1 c2 c3 c4/\OwnN (fun b=>wc.heap.size<=b/\b<w'.heap.size) w' m t c3 c4/\Rdr w' R bk wv ws a' c' /\ a<a') ∨
   (∃code at',qaI M ws m act d a c=.error (code,at')/\e=.panicked (qbT code at'))):=by
 refine (hI B R bk wv ws a c act d W (hL.near (qeD hW) hB h.lt) hB (qqW h hW) hd hdm hc).mono ?_
 rintro e w' ⟨f,⟨t,a',c',c0,c1,c2,c3,c4,g,i,j,k,l,n⟩|⟨code,at',g,i⟩⟩
 ·exact⟨f,(qeD hW).trans f,.inl ⟨t,a',c',c0,c1,c2,c3,c4,g,i,j.keep (fun _ _=>rfl) (fun b hb=>⟨Nat.le_trans (qeD (R:=R) hW).size hb.1,hb.2⟩),k.keep (fun _ _=>rfl) (fun b hb=>⟨Nat.le_trans (qeD (R:=R) hW).size hb.1,hb.2⟩),l,n⟩⟩
 ·exact⟨f,(qeD hW).trans f,.inr ⟨code,at',g,i⟩⟩
theorem xeT{m:Nat}{wc v2:World}{t:T m}{c0 c1 c2 c3 c4:Value}(h:NodeIn (fun b=>wc.heap.size<=b/\b<v2.heap.size) v2 m t c0 c1 c2 c3 c4)(o:Obj):NodeIn (fun b=>wc.heap.size<=b/\b<(v2.alloc o).heap.size) (v2.alloc o) m t c0 c1 c2 c3 c4:=
 h.keep (fun b hb=>Below.heap_alloc _ _ _ hb.2) (fun b hb=>⟨hb.1,by have:=hb.2;simp;omega⟩)
theorem xeU{m:Nat}{wc v2:World}{t:T m}{c3 c4:Value}(h:OwnN (fun b=>wc.heap.size<=b/\b<v2.heap.size) v2 m t c3 c4)(o:Obj):OwnN (fun b=>wc.heap.size<=b/\b<(v2.alloc o).heap.size) (v2.alloc o) m t c3 c4:=
 h.keep (fun b hb=>Below.heap_alloc _ _ _ hb.2) (fun b hb=>⟨hb.1,by have:=hb.2;simp;omega⟩)
theorem qlJ {B R X Y bk m j g cap:Nat} {it:Obj} {wv:Value} {ws:List ByteArray} {w0 wc Wp v3:World} {n:Nd (T m)} {a c a' c':Nat} {na:Option Addr} {nc:Nat} {ka:Option Addr} {kc:Nat} {t:T m} {c0 c1 c2 c3 c4 z0 z1 z2 z3 z4:Value} {xs:List Value} {Ps:List (List Spot)}
  (h:PSt B R X Y it bk m wv ws w0 wc n a c na nc ka kc) (hkl:n.kids.length=j) (hn:Near R wc Wp) (ht:NodeIn (fun b=>wc.heap.size<=b/\b<Wp.heap.size) Wp m t c0 c1 c2 c3 c4) (hot:OwnN (fun b=>wc.heap.size<=b/\b<Wp.heap.size) Wp m t c3 c4)
  (hxs:wc.ownsRow (Y+1) 25 5 (.slice ka j kc) j xs) (hpl:Ps.length=n.kids.length) (hko:KidsOwnN (Far (Y+1) (.slice na n.names.length nc) (.slice ka n.kids.length kc) wc.heap.size) wc m n.kids xs Ps) (hln:Ps.flatten.length+3*n.kids.length=sumL (fun x=>3+spL m x) n.kids)
  (hown:v3.ownsRow (Y+1) 25 5 (.slice (some ⟨g,0,none⟩) (j+1) cap) (j+1) (xs++[z0,z1,z2,z3,z4])) (hgrow:Wp.grownBy v3 (Value.slice ka j kc).ownBlock) (hat:(Value.slice ka j kc).ownBlock=some g∨g=Wp.heap.size) (hcp:Rdr Wp R bk wv ws a' c') (ha:a<a') :
  PSt B R X Y it bk m wv ws w0 ((((((v3.setCell ⟨g,j*5,none⟩ c0).setCell ⟨g,j*5+1,none⟩ c1).setCell ⟨g,j*5+2,none⟩ c2).setCell ⟨g,j*5+3,none⟩ c3).setCell ⟨g,j*5+4,none⟩ c4).setCell ⟨X,4,none⟩ (.slice (some ⟨g,0,none⟩) (j+1) cap)) ⟨n.sort,n.num,n.text,n.names,n.kids++[t]⟩ a' c' na nc (some ⟨g,0,none⟩) cap /\
  PSt B R X Y it bk m wv ws w0 ((((((v3.setCell ⟨X,4,none⟩ (.slice (some ⟨g,0,none⟩) (j+1) cap)).setCell ⟨g,j*5,none⟩ c0).setCell ⟨g,j*5+1,none⟩ c1).setCell ⟨g,j*5+2,none⟩ c2).setCell ⟨g,j*5+3,none⟩ c3).setCell ⟨g,j*5+4,none⟩ c4) ⟨n.sort,n.num,n.text,n.names,n.kids++[t]⟩ a' c' na nc (some ⟨g,0,none⟩) cap:=by
 subst hkl
 have o:=qaF hown g rfl
 have d:=h.rx
 have f:=h.many.xy
 have k:=ManyNP.kidZ h.many.toManyN d h.wx hn ht hot hxs hpl hko hln hown hgrow hat
 have p:=xdX (R:=R) (X:=X) (g:=g) (W:=wc) (Wp:=Wp) (W2:=v3) (q:=n.kids.length*5) (u:=.slice (some ⟨g,0,none⟩) (n.kids.length+1) cap) (c0:=c0) (c1:=c1) (c2:=c2) (c3:=c3) (c4:=c4) d f.1 hxs hgrow (show X<g by omega) hcp.lt hcp.box
 obtain⟨a0,r,l⟩:=h.rdr0
 have e:(n.kids++[t]).length=n.kids.length+1:=by rw[List.length_append];rfl
 have i:∀W,W=(put5 v3 g (n.kids.length*5) c0 c1 c2 c3 c4).setCell ⟨X,4,none⟩ (.slice (some ⟨g,0,none⟩) (n.kids.length+1) cap)->PSt B R X Y it bk m wv ws w0 W ⟨n.sort,n.num,n.text,n.names,n.kids++[t]⟩ a' c' na nc (some ⟨g,0,none⟩) cap:=by
  rintro W rfl
  refine⟨?_,l.keep k.near p,⟨a0,r,l⟩,h.laid,h.br,h.rx,h.wx,?_,h.xy,?_⟩
  ·show ManyNP R X Y m w0 _ n.sort n.num n.text n.names (n.kids++[t]) _ (.slice (some ⟨g,0,none⟩) (n.kids++[t]).length cap)
   rw[e];exact k
  ·show n.names.length+(n.kids++[t]).length<=a'
   have:=h.few
   rw[e];omega
  ·have s:=h.xy
   rw[Below.heap_setCell _ _ _ _ (by show Y≠X;omega),qaQ (by omega),hgrow.block Y (by have:=hn.size;omega) (fun e=>by have:=qaF hxs Y e.symm;omega),hn.block Y f.2 (by omega)]
   exact h.iter
 refine⟨i _ rfl,i _ ?_⟩
 have:=xdW v3 X 4 g (n.kids.length*5) (.slice (some ⟨g,0,none⟩) (n.kids.length+1) cap) c0 c1 c2 c3 c4 (by omega)
 exact this
theorem PSt.setNum{B R X Y bk m:Nat}{it:Obj}{wv:Value}{ws:List ByteArray}{w0 w:World}{n:Nd (T m)}{a c:Nat}{na:Option Addr}{nc:Nat}{ka:Option Addr}{kc:Nat}(h:PSt B R X Y it bk m wv ws w0 w n a c na nc ka kc)(v:Int):PSt B R X Y it bk m wv ws w0 (w.setCell ⟨X,1,none⟩ (.int .i64 v)) ⟨n.sort,v,n.text,n.names,n.kids⟩ a c na nc ka kc:=by
 obtain⟨a0,c0,d⟩:=h.rdr0
 have b:=h.many.put (o:=1) (v:=.int .i64 v) (nm':=v) (tx':=n.text) h.wx (.inl ⟨rfl,rfl,rfl⟩)
 exact⟨b,d.keep b.near ((Below.heap_setCell _ _ _ _ (by show R≠X;have:=h.rx;omega)).trans h.rdr.box),⟨a0,c0,d⟩,h.laid,h.br,h.rx,h.wx,h.few,h.xy,(Below.heap_setCell _ _ _ _ (by show Y≠X;have:=h.xy;omega)).trans h.iter⟩
theorem PSt.setText{B R X Y bk m:Nat}{it:Obj}{wv:Value}{ws:List ByteArray}{w0 w:World}{n:Nd (T m)}{a c:Nat}{na:Option Addr}{nc:Nat}{ka:Option Addr}{kc:Nat}(h:PSt B R X Y it bk m wv ws w0 w n a c na nc ka kc)(v:ByteArray):PSt B R X Y it bk m wv ws w0 (w.setCell ⟨X,2,none⟩ (.string v)) ⟨n.sort,n.num,v,n.names,n.kids⟩ a c na nc ka kc:=by
 obtain⟨a0,c0,d⟩:=h.rdr0
 have b:=h.many.put (o:=2) (v:=.string v) (nm':=n.num) (tx':=v) h.wx (.inr ⟨rfl,rfl,rfl⟩)
 exact⟨b,d.keep b.near ((Below.heap_setCell _ _ _ _ (by show R≠X;have:=h.rx;omega)).trans h.rdr.box),⟨a0,c0,d⟩,h.laid,h.br,h.rx,h.wx,h.few,h.xy,(Below.heap_setCell _ _ _ _ (by show Y≠X;have:=h.xy;omega)).trans h.iter⟩
theorem xhP (M:Nat) {B R X Y bk m:Nat} {it:Obj} {wv:Value} {ws:List ByteArray} {w0 w:World} {n:Nd (T m)} {a c:Nat} {na:Option Addr} {nc:Nat} {ka:Option Addr} {kc:Nat} (rk:Bool->Nat->Nat->Rd3 (T m)) (k:Nat) (hk:n.sort=(k:Int)) (hk44:k<44) (d:Int) (h:PSt B R X Y it bk m wv ws w0 w n a c na nc ka kc) :
  Calls prog 69 #[.pointer (some ⟨R,0,none⟩),.pointer (some ⟨X,0,none⟩),.int .i32 35,.int .i64 d] w (qaW B R X Y it bk m wv ws w0 (stepR M rk ws 35 n a c)):=by
 have z:n.sort.toNat=k:=by omega
 have N:Hid (stepR M rk ws 35 n a c=match ws[a]? with|none=>.error (2,a)|some s=>match numOf s.data.toList with|some v=>if lst k<=v/\v<=mst k then .ok (⟨n.sort,v,n.text,n.names,n.kids⟩,a+1,c) else .error (2,a)|none=>.error (2,a)):=by
  show _=_
  rw[<- z]
  unfold stepR
  rw[if_neg (by decide),if_neg (by decide)]
  cases ws[a]? with
  | none=>rfl
  | some s=>
   dsimp only
   rw[if_neg (by decide),if_pos rfl]
   cases numOf s.data.toList<;>rfl
 have aB:=h.many.lt
 have aC:=h.rx
 have aD:=h.rdr.lt
 have HH:=Lib.hid h
 by_cases ha:a<ws.length
 case neg=>
  have u:=Lib.hid (qjB h.rdr ha)
  have P:Hid (∀k,qaW B R X Y it bk m wv ws w0 (stepR M rk ws 35 n a c) (.panicked (qbT 2 a)) (w.drewN k)):=fun k=>.inr ⟨2,a,by rw[N.out,List.getElem?_eq_none (by omega)],rfl,h.many.near.trans (qaJ (Near.refl R w) k)⟩
  clear h N HH ha
  go_enter func69,ntmps69
  go_wp2_with fail
  refine u.out.mono ?_
  rintro e w1 ⟨rfl,k,rfl⟩
  exact⟨rfl,P.out k⟩
 obtain⟨s,p⟩:∃s,ws[a]=s:=⟨_,rfl⟩
 have aE:s.size<=3000:=by rw[<- p];exact h.rdr.short _ (List.getElem_mem ha)
 have b:Hid (stepR M rk ws 35 n a c=match numOf s.data.toList with|some v=>if lst k<=v/\v<=mst k then .ok (⟨n.sort,v,n.text,n.names,n.kids⟩,a+1,c) else .error (2,a)|none=>.error (2,a)):=by
  show _=_
  rw[N.out,List.getElem?_eq_getElem ha,p]
 have u:Hid (Calls prog 66 #[.pointer (some ⟨R,0,none⟩)] w fun e w'=>e=.returned (.string s)/\∃n,w'=w.drewN n):=by
  have:=qgC h.rdr ha
  rw[p]at this
  exact this
 have f:Hid (∀j,Calls prog 86 #[.string s] (w.drewN j) fun e w'=>PSt B R X Y it bk m wv ws w0 w' n a c na nc ka kc/\((∃v,numOf s.data.toList=some v/\e=.returned (.tuple #[.int .i64 v,.bool true]))∨(numOf s.data.toList=none/\e=.returned (.tuple #[.int .i64 0,.bool false])))):=fun j=>by
  have Q:=h.on (qaJ (Near.refl R w) j) (h.rdr.drewN j) (Nat.le_refl _)
  refine (qmM B s (w.drewN j) Q.laidW (by have:=h.br;have:=h.rdr.lt;show B<=w.heap.size;omega) (by omega)).mono ?_
  rintro e w' ⟨y,q⟩
  exact⟨Q.on (Near.of_below y) (Q.rdr.same y) (Nat.le_refl _),q⟩
 have G:Hid (∃h:a<ws.length,ws[a]=s):=⟨ha,p⟩
 clear h N HH ha p
 cases hv:numOf s.data.toList with
 | none=>
  rw[hv]at b f
  clear hv
  go_enter func69,ntmps69
  go_wp2_with fail
  refine u.out.mono ?_
  rintro e w1 ⟨rfl,j,rfl⟩
  go_wp2_with fail
  refine (f.out j).mono ?_
  rintro e V ⟨l,⟨v,q,-⟩|⟨-,rfl⟩⟩
  case inl=>cases q
  have U:Hid (Calls prog 52 _ V.drew _):=qcE (l.rdr.drewN 1) 2
  have P:Hid (qaW B R X Y it bk m wv ws w0 (stepR M rk ws 35 n a c) (.panicked (qbT 2 a)) V.drew):=.inr ⟨2,a,b.out,rfl,l.many.near.trans (qaJ (Near.refl R V) 1)⟩
  clear l f u b
  go_wp2_with fail
  refine wp_region_held_drew (S:=(fun _=>True)) (by kernel_rfl) (by exact trivial) (fun hHeld=>?_)
  refine tk 0 ?_
  refine tk 1 ?_
  refine tk 2 ?_
  refine ts 3 ?_
  refine ts 4 ?_
  refine ts 5 ?_
  refine ts 6 ?_
  refine ts 7 ?_
  refine ts 8 ?_
  refine ts 9 ?_
  refine ts 10 ?_
  refine ts 11 ?_
  refine ts 12 ?_
  refine ts 13 ?_
  refine ts 14 ?_
  refine ts 15 ?_
  refine ts 16 ?_
  refine tk 17 ?_
  refine wpAnyH_ready (rs:=[18]) (by kernel_rfl) (by simp) ?_
  refine AllReadyH.cons rfl (fun K hK=>?_) AllReadyH.nil
  go_simp
  go_at_call 52
  refine U.out.mono ?_
  rintro e w3 ⟨rfl,rfl⟩
  exact⟨rfl,P.out⟩
 | some v=>
  rw[hv]at b f
  clear hv
  dsimp only at b
  have H:Hid (∀w,Calls prog 87 #[.agg #[.string (wrd k),.string (bs (prt k)),.int .i64 (lst k),.int .i64 (mst k)],.int .i64 v] w _):=fun w=>xbC (wrd k) (bs (prt k)) (lst k) (mst k) v w
  have r:Hid (n.sort=(k:Int)/\k<44):=⟨hk,hk44⟩
  have Z:(k:Int)<44:=by omega
  by_cases hin:lst k<=v/\v<=mst k
  ·rw[if_pos hin]at b
   rw[decide_eq_true hin]at H
   clear hin hk hk44 z
   go_enter func69,ntmps69
   go_wp2_with fail
   refine u.out.mono ?_
   rintro e w1 ⟨rfl,j,rfl⟩
   go_wp2_with fail
   refine (f.out j).mono ?_
   rintro e V ⟨l,⟨v',q,rfl⟩|⟨q,-⟩⟩
   case inr=>cases q
   cases q
   have F:=Lib.hid l
   have i:Hid (∀W,Below V.drew.heap.size V.drew W->(W.cell? ⟨R,0,none⟩=some (.pointer (some ⟨bk,0,none⟩))/\W.cell? ⟨X,0,none⟩=some (.int .i64 (k:Int))/\W.cell? ⟨bk,k*4,none⟩=some (.string (wrd k))/\W.cell? ⟨bk,k*4+1,none⟩=some (.string (bs (prt k)))/\W.cell? ⟨bk,k*4+2,none⟩=some (.int .i64 (lst k))/\W.cell? ⟨bk,k*4+3,none⟩=some (.int .i64 (mst k)))):=fun W y=>by
    have A:=l.on (Near.of_below (show Below V.heap.size V W from (Below.refl V.heap.size V).drew.trans y)) (l.rdr.same (show Below V.heap.size V W from (Below.refl V.heap.size V).drew.trans y)) (Nat.le_refl _)
    obtain⟨b0,b1,b2,b3⟩:=A.rdr.book k r.out.2
    have C:=(qaC A.many.box).1.1
    rw[r.out.1]at C
    exact⟨A.rdr.cells.1.1,C,b0,b1,b2,b3⟩
   have t:=i.out V.drew (Below.refl _ _)
   clear l f u
   go_wp2_with fail
   refine wp_region_held_drew (S:=(fun w'=>w'.cell? ⟨R,0,none⟩=some (.pointer (some ⟨bk,0,none⟩))/\w'.cell? ⟨X,0,none⟩=some (.int .i64 (k:Int))/\w'.cell? ⟨bk,k*4,none⟩=some (.string (wrd k))/\w'.cell? ⟨bk,k*4+1,none⟩=some (.string (bs (prt k)))/\w'.cell? ⟨bk,k*4+2,none⟩=some (.int .i64 (lst k))/\w'.cell? ⟨bk,k*4+3,none⟩=some (.int .i64 (mst k)))) (by kernel_rfl) (by exact t) (fun hHeld=>?_)
   refine tk 0 ?_
   refine tk 1 ?_
   refine tk 2 ?_
   refine tk 3 ?_
   refine tk 4 ?_
   refine tk 5 ?_
   refine tk 6 ?_
   refine tk 7 ?_
   refine tk 8 ?_
   refine tk 9 ?_
   refine tk 10 ?_
   refine tk 11 ?_
   refine tk 12 ?_
   refine tk 13 ?_
   refine tk 14 ?_
   refine tk 15 ?_
   refine wpAnyH_ready (rs:=[16]) (by kernel_rfl) (by simp) ?_
   refine AllReadyH.cons rfl (fun K hK=>?_) AllReadyH.nil
   go_simp
   go_at_call 87
   refine (H.out _).mono ?_
   rintro e w3 ⟨rfl,g⟩
   have o:=i.out _ g
   refine hK.out _ _ (o) (fun hHeld=>?_)
   clear hK K
   refine tk 17 ?_
   refine wpAnyH_ready (rs:=[18]) (by kernel_rfl) (by simp) ?_
   refine AllReadyH.cons rfl (fun K hK=>?_) AllReadyH.nil
   go_simp
   go_at_call 52
   refine (qbK _ _ _).mono ?_
   rintro e O ⟨rfl,rfl⟩
   refine hK.out _ _ (o) (fun hHeld=>?_)
   clear hK K
   refine wpAnyH_done (by kernel_rfl) ?_ _
   go_simp
   have I:Near R V O:=Near.of_below (show Below V.heap.size V O from (Below.refl V.heap.size V).drew.trans g)
   have D:=F.out.on I (F.out.rdr.same (show Below V.heap.size V O from (Below.refl V.heap.size V).drew.trans g)) (Nat.le_refl _)
   obtain⟨⟨C,x1,x2,x3,x4⟩,xf⟩:=qaC D.many.box
   have aA:=xf 1
   have E:=D.setNum v
   have J:Hid (Calls prog 68 #[.pointer (some ⟨R,0,none⟩)] (O.setCell ⟨X,1,none⟩ (.int .i64 v)) fun e w'=>(∃x,e=.returned (.string x))/\qaW B R X Y it bk m wv ws w0 (stepR M rk ws 35 n a c) (.returned (.tuple #[])) w'):=by
    obtain⟨hq,aF⟩:=G.out
    refine (qfJ E.rdr hq).mono ?_
    rintro e w' ⟨rfl,hn,hr⟩
    exact⟨⟨_,rfl⟩,.inl ⟨_,_,_,_,_,_,_,b.out,rfl,E.on hn hr (by omega)⟩⟩
   clear D E I g o t i F hHeld xf H G
   go_wp2_with fail
   refine J.out.mono ?_
   rintro e w6 ⟨⟨x,rfl⟩,hF⟩
   have HF:=Lib.hid hF
   clear hF J C x1 x2 x3 x4 aA
   go_wp2_with fail
   exact bodyPost_end (results_none rfl _ _ _) rfl HF.out
  ·rw[if_neg hin]at b
   rw[decide_eq_false hin]at H
   clear hin hk hk44 z
   go_enter func69,ntmps69
   go_wp2_with fail
   refine u.out.mono ?_
   rintro e w1 ⟨rfl,j,rfl⟩
   go_wp2_with fail
   refine (f.out j).mono ?_
   rintro e V ⟨l,⟨v',q,rfl⟩|⟨q,-⟩⟩
   case inr=>cases q
   cases q
   have F:=Lib.hid l
   have i:Hid (∀W,Below V.drew.heap.size V.drew W->(W.cell? ⟨R,0,none⟩=some (.pointer (some ⟨bk,0,none⟩))/\W.cell? ⟨X,0,none⟩=some (.int .i64 (k:Int))/\W.cell? ⟨bk,k*4,none⟩=some (.string (wrd k))/\W.cell? ⟨bk,k*4+1,none⟩=some (.string (bs (prt k)))/\W.cell? ⟨bk,k*4+2,none⟩=some (.int .i64 (lst k))/\W.cell? ⟨bk,k*4+3,none⟩=some (.int .i64 (mst k)))):=fun W y=>by
    have A:=l.on (Near.of_below (show Below V.heap.size V W from (Below.refl V.heap.size V).drew.trans y)) (l.rdr.same (show Below V.heap.size V W from (Below.refl V.heap.size V).drew.trans y)) (Nat.le_refl _)
    obtain⟨b0,b1,b2,b3⟩:=A.rdr.book k r.out.2
    have C:=(qaC A.many.box).1.1
    rw[r.out.1]at C
    exact⟨A.rdr.cells.1.1,C,b0,b1,b2,b3⟩
   have t:=i.out V.drew (Below.refl _ _)
   clear l f u
   go_wp2_with fail
   refine wp_region_held_drew (S:=(fun w'=>w'.cell? ⟨R,0,none⟩=some (.pointer (some ⟨bk,0,none⟩))/\w'.cell? ⟨X,0,none⟩=some (.int .i64 (k:Int))/\w'.cell? ⟨bk,k*4,none⟩=some (.string (wrd k))/\w'.cell? ⟨bk,k*4+1,none⟩=some (.string (bs (prt k)))/\w'.cell? ⟨bk,k*4+2,none⟩=some (.int .i64 (lst k))/\w'.cell? ⟨bk,k*4+3,none⟩=some (.int .i64 (mst k)))) (by kernel_rfl) (by exact t) (fun hHeld=>?_)
   refine tk 0 ?_
   refine tk 1 ?_
   refine tk 2 ?_
   refine tk 3 ?_
   refine tk 4 ?_
   refine tk 5 ?_
   refine tk 6 ?_
   refine tk 7 ?_
   refine tk 8 ?_
   refine tk 9 ?_
   refine tk 10 ?_
   refine tk 11 ?_
   refine tk 12 ?_
   refine tk 13 ?_
   refine tk 14 ?_
   refine tk 15 ?_
   refine wpAnyH_ready (rs:=[16]) (by kernel_rfl) (by simp) ?_
   refine AllReadyH.cons rfl (fun K hK=>?_) AllReadyH.nil
   go_simp
   go_at_call 87
   refine (H.out _).mono ?_
   rintro e w3 ⟨rfl,g⟩
   have o:=i.out _ g
   refine hK.out _ _ (o) (fun hHeld=>?_)
   clear hK K
   refine tk 17 ?_
   refine wpAnyH_ready (rs:=[18]) (by kernel_rfl) (by simp) ?_
   refine AllReadyH.cons rfl (fun K hK=>?_) AllReadyH.nil
   go_simp
   have L:Below V.heap.size V w3:=(Below.refl V.heap.size V).drew.trans g
   have U:=Lib.hid (qcE (F.out.rdr.same L) 2)
   have HQ:Hid (qaW B R X Y it bk m wv ws w0 (stepR M rk ws 35 n a c) (.panicked (qbT 2 a)) w3):=.inr ⟨2,a,b.out,rfl,F.out.many.near.trans (Near.of_below L)⟩
   go_at_call 52
   refine U.out.mono ?_
   rintro e w5 ⟨rfl,rfl⟩
   exact⟨rfl,HQ.out⟩
theorem xhQ(s:ByteArray):okR (s.size+7) s=kindB s:=rfl
theorem qzS{S:Nat->Prop}{w:World}{n:Nat}{k:K n}{c0 c1 c2:Value}(h:KindIn S w n k c0 c1 c2):∃(s:Int)(a:Option Addr)(l c:Nat)(a':Option Addr)(l' c':Nat),c0=.int .i64 s/\c1=.slice a l c/\c2=.slice a' l' c':=h.shape
theorem xeW (M:Nat) {B R X Y bk m:Nat} {it:Obj} {wv:Value} {ws:List ByteArray} {w0 w:World} {n:Nd (T m)} {a c:Nat} {na:Option Addr} {nc:Nat} {ka:Option Addr} {kc:Nat} (rk:Bool->Nat->Nat->Rd3 (T m)) (d:Int) (h:PSt B R X Y it bk m wv ws w0 w n a c na nc ka kc) :
  Calls prog 69 #[.pointer (some ⟨R,0,none⟩),.pointer (some ⟨X,0,none⟩),.int .i32 75,.int .i64 d] w (qaW B R X Y it bk m wv ws w0 (stepR M rk ws 75 n a c)):=by
 have D:Hid (stepR M rk ws 75 n a c=match ws[a]? with|none=>.error (2,a)|some s=>if kindB s=true then .ok (⟨n.sort,n.num,s,n.names,n.kids⟩,a+1,c) else .error (2,a)):=by
  show _=_
  unfold stepR
  rw[if_neg (by decide),if_neg (by decide)]
  cases ws[a]? with
  | none=>rfl
  | some s=>
   dsimp only
   rw[if_neg (by decide),if_neg (by decide),if_pos rfl]
 have O:=h.many.lt
 have P:=h.rx
 have Q:=h.rdr.lt
 by_cases ha:a<ws.length
 case neg=>
  have z:=Lib.hid (qjB h.rdr ha)
  have E:Hid (∀k,qaW B R X Y it bk m wv ws w0 (stepR M rk ws 75 n a c) (.panicked (qbT 2 a)) (w.drewN k)):=fun k=>.inr ⟨2,a,by rw[D.out,List.getElem?_eq_none (by omega)],rfl,h.many.near.trans (qaJ (Near.refl R w) k)⟩
  clear h D ha
  go_enter func69,ntmps69
  go_wp2_with fail
  refine z.out.mono ?_
  rintro e K ⟨rfl,k,rfl⟩
  exact⟨rfl,E.out k⟩
 obtain⟨s,i⟩:∃s,ws[a]=s:=⟨_,rfl⟩
 have S:s.size<=3000:=by rw[<- i];exact h.rdr.short _ (List.getElem_mem ha)
 have b:Hid (stepR M rk ws 75 n a c=if kindB s=true then .ok (⟨n.sort,n.num,s,n.names,n.kids⟩,a+1,c) else .error (2,a)):=by
  show _=_
  rw[D.out,List.getElem?_eq_getElem ha,i]
 have z:Hid (Calls prog 66 #[.pointer (some ⟨R,0,none⟩)] w fun e w'=>e=.returned (.string s)/\∃n,w'=w.drewN n):=by
  have:=qgC h.rdr ha
  rw[i]at this
  exact this
 have g:Hid (∀j,Calls prog 88 #[.string s] (w.drewN j) fun e w'=>PSt B R X Y it bk m wv ws w0 w' n a c na nc ka kc/\∃y l o p a2 r t,e=.returned (.tuple #[.agg #[.int .i64 y,.slice l o p,.slice a2 r t],.bool (kindB s)])):=fun j=>by
  have H:=h.on (qaJ (Near.refl R w) j) (h.rdr.drewN j) (Nat.le_refl _)
  have I:=qqB s (s.size+7) (by omega) (by omega) (w.drewN j)
  rw[xhQ]at I
  refine I.mono ?_
  rintro e w' ⟨L,c0,c1,c2,L3,L4,rfl,F,-⟩
  obtain⟨y,l,o,p,a2,r,t,rfl,rfl,rfl⟩:=qzS F
  exact⟨H.on (Near.of_below L) (H.rdr.same L) (Nat.le_refl _),y,l,o,p,a2,r,t,rfl⟩
 have A:Hid (∃h:a<ws.length,ws[a]=s):=⟨ha,i⟩
 clear h D ha i
 cases hv:kindB s with
 | false=>
  rw[hv]at b g
  clear hv
  go_enter func69,ntmps69
  go_wp2_with fail
  refine z.out.mono ?_
  rintro e K ⟨rfl,j,rfl⟩
  go_wp2_with fail
  refine (g.out j).mono ?_
  rintro e V ⟨x,y,l,o,p,a2,r,t,rfl⟩
  have f:=(Below.refl V.heap.size V).alloc (Nat.le_refl _) (.cells #[.int .i64 y,.slice l o p,.slice a2 r t] 55)
  have U:=Lib.hid (qcE (x.rdr.same f) 2)
  have E:Hid (qaW B R X Y it bk m wv ws w0 (stepR M rk ws 75 n a c) (.panicked (qbT 2 a)) (V.alloc (.cells #[.int .i64 y,.slice l o p,.slice a2 r t] 55))):=.inr ⟨2,a,b.out,rfl,x.many.near.trans (Near.of_below f)⟩
  clear x g z b f
  go_wp2_with fail
  refine U.out.mono ?_
  rintro e w3 ⟨rfl,rfl⟩
  exact⟨rfl,E.out⟩
 | true=>
  rw[hv]at b g
  rw[if_pos rfl]at b
  clear hv
  go_enter func69,ntmps69
  go_wp2_with fail
  refine z.out.mono ?_
  rintro e K ⟨rfl,j,rfl⟩
  go_wp2_with fail
  refine (g.out j).mono ?_
  rintro e V ⟨x,y,l,o,p,a2,r,t,rfl⟩
  have f:=(Below.refl V.heap.size V).alloc (Nat.le_refl _) (.cells #[.int .i64 y,.slice l o p,.slice a2 r t] 55)
  have u:=x.on (Near.of_below f) (x.rdr.same f) (Nat.le_refl _)
  have C:Hid (Calls prog 68 #[.pointer (some ⟨R,0,none⟩)] (V.alloc (.cells #[.int .i64 y,.slice l o p,.slice a2 r t] 55)) fun e w'=>e=.returned (.string s)/\(∃q,w'.cell? ⟨X,2,none⟩=some q)/\w'.frozen? ⟨X,2,none⟩=false/\qaW B R X Y it bk m wv ws w0 (stepR M rk ws 75 n a c) (.returned (.tuple #[])) (w'.setCell ⟨X,2,none⟩ (.string s))):=by
   obtain⟨Z,G⟩:=A.out
   have J:=qfJ u.rdr Z
   rw[G]at J
   refine J.mono ?_
   rintro e w' ⟨rfl,hn,hr⟩
   have v:=u.on hn hr (by omega)
   exact⟨rfl,⟨_,(qaC v.many.box).1.2.2.1⟩,(qaC v.many.box).2 2,.inl ⟨_,_,_,_,_,_,_,b.out,rfl,v.setText s⟩⟩
  clear x g z b f u A
  go_wp2_with fail
  refine (qbK _ _ _).mono ?_
  rintro e w3 ⟨rfl,rfl⟩
  go_wp2_with fail
  refine C.out.mono ?_
  rintro e w4 ⟨rfl,⟨q,x2⟩,xf,N⟩
  have W:=Lib.hid N
  clear N C
  go_wp2_with fail
  exact bodyPost_end (results_none rfl _ _ _) rfl W.out
theorem PSt.leaf {B R X Y bk m:Nat} {it:Obj} {wv:Value} {ws:List ByteArray} {w0 w:World} {n:Nd (T m)} {a c:Nat} {na:Option Addr} {nc:Nat} {ka:Option Addr} {kc:Nat} (h:PSt B R X Y it bk m wv ws w0 w n a c na nc ka kc) (v:Int) (x:ByteArray) :
  PSt B R X Y it bk m wv ws w0 ((w.setCell ⟨X,1,none⟩ (.int .i64 v)).setCell ⟨X,2,none⟩ (.string x)) ⟨n.sort,v,x,n.names,n.kids⟩ a c na nc ka kc /\
  PSt B R X Y it bk m wv ws w0 ((w.setCell ⟨X,2,none⟩ (.string x)).setCell ⟨X,1,none⟩ (.int .i64 v)) ⟨n.sort,v,x,n.names,n.kids⟩ a c na nc ka kc:=
 ⟨(h.setNum v).setText x,(h.setText x).setNum v⟩
theorem xeX (M:Nat) (hM:3000<=M) {B R X Y bk m:Nat} {it:Obj} {wv:Value} {ws:List ByteArray} {w0 w:World} {n:Nd (T m)} {a c:Nat} {na:Option Addr} {nc:Nat} {ka:Option Addr} {kc:Nat} (rk:Bool->Nat->Nat->Rd3 (T m)) (d:Int) (h:PSt B R X Y it bk m wv ws w0 w n a c na nc ka kc) (ha:a<ws.length) (l:Int × Int × ByteArray) (hl:leafW M ws[a]=some l) :
  Calls prog 69 #[.pointer (some ⟨R,0,none⟩),.pointer (some ⟨X,0,none⟩),.int .i32 84,.int .i64 d] w (qaW B R X Y it bk m wv ws w0 (stepR M rk ws 84 n a c)):=by
 have i:Hid (stepR M rk ws 84 n a c=.ok (⟨n.sort,l.2.1,l.2.2,n.names,n.kids⟩,a+1,c)):=by
  show _=_
  unfold stepR
  rw[if_neg (by decide),if_neg (by decide),List.getElem?_eq_getElem ha]
  dsimp only
  rw[if_pos rfl,hl]
 have aB:=h.rdr.short _ (List.getElem_mem ha)
 have aC:=h.many.lt
 have aD:=h.rx
 have aE:=h.rdr.lt
 have z:Hid (Calls prog 68 #[.pointer (some ⟨R,0,none⟩)] w fun e w'=>e=.returned (.string ws[a])/\PSt B R X Y it bk m wv ws w0 w' n (a+1) c na nc ka kc):=by
  refine (qfJ h.rdr ha).mono ?_
  rintro e w' ⟨rfl,hn,N⟩
  exact⟨rfl,h.on hn N (by omega)⟩
 obtain⟨t,N,C,D,E⟩:∃t:T (M+1),readT (M+1) ws[a]=some t/\okU M ws[a]=true/\ansU M ws[a]=t/\l=(Nd.sort t,Nd.num t,Nd.text t):=by
  rcases qjH M ws[a] with ⟨t,h1,h2,h3,⟨-,k⟩|⟨-,k⟩⟩|⟨-,-,k⟩
  ·rw[hl]at k;exact⟨t,h1,h2,h3,Option.some.inj k⟩
  ·rw[hl]at k;cases k
  ·rw[hl]at k;cases k
 have o:Hid (∀V,PSt B R X Y it bk m wv ws w0 V n (a+1) c na nc ka kc->Calls prog 83 #[.string ws[a]] V fun e w'=>PSt B R X Y it bk m wv ws w0 w' n (a+1) c na nc ka kc/\∃y G f H a2 g I,e=.returned (.tuple #[.agg #[.int .i64 y,.int .i64 l.2.1,.string l.2.2,.slice G f H,.slice a2 g I],.bool true])):=fun V hV=>by
  have Z:=qjG ws[a] M B (by omega) (by omega) V hV.laidW (by have:=hV.br;have:=hV.rdr.lt;omega)
  rw[C,D]at Z
  refine Z.mono ?_
  rintro e w' ⟨hb,d0,d1,d2,d3,d4,L3,L4,rfl,r,-⟩
  obtain⟨O,P,Q,xa,xl,xc,ya,yl,yc,rfl,rfl,rfl,rfl,rfl⟩:=r.shape
  have e1:P=Nd.num t:=(Value.int.inj r.2.1).2
  have e2:Q=Nd.text t:=Value.string.inj r.2.2.1
  rw[E]
  exact⟨hV.on (Near.of_below hb) (hV.rdr.same hb) (Nat.le_refl _),O,xa,xl,xc,ya,yl,yc,by rw[e1,e2]⟩
 generalize ws[a]=s at *
 obtain⟨l0,f,g⟩:=l
 dsimp only at i o
 clear h ha hl N C D E t
 go_enter func69,ntmps69
 go_wp2_with fail
 refine z.out.mono ?_
 rintro e V1 ⟨rfl,F⟩
 have A:=Lib.hid (o.out V1 F)
 clear F o z
 go_wp2_with fail
 refine A.out.mono ?_
 rintro e x ⟨j,y,G,u,H,a2,v,I,rfl⟩
 have p:=(Below.refl x.heap.size x).alloc (Nat.le_refl _) (.cells #[.int .i64 y,.int .i64 f,.string g,.slice G u H,.slice a2 v I] 67)
 have b:=j.on (Near.of_below p) (j.rdr.same p) (Nat.le_refl _)
 obtain⟨W,S⟩:∃W,W=x.alloc (.cells #[.int .i64 y,.int .i64 f,.string g,.slice G u H,.slice a2 v I] 67):=⟨_,rfl⟩
 obtain⟨t0,t1,t2,t3,t4⟩:=qdM (heap_alloc_last x (.cells #[.int .i64 y,.int .i64 f,.string g,.slice G u H,.slice a2 v I] 67))
 have aF:=j.many.lt
 have aG:¬X=x.heap.size:=by omega
 have aA:¬x.heap.size=X:=by omega
 rw[<- S]at b t1 t2
 have q:=b.on (qaJ (Near.refl R W) 1) (b.rdr.drewN 1) (Nat.le_refl _)
 obtain⟨⟨O,P,Q,x3,x4⟩,U⟩:=qaC b.many.box
 have K:=U 1
 have L:=U 2
 have HF:Hid ((qaW B R X Y it bk m wv ws w0 (stepR M rk ws 84 n a c) (.returned (.tuple #[])) ((W.drew.setCell ⟨X,1,none⟩ (.int .i64 f)).setCell ⟨X,2,none⟩ (.string g))/\qaW B R X Y it bk m wv ws w0 (stepR M rk ws 84 n a c) (.returned (.tuple #[])) ((W.drew.setCell ⟨X,2,none⟩ (.string g)).setCell ⟨X,1,none⟩ (.int .i64 f))) /\
   qaW B R X Y it bk m wv ws w0 (stepR M rk ws 84 n a c) (.returned (.tuple #[])) ((W.setCell ⟨X,1,none⟩ (.int .i64 f)).setCell ⟨X,2,none⟩ (.string g)).drew/\qaW B R X Y it bk m wv ws w0 (stepR M rk ws 84 n a c) (.returned (.tuple #[])) ((W.setCell ⟨X,2,none⟩ (.string g)).setCell ⟨X,1,none⟩ (.int .i64 f)).drew):=
  ⟨⟨.inl ⟨_,_,_,_,_,_,_,i.out,rfl,(q.leaf f g).1⟩,.inl ⟨_,_,_,_,_,_,_,i.out,rfl,(q.leaf f g).2⟩⟩,
   .inl ⟨_,_,_,_,_,_,_,i.out,rfl,(b.leaf f g).1.on (qaJ (Near.refl R _) 1) ((b.leaf f g).1.rdr.drewN 1) (Nat.le_refl _)⟩,.inl ⟨_,_,_,_,_,_,_,i.out,rfl,(b.leaf f g).2.on (qaJ (Near.refl R _) 1) ((b.leaf f g).2.rdr.drewN 1) (Nat.le_refl _)⟩⟩
 clear j A p b q i t0 t3 t4 U
 go_wp2_with fail
 rw[<- S]
 clear S
 go_region
 all_goals
  have J:=HF
  clear t1 t2 O P Q x3 x4 K L
  go_wp2_with fail
  refine bodyPost_end (results_none rfl _ _ _) rfl ?_
  first
   | with_reducible exact J.out.1.1
   | with_reducible exact J.out.1.2
   | with_reducible exact J.out.2.1
   | with_reducible exact J.out.2.2
end Go.Proofs.YtelogmjfekhmpaaGreatDoor
