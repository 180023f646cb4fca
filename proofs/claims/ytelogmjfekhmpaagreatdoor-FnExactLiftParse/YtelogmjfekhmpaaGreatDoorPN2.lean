import Derived.Test.YtelogmjfekhmpaaGreatDoorPN1
import Derived.Test.YtelogmjfekhmpaaGreatDoorMN2
import Derived.Test.YtelogmjfekhmpaaGreatDoorTRdL
import Derived.Deep.RegionHeld3
namespace Go.Proofs.YtelogmjfekhmpaaGreatDoor
set_option maxRecDepth 100000
set_option maxHeartbeats 16000000
open Go.RowKit
theorem Tryz.info_strN:(Tryz.prog.info? 9).map (fun i=>(i.zero,i.size,i.bytes))=some (some (.string ⟨#[]⟩),1,16):=by kernel_rfl
structure PSt (B R X Y:Nat) (it:Obj) (bk m:Nat) (wv:Value) (ws:List ByteArray) (w0 w:World) (n:Nd (T m)) (a c:Nat) (na:Option Addr) (nc:Nat) (ka:Option Addr) (kc:Nat):Prop where
 many:ManyNP R X Y m w0 w n.sort n.num n.text n.names n.kids (.slice na n.names.length nc) (.slice ka n.kids.length kc)
 rdr:Rdr w R bk wv ws a c
 rdr0:∃ a0 c0,Rdr w0 R bk wv ws a0 c0
 laid:LaidU B w0
 br:B<=R
 rx:R<X
 wx:w0.heap.size<=X
 few:n.names.length+n.kids.length<=a
 xy:X<Y
 iter:w.heap[Y]?=some it
def qaY (B R X Y:Nat) (it:Obj) (bk m:Nat) (wv:Value) (ws:List ByteArray) (w0:World) (r:Rd3 (Nd (T m))) (e:Ending) (w':World):Prop:=
 (∃ n' a' c' na nc ka kc,r=.ok (n',a',c')/\e=.returned (.tuple #[])/\PSt B R X Y it bk m wv ws w0 w' n' a' c' na nc ka kc) ∨
  (∃ code at',r=.error (code,at')/\e=.panicked (qbV code at')/\Near R w0 w')
theorem qoT {R X Y k z:Nat} {e:TypeId} {v:Value} {xs:List Value} {W w2 w3:World} {o:Obj} {c:Obj} (h:W.ownsRow (Y+1) e z v k xs) (hRX:R<X) (hXY:X<=Y) (hRl:R<w2.heap.size) (hg:(w2.alloc o).grownBy w3 v.ownBlock) (u:Value) (q:Nat) (hc:w2.heap[R]?=some c):(w3.setCell ⟨X,q,none⟩ u).heap[R]?=some c:=by
 rw[Below.heap_setCell _ _ _ _ (by show R≠X;omega),hg.block R (by simp;omega) (fun e=>by have:=qaF h R e.symm;omega),Below.heap_alloc _ _ _ hRl]
 exact hc
theorem qkG {R X Y k z:Nat} {e:TypeId} {v:Value} {xs:List Value} {W w2 w3:World} {o:Obj} (h:W.ownsRow (Y+1) e z v k xs) (hX:X<W.heap.size) (hRX:R<X) (hXY:X<=Y) (hn:Near R W w2) (hg:(w2.alloc o).grownBy w3 v.ownBlock):w3.heap[X]?=W.heap[X]?:=by
 have:=hn.size
 rw[hg.block X (by simp;omega) (fun e=>by have:=qaF h X e.symm;omega),Below.heap_alloc _ _ _ (by omega),hn.block X hX (by omega)]
theorem qoU {R X Y k z:Nat} {e:TypeId} {v:Value} {xs:List Value} {W w2 w3:World} {o it:Obj} (h:W.ownsRow (Y+1) e z v k xs) (hY:Y<W.heap.size) (hRX:R<X) (hXY:X<Y) (hn:Near R W w2) (hg:(w2.alloc o).grownBy w3 v.ownBlock) (u:Value) (q:Nat) (hi:W.heap[Y]?=some it):(w3.setCell ⟨X,q,none⟩ u).heap[Y]?=some it:=by
 rw[Below.heap_setCell _ _ _ _ (by show Y≠X;omega),qkG h hY (show R<Y by omega) (Nat.le_refl Y) hn hg]
 exact hi
theorem qaC {w:World} {N:Nat} {so nm tx nv kv:Value} (h:w.heap[N]?=some (.cells #[so,nm,tx,nv,kv] 25 (0,0))) :
  (w.cell? ⟨N,0,none⟩=some so/\w.cell? ⟨N,1,none⟩=some nm/\w.cell? ⟨N,2,none⟩=some tx/\w.cell? ⟨N,3,none⟩=some nv/\w.cell? ⟨N,4,none⟩=some kv)/\∀ o,w.frozen? ⟨N,o,none⟩=false:=by
 refine⟨⟨?_,?_,?_,?_,?_⟩,fun o=>?_⟩ <;> simp[World.cell?,World.frozen?,h]
theorem PSt.names {B R X Y bk m:Nat} {it:Obj} {wv:Value} {ws:List ByteArray} {w0 w:World} {n:Nd (T m)} {a c:Nat} {na:Option Addr} {nc:Nat} {ka:Option Addr} {kc:Nat} (h:PSt B R X Y it bk m wv ws w0 w n a c na nc ka kc) (ha:a<=3000) :
  StrsIn (fun b=>b<w.heap.size) w n.names (.slice na n.names.length nc):=by
 have h1:=h.few
 exact qcR h.many.names (by omega) h.many.short (fun g hg=>(qaF h.many.names g hg).2)
theorem PSt.laidW {B R X Y bk m:Nat} {it:Obj} {wv:Value} {ws:List ByteArray} {w0 w:World} {n:Nd (T m)} {a c:Nat} {na:Option Addr} {nc:Nat} {ka:Option Addr} {kc:Nat} (h:PSt B R X Y it bk m wv ws w0 w n a c na nc ka kc):LaidU B w:=by
 obtain⟨a0,c0,hr⟩:=h.rdr0
 exact h.laid.near h.many.near h.br hr.lt
theorem PSt.on {B R X Y bk m:Nat} {it:Obj} {wv:Value} {ws:List ByteArray} {w0 w W:World} {n:Nd (T m)} {a c a' c':Nat} {na:Option Addr} {nc:Nat} {ka:Option Addr} {kc:Nat} (h:PSt B R X Y it bk m wv ws w0 w n a c na nc ka kc) (hn:Near R w W) (hr:Rdr W R bk wv ws a' c') (ha:a<=a'):PSt B R X Y it bk m wv ws w0 W n a' c' na nc ka kc:=
 ⟨h.many.keep h.rx hn,hr,h.rdr0,h.laid,h.br,h.rx,h.wx,by have:=h.few;omega,h.xy,(hn.block Y h.many.xy.2 (by have:=h.rx;have:=h.xy;omega)).trans h.iter⟩
theorem PSt.more {B R X Y bk m nl:Nat} {it:Obj} {wv:Value} {ws:List ByteArray} {w0 w W:World} {n:Nd (T m)} {a c g cap:Nat} {na:Option Addr} {nc:Nat} {ka:Option Addr} {kc:Nat} {s:ByteArray} (h:PSt B R X Y it bk m wv ws w0 w n a c na nc ka kc) (hnl:n.names.length=nl)
  (hF:ManyNP R X Y m w0 W n.sort n.num n.text (n.names++[s]) n.kids (.slice (some ⟨g,0,none⟩) (nl+1) cap) (.slice ka n.kids.length kc))
  (hb:W.heap[R]?=some (.cells #[.pointer (some ⟨bk,0,none⟩),wv,.int .i64 ((a+1:Nat):Int),.int .i64 (c:Int)] 84 (0,0))) (hit:W.heap[Y]?=some it) :
  PSt B R X Y it bk m wv ws w0 W ⟨n.sort,n.num,n.text,n.names++[s],n.kids⟩ (a+1) c (some ⟨g,0,none⟩) cap ka kc:=by
 obtain⟨a0,c0,hr⟩:=h.rdr0
 have e:(n.names++[s]).length=nl+1:=by rw[List.length_append,hnl];rfl
 refine⟨?_,hr.keep hF.near hb,⟨a0,c0,hr⟩,h.laid,h.br,h.rx,h.wx,?_,h.xy,hit⟩
 ·show ManyNP R X Y m w0 W n.sort n.num n.text (n.names++[s]) n.kids (.slice (some ⟨g,0,none⟩) (n.names++[s]).length cap) _
  rw[e];exact hF
 ·show (n.names++[s]).length+n.kids.length<=a+1
  have:=h.few
  rw[e];omega
theorem qsT (M:Nat) {B R X Y bk m:Nat} {it:Obj} {wv:Value} {ws:List ByteArray} {w0 w:World} {n:Nd (T m)} {a c:Nat} {na:Option Addr} {nc:Nat} {ka:Option Addr} {kc:Nat} (rk:Bool->Nat->Nat->Rd3 (T m)) (p:UInt8) (pi:Int) (hpi:(p.toNat:Int)=pi) (hp:pi=78∨pi=88) (d:Int)
  (h:PSt B R X Y it bk m wv ws w0 w n a c na nc ka kc) :
  Calls Tryz.prog 69 #[.pointer (some ⟨R,0,none⟩),.pointer (some ⟨X,0,none⟩),.int .i32 pi,.int .i64 d] w (qaY B R X Y it bk m wv ws w0 (stepR M rk ws p n a c)):=by
 have aS:p=78∨p=88:=by
  rcases hp with rfl|rfl
  ·exact .inl (UInt8.toNat_inj.1 (by have : p.toNat = 78 := by omega
                                     rw[this];rfl))
  ·exact .inr (UInt8.toNat_inj.1 (by have : p.toNat = 88 := by omega
                                     rw[this];rfl))
 have HS:Hid (stepR M rk ws p n a c=match ws[a]? with|none=>.error (2,a)|some s=>if qbA p s n.names=true then .ok (⟨n.sort,n.num,n.text,n.names++[s],n.kids⟩,a+1,c) else .error (2,a)):=by
  show _=_
  unfold stepR
  rcases aS with rfl|rfl <;> rfl
 clear aS
 have bF:=h.many.lt
 have aM:=h.rx
 have bG:=h.rdr.lt
 have HH:=Lib.hid h
 obtain⟨⟨r0,r1,r2,r3⟩,-⟩:=h.rdr.cells
 obtain⟨⟨x0,x1,x2,x3,x4⟩,xf⟩:=qaC h.many.box
 by_cases ha:a<ws.length
 case neg=>
  have HW:Hid (Calls Tryz.prog 66 _ w.drew _):=qjG (h.rdr.drewN 1) ha
  have HP:Hid (∀ k,qaY B R X Y it bk m wv ws w0 (stepR M rk ws p n a c) (.panicked (qbV 2 a)) (w.drew.drewN k)):=fun k=>.inr ⟨2,a,by rw[HS.out,List.getElem?_eq_none (by omega)],rfl,h.many.near.trans (qaK (qaK (Near.refl R w) 1) k)⟩
  clear h HS HH ha
  rcases hp with rfl|rfl
  all_goals
   go_enter Tryz.func69,Tryz.ntmps69
   go_wp2_with fail
   go_region_dies
   all_goals (go_at_call 66;refine HW.out.mono ?_;rintro e w' ⟨rfl,k,rfl⟩;exact⟨rfl,HP.out k⟩)
 obtain⟨s,aG⟩:∃ s,ws[a]=s:=⟨_,rfl⟩
 have bH:s.size<=3000:=by rw[<- aG];exact h.rdr.short _ (List.getElem_mem ha)
 have aZ:=h.rdr.few
 have aC:Hid (stepR M rk ws p n a c=if qbA p s n.names=true then .ok (⟨n.sort,n.num,n.text,n.names++[s],n.kids⟩,a+1,c) else .error (2,a)):=by
  show _=_
  rw[HS.out,List.getElem?_eq_getElem ha,aG]
 have HW:Hid (∀ k,Calls Tryz.prog 66 #[.pointer (some ⟨R,0,none⟩)] (w.drewN k) fun e w'=>e=.returned (.string s)/\∃ n,w'=(w.drewN k).drewN n):=fun k=>by
  have:=qgF (h.rdr.drewN k) ha
  rw[aG]at this
  exact this
 have aF:Hid (∀ k,Calls Tryz.prog 90 #[.pointer (some ⟨bk,0,none⟩),.int .i32 pi,.string s,.slice na n.names.length nc] (w.drewN k) fun e w'=>e=.returned (.bool (qbA p s n.names))/\w'=w.drewN k):=fun k=>by
  have:=qrZ (fun b=>b<w.heap.size) bk p s n.names _ (w.drewN k) (by unfold maxLen;omega) (h.rdr.drewN k).book (h.names (by omega))
  rw[hpi]at this
  exact this
 have aT:Hid (n.names.length=n.names.length):=rfl
 clear HS
 obtain⟨nl,aL⟩:∃ nl,n.names.length=nl:=⟨_,rfl⟩
 rw[aL]at aF x3
 cases hnb:qbA p s n.names with
 | false=>
  rw[hnb]at aF aC
  have HD:Hid (∀ k,Calls Tryz.prog 52 _ (w.drewN k) _):=fun k=>qcG (h.rdr.drewN k) 2
  have HP:Hid (∀ k,qaY B R X Y it bk m wv ws w0 (stepR M rk ws p n a c) (.panicked (qbV 2 a)) (w.drewN k)):=fun k=>.inr ⟨2,a,by rw[aC.out];rfl,rfl,h.many.near.trans (qaK (Near.refl R w) k)⟩
  clear h aC HH ha hnb aL aT aG
  rcases hp with rfl|rfl
  all_goals
   go_enter Tryz.func69,Tryz.ntmps69
   go_wp2_with fail
   refine wp_region_held_drew (S:=(fun w'=>w'.cell? ⟨R,0,none⟩=some (.pointer (some ⟨bk,0,none⟩))/\w'.cell? ⟨X,3,none⟩=some (.slice na nl nc))) (by kernel_rfl) (by exact⟨r0,x3⟩) (fun hHeld=>?_)
   refine wpAnyH_take (i:=0) (v:=?_) rfl (by kernel_rfl) (by kernel_rfl) (by kernel_rfl) (fun _ _ _ h=>h) (Or.inl ⟨by kernel_rfl,?_⟩) (by assumption) ?_
   rotate_left 1
   ·(intro wq hSw;(try dsimp only at hSw);go_simp;first|done|with_reducible rfl)
   refine wpAnyH_take (i:=1) (v:=?_) rfl (by kernel_rfl) (by kernel_rfl) (by kernel_rfl) (fun _ _ _ h=>h) (Or.inl ⟨by kernel_rfl,?_⟩) (by assumption) ?_
   rotate_left 1
   ·(intro wq hSw;(try dsimp only at hSw);go_simp;first|done|with_reducible rfl)
   refine wpAnyH_take (i:=2) (v:=?_) rfl (by kernel_rfl) (by kernel_rfl) (by kernel_rfl) (fun _ _ _ h=>h) (Or.inl ⟨by kernel_rfl,?_⟩) (by assumption) ?_
   rotate_left 1
   ·(intro wq hSw;(try dsimp only at hSw);go_simp;first|done|with_reducible rfl)
   refine wpAnyH_take (i:=3) (v:=?_) rfl (by kernel_rfl) (by kernel_rfl) (by kernel_rfl) (fun _ _ _ h=>h) (Or.inl ⟨by kernel_rfl,?_⟩) (by assumption) ?_
   rotate_left 1
   ·(intro wq hSw;(try dsimp only at hSw);go_simp;first|done|with_reducible rfl)
   refine wpAnyH_take (i:=4) (v:=?_) rfl (by kernel_rfl) (by kernel_rfl) (by kernel_rfl) (fun _ _ _ h=>h) (Or.inl ⟨by kernel_rfl,?_⟩) (by assumption) ?_
   rotate_left 1
   ·(intro wq hSw;(try dsimp only at hSw);go_simp;first|done|with_reducible rfl)
   refine wpAnyH_take (i:=5) (v:=?_) rfl (by kernel_rfl) (by kernel_rfl) (by kernel_rfl) (fun _ _ _ h=>h) (Or.inl ⟨by kernel_rfl,?_⟩) (by assumption) ?_
   rotate_left 1
   ·(intro wq hSw;(try dsimp only at hSw);go_simp;first|done|with_reducible rfl)
   refine wpAnyH_take (i:=6) (v:=?_) rfl (by kernel_rfl) (by kernel_rfl) (by kernel_rfl) (fun _ _ _ h=>h) (Or.inl ⟨by kernel_rfl,?_⟩) (by assumption) ?_
   rotate_left 1
   ·(intro wq hSw;(try dsimp only at hSw);go_simp;first|done|with_reducible rfl)
   refine wpAnyH_take (i:=8) (v:=?_) rfl (by kernel_rfl) (by kernel_rfl) (by kernel_rfl) (fun _ _ _ h=>h) (Or.inl ⟨by kernel_rfl,?_⟩) (by assumption) ?_
   rotate_left 1
   ·(intro wq hSw;(try dsimp only at hSw);go_simp;first|done|with_reducible rfl)
   refine wpAnyH_take (i:=9) (v:=?_) rfl (by kernel_rfl) (by kernel_rfl) (by kernel_rfl) (fun _ _ _ h=>h) (Or.inl ⟨by kernel_rfl,?_⟩) (by assumption) ?_
   rotate_left 1
   ·(intro wq hSw;(try dsimp only at hSw);go_simp;first|done|with_reducible rfl)
   refine wpAnyH_take (i:=10) (v:=?_) rfl (by kernel_rfl) (by kernel_rfl) (by kernel_rfl) (fun _ _ _ h=>h) (Or.inl ⟨by kernel_rfl,?_⟩) (by assumption) ?_
   rotate_left 1
   ·(intro wq hSw;(try dsimp only at hSw);go_simp;first|done|with_reducible rfl)
   refine wpAnyH_take (i:=11) (v:=?_) rfl (by kernel_rfl) (by kernel_rfl) (by kernel_rfl) (fun _ _ _ h=>h) (Or.inl ⟨by kernel_rfl,?_⟩) (by assumption) ?_
   rotate_left 1
   ·(intro wq hSw;(try dsimp only at hSw);go_simp;first|done|with_reducible rfl)
   refine wpAnyH_ready (rs:=[7]) (by kernel_rfl) (by simp) ?_
   refine AllReadyH.cons rfl (fun K hK=>?_) AllReadyH.nil
   go_simp
   go_at_call 66
   refine (HW.out 1).mono ?_
   rintro e w1 ⟨rfl,k1,rfl⟩
   refine hK.out _ _ (hHeld) (fun hHeld=>?_)
   clear hK K
   refine wpAnyH_ready (rs:=[12]) (by kernel_rfl) (by simp) ?_
   refine AllReadyH.cons rfl (fun K hK=>?_) AllReadyH.nil
   go_simp
   go_at_call 90
   refine (aF.out (1+k1)).mono ?_
   rintro e w2 ⟨rfl,rfl⟩
   refine hK.out _ _ (hHeld) (fun hHeld=>?_)
   clear hK K
   refine wpAnyH_ready (rs:=[13]) (by kernel_rfl) (by simp) ?_
   refine AllReadyH.cons rfl (fun K hK=>?_) AllReadyH.nil
   go_simp
   go_at_call 52
   refine (HD.out (1+k1)).mono ?_
   rintro e w3 ⟨rfl,rfl⟩
   exact⟨rfl,HP.out (1+k1)⟩
 | true=>
  rw[hnb]at aF aC
  rw[if_pos rfl]at aC
  have bA:Hid (n.kids.length<=3000/\nl<=3000):=by have:=h.few;show _/\_;omega
  have bB:nl<=3000:=bA.out.2
  have aD:=hidF aL
  have bC:Hid (∃ h:a<ws.length,ws[a]=s):=⟨ha,aG⟩
  obtain⟨is0,aI,aW,aX,aY⟩:=info_parts Tryz.info_strN
  have aK:Hid (_/\_/\_/\_):=⟨aI,aW,aX,aY⟩
  clear h ha hnb aL aT aG aI aW aX aY
  rcases hp with rfl|rfl
  all_goals
   go_enter Tryz.func69,Tryz.ntmps69
   go_wp2_with fail
   go_quiet (first|(go_at_call 66;refine Calls.quiet_of (HW.out _))|(go_at_call 90;refine Calls.quiet_of_same (aF.out _))|(go_at_call 52;refine Calls.quiet_of_same (qbM _ _ _)))
   go_wp2_with fail
   obtain⟨V,hV⟩:∃ V,V=w.drewN nq:=⟨_,rfl⟩
   have HV:Hid (PSt B R X Y it bk m wv ws w0 V n a c na nc ka kc):=by rw[hV];exact HH.out.on (qaK (Near.refl R w) nq) (HH.out.rdr.drewN nq) (Nat.le_refl _)
   have bI:V.heap.size=w.heap.size:=by rw[hV];rfl
   have aU:X<V.heap.size:=by omega
   have aN:=HV.out.many.xy
   have HK:Hid (Calls Tryz.prog 68 #[.pointer (some ⟨R,0,none⟩)] V.drew fun e w'=>e=.returned (.string s)/\Near R V.drew w' /\ Rdr w' R bk wv ws (a+1) c):=by
    obtain⟨hq,bE⟩:=bC.out
    have:=qfL (HV.out.rdr.drewN 1) hq
    rw[bE]at this
    exact this
   have HO:Hid (V.ownsRow (Y+1) 9 1 (.slice na nl nc) nl (n.names.map .string)):=by
    have:=HV.out.many.names
    rw[aD.out]at this
    exact this
   have aO:Hid (V.heap[X]?=some (.cells #[.int .i64 n.sort,.int .i64 n.num,.string n.text,.slice na nl nc,.slice ka n.kids.length kc] 25 (0,0))):=by
    have:=HV.out.many.box
    rw[aD.out]at this
    exact this
   have x3V:V.cell? ⟨X,3,none⟩=some (.slice na nl nc):=(qaC aO.out).1.2.2.2.1
   rw[<- hV]
   clear hV HW aF HH r0 r1 r2 r3 x0 x1 x2 x3 x4 xf
   go_region_law (first
    | (refine step_append_lies _ (by rfl) (.tmp 109) (.tmp 112) 22 (by rfl) (Y+1) 9 is0 _ 1 16 Tryz.underlying22 aK.out.1 aK.out.2.1 aK.out.2.2.1 aK.out.2.2.2 rfl (by decide) (.slice na nl nc) nl (n.names.map .string) (by rfl) (aH _) ⟨v2.heap.size,0,none⟩ 1 1 [.string s] (by rfl) rfl (World.news_of_block (heap_alloc_new v2 _)) (by simp[Value.oneCell']) (by decide) (by unfold maxLen;omega) (by omega) (by simp;omega) (v2.heap.size+1) (by simp) ?_;intro g2 cap2 v3 aB aA aJ aQ;have aP:=(qkG (W:=V.drew) HO.out aU (by omega) aN.1 aE aA).trans aO.out;have x3'':v3.cell? ⟨X,3,none⟩=some (.slice na nl nc):=(by simp[World.cell?,aP]);have xg'':v3.frozen? ⟨X,3,none⟩=false:=(by simp[World.frozen?,aP]))
    | (go_simp;go_at_call 68;refine HK.out.mono ?_;rintro e v2 ⟨rfl,aE,aR⟩;have bD:V.heap.size<=v2.heap.size:=aE.size;have aH:=fun o=>qiA (R:=R) (X:=Y) (W:=V.drew) HO.out (by omega) aE o;have x3':v2.cell? ⟨X,3,none⟩=some (.slice na nl nc):=(World.cell?_of_block (aE.block X (by simpa using aU) (by omega))).trans x3V;have x3a:(v2.alloc (.cells #[.string s] 9)).cell? ⟨X,3,none⟩=some (.slice na nl nc):=(World.cell?_of_block (Below.heap_alloc _ _ _ (by show X<_;omega))).trans x3'))
   all_goals
    have aV:Near R V v2:=(qaK (Near.refl R V) 1).trans aE
    have hF:=ManyNP.name (W:=v2) (Wa:=v2.alloc (.cells #[.string s] 9)) (one:=.cells #[.string s] 9) (x:=s) (g:=g2) (cap:=cap2) (HV.out.many.keep aM aV) HV.out.wx rfl ⟨rfl,rfl,rfl⟩ (by omega) (by rw[aD.out];exact aB) (by rw[aD.out];exact aA) (by rw[aD.out];exact aJ)
    rw[aD.out]at hF
    have HF:Hid (qaY B R X Y it bk m wv ws w0 (stepR M rk ws p n a c) (.returned (.tuple #[])) (v3.setCell ⟨X,3,none⟩ (.slice (some ⟨g2,0,none⟩) (nl+1) cap2))):=
     .inl ⟨_,_,_,_,_,_,_,aC.out,rfl,HV.out.more aD.out hF (qoT (W:=V.drew) HO.out aM aN.1 aR.lt aA _ 3 aR.box) (qoU (W:=V.drew) HO.out aN.2 aM HV.out.xy aE aA _ 3 HV.out.iter)⟩
    clear hF aB aA aJ aQ aR aE aH x3' x3a x3'' xg'' aP aV x3V HV HK HO aO aC
    go_wp2_with fail
    exact bodyPost_end (results_none rfl _ _ _) rfl HF.out
end Go.Proofs.YtelogmjfekhmpaaGreatDoor
