import Derived.Test.YtelogmjfekhmpaaGreatDoorTOut2
import Derived.Deep.RegionWith
namespace Go.Proofs.YtelogmjfekhmpaaGreatDoor
set_option maxRecDepth 100000
set_option maxHeartbeats 16000000
open Go.RowKit
theorem quY (n:Nat) (hn:qiC n) (S:Nat->Prop) (t:T (n+1)) (kv:Value) (w:World) (hs:Nd.sort t=6) (hr:Row1 S w (InnerT S w n) (Nd.kids t) kv) (hB:∀ b,S b->b<w.heap.size) (hc:qeR (n+1) t) :
  Calls Tryz.prog 104 #[.iface 175 kv] w (qdC (n+1) t w):=by
 obtain⟨-,-,-,-,-,c1,n0,n1,t0,-,-,aJ,aK⟩:=hc
 obtain⟨e1,e2,e3⟩:=c1 hs
 have aD:=Tryz.no_num_maybe
 have aE:=Tryz.no_text_maybe
 have aF:=Tryz.no_flag_maybe
 have aG:=Tryz.no_list_maybe
 have aH:=Tryz.no_form_maybe
 have aI:=Tryz.yes_maybe
 have aA:=(Below.refl w.heap.size w).alloc (Nat.le_refl _) (.cells #[.int .i64 0,.int .i64 0,.string ⟨#[]⟩,.slice none 0 0,.slice none 0 0] 67)
 have hz:=heap_alloc_new w (.cells #[.int .i64 0,.int .i64 0,.string ⟨#[]⟩,.slice none 0 0,.slice none 0 0] 67)
 have HC:Hid (Calls Tryz.prog 135 _ _ _):=qfY n hn S (Nd.kids t) kv (w.alloc (.cells #[.int .i64 0,.int .i64 0,.string ⟨#[]⟩,.slice none 0 0,.slice none 0 0] 67)) (hr.keep (qaB aA hB) (fun _ h=>h) (fun _ _ _ hx=>hx.keep (qaB aA hB) (fun _ h=>h))) (fun b hb=>by have:=hB b hb;simp;omega) aJ aK
 have HP:Hid (∀ W v' L,Below w.heap.size w W->RowIn (fun b=>w.heap.size+1<=b/\b<W.heap.size) W (TreeIn (fun b=>w.heap.size+1<=b/\b<W.heap.size) W n) (Nd.kids t) v'->SpR W n v' L->Own (fun b=>w.heap.size+1<=b/\b<W.heap.size) L->L.length=sumL (fun x=>3+spL n x) (Nd.kids t) ->
   qdC (n+1) t w (.returned (.agg #[.int .i64 6,.int .i64 0,.string ⟨#[]⟩,.slice none 0 0,v'])) (put5 W w.heap.size 0 (.int .i64 6) (.int .i64 0) (.string ⟨#[]⟩) (.slice none 0 0) v')):=fun W v' L hW h1 h2 h3 h4=>by
  have:=qqG (t:=t) (L3:=[]) (L4:=L) (c3:=.slice none 0 0) (c4:=v') hW (by rw[hs];rfl) (qmO _ n0 n1) t0 (by rw[e3];exact⟨none,0,rfl,by simp[maxLen],fun s h=>(by cases h),fun h=>absurd rfl h⟩) h1 (SpN.no _) h2 h3 (by simp only[spL,e3];simp[h4])
  rw[hs,e1,e2]at this;exact this
 obtain⟨ka,kc,rfl,-⟩:=hr
 clear c1 e1 e2 e3 t0
 go_enter Tryz.func104,Tryz.ntmps104
 go_wp2_with fail
 refine HC.out.mono ?_
 rintro e w1 ⟨aB,v',L,rfl,q1,q2,q3,q4⟩
 obtain⟨va,vc,rfl,-⟩:=id q1
 obtain⟨⟨r0,r1,r2,r3,r4⟩,f0,f1,f2,f3,f4⟩:=qjK ((aB.block w.heap.size (by simp)).trans hz)
 have aC:=qaA aA (by simp) aB
 simp only[World.size_alloc]at q1 q3
 have HQ:Hid _:=HP.out _ _ L aC q1 q2 q3 q4
 clear HC HP aA aB hz aC q1 q2 q3 q4
 go_wp2_with fail
 refine bodyPost_ret (v:=.agg #[.int .i64 6,.int .i64 0,.string ⟨#[]⟩,.slice none 0 0,.slice va (Nd.kids t).length vc]) (by simp[results,Tryz.results104,go_sem,r0,r1,r2,r3,r4]) rfl ?_
 exact HQ.out
theorem qyU (n:Nat) (hn:qiC n) (S:Nat->Prop) (t:T (n+1)) (nv kv:Value) (w:World) (hs:Nd.sort t=5) (hN:StrsIn S w (Nd.names t) nv) (hr:Row1 S w (InnerT S w n) (Nd.kids t) kv) (hB:∀ b,S b->b<w.heap.size) (hc:qeR (n+1) t) :
  Calls Tryz.prog 104 #[.iface 173 (.agg #[nv,kv])] w (qdC (n+1) t w):=by
 obtain⟨-,-,-,-,c1,-,n0,n1,t0,nl,ns,aU,aM⟩:=hc
 obtain⟨e1,e2⟩:=c1 hs
 have aO:=Tryz.no_num_form
 have aP:=Tryz.no_text_form
 have aQ:=Tryz.no_flag_form
 have aR:=Tryz.no_list_form
 have aS:=Tryz.yes_form
 obtain⟨na,nc,rfl,-⟩:=id hN
 obtain⟨ka,kc,rfl,-⟩:=id hr
 obtain⟨W1,aE⟩:∃ W1,W1=(w.alloc (.cells #[.int .i64 0,.int .i64 0,.string ⟨#[]⟩,.slice none 0 0,.slice none 0 0] 67)).alloc (.cells #[.slice na (Nd.names t).length nc,.slice ka (Nd.kids t).length kc] 173):=⟨_,rfl⟩
 have aT:W1.heap.size=w.heap.size+2:=by rw[aE];simp
 have aG:Below w.heap.size w W1:=by rw[aE];exact ((Below.refl _ _).alloc (Nat.le_refl _) _).alloc (by simp) _
 have aC:W1.heap[w.heap.size]?=some (.cells #[.int .i64 0,.int .i64 0,.string ⟨#[]⟩,.slice none 0 0,.slice none 0 0] 67 (0,0)):=by
  rw[aE,Below.heap_alloc _ _ _ (by simp)];exact heap_alloc_new _ _
 have aA:W1.heap[w.heap.size+1]?=some (.cells #[.slice na (Nd.names t).length nc,.slice ka (Nd.kids t).length kc] 173 (0,0)):=by
  have:=heap_alloc_new (w.alloc (.cells #[.int .i64 0,.int .i64 0,.string ⟨#[]⟩,.slice none 0 0,.slice none 0 0] 67)) (.cells #[.slice na (Nd.names t).length nc,.slice ka (Nd.kids t).length kc] 173)
  rw[aE];simpa using this
 have aJ:Hid (Calls Tryz.prog 136 #[.slice na (Nd.names t).length nc] W1.drew fun e w'=>∃ va vl vc,e=.returned (.slice va vl vc)/\Below W1.heap.size W1 w' /\ w'.cell? ⟨w.heap.size+1,1,none⟩=some (.slice ka (Nd.kids t).length kc) /\
   w'.ownsRow (w.heap.size+2) 9 1 (.slice va vl vc) (Nd.names t).length ((Nd.names t).map .string)):=by
  refine (qjC S (Nd.names t) _ W1.drew (hN.keep (qaB aG.drew hB) (fun _ h=>h)) (fun b hb=>by have:=hB b hb;simp;omega) nl ns).mono ?_
  rintro e w' ⟨v',rfl,aB,hb⟩
  have aK:Below W1.heap.size W1 w':=((Below.refl _ _).drew).trans hb
  obtain⟨a,c,rfl⟩:=qeW aB
  refine⟨_,_,_,rfl,aK,?_,?_⟩
  ·have:=(aK.block (w.heap.size+1) (by omega)).trans aA
   simp[World.cell?,this]
  ·have h:=aB
   simp only[World.size_drew,aT]at h
   exact h
 have aL:Hid (∀ (W:World) (va:Option Addr) (vl vc:Nat),Below W1.heap.size W1 W->W.ownsRow (w.heap.size+2) 9 1 (.slice va vl vc) (Nd.names t).length ((Nd.names t).map .string)->Calls Tryz.prog 135 #[.slice ka (Nd.kids t).length kc] W fun e w'=>∃ ya yl yc,e=.returned (.slice ya yl yc) /\
   w'.heap[w.heap.size]?=some (.cells #[.int .i64 0,.int .i64 0,.string ⟨#[]⟩,.slice none 0 0,.slice none 0 0] 67 (0,0)) /\
   qdC (n+1) t w (.returned (.agg #[.int .i64 5,.int .i64 0,.string ⟨#[]⟩,.slice va vl vc,.slice ya yl yc])) (put5 w' w.heap.size 0 (.int .i64 5) (.int .i64 0) (.string ⟨#[]⟩) (.slice va vl vc) (.slice ya yl yc))):=by
  intro W va vl vc hW aB
  have aH:Below w.heap.size w W:=aG.trans (hW.mono aG.size)
  have aW:=hW.size
  refine (qfY n hn S (Nd.kids t) _ W (hr.keep (qaB aH hB) (fun _ h=>h) (fun _ _ _ hx=>hx.keep (qaB aH hB) (fun _ h=>h))) (fun b hb=>by have:=hB b hb;omega) aU aM).mono ?_
  rintro e w' ⟨hb,v',L,rfl,q1,q2,q3,q4⟩
  obtain⟨ya,yc,rfl,-⟩:=id q1
  have aX:=hb.size
  have aD:w'.ownsRow (w.heap.size+2) 9 1 (.slice va vl vc) (Nd.names t).length ((Nd.names t).map .string):=qaL aB (fun g hg=>hb.block g (qaF aB g hg).2)
  have aI:=qaF aB
  obtain⟨L3,p1,p2,p3⟩:=qiB aD (by omega)
  refine⟨_,_,_,rfl,(hb.block _ (by omega)).trans ((hW.block _ (by omega)).trans aC),?_⟩
  have:=qqG (t:=t) (w:=w) (W:=w') (L3:=L3) (L4:=L) (c3:=.slice va vl vc) (c4:=.slice ya (Nd.kids t).length yc) (aH.trans (hb.mono (by omega))) (by rw[hs];rfl) (qmO _ n0 n1) t0
   (qcR aD (by omega) ns (fun g hg=>by have:=aI g hg;omega)) (q1.keepT (fun _ _=>rfl) (fun b h=>by omega)) p1 q2
   (p3.app q3 (fun b h=>by have:=aI b h;omega) (fun b h=>by omega) (fun b h1 h2=>by have:=aI b h1;omega)) (by rw[List.length_append,p2,q4];rfl)
  rw[hs,e1,e2]at this;exact this
 have x0:W1.cell? ⟨w.heap.size+1,0,none⟩=some (.slice na (Nd.names t).length nc):=by simp[World.cell?,aA]
 have x1:W1.cell? ⟨w.heap.size+1,1,none⟩=some (.slice ka (Nd.kids t).length kc):=by simp[World.cell?,aA]
 clear c1 e1 e2 t0 hN hr hn aM ns aC aA
 go_enter Tryz.func104,Tryz.ntmps104
 go_wp2_with fail
 rw[<- aE]
 clear aE
 go_region_with (first
  | (go_at_call 136;refine aJ.out.mono ?_;rintro e w2 ⟨va,vl,vc,rfl,aV,x1',aF⟩)
  | (go_at_call 135;refine (aL.out _ _ _ _ (by assumption) (by assumption)).mono ?_;rintro e w3 ⟨ya,yl,yc,rfl,aN,hP⟩;obtain⟨⟨r0,r1,r2,r3,r4⟩,f0,f1,f2,f3,f4⟩:=qjK aN))
 all_goals
  have HQ:Hid _:=hP
  clear hP aF aV aN aJ aL
  go_wp2_with fail
  refine bodyPost_ret (v:=.agg #[.int .i64 5,.int .i64 0,.string ⟨#[]⟩,.slice va vl vc,.slice ya yl yc]) (by simp[results,Tryz.results104,go_sem,r0,r1,r2,r3,r4]) rfl ?_
  exact HQ.out
theorem qyV (n:Nat) (hn:qiC n):qiC (n+1):=by
 intro S t iv w h hB hc
 rcases h with ⟨hs,rfl⟩|⟨hs,rfl⟩|⟨hs,rfl⟩|⟨hs,kv,rfl,hk⟩|⟨hs,nv,kv,rfl,aA,hk⟩|⟨hs,kv,rfl,hk⟩
 ·exact xdT n t w hs hc
 ·exact qyS n t w hs hc
 ·exact qyR n t w hs hc
 ·exact qyT n hn S t kv w hs hk hB hc
 ·exact qyU n hn S t nv kv w hs aA hk hB hc
 ·exact quY n hn S t kv w hs hk hB hc
theorem qqH:∀ n,qiC n:=by
 intro n
 induction n with
 | zero=>intro S t iv w h;exact h.elim
 | succ n ih=>exact qyV n ih
end Go.Proofs.YtelogmjfekhmpaaGreatDoor
