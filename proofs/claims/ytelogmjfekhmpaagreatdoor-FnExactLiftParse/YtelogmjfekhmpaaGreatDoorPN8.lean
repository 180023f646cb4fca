import Derived.Test.YtelogmjfekhmpaaGreatDoorPN5
import Derived.Test.YtelogmjfekhmpaaGreatDoorPN7
namespace Go.Proofs.YtelogmjfekhmpaaGreatDoor
set_option maxRecDepth 100000
set_option maxHeartbeats 16000000
open Go.RowKit
theorem qqX {α:Type} (ws:List ByteArray) (rk:Bool->Nat->Nat->Rd3 α) (po:α->Int) (good:α->Bool) (cnt:α->Nat) (HK:KidsGood ws rk po good cnt) :
  ∀ (f:Nat) (n:Nd α) (a c:Nat) (r:Nd α × Nat × Nat),qaT (rk false) ws f n a c=.ok r->c<=200->r.1.sort=n.sort/\r.2.1<=ws.length/\r.2.2<=200:=by
 intro f
 induction f with
 | zero=>intro n a c r h;simp[qaT]at h
 | succ f ih=>
  intro n a c r h hc
  simp only[qaT]at h
  cases hw:ws[a]? with
  | none=>rw[hw]at h;cases h
  | some s=>
   have ha:=qeJ hw
   rw[hw]at h
   dsimp only at h
   split at h
   ·cases h;exact⟨rfl,ha,hc⟩
   split at h
   ·cases hk:rk false (a+1) c with
    | error e=>rw[hk]at h;cases h
    | ok q=>
     rw[hk]at h
     dsimp only at h
     obtain⟨-,-,-,g4,-,-⟩:=HK.all _ _ _ _ hk
     have h2:=ih _ _ _ _ h g4
     exact h2
   ·cases h
theorem qvN {α:Type} (M:Nat) (ws:List ByteArray) (rk:Bool->Nat->Nat->Rd3 α) (po:α->Int) (good:α->Bool) (cnt:α->Nat) (HK:KidsGood ws rk po good cnt) (p:UInt8) (n:Nd α) (a c:Nat) (r:Nd α × Nat × Nat) (h:stepR M rk ws p n a c=.ok r) (hc:c<=200) :
  r.1.sort=n.sort/\r.2.1<=ws.length/\r.2.2<=200:=by
 unfold stepR at h
 split at h
 ·cases hk:rk (p==65) a c with
  | error e=>rw[hk]at h;cases h
  | ok q=>
   rw[hk]at h
   cases h
   obtain⟨-,-,-,g4,-,g6⟩:=HK.all _ _ _ _ hk
   exact⟨rfl,g6,g4⟩
 split at h
 ·exact qqX ws rk po good cnt HK _ _ _ _ _ h hc
 cases hw:ws[a]? with
 | none=>rw[hw]at h;cases h
 | some s=>
  have ha:=qeJ hw
  rw[hw]at h
  dsimp only at h
  split at h
  ·cases hl:leafW M s with
   | none=>rw[hl]at h;cases h
   | some l=>rw[hl]at h;cases h;exact⟨rfl,ha,hc⟩
  split at h
  ·cases hl:numOf s.data.toList with
   | none=>rw[hl]at h;cases h
   | some v=>
    rw[hl]at h
    dsimp only at h
    split at h
    ·cases h;exact⟨rfl,ha,hc⟩
    ·cases h
  split at h
  ·split at h
   ·cases h;exact⟨rfl,ha,hc⟩
   ·cases h
  split at h
  ·cases h;exact⟨rfl,ha,hc⟩
  ·cases h
theorem xeX (M:Nat) (ws:List ByteArray) (m:Nat) (d:Int):KidsGood ws (fun b=>qaI M ws m b (d+1)) (poT m) (fun t=>goodN m t (d+1)) (cntT m):=⟨fun b a c r h=>qbU M ws m b (d+1) a c r h⟩
theorem qvO {M B R X Y bk m:Nat} {it:Obj} {wv:Value} {ws:List ByteArray} {w0 w:World} {n:Nd (T m)} {a c:Nat} {na:Option Addr} {nc:Nat} {ka:Option Addr} {kc:Nat} (hI:qhC M m) (d:Int) (hd:1<=d) (hdm:d+1+(m:Int)=26) (hc:c<=200) (ha:a<=ws.length)
  (h:PSt B R X Y it bk m wv ws w0 w n a c na nc ka kc) :
  Calls Tryz.prog 69 #[.pointer (some ⟨R,0,none⟩),.pointer (some ⟨X,0,none⟩),.int .i32 70,.int .i64 d] w (qaY B R X Y it bk m wv ws w0 (stepR M (fun b=>qaI M ws m b (d+1)) ws 70 n a c)):=by
 have hS:stepR M (fun b=>qaI M ws m b (d+1)) ws 70 n a c=qaT (qaI M ws m false (d+1)) ws (ws.length+1) n a c:=by
  unfold stepR
  rw[if_neg (by decide),if_pos rfl]
 have HC:=Lib.hid (qvM hI d hd hdm hc h ha)
 rw[hS]
 generalize qaT (qaI M ws m false (d+1)) ws (ws.length+1) n a c=res at *
 clear h hI hS
 go_enter Tryz.func69,Tryz.ntmps69
 go_wp2_with fail
 refine HC.out.mono ?_
 rintro e w1 (⟨n',a',c',na,nc,ka,kc,h1,rfl,h2⟩|⟨code,at',h1,rfl,h2⟩)
 ·have HF:Hid (qaY B R X Y it bk m wv ws w0 res (.returned (.tuple #[])) w1):=.inl ⟨n',a',c',na,nc,ka,kc,h1,rfl,h2⟩
  clear h1 h2 HC
  go_wp2_with fail
  exact bodyPost_end (results_none rfl _ _ _) rfl HF.out
 ·exact⟨rfl,.inr ⟨code,at',h1,rfl,h2⟩⟩
theorem xhQ {M B R X Y bk m:Nat} {it:Obj} {wv:Value} {ws:List ByteArray} {w0 w:World} {n:Nd (T m)} {a c:Nat} {na:Option Addr} {nc:Nat} {ka:Option Addr} {kc:Nat} (hM:3000<=M) (hI:qhC M m) (k:Nat) (hk:n.sort=(k:Int)) (hk44:k<44) (p:UInt8) (hp:letP p) (d:Int) (hd:1<=d) (hdm:d+1+(m:Int)=26) (hc:c<=200) (ha:a<=ws.length)
  (hleaf:p=84->∃ (h:a<ws.length) (l:Int × Int × ByteArray),leafW M ws[a]=some l) (h:PSt B R X Y it bk m wv ws w0 w n a c na nc ka kc) :
  Calls Tryz.prog 69 #[.pointer (some ⟨R,0,none⟩),.pointer (some ⟨X,0,none⟩),.int .i32 (p.toNat:Int),.int .i64 d] w (qaY B R X Y it bk m wv ws w0 (stepR M (fun b=>qaI M ws m b (d+1)) ws p n a c)):=by
 rcases hp with rfl|rfl|rfl|rfl|rfl|rfl|rfl|rfl
 ·obtain⟨aA,l,hl⟩:=hleaf rfl
  exact xeW M hM _ d h aA l hl
 ·exact xeV M _ d h
 ·exact qvO hI d hd hdm hc ha h
 ·exact xhO M _ k hk hk44 d h
 ·exact qsT M _ 78 78 rfl (.inl rfl) d h
 ·exact qsT M _ 88 88 rfl (.inr rfl) d h
 ·exact qxH hI 86 false rfl d hd hdm hc h
 ·exact qxH hI 65 true rfl d hd hdm hc h
theorem PSt.turn {B R X Y bk m:Nat} {it it':Obj} {wv:Value} {ws:List ByteArray} {w0 w W:World} {n:Nd (T m)} {a c:Nat} {na:Option Addr} {nc:Nat} {ka:Option Addr} {kc:Nat} (h:PSt B R X Y it bk m wv ws w0 w n a c na nc ka kc) (hz:W.heap.size=w.heap.size) (ho:W.os=w.os/\W.tape=w.tape/\W.output=w.output)
  (hb:∀ b,b≠Y->W.heap[b]?=w.heap[b]?) (hi:W.heap[Y]?=some it'):PSt B R X Y it' bk m wv ws w0 W n a c na nc ka kc:=by
 obtain⟨a0,c0,hr⟩:=h.rdr0
 have aD:=h.xy
 have aE:=h.wx
 have aF:=h.rx
 have hn:Near R w0 W:=⟨ho.1.trans h.many.near.os,ho.2.1.trans h.many.near.tape,ho.2.2.trans h.many.near.output,by rw[hz];exact h.many.near.size,fun b h1 h2=>(hb b (by omega)).trans (h.many.near.block b h1 h2)⟩
 obtain⟨xs,hx,hk⟩:=h.many.kids
 obtain⟨ys,Ps,hy,hp,aC,hl⟩:=h.many.own
 have aB:=qaF h.many.names
 have aA:=qaF hx
 refine⟨⟨⟨hn,(hb X (by omega)).trans h.many.box,qaL h.many.names (fun g hg=>hb g (by have:=aB g hg;omega)),h.many.short,⟨xs,qaL hx (fun g hg=>hb g (by have:=aA g hg;omega)),fun j hj=>?_⟩,h.many.apart,⟨h.many.xy.1,by rw[hz];exact h.many.xy.2⟩⟩,ys,Ps,qaL hy (fun g hg=>hb g (by have:=aA g hg;omega)),hp,aC.keep (fun b hb2=>hb b (by have:=hb2.1;omega)) (fun b hb2=>⟨hb2.1,by rw[hz];exact hb2.2.1,hb2.2.2⟩),hl⟩,
  hr.keep hn ((hb R (by omega)).trans h.rdr.box),⟨a0,c0,hr⟩,h.laid,h.br,h.rx,h.wx,h.few,h.xy,hi⟩
 obtain⟨c0,c1,c2,c3,c4,hc,ht⟩:=hk j hj
 exact⟨c0,c1,c2,c3,c4,hc,ht.keep (fun b hb2=>hb b (by have:=hb2.1;omega)) (fun b hb2=>⟨hb2.1,by rw[hz];exact hb2.2.1,hb2.2.2⟩)⟩
theorem qzT {s:ByteArray} (h:textB s=true):s.size<=60:=by
 unfold textB at h;simp only[Bool.and_eq_true,decide_eq_true_eq]at h;exact h.1
theorem xjV {m:Nat} {t:T (m+1)} {d:Int} (h:goodN (m+1) t d=true):(Lit.int .i64 (Nd.sort t)).wf=true/\(Lit.int .i64 (Nd.num t)).wf=true/\(Nd.text t).size<=10000:=by
 simp only[goodN,Bool.and_eq_true]at h
 have hj:justB (poT m) (show Nd (T m) from t)=true:=h.1.2
 obtain⟨n,hn⟩:∃ n:Nd (T m),n=t:=⟨t,rfl⟩
 have aA:justB (poT m) n=true:=by rw[hn];exact hj
 show (Lit.int .i64 (Nd.sort (show Nd (T m) from t))).wf=true/\(Lit.int .i64 (Nd.num (show Nd (T m) from t))).wf=true/\(Nd.text (show Nd (T m) from t)).size<=10000
 rw[show (show Nd (T m) from t)=n from hn.symm]
 clear hj h
 have hr:1<=n.sort/\n.sort<=43:=by
  have h:=aA
  unfold justB at h;simp only[Bool.and_eq_true,decide_eq_true_eq]at h;exact h.1
 have w1:∀ x:Int,-999999999<=x->x<=999999999->(Lit.int .i64 x).wf=true:=fun x h0 h1=>qmO x h0 h1
 refine⟨w1 _ (by omega) (by omega),?_⟩
 by_cases h24:n.sort=24
 ·rw[qdW (poT m) n h24]at aA
  simp only[Bool.and_eq_true,beq_iff_eq]at aA
  rw[aA.2.1,qaG _ aA.2.2]
  exact⟨rfl,by omega⟩
 ·rw[qfC (poT m) n hr.1 hr.2 h24]at aA
  simp only[Bool.and_eq_true]at aA
  have hp:=aA.1
  have aB:n.sort.toNat<44:=by omega
  have aC:lst n.sort.toNat ≥ 0/\mst n.sort.toNat<=99:=by
   have:∀ k,k<44->0<=lst k/\mst k<=99:=by decide
   exact this _ aB
  rcases (qeD _ aB).resolve_left (by omega) with q|q|q|q|q|q|q|q
  ·rw[q]at hp;simp only[preC,Bool.and_eq_true,beq_iff_eq]at hp
   rw[hp.1.1,qaG _ hp.1.2];exact⟨rfl,by omega⟩
  ·rw[q]at hp;simp only[preC,Bool.and_eq_true]at hp
   have ha:=hp.1
   have h3:n.sort=1∨n.sort=2∨n.sort=3:=by
    have:∀ k,k<44->3<k->preL k≠[84]:=by decide
    rcases Nat.lt_or_ge 3 n.sort.toNat with h3|h3
    ·exact absurd q (this _ aB h3)
    ·omega
   rcases h3 with e|e|e
   ·rw[e]at ha;simp[qaQ]at ha
    exact⟨w1 _ ha.1.1 ha.1.2,by rw[qaG _ (by simp[ha.2])];omega⟩
   ·rw[e]at ha;simp[qaQ]at ha
    exact⟨by rw[ha.1];rfl,by have:=qzT ha.2;omega⟩
   ·rw[e]at ha;simp[qaQ]at ha
    exact⟨w1 _ (by omega) (by omega),by rw[qaG _ (by simp[ha.2])];omega⟩
  ·rw[q]at hp;simp only[preC,Bool.and_eq_true,beq_iff_eq]at hp
   refine⟨by rw[hp.1.1];rfl,?_⟩
   have:=hp.1.2
   unfold kindB at this
   obtain⟨z,hz⟩:=Option.isSome_iff_exists.1 this
   have:=(qhG hz).1
   omega
  ·rw[q]at hp;simp only[preC,Bool.and_eq_true,decide_eq_true_eq]at hp
   exact⟨w1 _ (by omega) (by omega),by rw[qaG _ hp.1.2];omega⟩
  ·rw[q]at hp;simp only[preC,Bool.and_eq_true,beq_iff_eq]at hp
   rw[hp.1.1,qaG _ hp.1.2];exact⟨rfl,by omega⟩
  ·rw[q]at hp;simp only[preC,Bool.and_eq_true,beq_iff_eq]at hp
   rw[hp.1.1,qaG _ hp.1.2];exact⟨rfl,by omega⟩
  ·rw[q]at hp;simp only[preC,Bool.and_eq_true,beq_iff_eq]at hp
   rw[hp.1.1,qaG _ hp.1.2];exact⟨rfl,by omega⟩
  ·rw[q]at hp;simp only[preC,Bool.and_eq_true,decide_eq_true_eq]at hp
   exact⟨w1 _ (by omega) (by omega),by rw[qaG _ hp.1.2];omega⟩
end Go.Proofs.YtelogmjfekhmpaaGreatDoor
