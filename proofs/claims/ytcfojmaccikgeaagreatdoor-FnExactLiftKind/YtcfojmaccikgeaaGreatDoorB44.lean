import Derived.Test.YtcfojmaccikgeaaGreatDoorB31
import Derived.Test.YtcfojmaccikgeaaGreatDoorB20
import Derived.Test.YtcfojmaccikgeaaGreatDoorB28
import Derived.Deep.RegionHeld
import Derived.Test.YtcfojmaccikgeaaGreatDoorB43
import Derived.Laws.Tables
import Derived.Test.YtcfojmaccikgeaaGreatDoorB2
import Derived.WalkKit
import Derived.LaidEql
import Derived.Stop.Asserts
import Derived.RowKitTokens
import Derived.Laws.Rows
import Derived.Lib.Hide
open Go.Value renaming slice→Zs,int→Zi,pointer→Zp,agg→Za,tuple→Zu,bool→Zb
open Go.IntKind renaming i64→Zk
open Go.Ending renaming returned→Zr
open Go.Obj renaming cells→Zc
open Option renaming none→Zn,some→Zo
open Go renaming World→Zw,Value→Zv
open Array renaming getElem?_eq_some_iff→ZF
namespace Go.Proofs.YtcfojmaccikgeaaGreatDoor
open Go.RowKit Go.Proofs.Tryz
variable {W V:Zw} {N:Nat} {b u v a:Zv} {t:TypeId}
def oR(W:Zw)(N:Nat):Prop:=W.heap[N]?=Zo (Zc #[Zi Zk 0,Zs Zn 0 0,Zs Zn 0 0] 31 (0,0))
def oS(W:Zw)(N:Nat):Prop:=W.heap[N]?=Zo (Zc #[Zi Zk 0,Zi Zk 0] 33 (0,0))
theorem oR.lt(h:oR W N):N<W.heap.size:=(ZF.1 h).1
theorem oS.lt(h:oS W N):N<W.heap.size:=(ZF.1 h).1
theorem Ia(V:Zw):oR (V.alloc (Zc #[Zi Zk 0,Zs Zn 0 0,Zs Zn 0 0] 31)) V.heap.size:=heap_alloc_new _ _
theorem xy(V:Zw):oS (V.alloc (Zc #[Zi Zk 0,Zi Zk 0] 33)) V.heap.size:=heap_alloc_new _ _
theorem oR.alloc(h:oR V N)(o:Obj):oR (V.alloc o) N:=(Below.heap_alloc _ _ _ h.lt).trans h
theorem oS.alloc(h:oS V N)(o:Obj):oS (V.alloc o) N:=(Below.heap_alloc _ _ _ h.lt).trans h
structure IZ(S:Nat->Prop)(X M:Nat)(o:Option Nat)(W:Zw)(r:K (M+1)×Int×Nat)(nk nf:Nat)(wx:Zw):Prop where
 below:Bw W wx
 gk:W.heap.size<=nk
 gf:W.heap.size<=nf
 val:∃d0 da dl dc ea el ec,wx.heap[nk]?=Zo (Zc #[Zi Zk d0,Zs da dl dc,Zs ea el ec] 31 (0,0))/\(r.2.1=0->a8 (Ov S X o wx) wx (M+1) r.1 (Zi Zk d0) (Zs da dl dc) (Zs ea el ec))
 flt:wx.heap[nf]?=Zo (Zc #[Zi Zk r.2.1,Zi Zk (r.2.2:Nat)] 33 (0,0))
theorem Iy {S Q:Nat->Prop} {X M:Nat} {o:Option Nat} {y a:Zw} {r:K (M+1) × Int × Nat} {nk nf:Nat} {h:Int} {j i:Option Addr} {d e f g:Nat} (t:W.heap.size<=nk) (l:W.heap.size<=nf) (u:r.2.1=0->a8 Q y (M+1) r.1 (Zi Zk h) (Zs j d e) (Zs i f g)) (k:∀ b,Q b->b≠nk/\b≠nf/\b<y.heap.size/\(S b∨(X<=b/\o≠Zo b)))
  (c:Bw W a) (v:y.heap.size<=a.heap.size) (s:∀b,b≠nk->b≠nf->b<y.heap.size->a.heap[b]?=y.heap[b]?) (q:a.heap[nk]?=Zo (Zc #[Zi Zk h,Zs j d e,Zs i f g] 31 (0,0))) (p:a.heap[nf]?=Zo (Zc #[Zi Zk r.2.1,Zi Zk (r.2.2:Nat)] 33 (0,0))):IZ S X M o W r nk nf a:=by
 refine⟨c,t,l,⟨h,j,d,e,i,f,g,q,fun n=>(u n).keep (fun b c=>?_) fun b c=>?_⟩,p⟩;·obtain⟨m,a2,a3,-⟩:=k b c;exact s b m a2 a3
 ·obtain⟨-,-,a3,a4⟩:=k b c;rcases a4 with a4|a4;·exact .inl a4
  ·exact .inr ⟨a4.1,om,a4.2⟩
theorem tH(V:Zw)(o:Obj):oR ((V.alloc o).alloc (Zc #[Zi Zk 0,Zs Zn 0 0,Zs Zn 0 0] 31)) (V.heap.size+1):=by have:=Ia (V.alloc o);simpa using this
theorem hY{b:Nat}(h:b≠N):((W.setCell ⟨N,0,Zn⟩ u).setCell ⟨N,1,Zn⟩ v).heap[b]?=W.heap[b]?:=by rw[Below.heap_setCell _ _ _ _ h,Below.heap_setCell _ _ _ _ h]
theorem Ie{x y:Zv}(h:W.heap[N]?=Zo (Zc #[x,y] t (0,0))):((W.setCell ⟨N,0,Zn⟩ u).setCell ⟨N,1,Zn⟩ v).heap[N]?=Zo (Zc #[u,v] t (0,0)):=by simp[World.setCell,Array.getElem?_modify,h]
theorem Ey{z c:Zv}(h:W.heap[N]?=Zo (Zc #[a,b,c] t (0,0))):(((W.setCell ⟨N,0,Zn⟩ u).setCell ⟨N,1,Zn⟩ v).setCell ⟨N,2,Zn⟩ z).heap[N]?=Zo (Zc #[u,v,z] t (0,0)):=by simp[World.setCell,Array.getElem?_modify,h]
theorem iE{B:Nat}(h:Below B V W)(a:B<=N):Below B V ((W.setCell ⟨N,0,Zn⟩ u).setCell ⟨N,1,Zn⟩ v):=(h.setCell a _).setCell a _
theorem ms(W:Zw)(N:Nat)(u v:Zv):((W.setCell ⟨N,0,Zn⟩ u).setCell ⟨N,1,Zn⟩ v).heap.size=W.heap.size:=by simp
theorem gC{w:Zw}(h:w.heap[N]?=Zo (Zc #[a,b] t (0,0))):(w.cell? ⟨N,0,Zn⟩=Zo a/\w.cell? ⟨N,1,Zn⟩=Zo b)/\w.frozen? ⟨N,0,Zn⟩=false/\w.frozen? ⟨N,1,Zn⟩=false:=by simp[World.cell?,World.frozen?,h]
variable {S Q:Nat->Prop} {X M:Nat} {o:Option Nat} {W y:Zw} {r:K (M+1)×Int×Nat} {nk nf:Nat} {d0:Int} {da ea:Option Addr} {dl dc el ec:Nat}
theorem Eu (k:Bw W y) (j:r.2.1=0->a8 Q y (M+1) r.1 (Zi Zk d0) (Zs da dl dc) (Zs ea el ec)) (d:oR y nk) (f:oS y nf) (h:W.heap.size<=nk) (g:W.heap.size<=nf) (l:∀ b,Q b->b≠nk/\b≠nf/\b<y.heap.size/\(S b∨(X<=b/\o≠Zo b))) :
  IZ S X M o W r nk nf ((((( y.setCell ⟨nk,0,Zn⟩ (Zi Zk d0)).setCell ⟨nk,1,Zn⟩ (Zs da dl dc)).setCell ⟨nk,2,Zn⟩ (Zs ea el ec)).setCell ⟨nf,0,Zn⟩ (Zi Zk r.2.1)).setCell ⟨nf,1,Zn⟩ (Zi Zk (r.2.2:Nat))):=by
 have a:nk≠nf:=fun e=>by subst e;have c:_=_:=d.symm.trans f;cases c
 refine Iy h g j l (iE (gN k h) g) (by rw[ms,jZ];exact Nat.le_refl _) (fun b c i _=>by rw[hY i,gi c]) ?_ ?_;·rw[hY a];exact Ey d
 ·exact Ie ((gi (fun e=>a e.symm)).trans f)
set_option maxRecDepth 100000
set_option maxHeartbeats 16000000
def pY(B:Nat)(W:Zw)(b:Nat):Prop:=B<=b/\b<W.heap.size
theorem jE (B:Nat) (l:List Int) (b cap:Nat) (w:Zw) (q:B<=b) (c:B<=w.heap.size) (n:l.length<=100) (r:b<w.heap.size) (f:∀ i (h:i<l.length),w.cell? ⟨b,0+i,Zn⟩=Zo (Zi Zk l[i])) :
  Calls prog 116 #[Zs (Zo ⟨b,0,Zn⟩) l.length cap] w fun e j=>∃p,e=Zr (.func (.func 152) #[] #[Zp (Zo ⟨p,0,Zn⟩)])/\Bw w j/\Hid (∀W,Bw j W->kH (pY B W) W (.sorts l) (.func (.func 152) #[] #[Zp (Zo ⟨p,0,Zn⟩)])):=by
 have o:∀(g:Fn)(first cap:Array Zv)(w:Zw),(Instr.makeFunc g first cap).run prog w=.ok (.func g first cap) w:=fun _ _ _ _=>rfl;have a:Bw w (w.alloc (Zc #[Zs (Zo ⟨b,0,Zn⟩) l.length cap] 223)):=gF _ _;have m:Hid (∀W,Below (w.alloc (Zc #[Zs (Zo ⟨b,0,Zn⟩) l.length cap] 223)).heap.size (w.alloc (Zc #[Zs (Zo ⟨b,0,Zn⟩) l.length cap] 223)) W->kH (pY B W) W (.sorts l) (.func (.func 152) #[] #[Zp (Zo ⟨w.heap.size,0,Zn⟩)])):=fun W d=>by have k:=d.size;simp at k;refine⟨w.heap.size,b,0,cap,rfl,⟨c,om⟩,⟨q,om⟩,kC d (by simp[go_sem]) zS,fun i h=>?_,n⟩;exact kC d ((a.cell (p:=⟨b,0+i,Zn⟩) r).trans (f i h)) zE
 clear f;go_in;go_wp2;go_ret;exact⟨_,rfl,a,m⟩
theorem Ef (B:Nat) (s:Nat) (w:Zw) (b:B<=w.heap.size) :
  Calls prog 121 #[Zi Zk (s:Int)] w fun e c=>∃p,e=Zr (.func (.func 160) #[] #[Zp (Zo ⟨p,0,Zn⟩)])/\Bw w c/\Hid (∀W,Bw c W->kH (pY B W) W (.like s) (.func (.func 160) #[] #[Zp (Zo ⟨p,0,Zn⟩)])):=by
 have i:∀(f:Fn)(first cap:Array Zv)(w:Zw),(Instr.makeFunc f first cap).run prog w=.ok (.func f first cap) w:=fun _ _ _ _=>rfl;have a:Bw w (w.alloc (Zc #[Zi Zk (s:Int)] 3)):=gF _ _;have h:Hid (∀W,Below (w.alloc (Zc #[Zi Zk (s:Int)] 3)).heap.size (w.alloc (Zc #[Zi Zk (s:Int)] 3)) W->kH (pY B W) W (.like s) (.func (.func 160) #[] #[Zp (Zo ⟨w.heap.size,0,Zn⟩)])):=fun W d=>by have g:=d.size;simp at g;exact⟨w.heap.size,rfl,⟨b,om⟩,kC d (by simp[go_sem]) zS⟩
 go_in;go_wp2;go_ret;exact⟨_,rfl,a,h⟩
theorem wA (B:Nat) (s:Nat) (w:Zw) (b:B<=w.heap.size) :
  Calls prog 123 #[Zi Zk (s:Int)] w fun e c=>∃p,e=Zr (.func (.func 162) #[] #[Zp (Zo ⟨p,0,Zn⟩)])/\Bw w c/\Hid (∀W,Bw c W->kB (pY B W) W (Zo (.kid s)) (.func (.func 162) #[] #[Zp (Zo ⟨p,0,Zn⟩)])):=by
 have i:∀(f:Fn)(first cap:Array Zv)(w:Zw),(Instr.makeFunc f first cap).run prog w=.ok (.func f first cap) w:=fun _ _ _ _=>rfl;have a:Bw w (w.alloc (Zc #[Zi Zk (s:Int)] 3)):=gF _ _;have h:Hid (∀W,Below (w.alloc (Zc #[Zi Zk (s:Int)] 3)).heap.size (w.alloc (Zc #[Zi Zk (s:Int)] 3)) W->kB (pY B W) W (Zo (.kid s)) (.func (.func 162) #[] #[Zp (Zo ⟨w.heap.size,0,Zn⟩)])):=fun W d=>by have g:=d.size;simp at g;exact⟨w.heap.size,rfl,⟨b,om⟩,kC d (by simp[go_sem]) zS⟩
 go_in;go_wp2;go_ret;exact⟨_,rfl,a,h⟩
theorem qB (B:Nat) (s:Int) (w:Zw) (b:B<=w.heap.size) (j:s≠5) :
  Calls prog 117 #[Zi Zk s] w fun e d=>∃p,e=Zr (.func (.func 154) #[] #[Zp (Zo ⟨p,0,Zn⟩)])/\Bw w d/\Hid (∀W,Bw d W->kB (pY B W) W (Zo (.leaf s)) (.func (.func 154) #[] #[Zp (Zo ⟨p,0,Zn⟩)])):=by
 have i:∀(c:Fn)(first cap:Array Zv)(w:Zw),(Instr.makeFunc c first cap).run prog w=.ok (.func c first cap) w:=fun _ _ _ _=>rfl;have a:Bw w (w.alloc (Zc #[Zi Zk s] 3)):=gF _ _;have h:Hid (∀W,Below (w.alloc (Zc #[Zi Zk s] 3)).heap.size (w.alloc (Zc #[Zi Zk s] 3)) W->kB (pY B W) W (Zo (.leaf s)) (.func (.func 154) #[] #[Zp (Zo ⟨w.heap.size,0,Zn⟩)])):=fun W f=>by have g:=f.size;simp at g;exact⟨w.heap.size,rfl,⟨b,om⟩,kC f (by simp[go_sem]) zS,j⟩
 go_in;go_wp2;go_ret;exact⟨_,rfl,a,h⟩
theorem CL (B:Nat) (s:Int) (w:Zw) (b:B<=w.heap.size) (j:s≠5) :
  Calls prog 119 #[Zi Zk s] w fun e d=>∃p,e=Zr (.func (.func 156) #[] #[Zp (Zo ⟨p,0,Zn⟩)])/\Bw w d/\Hid (∀W,Bw d W->kB (pY B W) W (Zo (.said s)) (.func (.func 156) #[] #[Zp (Zo ⟨p,0,Zn⟩)])):=by
 have i:∀(c:Fn)(first cap:Array Zv)(w:Zw),(Instr.makeFunc c first cap).run prog w=.ok (.func c first cap) w:=fun _ _ _ _=>rfl;have a:Bw w (w.alloc (Zc #[Zi Zk s] 3)):=gF _ _;have h:Hid (∀W,Below (w.alloc (Zc #[Zi Zk s] 3)).heap.size (w.alloc (Zc #[Zi Zk s] 3)) W->kB (pY B W) W (Zo (.said s)) (.func (.func 156) #[] #[Zp (Zo ⟨w.heap.size,0,Zn⟩)])):=fun W f=>by have g:=f.size;simp at g;exact⟨w.heap.size,rfl,⟨b,om⟩,kC f (by simp[go_sem]) zS,j⟩
 go_in;go_wp2;go_ret;exact⟨_,rfl,a,h⟩
theorem vG (B:Nat) (s:Int) (q:Nat) (w:Zw) (c:B<=w.heap.size) (n:s≠5) :
  Calls prog 120 #[Zi Zk s,Zi Zk (q:Int)] w fun e j=>∃p h,e=Zr (.func (.func 159) #[] #[Zp (Zo ⟨p,0,Zn⟩),Zp (Zo ⟨h,0,Zn⟩)])/\Bw w j/\Hid (∀W,Bw j W->kB (pY B W) W (Zo (.wrap s q)) (.func (.func 159) #[] #[Zp (Zo ⟨p,0,Zn⟩),Zp (Zo ⟨h,0,Zn⟩)])):=by
 have m:∀(i:Fn)(first cap:Array Zv)(w:Zw),(Instr.makeFunc i first cap).run prog w=.ok (.func i first cap) w:=fun _ _ _ _=>rfl;obtain⟨V,a⟩:=iw ((w.alloc (Zc #[Zi Zk s] 3)).alloc (Zc #[Zi Zk (q:Int)] 3));have b:Bw w V:=by rw[a];exact (gF _ _).alloc zS _
 have f:V.heap.size=w.heap.size+2:=by rw[a];simp
 have k:V.cell? ⟨w.heap.size,0,Zn⟩=Zo (Zi Zk s):=by rw[a];simp[go_sem]
 have g:V.cell? ⟨w.heap.size+1,0,Zn⟩=Zo (Zi Zk (q:Int)):=by rw[a];simp[go_sem]
 have l:Hid (∀W,Bw V W->kB (pY B W) W (Zo (.wrap s q)) (.func (.func 159) #[] #[Zp (Zo ⟨w.heap.size,0,Zn⟩),Zp (Zo ⟨w.heap.size+1,0,Zn⟩)])):=fun W d=>by have o:=d.size;exact⟨w.heap.size,w.heap.size+1,rfl,⟨c,om⟩,⟨om,om⟩,kC d k om,kC d g om,n⟩
 clear f k g;go_in;go_wp2;go_ret;rw[<- a];exact⟨_,_,rfl,b,l⟩
end Go.Proofs.YtcfojmaccikgeaaGreatDoor
namespace Go.Proofs.YtcfojmaccikgeaaGreatDoor
open Go.RowKit Go.Extern.Stop Go.Stop Go.Extern Go.Proofs.Tryz
def kG(w:Zw):Prop:=w.cell? ⟨0,0,Zn⟩=Zo (.iface 236 (Za #[Zp (Zo ⟨5,84,Zn⟩)]))
theorem xB (h:Zv) (w:Zw):(Go.method 466 236 (Za #[h]) "Kind").run prog w=.ok (282,h) w:=by kernel_rfl
theorem JG (z:Sem Zv) (f:TypeId->Addr->Nat->Nat->Sem Zv) (v:Zv) :
  ReflectliteValue.method z f #[v]=(do match <- ReflectliteValue.parts v with|Zn=>z|Zo (t,a,fl)=>f t a fl (fl % 32)):=rfl
theorem xz (h:Zv) (w:Zw):(Go.method 466 236 (Za #[h]) "Elem").run prog w=.ok (298,Za #[h]) w:=by kernel_rfl
theorem pr (h:Zv) (w:Zw):(Go.method 466 236 (Za #[h]) "Implements").run prog w=.ok (299,Za #[h]) w:=by kernel_rfl
theorem nT (h:Zv) (w:Zw):(Go.method 466 236 (Za #[h]) "AssignableTo").run prog w=.ok (296,Za #[h]) w:=by kernel_rfl
theorem JP (v x:Zv):ReflectliteValue.set #[v,x]=(do
  let (Zo (dst,a,fl),Zo (src,b,_)):=(<- ReflectliteValue.parts v,<- ReflectliteValue.parts x)
   | unsupported (.noEntry "extern/(internal/reflectlite.Value).Set.zeroValue")
  if fl / ReflectliteValue.flagAddr % 2==0 then unsupported (.noEntry "extern/(internal/reflectlite.Value).Set.unaddressable")
  let val <- loadVar src b
  if <- Rtype.directlyAssignable dst src then storeVar dst a val
  else if <- Rtype.implements dst src then
   if (<- Rtype.kind src)==20 then
    match val with
    | .nilIface=>unsupported (.noEntry "extern/reflectlite: a nil value of one interface type handed on as a value of another")
    | _=>storeVar dst a val
   else storeVar dst a (.iface src val)
  else panicString ("reflectlite.Set: value of type " ++ (<- Rtype.spelt src) ++ " is not assignable to type " ++ (<- Rtype.spelt dst))
  pure (Zu #[])):=rfl
end Go.Proofs.YtcfojmaccikgeaaGreatDoor
namespace Go.Proofs.YtcfojmaccikgeaaGreatDoor
open Go.RowKit Go.Extern.Stop Go.Stop Go.Extern Go.Proofs.Tryz
theorem A3 (t:Addr) (w:Zw):(ReflectliteValue.unpack (.iface 155 (Zp (Zo t)))).run prog w
  = .ok (Za #[Zp (Zo ⟨5,155,Zn⟩),Zp (Zo ⟨w.heap.size,0,Zn⟩),Zi .u64 150]) (w.alloc (Zc #[Zp (Zo t)] 155)):=by kernel_rfl
theorem Hv (a:Addr) (w:Zw):(ReflectliteValue.methodAny (ReflectliteValue.valueError "reflectlite.Value.Type" 0) (fun t _ _ _=>ReflectliteType.toType t) #[Za #[Zp (Zo ⟨5,155,Zn⟩),Zp (Zo a),Zi .u64 150]]).run prog w
  = .ok (.iface 236 (Za #[Zp (Zo ⟨5,155,Zn⟩)])) w:=by kernel_rfl
theorem GI(w:Zw):((ReflectliteType.abiMethod fun t=>(fun a:Nat=>Value.int IntKind.u8 (a:Int)) <$> Rtype.kind t) #[Zp (Zo ⟨5,155,Zn⟩)]).run prog w=.ok (Zi .u8 22) w:=by kernel_rfl
theorem Hj(w:Zw):((ReflectliteType.abiMethod fun t=>(fun a:Nat=>Value.int IntKind.u8 (a:Int)) <$> Rtype.kind t) #[Zp (Zo ⟨5,153,Zn⟩)]).run prog w=.ok (Zi .u8 25) w:=by kernel_rfl
theorem xT(a:Addr)(w:Zw):(ReflectliteValue.parts (Za #[Zp (Zo ⟨5,155,Zn⟩),Zp (Zo a),Zi .u64 150])).run prog w=.ok (Zo (155,a,150)) w:=by kernel_rfl
theorem Fz (a p:Addr) (W:Zw) (b:W.cell? a=Zo (Zp (Zo p))) :
  (ReflectliteValue.method (ReflectliteValue.valueError "reflectlite.Value.IsNil" 0) ReflectliteValue.isNil #[Za #[Zp (Zo ⟨5,155,Zn⟩),Zp (Zo a),Zi .u64 150]]).run prog W=.ok (Zb false) W:=by rw[JG];simp only[Sem.run_bind,xT,Result.andThen];simp[ReflectliteValue.isNil,loadVar,isAgg,underlying,underlying155,b,Result.andThen]
theorem tD (g h:Zv) (w:Zw):(Go.method 466 151 (Za #[g,h]) "Unwrap").run prog w=.ok (289,Za #[g,h]) w:=by kernel_rfl
theorem Hz(w:Zw):(ReflectliteType.method ReflectliteType.elem #[Za #[Zp (Zo ⟨5,155,Zn⟩)]]).run prog w=.ok (.iface 236 (Za #[Zp (Zo ⟨5,153,Zn⟩)])) w:=by kernel_rfl
theorem uB (w:Zw):(ReflectliteType.relation "Implements" ReflectliteType.implements_ #[Za #[Zp (Zo ⟨5,153,Zn⟩)],.iface 236 (Za #[Zp (Zo ⟨5,84,Zn⟩)])]).run prog w=.ok (Zb true) w:=by kernel_rfl
theorem Dw(v:Zv)(w:Zw):(ReflectliteType.typeOf #[.iface 151 v]).run prog w=.ok (.iface 236 (Za #[Zp (Zo ⟨5,151,Zn⟩)])) w:=by kernel_rfl
theorem Dr(v:Zv)(w:Zw):(ReflectliteType.typeOf #[.iface 153 v]).run prog w=.ok (.iface 236 (Za #[Zp (Zo ⟨5,153,Zn⟩)])) w:=by kernel_rfl
theorem Cm (w:Zw):(ReflectliteType.relation "AssignableTo" ReflectliteType.assignableTo #[Za #[Zp (Zo ⟨5,151,Zn⟩)],.iface 236 (Za #[Zp (Zo ⟨5,153,Zn⟩)])]).run prog w=.ok (Zb false) w:=by kernel_rfl
theorem Ek (w:Zw):(ReflectliteType.relation "AssignableTo" ReflectliteType.assignableTo #[Za #[Zp (Zo ⟨5,153,Zn⟩)],.iface 236 (Za #[Zp (Zo ⟨5,153,Zn⟩)])]).run prog w=.ok (Zb true) w:=by kernel_rfl
theorem zO (c p:Int) (w:Zw):(ReflectliteValue.unpack (.iface 153 (Za #[Zi Zk c,Zi Zk p]))).run prog w
  = .ok (Za #[Zp (Zo ⟨5,153,Zn⟩),Zp (Zo ⟨w.heap.size,0,Zn⟩),Zi .u64 153]) (w.alloc (Zc #[Zi Zk c,Zi Zk p] 153)):=by kernel_rfl
theorem CZ(w:Zw):(Rtype.elem? 155).run prog w=.ok (Zo 153) w:=by kernel_rfl
theorem Jc(p:Addr)(w:Zw):(ReflectliteValue.mk 153 p ReflectliteValue.flagAddr).run prog w=.ok (Za #[Zp (Zo ⟨5,153,Zn⟩),Zp (Zo p),Zi .u64 409]) w:=by kernel_rfl
theorem EK (a p:Addr) (W:Zw) (b:W.cell? a=Zo (Zp (Zo p))) :
  (ReflectliteValue.method (ReflectliteValue.valueError "reflectlite.Value.Elem" 0) ReflectliteValue.elem #[Za #[Zp (Zo ⟨5,155,Zn⟩),Zp (Zo a),Zi .u64 150]]).run prog W
   = .ok (Za #[Zp (Zo ⟨5,153,Zn⟩),Zp (Zo p),Zi .u64 409]) W:=by rw[JG];simp only[Sem.run_bind,xT,Result.andThen];simp[ReflectliteValue.elem,loadVar,isAgg,underlying,underlying155,b,Result.andThen,CZ,Jc]
theorem Du(a:Addr)(w:Zw):(ReflectliteValue.parts (Za #[Zp (Zo ⟨5,153,Zn⟩),Zp (Zo a),Zi .u64 409])).run prog w=.ok (Zo (153,a,409)) w:=by kernel_rfl
theorem Gg(a:Addr)(w:Zw):(ReflectliteValue.parts (Za #[Zp (Zo ⟨5,153,Zn⟩),Zp (Zo a),Zi .u64 153])).run prog w=.ok (Zo (153,a,153)) w:=by kernel_rfl
theorem CO(w:Zw):(Rtype.directlyAssignable 153 153).run prog w=.ok true w:=by kernel_rfl
theorem IK (N B:Nat) (c p:Int) (o:Array Zv) (W:Zw) (e:W.heap[B]?=Zo (Zc #[Zi Zk c,Zi Zk p] 153 (0,0))) (d:W.heap[N]?=Zo (Zc o 153 (0,0))) (b:o.size=2) :
  (ReflectliteValue.set #[Za #[Zp (Zo ⟨5,153,Zn⟩),Zp (Zo ⟨N,0,Zn⟩),Zi .u64 409],Za #[Zp (Zo ⟨5,153,Zn⟩),Zp (Zo ⟨B,0,Zn⟩),Zi .u64 153]]).run prog W
   = .ok (Zu #[]) (W.setRow N #[Zi Zk c,Zi Zk p]):=by have f:=run_loadVar_row (P:=prog) W B 153 153 #[Zi Zk c,Zi Zk p] (0,0) _ e underlying153 rfl zK;have a:=run_storeVar_row (P:=prog) W N 153 153 o #[Zi Zk c,Zi Zk p] d zK (by rw[b];rfl) zK;rw[JP];simp only[Sem.run_bind,Du,Gg,Result.andThen];simp[ReflectliteValue.flagAddr,f,Result.andThen,CO,a]
end Go.Proofs.YtcfojmaccikgeaaGreatDoor
namespace Go.Proofs.YtcfojmaccikgeaaGreatDoor
set_option maxRecDepth 100000
set_option maxHeartbeats 16000000
open Go.RowKit Go.Extern.Stop Go.Stop Go.Extern Go.Proofs.Tryz
theorem xQ(op:Int)(v:Zv)(b:∃t x,v=.iface t x)(w:Zw):Calls prog 289 #[Za #[Zi Zk op,v]] w fun e a=>e=Zr v/\a=w.alloc (Zc #[Zi Zk op,v] 151):=by obtain⟨t,x,rfl⟩:=b;go_in;go_wp2;go_ret;exact⟨rfl,rfl⟩
theorem Iz(v:Zv)(a:TypeId)(w:Zw):(Instr.typeAssert (.iface 151 v) a 241 true).run prog w=.ok (Zu #[.nilIface,Zb false]) w:=run_typeAssert_lacksB underlying241 zK zK v a w
theorem Ds(v:Zv)(a:TypeId)(w:Zw):(Instr.typeAssert (.iface 151 v) a 244 true).run prog w=.ok (Zu #[.iface 151 v,Zb true]) w:=run_typeAssert_hasB underlying244 zK v a w
theorem H0(op:Int)(v:Zv):SizeOf.sizeOf v<SizeOf.sizeOf (Value.iface 151 (Za #[Zi Zk op,v])):=by simp;omega
theorem CC (d:Nat) (v:Zv) (c:Int) (p N:Nat) (o:Array Zv) (w:Zw) (z:mi d v c p) (K:w.heap[N]?=Zo (Zc o 153 (0,0))) (Y:o.size=2) (k:Nat) (m:w.cell? ⟨k,0,Zn⟩=Zo (Zp (Zo ⟨N,0,Zn⟩))) :
  Calls prog 137 #[v,.iface 155 (Zp (Zo ⟨N,0,Zn⟩)),Za #[Zp (Zo ⟨5,155,Zn⟩),Zp (Zo ⟨k,0,Zn⟩),Zi .u64 150],.iface 236 (Za #[Zp (Zo ⟨5,153,Zn⟩)])] w fun Z y=>Z=Zr (Zb true)/\∃W,Bw w W/\y=W.setRow N #[Zi Zk c,Zi Zk (p:Int)]:=by
 have h6:=@run_callFunc_extern prog 134 _ (fun args=>ReflectliteValue.unpack (args.getD 0 (Zu #[]))) func134 zK zK zK zK;have ac:=@run_callFunc_extern prog 171 _ ReflectliteType.typeOf func171 zK zK zK zK;have aa:=@run_callFunc_extern prog 296 _ (ReflectliteType.relation "AssignableTo" ReflectliteType.assignableTo) func296 zK zK zK zK;have I:=@run_callFunc_extern prog 172 _ (ReflectliteValue.method (ReflectliteValue.valueError "reflectlite.Value.Elem" 0) ReflectliteValue.elem) func172 zK zK zK zK;have G:=@run_callFunc_extern prog 173 _ ReflectliteValue.set func173 zK zK zK zK;have tM:=Dw;have tK:=Dr;have mA:=nT;have U:=tD;have Q:=Cm;have aK:=Ek;have T:=Iz;have P:=Ds;have vK:=zO c p;have B:=(ZF.1 K).1;have E:=b8 m;obtain⟨n,a⟩:∃W,W=w.alloc (Zc #[Zp (Zo ⟨5,155,Zn⟩),Zp (Zo ⟨k,0,Zn⟩),Zi .u64 150] 195):=⟨_,rfl⟩;have s:Bw w n:=by rw[a];exact gF _ _
 have ab:w.heap.size+1<=n.heap.size:=by rw[a];simp
 have r:n.heap[w.heap.size]?=Zo (Zc #[Zp (Zo ⟨5,155,Zn⟩),Zp (Zo ⟨k,0,Zn⟩),Zi .u64 150] 195 (0,0)):=by rw[a];exact heap_alloc_new _ _
 have O:Hid (∀V,Bw n V->Bw w V/\V.heap[N]?=Zo (Zc o 153 (0,0))/\V.cell? ⟨k,0,Zn⟩=Zo (Zp (Zo ⟨N,0,Zn⟩))/\V.heap[w.heap.size]?=Zo (Zc #[Zp (Zo ⟨5,155,Zn⟩),Zp (Zo ⟨k,0,Zn⟩),Zi .u64 150] 195 (0,0))):=fun V M=>by have J:=s.trans (M.mono s.size);exact⟨J,(J.block N B).trans K,kC J m E,(M.block _ om).trans r⟩
 have L:=a7 z;obtain⟨t0,S,rfl⟩:=z.iface;clear z r K m;go_in;go_wp2_with fail;rw[<- a];clear a;go_loopw [0] (fun u wr=>∃d,mi d u c p/\Bw n wr) (fun u _=>SizeOf.sizeOf u);case atStart=>exact⟨d,L.out,Below.refl _ _⟩
 case round=>
  obtain⟨R,D,b⟩:=hrel;obtain⟨H,l,j,i⟩:=O.out wr b;obtain⟨S,x1,x2⟩:=ry i;have X:=b.size;have g:u0=nF c p∨∃op q d,u0=.iface 151 (Za #[Zi Zk op,q])/\mi d q c p:=by
   cases R with
   | zero=>exact .inl D
   | succ d=>
    rcases D with h|⟨op,q,h,h2⟩;·exact .inl h
    ·exact .inr ⟨op,q,d,h,h2⟩
  clear D;rcases g with rfl|⟨op,q,d2,rfl,f⟩;·unfold nF;have st:=IK N wr.heap.size c p o (wr.alloc (Zc #[Zi Zk c,Zi Zk (p:Int)] 153)) (heap_alloc_new _ _) ((Below.heap_alloc _ _ _ om).trans l) Y;have el:=EK ⟨k,0,Zn⟩ ⟨N,0,Zn⟩ wr j;have F:Hid (Bw w (wr.alloc (Zc #[Zi Zk c,Zi Zk (p:Int)] 153))):=H.alloc om _;clear l j i O L tM Q T P U;go_wp2;go_ret;exact⟨rfl,_,F.out,rfl⟩
  ·obtain⟨t,x,rfl⟩:=f.iface;have C:=a7 f;have A:Hid (∀V,Calls prog 289 #[Za #[Zi Zk op,.iface t x]] V fun e y=>e=Zr (.iface t x)/\y=V.alloc (Zc #[Zi Zk op,.iface t x] 151)):=fun V=>xQ op _ ⟨_,_,rfl⟩ V;have F:Hid (Bw n (wr.alloc (Zc #[Zi Zk op,.iface t x] 151))):=b.alloc b.size _;clear f l j i tK aK vK I G h6;go_wp2_with fail;refine (A.out _).mono ?_;rintro e y ⟨rfl,rfl⟩;go_wp2;go_roundw;case rel=>exact⟨d2,C.out,F.out⟩
   case measure=>exact H0 op _
theorem Hu (d:Nat) (v:Zv) (c:Int) (p N:Nat) (o:Array Zv) (w:Zw) (l:kG w) (k:mi d v c p) (r:w.heap[N]?=Zo (Zc o 153 (0,0))) (B:o.size=2) :
  Calls prog 87 #[v,.iface 155 (Zp (Zo ⟨N,0,Zn⟩))] w fun C u=>C=Zr (Zb true)/\∃W,Bw w W/\u=W.setRow N #[Zi Zk c,Zi Zk (p:Int)]:=by
 have I:=@run_callFunc_extern prog 134 _ (fun args=>ReflectliteValue.unpack (args.getD 0 (Zu #[]))) func134 zK zK zK zK;have J:=@run_callFunc_extern prog 135 _ (ReflectliteValue.methodAny (ReflectliteValue.valueError "reflectlite.Value.Type" 0) (fun t _ _ _=>ReflectliteType.toType t)) func135 zK zK zK zK;have M:=@run_callFunc_extern prog 136 _ (ReflectliteValue.method (ReflectliteValue.valueError "reflectlite.Value.IsNil" 0) ReflectliteValue.isNil) func136 zK zK zK zK;have y:=@run_callFunc_extern prog 282 _ (ReflectliteType.abiMethod fun t=>do pure (Zi .u8 (<- Rtype.kind t))) func282 zK zK zK zK;have z:=@run_callFunc_extern prog 298 _ (ReflectliteType.method ReflectliteType.elem) func298 zK zK zK zK;have A:=@run_callFunc_extern prog 299 _ (ReflectliteType.relation "Implements" ReflectliteType.implements_) func299 zK zK zK zK;have L:=A3;have P:=Hv;have E:=xB;have H:=xz;have K:=pr;have G:=GI;have Q:=Hj;have D:=Hz;have O:=uB;obtain⟨t0,F,rfl⟩:=k.iface;obtain⟨i,a⟩:∃W,W=(w.alloc (Zc #[Zp (Zo ⟨N,0,Zn⟩)] 155)).alloc (Zc #[Zp (Zo ⟨5,155,Zn⟩),Zp (Zo ⟨w.heap.size,0,Zn⟩),Zi .u64 150] 195):=⟨_,rfl⟩;have b:Bw w i:=by rw[a];exact (gF _ _).alloc zS _
 have n:=(ZF.1 r).1;have g:=(b.block N n).trans r;have f:i.cell? ⟨w.heap.size,0,Zn⟩=Zo (Zp (Zo ⟨N,0,Zn⟩)):=by rw[a];simp[go_sem]
 have x:=Fz ⟨w.heap.size,0,Zn⟩ ⟨N,0,Zn⟩ i f;have m:0<w.heap.size:=b8 l;have h:i.cell? ⟨0,0,Zn⟩=Zo (.iface 236 (Za #[Zp (Zo ⟨5,84,Zn⟩)])):=kC b l m;have s:=Lib.hid (CC d _ c p N o i k g B w.heap.size f);rw[a]at x h;clear k r l f g;go_in;go_wp2_with fail;rw[<- a];refine s.out.mono ?_;rintro e u ⟨rfl,W,j,rfl⟩;have q:=b.trans (j.mono b.size);clear s j b a x h;go_wp2;go_ret;exact⟨rfl,W,q,rfl⟩
end Go.Proofs.YtcfojmaccikgeaaGreatDoor
namespace Go.Proofs.YtcfojmaccikgeaaGreatDoor
set_option maxRecDepth 100000
set_option maxHeartbeats 16000000
open Go.RowKit Go.Extern.Stop Go.Stop Go.Extern Go.Proofs.Tryz
theorem Gy(x:Zv)(w:Zw):Calls prog 87 #[.nilIface,x] w fun a b=>a=Zr (Zb false)/\b=w:=by go_in;go_wp2;go_ret;exact⟨rfl,rfl⟩
def wX(c p:Int)(w:Zw)(e:Ending)(w':Zw):Prop:=e=Zr (Za #[Zi Zk c,Zi Zk p])/\Bw w w'
theorem ym(w:Zw):Calls prog 42 #[.nilIface] w (wX 0 0 w):=by
 obtain⟨W,a⟩:=iw ((w.alloc (Zc #[Zi Zk 0,Zi Zk 0] 33)).alloc (Zc #[Zi Zk 0,Zi Zk 0] 153));have d:Bw w W:=by rw[a];exact (gF _ _).alloc zS _
 have c:W.heap[w.heap.size]?=Zo (Zc #[Zi Zk 0,Zi Zk 0] 33 (0,0)):=by rw[a,Below.heap_alloc _ _ _ zS];exact heap_alloc_new _ _
 obtain⟨⟨h,f⟩,j,k⟩:=gC c;have b:Hid (Calls prog 87 #[.nilIface,.iface 155 (Zp (Zo ⟨w.heap.size+1,0,Zn⟩))] W _):=Gy _ W;have g:Hid (wX 0 0 w (Zr (Za #[Zi Zk 0,Zi Zk 0])) ((W.setCell ⟨w.heap.size,0,Zn⟩ (Zi Zk 0)).setCell ⟨w.heap.size,1,Zn⟩ (Zi Zk 0))):=⟨rfl,iE d (Nat.le_refl _)⟩;clear c d;go_in;go_wp2_with fail;rw[<- a];clear a;refine b.out.mono ?_;rintro e i ⟨rfl,rfl⟩;clear b;go_wp2_with fail;refine bodyPost_ret (v:=Za #[Zi Zk 0,Zi Zk 0]) (by simp[results,results42,go_sem,h,f]) rfl ?_;exact g.out
theorem xV(d:Nat)(v:Zv)(c:Int)(p:Nat)(w:Zw)(t:kG w)(s:mi d v c p):Calls prog 42 #[v] w (wX c p w):=by
 obtain⟨t0,A,rfl⟩:=s.iface;obtain⟨W,j⟩:=iw ((w.alloc (Zc #[Zi Zk 0,Zi Zk 0] 33)).alloc (Zc #[Zi Zk 0,Zi Zk 0] 153));have l:Bw w W:=by rw[j];exact (gF _ _).alloc zS _
 have H:w.heap.size+2<=W.heap.size:=by rw[j];simp
 have u:W.heap[w.heap.size]?=Zo (Zc #[Zi Zk 0,Zi Zk 0] 33 (0,0)):=by rw[j,Below.heap_alloc _ _ _ zS];exact heap_alloc_new _ _
 have i:W.heap[w.heap.size+1]?=Zo (Zc #[Zi Zk 0,Zi Zk 0] 153 (0,0)):=by have:=heap_alloc_new (w.alloc (Zc #[Zi Zk 0,Zi Zk 0] 33)) (Zc #[Zi Zk 0,Zi Zk 0] 153);rw[j];simpa using this
 have o:kG W:=kC l t (b8 t);have x:Hid (Calls prog 87 #[.iface t0 A,.iface 155 (Zp (Zo ⟨w.heap.size+1,0,Zn⟩))] W _):=Hu d _ c p (w.heap.size+1) _ W o s i rfl;clear s t o;go_in;go_wp2_with fail;rw[<- j];clear j;refine x.out.mono ?_;rintro e I ⟨rfl,X,a,rfl⟩;have z:=a.size;obtain⟨Y,g⟩:=iw (X.setRow (w.heap.size+1) #[Zi Zk c,Zi Zk (p:Int)]);have f:∀b,b≠w.heap.size+1->Y.heap[b]?=X.heap[b]?:=fun b l=>by rw[g];show (X.heap.modify _ _)[b]?=_;rw[Array.getElem?_modify,if_neg (fun h=>l h.symm)]
 have q:=(a.block (w.heap.size+1) om).trans i;have r:Y.heap[w.heap.size+1]?=Zo (Zc #[Zi Zk c,Zi Zk (p:Int)] 153 (0,0)):=by rw[g];simp[World.setRow,Array.getElem?_modify,q]
 have n:=(f w.heap.size om).trans ((a.block w.heap.size om).trans u);have m:Bw w Y:=by have h:=l.trans (a.mono l.size);exact⟨by rw[g];exact h.os,by rw[g];exact h.tape,by rw[g];exact h.output,by rw[g];simpa [World.setRow] using h.size,fun k C=>(f k om).trans (h.block k C)⟩
 rw[<- g];obtain⟨⟨D,y⟩,F,G⟩:=gC n;obtain⟨⟨J,E⟩,-⟩:=gC r;have B:Hid (wX c p w (Zr (Za #[Zi Zk c,Zi Zk (p:Int)])) ((Y.setCell ⟨w.heap.size,0,Zn⟩ (Zi Zk c)).setCell ⟨w.heap.size,1,Zn⟩ (Zi Zk (p:Int)))):=⟨rfl,iE m (Nat.le_refl _)⟩;clear x u i f q r n m g l a;go_wp2_with fail;refine bodyPost_ret (v:=Za #[Zi Zk c,Zi Zk (p:Int)]) (by simp[results,results42,go_sem,D,y]) rfl ?_;exact B.out
end Go.Proofs.YtcfojmaccikgeaaGreatDoor
