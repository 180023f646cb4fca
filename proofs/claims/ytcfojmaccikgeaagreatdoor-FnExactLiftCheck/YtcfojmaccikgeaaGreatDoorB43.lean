import Derived.Test.YtcfojmaccikgeaaGreatDoorB41
import Derived.Stop.Asserts
open Go.Value renaming int→Zi,pointer→Zp,agg→Za,tuple→Zu,bool→Zb
open Go.IntKind renaming i64→Zk
open Go.Ending renaming returned→Zr
open Go.Obj renaming cells→Zc
open Option renaming none→Zn,some→Zo
open Go renaming World→Zw,Value→Zv
namespace Go.Proofs.YtcfojmaccikgeaaGreatDoor
open Go.RowKit Go.Proofs.Tryz
set_option maxRecDepth 100000
set_option maxHeartbeats 16000000
def pN(B:Nat)(W:Zw)(b:Nat):Prop:=B<=b/\b<W.heap.size
theorem jL (B:Nat) (l:List Int) (b cap:Nat) (w:Zw) (m:B<=b) (c:B<=w.heap.size) (o:l.length<=100) (n:b<w.heap.size) (g:∀ i (h:i<l.length),w.cell? ⟨b,0+i,Zn⟩=Zo (Zi Zk l[i])) :
  Calls prog 116 #[.slice (Zo ⟨b,0,Zn⟩) l.length cap] w fun e j=>∃p,e=Zr (.func (.func 152) #[] #[Zp (Zo ⟨p,0,Zn⟩)])/\Bw w j/\Hid (∀W,Bw j W->kI (pN B W) W (.sorts l) (.func (.func 152) #[] #[Zp (Zo ⟨p,0,Zn⟩)])):=by
 have q:∀(f:Fn)(first cap:Array Zv)(w:Zw),(Instr.makeFunc f first cap).run prog w=.ok (.func f first cap) w:=fun _ _ _ _=>rfl;have a:Bw w (w.alloc (Zc #[.slice (Zo ⟨b,0,Zn⟩) l.length cap] 223)):=gx _ _;have k:Hid (∀W,Below (w.alloc (Zc #[.slice (Zo ⟨b,0,Zn⟩) l.length cap] 223)).heap.size (w.alloc (Zc #[.slice (Zo ⟨b,0,Zn⟩) l.length cap] 223)) W->kI (pN B W) W (.sorts l) (.func (.func 152) #[] #[Zp (Zo ⟨w.heap.size,0,Zn⟩)])):=fun W d=>by have r:=d.size;simp at r;refine⟨w.heap.size,b,0,cap,rfl,⟨c,om⟩,⟨m,om⟩,kC d (by simp[go_sem]) zS,fun i h=>?_,o⟩;exact kC d ((a.cell (p:=⟨b,0+i,Zn⟩) n).trans (g i h)) zE
 clear g;go_in;go_wp2;go_ret;exact⟨_,rfl,a,k⟩
theorem DI (B:Nat) (s:Nat) (w:Zw) (a:B<=w.heap.size) :
  Calls prog 121 #[Zi Zk (s:Int)] w fun e f=>∃p,e=Zr (.func (.func 160) #[] #[Zp (Zo ⟨p,0,Zn⟩)])/\Bw w f/\Hid (∀W,Bw f W->kI (pN B W) W (.like s) (.func (.func 160) #[] #[Zp (Zo ⟨p,0,Zn⟩)])):=by
 have h:∀(c:Fn)(first cap:Array Zv)(w:Zw),(Instr.makeFunc c first cap).run prog w=.ok (.func c first cap) w:=fun _ _ _ _=>rfl;have b:Bw w (w.alloc (Zc #[Zi Zk (s:Int)] 3)):=gx _ _;have g:Hid (∀W,Below (w.alloc (Zc #[Zi Zk (s:Int)] 3)).heap.size (w.alloc (Zc #[Zi Zk (s:Int)] 3)) W->kI (pN B W) W (.like s) (.func (.func 160) #[] #[Zp (Zo ⟨w.heap.size,0,Zn⟩)])):=fun W d=>by have i:=d.size;simp at i;exact⟨w.heap.size,rfl,⟨a,om⟩,kC d (by simp[go_sem]) zS⟩
 go_in;go_wp2;go_ret;exact⟨_,rfl,b,g⟩
theorem wL (B:Nat) (s:Nat) (w:Zw) (a:B<=w.heap.size) :
  Calls prog 123 #[Zi Zk (s:Int)] w fun e f=>∃p,e=Zr (.func (.func 162) #[] #[Zp (Zo ⟨p,0,Zn⟩)])/\Bw w f/\Hid (∀W,Bw f W->kG (pN B W) W (Zo (.kid s)) (.func (.func 162) #[] #[Zp (Zo ⟨p,0,Zn⟩)])):=by
 have h:∀(c:Fn)(first cap:Array Zv)(w:Zw),(Instr.makeFunc c first cap).run prog w=.ok (.func c first cap) w:=fun _ _ _ _=>rfl;have b:Bw w (w.alloc (Zc #[Zi Zk (s:Int)] 3)):=gx _ _;have g:Hid (∀W,Below (w.alloc (Zc #[Zi Zk (s:Int)] 3)).heap.size (w.alloc (Zc #[Zi Zk (s:Int)] 3)) W->kG (pN B W) W (Zo (.kid s)) (.func (.func 162) #[] #[Zp (Zo ⟨w.heap.size,0,Zn⟩)])):=fun W d=>by have i:=d.size;simp at i;exact⟨w.heap.size,rfl,⟨a,om⟩,kC d (by simp[go_sem]) zS⟩
 go_in;go_wp2;go_ret;exact⟨_,rfl,b,g⟩
theorem qN (B:Nat) (s:Int) (w:Zw) (a:B<=w.heap.size) (h:s≠5) :
  Calls prog 117 #[Zi Zk s] w fun e f=>∃p,e=Zr (.func (.func 154) #[] #[Zp (Zo ⟨p,0,Zn⟩)])/\Bw w f/\Hid (∀W,Bw f W->kG (pN B W) W (Zo (.leaf s)) (.func (.func 154) #[] #[Zp (Zo ⟨p,0,Zn⟩)])):=by
 have i:∀(c:Fn)(first cap:Array Zv)(w:Zw),(Instr.makeFunc c first cap).run prog w=.ok (.func c first cap) w:=fun _ _ _ _=>rfl;have b:Bw w (w.alloc (Zc #[Zi Zk s] 3)):=gx _ _;have g:Hid (∀W,Below (w.alloc (Zc #[Zi Zk s] 3)).heap.size (w.alloc (Zc #[Zi Zk s] 3)) W->kG (pN B W) W (Zo (.leaf s)) (.func (.func 154) #[] #[Zp (Zo ⟨w.heap.size,0,Zn⟩)])):=fun W d=>by have j:=d.size;simp at j;exact⟨w.heap.size,rfl,⟨a,om⟩,kC d (by simp[go_sem]) zS,h⟩
 go_in;go_wp2;go_ret;exact⟨_,rfl,b,g⟩
theorem D4 (B:Nat) (s:Int) (w:Zw) (a:B<=w.heap.size) (h:s≠5) :
  Calls prog 119 #[Zi Zk s] w fun e f=>∃p,e=Zr (.func (.func 156) #[] #[Zp (Zo ⟨p,0,Zn⟩)])/\Bw w f/\Hid (∀W,Bw f W->kG (pN B W) W (Zo (.said s)) (.func (.func 156) #[] #[Zp (Zo ⟨p,0,Zn⟩)])):=by
 have i:∀(c:Fn)(first cap:Array Zv)(w:Zw),(Instr.makeFunc c first cap).run prog w=.ok (.func c first cap) w:=fun _ _ _ _=>rfl;have b:Bw w (w.alloc (Zc #[Zi Zk s] 3)):=gx _ _;have g:Hid (∀W,Below (w.alloc (Zc #[Zi Zk s] 3)).heap.size (w.alloc (Zc #[Zi Zk s] 3)) W->kG (pN B W) W (Zo (.said s)) (.func (.func 156) #[] #[Zp (Zo ⟨w.heap.size,0,Zn⟩)])):=fun W d=>by have j:=d.size;simp at j;exact⟨w.heap.size,rfl,⟨a,om⟩,kC d (by simp[go_sem]) zS,h⟩
 go_in;go_wp2;go_ret;exact⟨_,rfl,b,g⟩
theorem xL (B:Nat) (s:Int) (q:Nat) (w:Zw) (b:B<=w.heap.size) (m:s≠5) :
  Calls prog 120 #[Zi Zk s,Zi Zk (q:Int)] w fun e k=>∃p j,e=Zr (.func (.func 159) #[] #[Zp (Zo ⟨p,0,Zn⟩),Zp (Zo ⟨j,0,Zn⟩)])/\Bw w k/\Hid (∀W,Bw k W->kG (pN B W) W (Zo (.wrap s q)) (.func (.func 159) #[] #[Zp (Zo ⟨p,0,Zn⟩),Zp (Zo ⟨j,0,Zn⟩)])):=by
 have n:∀(g:Fn)(first cap:Array Zv)(w:Zw),(Instr.makeFunc g first cap).run prog w=.ok (.func g first cap) w:=fun _ _ _ _=>rfl;obtain⟨V,a⟩:=ii ((w.alloc (Zc #[Zi Zk s] 3)).alloc (Zc #[Zi Zk (q:Int)] 3));have d:Bw w V:=by rw[a];exact (gx _ _).alloc zS _
 have f:V.heap.size=w.heap.size+2:=by rw[a];simp
 have h:V.cell? ⟨w.heap.size,0,Zn⟩=Zo (Zi Zk s):=by rw[a];simp[go_sem]
 have i:V.cell? ⟨w.heap.size+1,0,Zn⟩=Zo (Zi Zk (q:Int)):=by rw[a];simp[go_sem]
 have l:Hid (∀W,Bw V W->kG (pN B W) W (Zo (.wrap s q)) (.func (.func 159) #[] #[Zp (Zo ⟨w.heap.size,0,Zn⟩),Zp (Zo ⟨w.heap.size+1,0,Zn⟩)])):=fun W c=>by have o:=c.size;exact⟨w.heap.size,w.heap.size+1,rfl,⟨b,om⟩,⟨om,om⟩,kC c h om,kC c i om,m⟩
 clear f h i;go_in;go_wp2;go_ret;rw[<- a];exact⟨_,_,rfl,d,l⟩
end Go.Proofs.YtcfojmaccikgeaaGreatDoor
namespace Go.Proofs.YtcfojmaccikgeaaGreatDoor
open Go.RowKit Go.Extern.Stop Go.Stop Go.Extern Go.Proofs.Tryz
def kF(w:Zw):Prop:=w.cell? ⟨0,0,Zn⟩=Zo (.iface 236 (Za #[Zp (Zo ⟨5,84,Zn⟩)]))
theorem xm (h:Zv) (w:Zw):(Go.method 466 236 (Za #[h]) "Kind").run prog w=.ok (282,h) w:=by kernel_rfl
theorem Km (z:Sem Zv) (f:TypeId->Addr->Nat->Nat->Sem Zv) (v:Zv) :
  ReflectliteValue.method z f #[v]=(do match <- ReflectliteValue.parts v with|Zn=>z|Zo (t,a,fl)=>f t a fl (fl % 32)):=rfl
theorem xj (h:Zv) (w:Zw):(Go.method 466 236 (Za #[h]) "Elem").run prog w=.ok (298,Za #[h]) w:=by kernel_rfl
theorem pC (h:Zv) (w:Zw):(Go.method 466 236 (Za #[h]) "Implements").run prog w=.ok (299,Za #[h]) w:=by kernel_rfl
theorem nZ (h:Zv) (w:Zw):(Go.method 466 236 (Za #[h]) "AssignableTo").run prog w=.ok (296,Za #[h]) w:=by kernel_rfl
theorem Kt (v x:Zv):ReflectliteValue.set #[v,x]=(do
  let (Zo (dst,a,fl),Zo (src,b,_)):=(<- ReflectliteValue.parts v,<- ReflectliteValue.parts x)
   | unsupported (.noEntry "extern/(internal/reflectlite.Value).Set.zeroValue")
  if fl / ReflectliteValue.flagAddr % 2==0 then unsupported (.noEntry "extern/(internal/reflectlite.Value).Set.unaddressable")
  let val <- loadVar src b
  if <- Rtype.directlyAssignable dst src then storeVar dst a val
  else if <- Rtype.implements dst src then
   if (<- Rtype.kind src)==20 then
    match val with
    | .nilIface=>unsupported (.noEntry "extern/reflectlite: a nil value of one interface type handed on as a value of another")
    | _=>storeVar dst a val
   else storeVar dst a (.iface src val)
  else panicString ("reflectlite.Set: value of type " ++ (<- Rtype.spelt src) ++ " is not assignable to type " ++ (<- Rtype.spelt dst))
  pure (Zu #[])):=rfl
end Go.Proofs.YtcfojmaccikgeaaGreatDoor
namespace Go.Proofs.YtcfojmaccikgeaaGreatDoor
open Go.RowKit Go.Extern.Stop Go.Stop Go.Extern Go.Proofs.Tryz
theorem Aq (t:Addr) (w:Zw):(ReflectliteValue.unpack (.iface 155 (Zp (Zo t)))).run prog w
  = .ok (Za #[Zp (Zo ⟨5,155,Zn⟩),Zp (Zo ⟨w.heap.size,0,Zn⟩),Zi .u64 150]) (w.alloc (Zc #[Zp (Zo t)] 155)):=by kernel_rfl
theorem Hl (a:Addr) (w:Zw):(ReflectliteValue.methodAny (ReflectliteValue.valueError "reflectlite.Value.Type" 0) (fun t _ _ _=>ReflectliteType.toType t) #[Za #[Zp (Zo ⟨5,155,Zn⟩),Zp (Zo a),Zi .u64 150]]).run prog w
  = .ok (.iface 236 (Za #[Zp (Zo ⟨5,155,Zn⟩)])) w:=by kernel_rfl
theorem Hk(w:Zw):((ReflectliteType.abiMethod fun t=>(fun a:Nat=>Value.int IntKind.u8 (a:Int)) <$> Rtype.kind t) #[Zp (Zo ⟨5,155,Zn⟩)]).run prog w=.ok (Zi .u8 22) w:=by kernel_rfl
theorem Hj(w:Zw):((ReflectliteType.abiMethod fun t=>(fun a:Nat=>Value.int IntKind.u8 (a:Int)) <$> Rtype.kind t) #[Zp (Zo ⟨5,153,Zn⟩)]).run prog w=.ok (Zi .u8 25) w:=by kernel_rfl
theorem yu(a:Addr)(w:Zw):(ReflectliteValue.parts (Za #[Zp (Zo ⟨5,155,Zn⟩),Zp (Zo a),Zi .u64 150])).run prog w=.ok (Zo (155,a,150)) w:=by kernel_rfl
theorem FD (a p:Addr) (W:Zw) (b:W.cell? a=Zo (Zp (Zo p))) :
  (ReflectliteValue.method (ReflectliteValue.valueError "reflectlite.Value.IsNil" 0) ReflectliteValue.isNil #[Za #[Zp (Zo ⟨5,155,Zn⟩),Zp (Zo a),Zi .u64 150]]).run prog W=.ok (Zb false) W:=by rw[Km];simp only[Sem.run_bind,yu,Result.andThen];simp[ReflectliteValue.isNil,loadVar,isAgg,underlying,underlying155,b,Result.andThen]
theorem s6 (g h:Zv) (w:Zw):(Go.method 466 151 (Za #[g,h]) "Unwrap").run prog w=.ok (289,Za #[g,h]) w:=by kernel_rfl
theorem Hi(w:Zw):(ReflectliteType.method ReflectliteType.elem #[Za #[Zp (Zo ⟨5,155,Zn⟩)]]).run prog w=.ok (.iface 236 (Za #[Zp (Zo ⟨5,153,Zn⟩)])) w:=by kernel_rfl
theorem uI (w:Zw):(ReflectliteType.relation "Implements" ReflectliteType.implements_ #[Za #[Zp (Zo ⟨5,153,Zn⟩)],.iface 236 (Za #[Zp (Zo ⟨5,84,Zn⟩)])]).run prog w=.ok (Zb true) w:=by kernel_rfl
theorem C1(v:Zv)(w:Zw):(ReflectliteType.typeOf #[.iface 151 v]).run prog w=.ok (.iface 236 (Za #[Zp (Zo ⟨5,151,Zn⟩)])) w:=by kernel_rfl
theorem C0(v:Zv)(w:Zw):(ReflectliteType.typeOf #[.iface 153 v]).run prog w=.ok (.iface 236 (Za #[Zp (Zo ⟨5,153,Zn⟩)])) w:=by kernel_rfl
theorem CW (w:Zw):(ReflectliteType.relation "AssignableTo" ReflectliteType.assignableTo #[Za #[Zp (Zo ⟨5,151,Zn⟩)],.iface 236 (Za #[Zp (Zo ⟨5,153,Zn⟩)])]).run prog w=.ok (Zb false) w:=by kernel_rfl
theorem CV (w:Zw):(ReflectliteType.relation "AssignableTo" ReflectliteType.assignableTo #[Za #[Zp (Zo ⟨5,153,Zn⟩)],.iface 236 (Za #[Zp (Zo ⟨5,153,Zn⟩)])]).run prog w=.ok (Zb true) w:=by kernel_rfl
theorem Ap (c p:Int) (w:Zw):(ReflectliteValue.unpack (.iface 153 (Za #[Zi Zk c,Zi Zk p]))).run prog w
  = .ok (Za #[Zp (Zo ⟨5,153,Zn⟩),Zp (Zo ⟨w.heap.size,0,Zn⟩),Zi .u64 153]) (w.alloc (Zc #[Zi Zk c,Zi Zk p] 153)):=by kernel_rfl
theorem CY(w:Zw):(Rtype.elem? 155).run prog w=.ok (Zo 153) w:=by kernel_rfl
theorem JH(p:Addr)(w:Zw):(ReflectliteValue.mk 153 p ReflectliteValue.flagAddr).run prog w=.ok (Za #[Zp (Zo ⟨5,153,Zn⟩),Zp (Zo p),Zi .u64 409]) w:=by kernel_rfl
theorem FC (a p:Addr) (W:Zw) (b:W.cell? a=Zo (Zp (Zo p))) :
  (ReflectliteValue.method (ReflectliteValue.valueError "reflectlite.Value.Elem" 0) ReflectliteValue.elem #[Za #[Zp (Zo ⟨5,155,Zn⟩),Zp (Zo a),Zi .u64 150]]).run prog W
   = .ok (Za #[Zp (Zo ⟨5,153,Zn⟩),Zp (Zo p),Zi .u64 409]) W:=by rw[Km];simp only[Sem.run_bind,yu,Result.andThen];simp[ReflectliteValue.elem,loadVar,isAgg,underlying,underlying155,b,Result.andThen,CY,JH]
theorem CZ(a:Addr)(w:Zw):(ReflectliteValue.parts (Za #[Zp (Zo ⟨5,153,Zn⟩),Zp (Zo a),Zi .u64 409])).run prog w=.ok (Zo (153,a,409)) w:=by kernel_rfl
theorem FE(a:Addr)(w:Zw):(ReflectliteValue.parts (Za #[Zp (Zo ⟨5,153,Zn⟩),Zp (Zo a),Zi .u64 153])).run prog w=.ok (Zo (153,a,153)) w:=by kernel_rfl
theorem CX(w:Zw):(Rtype.directlyAssignable 153 153).run prog w=.ok true w:=by kernel_rfl
theorem I6 (N B:Nat) (c p:Int) (o:Array Zv) (W:Zw) (b:W.heap[B]?=Zo (Zc #[Zi Zk c,Zi Zk p] 153 (0,0))) (f:W.heap[N]?=Zo (Zc o 153 (0,0))) (e:o.size=2) :
  (ReflectliteValue.set #[Za #[Zp (Zo ⟨5,153,Zn⟩),Zp (Zo ⟨N,0,Zn⟩),Zi .u64 409],Za #[Zp (Zo ⟨5,153,Zn⟩),Zp (Zo ⟨B,0,Zn⟩),Zi .u64 153]]).run prog W
   = .ok (Zu #[]) (W.setRow N #[Zi Zk c,Zi Zk p]):=by have d:=run_loadVar_row (P:=prog) W B 153 153 #[Zi Zk c,Zi Zk p] (0,0) _ b underlying153 rfl zK;have a:=run_storeVar_row (P:=prog) W N 153 153 o #[Zi Zk c,Zi Zk p] f zK (by rw[e];rfl) zK;rw[Kt];simp only[Sem.run_bind,CZ,FE,Result.andThen];simp[ReflectliteValue.flagAddr,d,Result.andThen,CX,a]
end Go.Proofs.YtcfojmaccikgeaaGreatDoor
namespace Go.Proofs.YtcfojmaccikgeaaGreatDoor
set_option maxRecDepth 100000
set_option maxHeartbeats 16000000
open Go.RowKit Go.Extern.Stop Go.Stop Go.Extern Go.Proofs.Tryz
theorem zO(op:Int)(v:Zv)(a:∃t x,v=.iface t x)(w:Zw):Calls prog 289 #[Za #[Zi Zk op,v]] w fun e b=>e=Zr v/\b=w.alloc (Zc #[Zi Zk op,v] 151):=by obtain⟨t,x,rfl⟩:=a;go_in;go_wp2;go_ret;exact⟨rfl,rfl⟩
theorem I5(v:Zv)(a:TypeId)(w:Zw):(Instr.typeAssert (.iface 151 v) a 241 true).run prog w=.ok (Zu #[.nilIface,Zb false]) w:=run_typeAssert_lacksB underlying241 zK zK v a w
theorem C2(v:Zv)(a:TypeId)(w:Zw):(Instr.typeAssert (.iface 151 v) a 244 true).run prog w=.ok (Zu #[.iface 151 v,Zb true]) w:=run_typeAssert_hasB underlying244 zK v a w
theorem Iq(op:Int)(v:Zv):SizeOf.sizeOf v<SizeOf.sizeOf (Value.iface 151 (Za #[Zi Zk op,v])):=by simp;omega
theorem CL (d:Nat) (v:Zv) (c:Int) (p N:Nat) (o:Array Zv) (w:Zw) (K:lh d v c p) (F:w.heap[N]?=Zo (Zc o 153 (0,0))) (ho:o.size=2) (m:Nat) (j:w.cell? ⟨m,0,Zn⟩=Zo (Zp (Zo ⟨N,0,Zn⟩))) :
  Calls prog 137 #[v,.iface 155 (Zp (Zo ⟨N,0,Zn⟩)),Za #[Zp (Zo ⟨5,155,Zn⟩),Zp (Zo ⟨m,0,Zn⟩),Zi .u64 150],.iface 236 (Za #[Zp (Zo ⟨5,153,Zn⟩)])] w fun T x=>T=Zr (Zb true)/\∃W,Bw w W/\x=W.setRow N #[Zi Zk c,Zi Zk (p:Int)]:=by
 have Z:=@run_callFunc_extern prog 134 _ (fun args=>ReflectliteValue.unpack (args.getD 0 (Zu #[]))) func134 zK zK zK zK;have U:=@run_callFunc_extern prog 171 _ ReflectliteType.typeOf func171 zK zK zK zK;have Y:=@run_callFunc_extern prog 296 _ (ReflectliteType.relation "AssignableTo" ReflectliteType.assignableTo) func296 zK zK zK zK;have C:=@run_callFunc_extern prog 172 _ (ReflectliteValue.method (ReflectliteValue.valueError "reflectlite.Value.Elem" 0) ReflectliteValue.elem) func172 zK zK zK zK;have D:=@run_callFunc_extern prog 173 _ ReflectliteValue.set func173 zK zK zK zK;have tM:=C1;have tK:=C0;have mA:=nZ;have mU:=s6;have Q:=CW;have P:=CV;have nA:=I5;have hU:=C2;have vK:=Ap c p;have G:=(Array.getElem?_eq_some_iff.1 F).1;have J:=d8 j;obtain⟨n,a⟩:∃W,W=w.alloc (Zc #[Zp (Zo ⟨5,155,Zn⟩),Zp (Zo ⟨m,0,Zn⟩),Zi .u64 150] 195):=⟨_,rfl⟩;have q:Bw w n:=by rw[a];exact gx _ _
 have ab:w.heap.size+1<=n.heap.size:=by rw[a];simp
 have r:n.heap[w.heap.size]?=Zo (Zc #[Zp (Zo ⟨5,155,Zn⟩),Zp (Zo ⟨m,0,Zn⟩),Zi .u64 150] 195 (0,0)):=by rw[a];exact heap_alloc_new _ _
 have M:Hid (∀V,Bw n V->Bw w V/\V.heap[N]?=Zo (Zc o 153 (0,0))/\V.cell? ⟨m,0,Zn⟩=Zo (Zp (Zo ⟨N,0,Zn⟩))/\V.heap[w.heap.size]?=Zo (Zc #[Zp (Zo ⟨5,155,Zn⟩),Zp (Zo ⟨m,0,Zn⟩),Zi .u64 150] 195 (0,0))):=fun V O=>by have H:=q.trans (O.mono q.size);exact⟨H,(H.block N G).trans F,kC H j J,(O.block _ om).trans r⟩
 have L:=a7 K;obtain⟨t0,x0,rfl⟩:=K.iface;clear K r F j;go_in;go_wp2_with fail;rw[<- a];clear a;go_loopw [0] (fun u wr=>∃d,lh d u c p/\Bw n wr) (fun u _=>SizeOf.sizeOf u);case atStart=>exact⟨d,L.out,Below.refl _ _⟩
 case round=>
  obtain⟨R,E,b⟩:=hrel;obtain⟨I,g,k,l⟩:=M.out wr b;obtain⟨x0,x1,x2⟩:=rJ l;have aa:=b.size;have i:u0=mB c p∨∃op s d,u0=.iface 151 (Za #[Zi Zk op,s])/\lh d s c p:=by
   cases R with
   | zero=>exact .inl E
   | succ d=>
    rcases E with h|⟨op,s,h,X⟩;·exact .inl h
    ·exact .inr ⟨op,s,d,h,X⟩
  clear E;rcases i with rfl|⟨op,s,S,rfl,f⟩;·unfold mB;have st:=I6 N wr.heap.size c p o (wr.alloc (Zc #[Zi Zk c,Zi Zk (p:Int)] 153)) (heap_alloc_new _ _) ((Below.heap_alloc _ _ _ om).trans g) ho;have el:=FC ⟨m,0,Zn⟩ ⟨N,0,Zn⟩ wr k;have z:Hid (Bw w (wr.alloc (Zc #[Zi Zk c,Zi Zk (p:Int)] 153))):=I.alloc om _;clear g k l M L tM Q nA hU mU;go_wp2;go_ret;exact⟨rfl,_,z.out,rfl⟩
  ·obtain⟨t,y,rfl⟩:=f.iface;have A:=a7 f;have B:Hid (∀V,Calls prog 289 #[Za #[Zi Zk op,.iface t y]] V fun e x=>e=Zr (.iface t y)/\x=V.alloc (Zc #[Zi Zk op,.iface t y] 151)):=fun V=>zO op _ ⟨_,_,rfl⟩ V;have z:Hid (Bw n (wr.alloc (Zc #[Zi Zk op,.iface t y] 151))):=b.alloc b.size _;clear f g k l tK P vK C D Z;go_wp2_with fail;refine (B.out _).mono ?_;rintro e x ⟨rfl,rfl⟩;go_wp2;go_roundw;case rel=>exact⟨S,A.out,z.out⟩
   case measure=>exact Iq op _
theorem G1 (d:Nat) (v:Zv) (c:Int) (p N:Nat) (o:Array Zv) (w:Zw) (n:kF w) (r:lh d v c p) (k:w.heap[N]?=Zo (Zc o 153 (0,0))) (C:o.size=2) :
  Calls prog 87 #[v,.iface 155 (Zp (Zo ⟨N,0,Zn⟩))] w fun y x=>y=Zr (Zb true)/\∃W,Bw w W/\x=W.setRow N #[Zi Zk c,Zi Zk (p:Int)]:=by
 have G:=@run_callFunc_extern prog 134 _ (fun args=>ReflectliteValue.unpack (args.getD 0 (Zu #[]))) func134 zK zK zK zK;have H:=@run_callFunc_extern prog 135 _ (ReflectliteValue.methodAny (ReflectliteValue.valueError "reflectlite.Value.Type" 0) (fun t _ _ _=>ReflectliteType.toType t)) func135 zK zK zK zK;have I:=@run_callFunc_extern prog 136 _ (ReflectliteValue.method (ReflectliteValue.valueError "reflectlite.Value.IsNil" 0) ReflectliteValue.isNil) func136 zK zK zK zK;have z:=@run_callFunc_extern prog 282 _ (ReflectliteType.abiMethod fun t=>do pure (Zi .u8 (<- Rtype.kind t))) func282 zK zK zK zK;have A:=@run_callFunc_extern prog 298 _ (ReflectliteType.method ReflectliteType.elem) func298 zK zK zK zK;have B:=@run_callFunc_extern prog 299 _ (ReflectliteType.relation "Implements" ReflectliteType.implements_) func299 zK zK zK zK;have E:=Aq;have F:=Hl;have P:=xm;have M:=xj;have O:=pC;have L:=Hk;have K:=Hj;have D:=Hi;have J:=uI;obtain⟨t0,Q,rfl⟩:=r.iface;obtain⟨g,a⟩:∃W,W=(w.alloc (Zc #[Zp (Zo ⟨N,0,Zn⟩)] 155)).alloc (Zc #[Zp (Zo ⟨5,155,Zn⟩),Zp (Zo ⟨w.heap.size,0,Zn⟩),Zi .u64 150] 195):=⟨_,rfl⟩;have b:Bw w g:=by rw[a];exact (gx _ _).alloc zS _
 have l:=(Array.getElem?_eq_some_iff.1 k).1;have h:=(b.block N l).trans k;have f:g.cell? ⟨w.heap.size,0,Zn⟩=Zo (Zp (Zo ⟨N,0,Zn⟩)):=by rw[a];simp[go_sem]
 have u:=FD ⟨w.heap.size,0,Zn⟩ ⟨N,0,Zn⟩ g f;have q:0<w.heap.size:=d8 n;have j:g.cell? ⟨0,0,Zn⟩=Zo (.iface 236 (Za #[Zp (Zo ⟨5,84,Zn⟩)])):=kC b n q;have s:=Lib.hid (CL d _ c p N o g r h C w.heap.size f);rw[a]at u j;clear r k n f h;go_in;go_wp2_with fail;rw[<- a];refine s.out.mono ?_;rintro e x ⟨rfl,W,i,rfl⟩;have m:=b.trans (i.mono b.size);clear s i b a u j;go_wp2;go_ret;exact⟨rfl,W,m,rfl⟩
end Go.Proofs.YtcfojmaccikgeaaGreatDoor
namespace Go.Proofs.YtcfojmaccikgeaaGreatDoor
set_option maxRecDepth 100000
set_option maxHeartbeats 16000000
open Go.RowKit Go.Extern.Stop Go.Stop Go.Extern Go.Proofs.Tryz
theorem G2(x:Zv)(w:Zw):Calls prog 87 #[.nilIface,x] w fun a b=>a=Zr (Zb false)/\b=w:=by go_in;go_wp2;go_ret;exact⟨rfl,rfl⟩
def vZ(c p:Int)(w:Zw)(e:Ending)(w':Zw):Prop:=e=Zr (Za #[Zi Zk c,Zi Zk p])/\Bw w w'
theorem yt(w:Zw):Calls prog 42 #[.nilIface] w (vZ 0 0 w):=by
 obtain⟨W,a⟩:=ii ((w.alloc (Zc #[Zi Zk 0,Zi Zk 0] 33)).alloc (Zc #[Zi Zk 0,Zi Zk 0] 153));have c:Bw w W:=by rw[a];exact (gx _ _).alloc zS _
 have d:W.heap[w.heap.size]?=Zo (Zc #[Zi Zk 0,Zi Zk 0] 33 (0,0)):=by rw[a,Below.heap_alloc _ _ _ zS];exact heap_alloc_new _ _
 obtain⟨⟨g,h⟩,i,j⟩:=gg d;have b:Hid (Calls prog 87 #[.nilIface,.iface 155 (Zp (Zo ⟨w.heap.size+1,0,Zn⟩))] W _):=G2 _ W;have f:Hid (vZ 0 0 w (Zr (Za #[Zi Zk 0,Zi Zk 0])) ((W.setCell ⟨w.heap.size,0,Zn⟩ (Zi Zk 0)).setCell ⟨w.heap.size,1,Zn⟩ (Zi Zk 0))):=⟨rfl,iF c (Nat.le_refl _)⟩;clear d c;go_in;go_wp2_with fail;rw[<- a];clear a;refine b.out.mono ?_;rintro e k ⟨rfl,rfl⟩;clear b;go_wp2_with fail;refine bodyPost_ret (v:=Za #[Zi Zk 0,Zi Zk 0]) (by simp[results,results42,go_sem,g,h]) rfl ?_;exact f.out
theorem yr(d:Nat)(v:Zv)(c:Int)(p:Nat)(w:Zw)(s:kF w)(t:lh d v c p):Calls prog 42 #[v] w (vZ c p w):=by
 obtain⟨t0,D,rfl⟩:=t.iface;obtain⟨W,j⟩:=ii ((w.alloc (Zc #[Zi Zk 0,Zi Zk 0] 33)).alloc (Zc #[Zi Zk 0,Zi Zk 0] 153));have l:Bw w W:=by rw[j];exact (gx _ _).alloc zS _
 have G:w.heap.size+2<=W.heap.size:=by rw[j];simp
 have x:W.heap[w.heap.size]?=Zo (Zc #[Zi Zk 0,Zi Zk 0] 33 (0,0)):=by rw[j,Below.heap_alloc _ _ _ zS];exact heap_alloc_new _ _
 have i:W.heap[w.heap.size+1]?=Zo (Zc #[Zi Zk 0,Zi Zk 0] 153 (0,0)):=by have:=heap_alloc_new (w.alloc (Zc #[Zi Zk 0,Zi Zk 0] 33)) (Zc #[Zi Zk 0,Zi Zk 0] 153);rw[j];simpa using this
 have r:kF W:=kC l s (d8 s);have u:Hid (Calls prog 87 #[.iface t0 D,.iface 155 (Zp (Zo ⟨w.heap.size+1,0,Zn⟩))] W _):=G1 d _ c p (w.heap.size+1) _ W r t i rfl;clear t s r;go_in;go_wp2_with fail;rw[<- j];clear j;refine u.out.mono ?_;rintro e J ⟨rfl,X,a,rfl⟩;have A:=a.size;obtain⟨Y,g⟩:=ii (X.setRow (w.heap.size+1) #[Zi Zk c,Zi Zk (p:Int)]);have f:∀b,b≠w.heap.size+1->Y.heap[b]?=X.heap[b]?:=fun b l=>by rw[g];show (X.heap.modify _ _)[b]?=_;rw[Array.getElem?_modify,if_neg (fun h=>l h.symm)]
 have m:=(a.block (w.heap.size+1) om).trans i;have o:Y.heap[w.heap.size+1]?=Zo (Zc #[Zi Zk c,Zi Zk (p:Int)] 153 (0,0)):=by rw[g];simp[World.setRow,Array.getElem?_modify,m]
 have n:=(f w.heap.size om).trans ((a.block w.heap.size om).trans x);have q:Bw w Y:=by have h:=l.trans (a.mono l.size);exact⟨by rw[g];exact h.os,by rw[g];exact h.tape,by rw[g];exact h.output,by rw[g];simpa [World.setRow] using h.size,fun k z=>(f k om).trans (h.block k z)⟩
 rw[<- g];obtain⟨⟨B,C⟩,E,F⟩:=gg n;obtain⟨⟨H,I⟩,-⟩:=gg o;have y:Hid (vZ c p w (Zr (Za #[Zi Zk c,Zi Zk (p:Int)])) ((Y.setCell ⟨w.heap.size,0,Zn⟩ (Zi Zk c)).setCell ⟨w.heap.size,1,Zn⟩ (Zi Zk (p:Int)))):=⟨rfl,iF q (Nat.le_refl _)⟩;clear u x i f m o n q g l a;go_wp2_with fail;refine bodyPost_ret (v:=Za #[Zi Zk c,Zi Zk (p:Int)]) (by simp[results,results42,go_sem,B,C]) rfl ?_;exact y.out
end Go.Proofs.YtcfojmaccikgeaaGreatDoor
