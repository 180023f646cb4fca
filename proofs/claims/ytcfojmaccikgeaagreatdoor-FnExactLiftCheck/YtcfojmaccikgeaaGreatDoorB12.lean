import Derived.Shelf.Small.Strs
import Derived.Shelf.Strconv.Itoa3
import Derived.Shelf.Strconv.Clone
import Derived.Shelf.Strconv.AppendIntPublic10
import Derived.Shelf.Strings.Prefix
import Derived.Test.YtcfojmaccikgeaaGreatDoorB6
import Derived.RegionDies
open Go.Value renaming string→Zt,pointer→Zp
open Go.Ending renaming returned→Zr
open Option renaming none→Zn,some→Zo
open Go renaming World→Zw
namespace Go.Proofs
open Go.Shelf
def Tryz.lays137_ren:Go.Shelf.Ren:=⟨fun|137=>263|217=>266|266=>267|n=>n,fun|9=>9|5=>5|3=>3|n=>n,fun|n=>n⟩
theorem Tryz.lays137:Go.Proofs.Lays.n137 prog Tryz.lays137_ren:={
 mixed:=by kernel_rfl
 f137:=func263.trans (congrArg Zo (by kernel_rfl))
 f217:=func266.trans (congrArg Zo (by kernel_rfl))
 f266:=func267.trans (congrArg Zo (by kernel_rfl))
 t3:=underlying3
 a3:=isAgg3
 z3:=sizeOf3
 v3:=zeroValue3
 t5:=underlying5
 a5:=isAgg5
 z5:=sizeOf5
 v5:=zeroValue5
 t9:=underlying9
 a9:=isAgg9
 z9:=sizeOf9
 v9:=zeroValue9 }
open Go.RowKit in
theorem Tryz.strings_IndexByte (s:ByteArray) (c:Int) (w:Zw) :
  Calls prog 263 #[Zt s,.int .u8 c] w fun e a=>e=Zr (.int .i64 (Lib.indexByte s.data.toList c.toNat.toUInt8))/\a=w:=Any.strings_IndexByte Tryz.lays137 s c w
def Tryz.laysM246_ren:Go.Shelf.Ren:=⟨fun|246=>236|283=>248|284=>249|285=>250|286=>251|129=>258|317=>257|318=>259|319=>260|320=>261|337=>264|338=>265|n=>n,fun|2=>2|3=>3|9=>9|4=>4|171=>319|0=>0|53=>320|37=>156|5=>5|173=>323|212=>330|51=>331|20=>20|213=>332|46=>290|232=>336|233=>337|n=>n,fun|17=>1|18=>2|19=>3|n=>n⟩
def Tryz.laysM243_ren:Go.Shelf.Ren:=⟨fun|243=>213|246=>236|283=>248|284=>249|285=>250|286=>251|129=>258|317=>257|318=>259|319=>260|320=>261|337=>264|338=>265|n=>n,fun|3=>3|9=>9|2=>2|4=>4|171=>319|0=>0|53=>320|37=>156|5=>5|173=>323|212=>330|51=>331|20=>20|213=>332|46=>290|232=>336|233=>337|n=>n,fun|17=>1|18=>2|19=>3|n=>n⟩
def Tryz.laysM171_ren:Go.Shelf.Ren:=⟨fun|171=>188|243=>213|246=>236|283=>248|284=>249|285=>250|286=>251|129=>258|317=>257|318=>259|319=>260|320=>261|337=>264|338=>265|n=>n,fun|3=>3|9=>9|2=>2|4=>4|171=>319|0=>0|53=>320|37=>156|5=>5|173=>323|212=>330|51=>331|20=>20|213=>332|46=>290|232=>336|233=>337|n=>n,fun|17=>1|18=>2|19=>3|n=>n⟩
def Tryz.lays171_ren:Go.Shelf.Ren:=⟨fun|171=>188|243=>213|246=>236|283=>248|284=>249|285=>250|286=>251|129=>258|317=>257|318=>259|319=>260|320=>261|337=>264|338=>265|n=>n,fun|3=>3|9=>9|2=>2|4=>4|171=>319|0=>0|53=>320|37=>156|5=>5|173=>323|212=>330|51=>331|20=>20|213=>332|46=>290|232=>336|233=>337|n=>n,fun|17=>1|18=>2|19=>3|n=>n⟩
theorem Tryz.lays171:Go.Proofs.Lays.n171 prog Tryz.lays171_ren:={
 mixed:=by kernel_rfl
 f129:=func258.trans (congrArg Zo (by kernel_rfl))
 f171:=func188.trans (congrArg Zo (by kernel_rfl))
 f243:=func213.trans (congrArg Zo (by kernel_rfl))
 f246:=func236.trans (congrArg Zo (by kernel_rfl))
 f283:=func248.trans (congrArg Zo (by kernel_rfl))
 f284:=func249.trans (congrArg Zo (by kernel_rfl))
 f285:=func250.trans (congrArg Zo (by kernel_rfl))
 f286:=func251.trans (congrArg Zo (by kernel_rfl))
 f317:=func257.trans (congrArg Zo (by kernel_rfl))
 f318:=func259.trans (congrArg Zo (by kernel_rfl))
 f319:=func260.trans (congrArg Zo (by kernel_rfl))
 f320:=func261.trans (congrArg Zo (by kernel_rfl))
 f337:=func264.trans (congrArg Zo (by kernel_rfl))
 f338:=func265.trans (congrArg Zo (by kernel_rfl))
 t0:=underlying0
 a0:=isAgg0
 z0:=sizeOf0
 v0:=zeroValue0
 t2:=underlying2
 a2:=isAgg2
 z2:=sizeOf2
 v2:=zeroValue2
 t3:=underlying3
 a3:=isAgg3
 z3:=sizeOf3
 v3:=zeroValue3
 t4:=underlying4
 a4:=isAgg4
 z4:=sizeOf4
 v4:=zeroValue4
 t5:=underlying5
 a5:=isAgg5
 z5:=sizeOf5
 v5:=zeroValue5
 t9:=underlying9
 a9:=isAgg9
 z9:=sizeOf9
 v9:=zeroValue9
 t20:=underlying20
 a20:=isAgg20
 z20:=sizeOf20
 v20:=zeroValue20
 t37:=underlying156
 a37:=isAgg156
 z37:=sizeOf156
 v37:=zeroValue156
 t46:=underlying290
 a46:=isAgg290
 z46:=sizeOf290
 v46:=zeroValue290
 t51:=underlying331
 a51:=isAgg331
 z51:=sizeOf331
 v51:=zeroValue331
 t53:=underlying320
 a53:=isAgg320
 z53:=sizeOf320
 v53:=zeroValue320
 t171:=underlying319
 a171:=isAgg319
 z171:=sizeOf319
 v171:=zeroValue319
 t173:=underlying323
 a173:=isAgg323
 z173:=sizeOf323
 v173:=zeroValue323
 t212:=underlying330
 a212:=isAgg330
 z212:=sizeOf330
 v212:=zeroValue330
 t213:=underlying332
 a213:=isAgg332
 z213:=sizeOf332
 t232:=underlying336
 a232:=isAgg336
 z232:=sizeOf336
 v232:=zeroValue336
 t233:=underlying337
 a233:=isAgg337
 z233:=sizeOf337
 v233:=zeroValue337
 g17:=by kernel_rfl
 g18:=by kernel_rfl
 g19:=by kernel_rfl }
open Go.RowKit Go.Sort Go.Lib in
theorem Tryz.strconv_Itoa_small (i:Nat) (hi:i<100) (w:Zw) :
  Calls prog 188 #[.int .i64 i] w fun e a=>e=Zr (Zt ⟨(Lib.decDigits i).toArray⟩)/\a=w:=Any.strconv_Itoa_small Tryz.lays171 i hi w
def Tryz.laysM316_ren:Go.Shelf.Ren:=⟨fun|316=>174|n=>n,fun|9=>9|3=>3|4=>4|37=>156|0=>0|127=>273|5=>5|n=>n,fun|n=>n⟩
theorem Tryz.laysM316:Go.Proofs.LaysM.n316 prog Tryz.laysM316_ren:={
 mixed:=by kernel_rfl
 f316:=func174.trans (congrArg Zo (by kernel_rfl))
 t0:=underlying0
 a0:=isAgg0
 z0:=sizeOf0
 v0:=zeroValue0
 t3:=underlying3
 a3:=isAgg3
 z3:=sizeOf3
 v3:=zeroValue3
 t4:=underlying4
 a4:=isAgg4
 z4:=sizeOf4
 v4:=zeroValue4
 t9:=underlying9
 a9:=isAgg9
 z9:=sizeOf9
 v9:=zeroValue9
 t37:=underlying156
 a37:=isAgg156
 z37:=sizeOf156
 v37:=zeroValue156
 t127:=underlying273
 a127:=isAgg273
 z127:=sizeOf273
 v127:=zeroValue273
 t5:=underlying5
 a5:=isAgg5
 z5:=sizeOf5
 v5:=zeroValue5
 i0:=by kernel_rfl
 i3:=by kernel_rfl
 i4:=by kernel_rfl
 i5:=by kernel_rfl
 i9:=by kernel_rfl
 i37:=by kernel_rfl
 i127:=by kernel_rfl }
open Go.RowKit in
theorem Tryz.stringslite_Clone (s:ByteArray) (w:Zw) (a:s.size<=281474976710656) :
  Calls prog 174 #[Zt s] w fun e b=>e=Zr (Zt s)/\Below w.heap.size w b:=Any.stringslite_Clone Tryz.laysM316 s w a
def Tryz.laysM176_ren:Go.Shelf.Ren:=⟨fun|176=>231|249=>247|288=>256|283=>248|284=>249|285=>250|286=>251|129=>258|317=>257|318=>259|319=>260|320=>261|337=>264|338=>265|n=>n,fun|37=>156|2=>2|3=>3|53=>320|4=>4|9=>9|171=>319|0=>0|173=>323|212=>330|51=>331|5=>5|20=>20|213=>332|46=>290|232=>336|233=>337|n=>n,fun|17=>1|18=>2|19=>3|n=>n⟩
theorem Tryz.laysM176:Go.Proofs.LaysM.n176 prog Tryz.laysM176_ren:={
 mixed:=by kernel_rfl
 f129:=func258.trans (congrArg Zo (by kernel_rfl))
 f176:=func231.trans (congrArg Zo (by kernel_rfl))
 f249:=func247.trans (congrArg Zo (by kernel_rfl))
 f283:=func248.trans (congrArg Zo (by kernel_rfl))
 f284:=func249.trans (congrArg Zo (by kernel_rfl))
 f285:=func250.trans (congrArg Zo (by kernel_rfl))
 f286:=func251.trans (congrArg Zo (by kernel_rfl))
 f288:=func256.trans (congrArg Zo (by kernel_rfl))
 f317:=func257.trans (congrArg Zo (by kernel_rfl))
 f318:=func259.trans (congrArg Zo (by kernel_rfl))
 f319:=func260.trans (congrArg Zo (by kernel_rfl))
 f320:=func261.trans (congrArg Zo (by kernel_rfl))
 f337:=func264.trans (congrArg Zo (by kernel_rfl))
 f338:=func265.trans (congrArg Zo (by kernel_rfl))
 t0:=underlying0
 a0:=isAgg0
 z0:=sizeOf0
 v0:=zeroValue0
 t2:=underlying2
 a2:=isAgg2
 z2:=sizeOf2
 v2:=zeroValue2
 t3:=underlying3
 a3:=isAgg3
 z3:=sizeOf3
 v3:=zeroValue3
 t4:=underlying4
 a4:=isAgg4
 z4:=sizeOf4
 v4:=zeroValue4
 t5:=underlying5
 a5:=isAgg5
 z5:=sizeOf5
 v5:=zeroValue5
 t9:=underlying9
 a9:=isAgg9
 z9:=sizeOf9
 v9:=zeroValue9
 t20:=underlying20
 a20:=isAgg20
 z20:=sizeOf20
 v20:=zeroValue20
 t37:=underlying156
 a37:=isAgg156
 z37:=sizeOf156
 v37:=zeroValue156
 t46:=underlying290
 a46:=isAgg290
 z46:=sizeOf290
 v46:=zeroValue290
 t51:=underlying331
 a51:=isAgg331
 z51:=sizeOf331
 v51:=zeroValue331
 t53:=underlying320
 a53:=isAgg320
 z53:=sizeOf320
 v53:=zeroValue320
 t171:=underlying319
 a171:=isAgg319
 z171:=sizeOf319
 v171:=zeroValue319
 t173:=underlying323
 a173:=isAgg323
 z173:=sizeOf323
 v173:=zeroValue323
 t212:=underlying330
 a212:=isAgg330
 z212:=sizeOf330
 v212:=zeroValue330
 t213:=underlying332
 a213:=isAgg332
 z213:=sizeOf332
 t232:=underlying336
 a232:=isAgg336
 z232:=sizeOf336
 v232:=zeroValue336
 t233:=underlying337
 a233:=isAgg337
 z233:=sizeOf337
 v233:=zeroValue337
 g17:=by kernel_rfl
 g18:=by kernel_rfl
 g19:=by kernel_rfl
 i0:=by kernel_rfl
 i2:=by kernel_rfl
 i3:=by kernel_rfl
 i4:=by kernel_rfl
 i5:=by kernel_rfl
 i9:=by kernel_rfl
 i20:=by kernel_rfl
 i37:=by kernel_rfl
 i46:=by kernel_rfl
 i51:=by kernel_rfl
 i53:=by kernel_rfl
 i171:=by kernel_rfl
 i173:=by kernel_rfl
 i212:=by kernel_rfl
 i232:=by kernel_rfl
 i233:=by kernel_rfl
 m17:=by kernel_rfl
 m18:=by kernel_rfl
 m19:=by kernel_rfl }
open Go.RowKit Go.Sort Go.Lib in
theorem Tryz.strconv_AppendInt_10 (B n:Nat) (i:Int) (j : -9223372036854775808<=i) (k:i<=9223372036854775807) (f:Value) (xs:List Value) (w:Zw) (b:w.ownsRow B 5 1 f n xs) (d:B<=w.heap.size) (a:n+21<=140737488355328) (c:Lib.TabBelow prog B w "internal/strconv.uint64pow10" .u64 Lib.pow10Tab) :
  Calls prog 231 #[f,.int .i64 i,.int .i64 10] w fun e g=>∃h,e=Zr h/\g.ownsRow B 5 1 h (n+(Lib.itoa i).length) (xs++Lib.byteCells (Lib.itoa i))/\Below B w g/\Lib.OthersKept 5 Zn w g:=Any.strconv_AppendInt_10 Tryz.laysM176 B n i j k f xs w b d a c
def Tryz.lays206_ren:Go.Shelf.Ren:=⟨fun|206=>262|n=>n,fun|9=>9|4=>4|3=>3|n=>n,fun|n=>n⟩
def Tryz.lays99_ren:Go.Shelf.Ren:=⟨fun|99=>252|206=>262|n=>n,fun|9=>9|4=>4|3=>3|n=>n,fun|n=>n⟩
theorem Tryz.lays99:Go.Proofs.Lays.n99 prog Tryz.lays99_ren:={
 mixed:=by kernel_rfl
 f99:=func252.trans (congrArg Zo (by kernel_rfl))
 f206:=func262.trans (congrArg Zo (by kernel_rfl))
 t3:=underlying3
 a3:=isAgg3
 z3:=sizeOf3
 v3:=zeroValue3
 t4:=underlying4
 a4:=isAgg4
 z4:=sizeOf4
 v4:=zeroValue4
 t9:=underlying9
 a9:=isAgg9
 z9:=sizeOf9
 v9:=zeroValue9 }
open Go.RowKit Go.Lib in
theorem Tryz.strings_HasPrefix (s p:ByteArray) (w:Zw) :
  Calls prog 252 #[Zt s,Zt p] w fun e a=>e=Zr (.bool (Lib.hasPrefix s.data.toList p.data.toList))/\a=w:=Any.strings_HasPrefix Tryz.lays99 s p w
end Go.Proofs
namespace Go.Proofs.YtcfojmaccikgeaaGreatDoor
open Go.RowKit Go.Proofs.Tryz
set_option maxRecDepth 100000
set_option maxHeartbeats 16000000
variable {R q i:Nat} {w a b c:Zw} {s:ZN} {x r:List UInt8}
structure Sc(w:Zw)(R:Nat)(s:ZN)(i:Nat):Prop where
 c0:w.cell? ⟨R,0,Zn⟩=Zo (Zt s)
 c1:w.cell? ⟨R,1,Zn⟩=Zo (.int .i64 (i:Int))
 f1:w.frozen? ⟨R,1,Zn⟩=false
structure gB(R:Nat)(w w':Zw)(q:Nat):Prop where
 near:b8 R w w'
 cells:∀o,o≠1->w'.cell? ⟨R,o,Zn⟩=w.cell? ⟨R,o,Zn⟩
 at1:w'.cell? ⟨R,1,Zn⟩=Zo (.int .i64 (q:Int))
 fz:∀o,w'.frozen? ⟨R,o,Zn⟩=w.frozen? ⟨R,o,Zn⟩
theorem gB.sc{w':Zw}(h:gB R w w' q)(k:Sc w R s i):Sc w' R s q:=⟨(h.cells 0 zC).trans k.c0,h.at1,(h.fz 1).trans k.f1⟩
theorem gB.trans{p:Nat}(h:gB R a b p)(k:gB R b c q):gB R a c q:=
 ⟨h.near.trans k.near,fun o d=>(k.cells o d).trans (h.cells o d),k.at1,fun o=>(k.fz o).trans (h.fz o)⟩
theorem gB.refl(k:Sc w R s i):gB R w w i:=⟨b8.refl _ _,fun _ _=>rfl,k.c1,fun _=>rfl⟩
theorem gB.drewN(h:gB R a w q)(n:Nat):gB R a (w.drewN n) q:=⟨⟨h.near.os,h.near.tape,h.near.output,h.near.size,h.near.block⟩,h.cells,h.at1,h.fz⟩
theorem Sc.lt(h:Sc w R s i):R<w.heap.size:=
 Classical.byContradiction fun b=>by
  have:w.heap[R]?=Zn:=Array.getElem?_eq_none om
  have a:=h.c0
  simp[World.cell?,this]at a
theorem gB.set(h:Sc w R s i)(q:Nat):gB R w (w.setCell ⟨R,1,Zn⟩ (.int .i64 (q:Int))) q:=
 ⟨b8.set R 1 w _,fun o a=>World.cell?_setCell_other _ _ _ _ (fun e=>a (by have:=congrArg Addr.off e;simpa using this.symm)),World.cell?_setCell_same _ _ _ h.c1,fun o=>World.frozen?_setCell _ _ _ _⟩
theorem gB.below(h:gB R a b q)(d:Bw b c)(e:R<b.heap.size):gB R a c q:=
 ⟨h.near.trans (b8.of_below d),fun o f=>kC d (h.cells o f) e,kC d h.at1 e,fun o=>(d.frozen (p:=⟨R,o,Zn⟩) e).trans (h.fz o)⟩
theorem rp(s:ZN)(i:Nat):(s.extract i s.size).data.toList=s.data.toList.drop i:=by simp[ByteArray.data_extract,List.extract_eq_take_drop];rw[List.take_of_length_le];simp
theorem CT{l:List UInt8}(h:gy x l=Zo r):r=l.drop x.length:=by
 unfold gy at h;split at h;·cases h;rfl
 ·cases h
theorem Fv(h:gy x (s.data.toList.drop i)=Zo r):(i<=s.size->i+x.length<=s.size)/\r=s.data.toList.drop (i+x.length):=by have b:=jz h;have a:=CT h;rw[List.drop_drop]at a;refine⟨fun hi=>?_,a⟩;have:=congrArg List.length b;simp at this;omega
def E1(w:Zw)(R:Nat)(s x:ZN)(i:Nat)(e:Ending)(w':Zw):Prop:=
 (gy x.data.toList (s.data.toList.drop i)=Zo (s.data.toList.drop (i+x.size))/\e=Zr (.bool true)/\gB R w w' (i+x.size)/\i+x.size<=s.size) ∨
  (gy x.data.toList (s.data.toList.drop i)=Zn/\e=Zr (.bool false)/\gB R w w' i)
theorem mh (w:Zw) (R:Nat) (s x:ZN) (i:Nat) (h:Sc w R s i) (n:s.size<=10000) (p:x.size<=10000) (hi:i<=s.size) :
  Calls prog 237 #[Zp (Zo ⟨R,0,Zn⟩),Zt x] w (E1 w R s x i):=by
 have c0:=h.c0;have c1:=h.c1;have f1:=h.f1;have k:(i:Int)<=(s.size:Int):=om;have o:IntKind.i64.wrap ((i:Int)+(x.size:Int))=(i:Int)+(x.size:Int):=by rw[IntKind.wrap_i64];omega
 have b:Hid (∀W,Calls prog 252 #[Zt (s.extract i s.size),Zt x] W fun e l=>e=Zr (.bool (Lib.hasPrefix (s.extract i s.size).data.toList x.data.toList))/\l=W):=fun W=>Tryz.strings_HasPrefix _ _ W;have a:Lib.hasPrefix (s.extract i s.size).data.toList x.data.toList=x.data.toList.isPrefixOf (s.data.toList.drop i):=by rw[rp];rfl
 have f:Hid (∀m,gB R w ((w.drewN m).setCell ⟨R,1,Zn⟩ (.int .i64 ((i:Int)+(x.size:Int)))) (i+x.size)):=fun m=>by have:=((gB.refl h).drewN m).trans (gB.set (((gB.refl h).drewN m).sc h) (i+x.size));rw[show ((i+x.size:Nat):Int)=(i:Int)+(x.size:Int) by omega]at this;exact this
 have g:Hid (∀m,gB R w (w.drewN m) i):=fun m=>(gB.refl h).drewN m;clear h;cases hp:x.data.toList.isPrefixOf (s.data.toList.drop i) with
 | true=>
  have c:Hid (gy x.data.toList (s.data.toList.drop i)=Zo (s.data.toList.drop (i+x.size))/\i+x.size<=s.size):=by
   have e:gy x.data.toList (s.data.toList.drop i)=Zo ((s.data.toList.drop i).drop x.data.toList.length):=by unfold gy;rw[if_pos hp]
   have d:=Fv e;rw[List.drop_drop]at e;have j:x.data.toList.length=x.size:=zS;rw[j]at e d;exact⟨e,d.1 hi⟩
  rw[hp]at a;rw[a]at b;clear a hp;go_in;go_wp2_with fail;go_quiet (first|(go_at_call 252;refine Calls.quiet_of_same (b.out _)));go_wp2;go_ret;exact .inl ⟨c.out.1,rfl,f.out _,c.out.2⟩
 | false=>
  have c:Hid (gy x.data.toList (s.data.toList.drop i)=Zn):=by show _=_;unfold gy;rw[if_neg (by rw[hp];simp)]
  rw[hp]at a;rw[a]at b;clear a hp;go_in;go_wp2_with fail;go_quiet (first|(go_at_call 252;refine Calls.quiet_of_same (b.out _)));go_wp2;go_ret;exact .inr ⟨c.out,rfl,g.out _⟩
def sM(w:Zw)(R:Nat)(s x:ZN)(i:Nat)(e:Ending)(w':Zw):Prop:=
 (gy x.data.toList (s.data.toList.drop i)=Zo (s.data.toList.drop (i+x.size))/\e=Zr (.tuple #[])/\gB R w w' (i+x.size)/\i+x.size<=s.size) ∨
  (gy x.data.toList (s.data.toList.drop i)=Zn/\e=.panicked lc/\b8 R w w')
theorem qn (w:Zw) (R:Nat) (s x:ZN) (i:Nat) (h:Sc w R s i) (g:s.size<=10000) (j:x.size<=10000) (hi:i<=s.size) :
  Calls prog 238 #[Zp (Zo ⟨R,0,Zn⟩),Zt x] w (sM w R s x i):=by
 have c:Hid (Calls prog 237 _ _ _):=mh w R s x i h g j hi;clear h;go_in;go_wp2_with fail;refine c.out.mono ?_;rintro e w1 (⟨a,rfl,b,f⟩|⟨a,rfl,b⟩);·have d:Hid (sM w R s x i (Zr (.tuple #[])) w1):=.inl ⟨a,rfl,b,f⟩;clear c a b f;go_wp2_with (go_at_call 240;refine (pw _).mono ?_;rintro e k ⟨rfl,rfl⟩);go_end0;exact d.out
 ·have d:Hid (sM w R s x i (.panicked lc) w1):=.inr ⟨a,rfl,b.near⟩;clear c a b;go_wp2_with (go_at_call 240;refine (qG _).mono ?_;rintro e k ⟨rfl,rfl⟩);exact⟨rfl,d.out⟩
def vm(c:UInt8)(w:Zw)(R:Nat)(s:ZN)(i:Nat)(e:Ending)(w':Zw):Prop:=
 (∃x,jC c (s.data.toList.drop i)=Zo (x,s.data.toList.drop (i+x.length))/\e=Zr (Zt (bs x))/\gB R w w' (i+x.length)/\i+x.length<s.size) ∨
  (jC c (s.data.toList.drop i)=Zn/\e=.panicked lc/\b8 R w w')
theorem Em (c:UInt8) (w:Zw) (R:Nat) (s:ZN) (i:Nat) (h:Sc w R s i) (P:s.size<=10000) (hi:i<=s.size) :
  Calls prog 253 #[Zp (Zo ⟨R,0,Zn⟩),.int .u8 (c.toNat:Int)] w (vm c w R s i):=by
 have c0:=h.c0;have c1:=h.c1;have f1:=h.f1;have L:(i:Int)<=(s.size:Int):=om;have r:((c.toNat:Int)).toNat.toUInt8=c:=by apply UInt8.toNat_inj.1;simp
 have g:Hid (∀W,Calls prog 263 #[Zt (s.extract i s.size),.int .u8 (c.toNat:Int)] W fun e E=>e=Zr (.int .i64 (Lib.indexByte (s.data.toList.drop i) c))/\E=W):=fun W=>by have:=Tryz.strings_IndexByte (s.extract i s.size) (c.toNat:Int) W;rw[r,rp]at this;exact this
 have d:=Lib.indexByte_ge (s.data.toList.drop i) c;have J:Hid (∀m,b8 R w (w.drewN m)):=fun m=>((gB.refl h).drewN m).near;rcases Int.lt_or_le (Lib.indexByte (s.data.toList.drop i) c) 0 with f|b
 ·have q:Lib.indexByte (s.data.toList.drop i) c = -1:=by omega
  have p:Hid (jC c (s.data.toList.drop i)=Zn):=by refine xH c _ fun x D e=>?_;obtain⟨k,l,v⟩:=List.getElem_of_mem D;exact Lib.indexByte_none q k (by rw[List.getElem?_eq_getElem l,v,e])
  rw[q]at g;clear f d q h;go_in;go_wp2_with fail;go_quiet (first|(go_at_call 263;refine Calls.quiet_of_same (g.out _)));go_wp2_with (go_at_call 240;refine (qG _).mono ?_;rintro e E ⟨rfl,rfl⟩);exact⟨rfl,.inr ⟨p.out,rfl,J.out _⟩⟩
 ·obtain⟨o,B⟩:∃o:Nat,Lib.indexByte (s.data.toList.drop i) c=o:=⟨_,(Int.toNat_of_nonneg b).symm⟩;obtain⟨j,F⟩:=Lib.indexByte_some B;have A:i+o<s.size:=by have:=(List.getElem?_eq_some_iff.1 j).1;simp at this;omega
  have a:((s.data.toList.drop i).take o).length=o:=zE;have p:Hid (jC c (s.data.toList.drop i)=Zo ((s.data.toList.drop i).take o,s.data.toList.drop (i+o))):=by
   have:=El c (s.data.toList.drop i) o (fun x D e=>by
    obtain⟨k,l,v⟩:=List.getElem_of_mem D
    have y:k<o:=by rw[a]at l;exact l
    have z:k<(s.data.toList.drop i).length:=zE
    refine F k y ?_
    rw[List.getElem?_eq_getElem z,<- e,<- v];simp) (by
    have C:=(List.getElem?_eq_some_iff.1 j).1
    have:=(List.getElem?_eq_some_iff.1 j).2
    rw[List.drop_eq_getElem_cons C,this])
   rw[List.drop_drop]at this;exact this
  have K:Hid (s.extract i (i+o)=bs ((s.data.toList.drop i).take o)):=s5 s i o;rw[B]at g;have Q:IntKind.i64.wrap ((i:Int)+(o:Int))=(i:Int)+(o:Int):=by rw[IntKind.wrap_i64];omega
  have G:(0:Int)<=(o:Int):=om;have n:Hid (∀m,gB R w ((w.drewN m).setCell ⟨R,1,Zn⟩ (.int .i64 ((i:Int)+(o:Int)))) (i+o)):=fun m=>by have:=((gB.refl h).drewN m).trans (gB.set (((gB.refl h).drewN m).sc h) (i+o));rw[show ((i+o:Nat):Int)=(i:Int)+(o:Int) by omega]at this;exact this
  have M:(i:Int)+(o:Int)<=(s.size:Int):=om;have H:(i:Int)<=(i:Int)+(o:Int):=om;have I:((i:Int)+(o:Int)).toNat=i+o:=om;have t:∀m,((w.drewN m).setCell ⟨R,1,Zn⟩ (.int .i64 ((i:Int)+(o:Int)))).cell? ⟨R,0,Zn⟩=Zo (Zt s):=fun m=>((n.out m).cells 0 zC).trans c0;have u:∀m,((w.drewN m).setCell ⟨R,1,Zn⟩ (.int .i64 ((i:Int)+(o:Int)))).cell? ⟨R,1,Zn⟩=Zo (.int .i64 ((i:Int)+(o:Int))):=fun m=>(n.out m).at1;clear b d B j F h;go_in;go_wp2_with fail;go_quiet (first|(go_at_call 263;refine Calls.quiet_of_same (g.out _)));go_wp2_with (go_at_call 240;refine (pw _).mono ?_;rintro e E ⟨rfl,rfl⟩);have N:=t nq;have O:=u nq;go_quiet (fail);go_wp2;go_ret;refine .inl ⟨_,by rw[a];exact p.out,congrArg (fun x=>Ending.returned (Zt x)) K.out,?_,by rw[a];exact A⟩;rw[a];exact (n.out _).drewN _
def BK(w:Zw)(R:Nat)(s:ZN)(i:Nat)(e:Ending)(w':Zw):Prop:=
 (i=s.size/\e=Zr (.tuple #[])/\gB R w w' i)∨(i≠s.size/\e=.panicked lc/\b8 R w w')
theorem zP (w:Zw) (R:Nat) (s:ZN) (i:Nat) (h:Sc w R s i) :
  Calls prog 216 #[Zp (Zo ⟨R,0,Zn⟩)] w (BK w R s i):=by
 have c0:=h.c0;have c1:=h.c1;have d:Hid (∀m,gB R w (w.drewN m) i):=fun m=>(gB.refl h).drewN m;clear h;by_cases a:i=s.size
 ·have f:((i:Int)==(s.size:Int))=true:=by simp[a]
  have b:Hid (i=s.size):=a;clear a;go_in;go_wp2_with fail;go_quiet (first|(go_at_call 240;refine Calls.quiet_of_same (pw _)));go_wp2_with fail;go_end0;exact .inl ⟨b.out,rfl,d.out _⟩
 ·have f:((i:Int)==(s.size:Int))=false:=by simp;omega
  have c:Hid (BK w R s i (.panicked lc) w.drew):=.inr ⟨a,rfl,⟨rfl,rfl,rfl,Nat.le_refl _,fun _ _ _=>rfl⟩⟩;clear a;go_in;go_wp2_with fail;go_region_dies;all_goals (go_at_call 240;refine (qG _).mono ?_;rintro e g ⟨rfl,rfl⟩;exact⟨rfl,c.out⟩)
end Go.Proofs.YtcfojmaccikgeaaGreatDoor
