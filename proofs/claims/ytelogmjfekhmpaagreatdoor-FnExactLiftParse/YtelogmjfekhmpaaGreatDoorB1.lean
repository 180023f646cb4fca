namespace Go.Proofs.YtelogmjfekhmpaaGreatDoor
structure Nd(α:Type) where
 sort:Int
 num:Int
 text:ByteArray
 names:List ByteArray
 kids:List α
def T:Nat->Type
 | 0=>Empty
 | n+1=>Nd (T n)
def szN:List ByteArray->Nat
 | []=>0
 | s :: r=>s.size+1+szN r
def sumL{α:Type}(f:α->Nat):List α->Nat
 | []=>0
 | x :: r=>f x+sumL f r
def szT:(n:Nat)->T n->Nat
 | 0,_=>0
 | n+1,t=>Nd.text t |>.size |> (· + szN (Nd.names t)+sumL (fun k=>szT n k+1) (Nd.kids t))
def cntT:(n:Nat)->T n->Nat
 | 0,_=>0
 | n+1,t=>1+sumL (fun k=>cntT n k) (Nd.kids t)
theorem qoE(a b:List ByteArray):szN (a++b)=szN a+szN b:=by
 induction a with
 | nil=>simp[szN]
 | cons x r ih=>simp only[List.cons_append,szN,ih];omega
theorem qcP{α:Type}(f:α->Nat)(a b:List α):sumL f (a++b)=sumL f a+sumL f b:=by
 induction a with
 | nil=>simp[sumL]
 | cons x r ih=>simp only[List.cons_append,sumL,ih];omega
theorem qbB{α:Type}(f:α->Nat)(l:List α)(k:Nat)(h:k<l.length):sumL f (l.take (k+1))=sumL f (l.take k)+f l[k]:=by
 rw[List.take_succ_eq_append_getElem h,qcP];simp[sumL]
theorem qiE(l:List ByteArray)(k:Nat)(h:k<l.length):szN (l.take (k+1))=szN (l.take k)+(l[k].size+1):=by
 rw[List.take_succ_eq_append_getElem h,qoE];simp[szN]
theorem qcA{α:Type}(f:α->Nat)(l:List α)(x:α)(h:x∈l):f x<=sumL f l:=by
 induction l with
 | nil=>cases h
 | cons y r ih=>
  simp only[sumL]
  rcases List.mem_cons.1 h with rfl|h
  ·omega
  ·have:=ih h;omega
end Go.Proofs.YtelogmjfekhmpaaGreatDoor
def Tryz.lays161_ren:Go.Shelf.Ren:=⟨fun|161=>63|231=>77|227=>78|233=>79|235=>80|228=>98|197=>99|151=>81|260=>121|152=>100|137=>122|119=>123|224=>124|225=>125|217=>154|266=>179|n=>n,fun|9=>9|4=>4|3=>3|5=>5|117=>118|116=>117|0=>0|124=>121|105=>129|21=>21|119=>194|46=>157|139=>197|138=>196|n=>n,fun|3=>0|4=>1|n=>n⟩
theorem Tryz.lays161:Go.Proofs.Lays.n161 Tryz.prog Tryz.lays161_ren:={
 mixed:=by kernel_rfl
 f119:=Tryz.func123.trans (congrArg some (by kernel_rfl))
 f137:=Tryz.func122.trans (congrArg some (by kernel_rfl))
 f151:=Tryz.func81.trans (congrArg some (by kernel_rfl))
 f152:=Tryz.func100.trans (congrArg some (by kernel_rfl))
 f161:=Tryz.func63.trans (congrArg some (by kernel_rfl))
 f197:=Tryz.func99.trans (congrArg some (by kernel_rfl))
 f217:=Tryz.func154.trans (congrArg some (by kernel_rfl))
 f224:=Tryz.func124.trans (congrArg some (by kernel_rfl))
 f225:=Tryz.func125.trans (congrArg some (by kernel_rfl))
 f227:=Tryz.func78.trans (congrArg some (by kernel_rfl))
 f228:=Tryz.func98.trans (congrArg some (by kernel_rfl))
 f231:=Tryz.func77.trans (congrArg some (by kernel_rfl))
 f233:=Tryz.func79.trans (congrArg some (by kernel_rfl))
 f235:=Tryz.func80.trans (congrArg some (by kernel_rfl))
 f260:=Tryz.func121.trans (congrArg some (by kernel_rfl))
 f266:=Tryz.func179.trans (congrArg some (by kernel_rfl))
 t0:=Tryz.underlying0
 a0:=Tryz.isAgg0
 z0:=Tryz.sizeOf0
 v0:=Tryz.zeroValue0
 t3:=Tryz.underlying3
 a3:=Tryz.isAgg3
 z3:=Tryz.sizeOf3
 v3:=Tryz.zeroValue3
 t4:=Tryz.underlying4
 a4:=Tryz.isAgg4
 z4:=Tryz.sizeOf4
 v4:=Tryz.zeroValue4
 t5:=Tryz.underlying5
 a5:=Tryz.isAgg5
 z5:=Tryz.sizeOf5
 v5:=Tryz.zeroValue5
 t9:=Tryz.underlying9
 a9:=Tryz.isAgg9
 z9:=Tryz.sizeOf9
 v9:=Tryz.zeroValue9
 t21:=Tryz.underlying21
 a21:=Tryz.isAgg21
 z21:=Tryz.sizeOf21
 v21:=Tryz.zeroValue21
 t46:=Tryz.underlying157
 a46:=Tryz.isAgg157
 z46:=Tryz.sizeOf157
 v46:=Tryz.zeroValue157
 t105:=Tryz.underlying129
 a105:=Tryz.isAgg129
 z105:=Tryz.sizeOf129
 v105:=Tryz.zeroValue129
 t116:=Tryz.underlying117
 a116:=Tryz.isAgg117
 z116:=Tryz.sizeOf117
 t117:=Tryz.underlying118
 a117:=Tryz.isAgg118
 z117:=Tryz.sizeOf118
 v117:=Tryz.zeroValue118
 t119:=Tryz.underlying194
 a119:=Tryz.isAgg194
 z119:=Tryz.sizeOf194
 t124:=Tryz.underlying121
 a124:=Tryz.isAgg121
 z124:=Tryz.sizeOf121
 v124:=Tryz.zeroValue121
 t138:=Tryz.underlying196
 a138:=Tryz.isAgg196
 z138:=Tryz.sizeOf196
 v138:=Tryz.zeroValue196
 t139:=Tryz.underlying197
 a139:=Tryz.isAgg197
 z139:=Tryz.sizeOf197
 v139:=Tryz.zeroValue197
 g3:=by kernel_rfl
 g4:=by kernel_rfl }
open Go.RowKit in
