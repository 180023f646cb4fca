import Derived.Shelf.Strings.Trim
import Derived.Test.YtelogmjfekhmpaaGreatDoorProg
import Derived.Test.YtelogmjfekhmpaaGreatDoorB12
import Derived.Test.YtelogmjfekhmpaaGreatDoorShelf
import Derived.Shelf.Strings.SlTrimAscii
import Derived.Laws.RangeString
import Derived.Laws.RangeAny
import Derived.Laws.Runes
import Derived.LoopTactic
import Derived.WalkMore
import Derived.BigQuiet
namespace Go.Proofs
open Go.Shelf
def Tryz.lays161_ren:Go.Shelf.Ren:=⟨fun|161=>63|231=>77|227=>78|233=>79|235=>80|228=>98|197=>99|151=>81|260=>121|152=>100|137=>122|119=>123|224=>124|225=>125|217=>154|266=>179|n=>n,fun|9=>9|4=>4|3=>3|5=>5|117=>118|116=>117|0=>0|124=>121|105=>129|21=>21|119=>194|46=>157|139=>197|138=>196|n=>n,fun|3=>0|4=>1|n=>n⟩
theorem Tryz.lays161:Go.Proofs.Lays.n161 prog Tryz.lays161_ren:={
 mixed:=by kernel_rfl
 f119:=func123.trans (congrArg some (by kernel_rfl))
 f137:=func122.trans (congrArg some (by kernel_rfl))
 f151:=func81.trans (congrArg some (by kernel_rfl))
 f152:=func100.trans (congrArg some (by kernel_rfl))
 f161:=func63.trans (congrArg some (by kernel_rfl))
 f197:=func99.trans (congrArg some (by kernel_rfl))
 f217:=func154.trans (congrArg some (by kernel_rfl))
 f224:=func124.trans (congrArg some (by kernel_rfl))
 f225:=func125.trans (congrArg some (by kernel_rfl))
 f227:=func78.trans (congrArg some (by kernel_rfl))
 f228:=func98.trans (congrArg some (by kernel_rfl))
 f231:=func77.trans (congrArg some (by kernel_rfl))
 f233:=func79.trans (congrArg some (by kernel_rfl))
 f235:=func80.trans (congrArg some (by kernel_rfl))
 f260:=func121.trans (congrArg some (by kernel_rfl))
 f266:=func179.trans (congrArg some (by kernel_rfl))
 t0:=underlying0
 a0:=isAgg0
 z0:=sizeOf0
 v0:=zeroValue0
 t3:=underlying3
 a3:=isAgg3
 z3:=sizeOf3
 v3:=zeroValue3
 t4:=underlying4
 a4:=isAgg4
 z4:=sizeOf4
 v4:=zeroValue4
 t5:=underlying5
 a5:=isAgg5
 z5:=sizeOf5
 v5:=zeroValue5
 t9:=underlying9
 a9:=isAgg9
 z9:=sizeOf9
 v9:=zeroValue9
 t21:=underlying21
 a21:=isAgg21
 z21:=sizeOf21
 v21:=zeroValue21
 t46:=underlying157
 a46:=isAgg157
 z46:=sizeOf157
 v46:=zeroValue157
 t105:=underlying129
 a105:=isAgg129
 z105:=sizeOf129
 v105:=zeroValue129
 t116:=underlying117
 a116:=isAgg117
 z116:=sizeOf117
 t117:=underlying118
 a117:=isAgg118
 z117:=sizeOf118
 v117:=zeroValue118
 t119:=underlying194
 a119:=isAgg194
 z119:=sizeOf194
 t124:=underlying121
 a124:=isAgg121
 z124:=sizeOf121
 v124:=zeroValue121
 t138:=underlying196
 a138:=isAgg196
 z138:=sizeOf196
 v138:=zeroValue196
 t139:=underlying197
 a139:=isAgg197
 z139:=sizeOf197
 v139:=zeroValue197
 g3:=by kernel_rfl
 g4:=by kernel_rfl }
end Go.Proofs
namespace Go.Proofs.YtelogmjfekhmpaaGreatDoor
open Go.RowKit Go.Proofs.Tryz
set_option maxRecDepth 100000
set_option maxHeartbeats 16000000
theorem qnW(l:List UInt8):Lib.trimLeftS l [32,10]=l.dropWhile qaP:=by
 unfold Lib.trimLeftS
 congr 1
 funext c
 simp only[qaP,List.contains_cons,List.contains_nil,Bool.or_false]
theorem qtK(s:ByteArray)(w:World):Calls prog 63 #[.string s,.string ⟨#[32,10]⟩] w fun e w'=>e=.returned (.string (bs (s.data.toList.dropWhile qaP)))/\Below w.heap.size w w':=by
 have h:=Any.strings_TrimLeft_laid Tryz.lays161 (by kernel_rfl) s ⟨#[32,10]⟩ w (by decide) (by
  intro j b a
  match j,a with
  | 0,a=>
   have:b=32:=by simpa using a.symm
   subst this;decide
  | 1,a=>
   have:b=10:=by simpa using a.symm
   subst this;decide
  | j+2,a=>simp at a)
 refine Calls.mono (show Calls prog 63 _ _ _ from h) ?_
 rintro e w' ⟨rfl,a⟩
 refine⟨?_,a⟩
 rw[<- qnW]
 rfl
theorem qvI(w:World)(s:ByteArray)(pos:Nat):Below w.heap.size w (w.iter s pos):=(Below.refl _ _).alloc (Nat.le_refl _) _
theorem qqT(r:Int)(w:World)(h:r=65533):Calls prog 100 #[.string ⟨#[32,10]⟩,.int .i32 r] w fun e w'=>e=.returned (.int .i64 (-1))/\Below w.heap.size w w':=by
 subst h
 go_enter func100,ntmps100
 go_wp2_with fail
 go_loopw [5] (fun _ w'=>∃pos:Nat,pos<=2/\w'=w.iter ⟨#[32,10]⟩ pos) (fun _ w'=>2-w'.iterPos w.heap.size)
 case atStart=>exact⟨0,by omega,rfl⟩
 case round=>
  obtain⟨pos,c,rfl⟩:=hrel
  have b:pos=0∨pos=1∨pos=2:=by omega
  rcases b with rfl|rfl|rfl
  ·have a:∀ ty,(Instr.next (.pointer (some ⟨w.heap.size,0,none⟩)) true ty).run prog (w.iter ⟨#[32,10]⟩ 0)=.ok (.tuple #[.bool true,.int .i64 ((0:Nat):Int),.int .i32 32]) (w.iter ⟨#[32,10]⟩ 1):=fun ty=>by
    rw[run_next_any w ⟨#[32,10]⟩ 0 ty (by decide),decode_ascii ⟨#[32,10]⟩ 0 (by decide) (by decide)];rfl
   go_wp2_with fail
   go_roundw
   case rel=>exact⟨1,by omega,rfl⟩
   case measure=>simp
  ·have a:∀ ty,(Instr.next (.pointer (some ⟨w.heap.size,0,none⟩)) true ty).run prog (w.iter ⟨#[32,10]⟩ 1)=.ok (.tuple #[.bool true,.int .i64 ((1:Nat):Int),.int .i32 10]) (w.iter ⟨#[32,10]⟩ 2):=fun ty=>by
    rw[run_next_any w ⟨#[32,10]⟩ 1 ty (by decide),decode_ascii ⟨#[32,10]⟩ 1 (by decide) (by decide)];rfl
   go_wp2_with fail
   go_roundw
   case rel=>exact⟨2,by omega,rfl⟩
   case measure=>simp
  ·have a:=fun ty=>run_next_end (P:=prog) w ⟨#[32,10]⟩ 2 ty (by decide)
   go_wp2_with fail
   go_ret
   exact⟨rfl,qvI _ _ _⟩
theorem qqU(r:Int)(w:World)(h:128<=r)(h1:r<55296∨(57343<r/\r<=1114111)):Calls prog 123 #[.int .i32 r] w fun e w'=>e=.returned (.bool true)/\w'=w:=by
 have a:0<=r:=by omega
 rcases h1 with h1|h1
 ·go_enter func123,ntmps123
  go_wp2_with fail
  go_ret
  exact⟨rfl,rfl⟩
 ·have b:¬r<55296:=by omega
  have c:=h1.1
  have d:=h1.2
  go_enter func123,ntmps123
  go_wp2_with fail
  go_ret
  exact⟨rfl,rfl⟩
theorem qnX(r:Int)(w:World)(h:128<=r)(hv:Utf8.valid r=true)(hne:r≠65533)(hm:r<55296∨(57343<r/\r<=1114111)):Calls prog 100 #[.string ⟨#[32,10]⟩,.int .i32 r] w fun e w'=>e=.returned (.int .i64 (-1))/\Below w.heap.size w w':=by
 have x:¬r<128:=by omega
 have y:(r==65533)=false:=by simp[hne]
 obtain⟨u,v,c⟩:=encode_facts r hv h
 have n:=Lib.hid (qqU r w h hm)
 obtain⟨a,k⟩:∃a,Utf8.encode r=a:=⟨_,rfl⟩
 rw[k]at u v c
 clear hv hne hm
 by_cases h3:3<=a.size
 ·have z:IntKind.i64.wrap ((a.size:Int)-1)=(a.size:Int)-1:=by rw[IntKind.wrap_i64];omega
  have p:¬(a.size:Int)-1<2:=by omega
  clear c
  go_enter func100,ntmps100
  go_wp2_with fail
  refine n.out.mono ?_
  rintro e l ⟨rfl,rfl⟩
  go_wp2_with fail
  go_step3
  go_wp2_with fail
  go_loopw [9] (fun i wr=>i=.int .i64 ((a.size:Int)-1)/\wr=l) (fun _ _=>0)
  case atStart=>exact⟨rfl,rfl⟩
  case round=>
   obtain⟨rfl,rfl⟩:=hrel
   go_wp2_with fail
   try rw[Exit.noGoto_ret]
   go_ret
   exact⟨rfl,Below.refl _ _⟩
 ·have d:a.size=2:=by omega
  have q:1<a.size:=by omega
  have A:128<=(a[1]'q).toNat:=by
   have:=c (by omega)
   simpa [d] using this
  have b:((ByteArray.mk #[32,10])[1]'(by decide)).toNat=10:=by decide
  have o:((((ByteArray.mk #[32,10])[1]'(by decide)).toNat:Int) != ((a[1]'q).toNat:Int))=true:=by rw[b];simp;omega
  clear b
  have f:∀w,Calls prog 122 #[.string ByteArray.empty,.int .u8 ((a[1]'q).toNat:Int)] w fun e w'=>e=.returned (.int .i64 (-1))/\w'=w:=fun w=>Tryz.strings_IndexByte (ByteArray.mk #[]) ((a[1]'q).toNat:Int) w
  have s:(ByteArray.mk #[32,10]).extract 2 2=ByteArray.empty:=by decide
  have t:IntKind.i64.wrap 2=2:=by decide
  clear c h3
  go_enter func100,ntmps100
  go_wp2_with fail
  refine n.out.mono ?_
  rintro e l ⟨rfl,rfl⟩
  go_wp2_with fail
  go_step3
  go_wp2_with fail
  go_loopw [9] (fun i wr=>i=.int .i64 1/\wr=l) (fun _ _=>0)
  case atStart=>exact⟨by simp,rfl⟩
  case round=>
   obtain⟨rfl,rfl⟩:=hrel
   go_wp2_with fail
   go_step3
   go_wp2_with fail
   go_quiet (fail)
   go_wp2_with fail
   obtain⟨V,m⟩:∃V,V=wr.drewN nq:=⟨_,rfl⟩
   have g:Hid (∀j,Below wr.heap.size wr (V.drewN j)):=fun j=>by rw[m];exact⟨rfl,rfl,rfl,Nat.le_refl _,fun _ _=>rfl⟩
   rw[<- m]
   clear m nq
   go_quiet (first|(go_at_call 122;refine Calls.quiet_of_same (f _)))
   go_wp2_with fail
   rw[Exit.noGoto_ret]
   simp +zetaDelta only[Exit.noGoto_ret,Exit.inBlock,Exit.then]
   go_ret
   exact⟨rfl,g.out _⟩
theorem qkF(r:Int)(w:World)(h:128<=r)(hr:r=65533∨(Utf8.valid r=true/\(r<55296∨(57343<r/\r<=1114111)))):Calls prog 81 #[.string ⟨#[32,10]⟩,.int .i32 r] w fun e w'=>e=.returned (.bool false)/\Below w.heap.size w w':=by
 have c:Hid (Calls prog 100 #[.string ⟨#[32,10]⟩,.int .i32 r] w fun e w'=>e=.returned (.int .i64 (-1))/\Below w.heap.size w w'):=by
  by_cases b:r=65533
  ·exact qqT r w b
  ·rcases hr with hr|hr
   ·exact absurd hr b
   ·exact qnX r w h hr.1 b hr.2
 clear hr
 go_enter func81,ntmps81
 go_wp2_with fail
 refine c.out.mono ?_
 rintro e f ⟨rfl,b⟩
 have d:=Lib.hid b
 clear b c
 go_wp2_with fail
 go_ret
 exact⟨rfl,d.out⟩
theorem qkX(r:Nat)(w:World)(h:r<128):Calls prog 81 #[.string ⟨#[32,10]⟩,.int .i32 (r:Int)] w fun e w'=>e=.returned (.bool (qaP (UInt8.ofNat r)))/\w'=w:=by
 refine (Tryz.strings_ContainsRune_ascii ⟨#[32,10]⟩ (r:Int) w (by omega) (by omega)).mono ?_
 rintro e w' ⟨rfl,rfl⟩
 refine⟨?_,rfl⟩
 congr 2
 have:∀r,r<128->decide (0<=Lib.indexByte [32,10] ((r:Nat):Int).toNat.toUInt8)=qaP (UInt8.ofNat r):=by decide
 exact this r h
end Go.Proofs.YtelogmjfekhmpaaGreatDoor
