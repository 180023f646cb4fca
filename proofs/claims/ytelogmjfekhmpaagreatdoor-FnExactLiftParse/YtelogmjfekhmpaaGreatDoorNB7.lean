import Derived.Test.YtelogmjfekhmpaaGreatDoorNB6
namespace Go.Proofs.YtelogmjfekhmpaaGreatDoor
open Go.RowKit
theorem qwQ (S:Nat->Prop) (w:World) (x v:Int) (tx:ByteArray) (hx:(Lit.int .i64 x).wf=true) (hv:(Lit.int .i64 v).wf=true) (ht:tx.size<=maxLen):TreeIn S w 1 (leafT x v tx) (.int .i64 x) (.int .i64 v) (.string tx) (.slice none 0 0) (.slice none 0 0):=
 ⟨rfl,rfl,rfl,ht,hx,hv,⟨none,0,rfl,by simp[maxLen,leafT],fun s hs=>by simp[leafT]at hs,fun h=>absurd rfl h⟩,⟨none,0,rfl,by simp[maxLen,leafT],fun h=>absurd rfl h⟩⟩
theorem xiY (x v:Int) (tx:ByteArray):okT 1 (leafT x v tx)=qaQ x v tx [] 0:=by
 have h1:goodT 1 (leafT x v tx) 1=qaQ x v tx [] 0:=by
  show (decide ((1:Int)<=6) && qaQ x v tx [] 0 && List.all ([]:List (T 0)) _)=_
  simp
 have h2:cntT 1 (leafT x v tx)=1:=rfl
 unfold okT
 rw[h1,h2];simp
end Go.Proofs.YtelogmjfekhmpaaGreatDoor
