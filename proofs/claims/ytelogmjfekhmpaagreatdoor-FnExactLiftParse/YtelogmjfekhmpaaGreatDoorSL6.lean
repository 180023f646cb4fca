import Derived.Test.YtelogmjfekhmpaaGreatDoorSL5
namespace Go.Proofs.YtelogmjfekhmpaaGreatDoor
set_option maxRecDepth 100000
set_option maxHeartbeats 16000000
open Go.RowKit
theorem qtD (S:Nat->Prop) (m:Nat) (n:Nd (T m)) (na ka:Option Addr) (nc kc:Nat) (act:Bool) (w:World) (h3:StrsIn S w n.names (.slice na n.names.length nc)) (hl4:n.kids.length<=maxLen) (hB:∀ b,S b->b<w.heap.size) (hx:n.text.size<=1048576) :
  Calls Tryz.prog 76 #[.agg #[.int .i64 n.sort,.int .i64 n.num,.string n.text,.slice na n.names.length nc,.slice ka n.kids.length kc],.bool act] w fun e w'=>e=.returned (.bool (qdB n act))/\Below w.heap.size w w':=by
 by_cases h:(1<=n.sort/\n.sort<=43)/\act=decide (36<=n.sort)
 case neg=>exact qvC m n na ka nc kc act w h
 obtain⟨hr,ha⟩:=h
 by_cases h24:n.sort=24
 ·obtain⟨s,num,text,names,kids⟩:=n
  simp only at h24 ha
  subst h24
  obtain rfl:act=false:=by rw[ha];rfl
  have:=qqM S m num text names kids na ka nc kc w h3 hB
  have e:qdB (⟨24,num,text,names,kids⟩:Nd (T m)) false=((num==0) && text.toList.isEmpty && riseB names && (names.length==kids.length) && !(names.any (fun y=>y==bs [101,110,100]))):=by
   unfold qdB
   simp
  rw[e]
  exact this
 ·obtain⟨k,hk⟩:∃ k:Nat,n.sort=(k:Int):=⟨n.sort.toNat,by omega⟩
  have:=qvE S m n na ka nc kc k act (by rw[ha,hk]) w hk (by omega) (by omega) (by omega) h3 hl4 hB hx
  have e:qdB n act=((n.kids.length==(kdV k).length) && preC n (preL k)):=by
   unfold qdB
   rw[decide_eq_true hr,ha,if_neg h24,show n.sort.toNat=k by omega]
   simp
  rw[e,hk]
  exact this
end Go.Proofs.YtelogmjfekhmpaaGreatDoor
