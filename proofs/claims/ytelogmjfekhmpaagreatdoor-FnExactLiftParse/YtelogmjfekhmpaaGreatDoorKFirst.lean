import Derived.Test.YtelogmjfekhmpaaGreatDoorKPlain
namespace Go.Proofs.YtelogmjfekhmpaaGreatDoor
open Go.RowKit
theorem qhS {n:Nat} {k:K (n+1)} {d:Int} (h:goodK (n+1) k d=true) (h5:¬ Kd.sort k=5):Kd.names k=[]:=by
 simp only[goodK,Bool.and_eq_true]at h
 have ha:qbK (Kd.sort k) (Kd.names k) (Kd.kids k).length=true:=h.1.2
 unfold qbK at ha
 rw[if_neg h5]at ha
 have e:((Kd.names k).length:Int)=0:=by
  split at ha
  ·simp at ha;simp[ha.1]
  split at ha
  ·simp at ha;simp[ha.1]
  split at ha
  ·simp at ha;simp[ha.1]
  split at ha
  ·simp at ha;simp[ha.1]
  split at ha
  ·simp at ha;simp[ha.1]
  ·cases ha
 exact List.eq_nil_of_length_eq_zero (by omega)
theorem xcW {n:Nat} {k:K (n+1)} {d:Int} (h:goodK (n+1) k d=true) (h5:Kd.sort k=5):(Kd.names k).length=(Kd.kids k).length/\riseB (Kd.names k)=true:=by
 simp only[goodK,Bool.and_eq_true]at h
 have ha:qbK (Kd.sort k) (Kd.names k) (Kd.kids k).length=true:=h.1.2
 unfold qbK at ha
 rw[h5]at ha
 simp at ha
 exact⟨by omega,ha.2⟩
theorem qyH {l:List ByteArray} (h:riseB l=true):∀ s,s∈l->s.size<=8:=by
 intro s hs
 obtain⟨i,hi,rfl⟩:=List.getElem_of_mem hs
 unfold riseB qdU at h
 have:=List.all_eq_true.1 h i (List.mem_range.2 hi)
 simp only[qdT,Bool.and_eq_true,nameB,decide_eq_true_eq]at this
 have h2:=this.1.1.1.2
 simpa [List.getD,hi] using h2
end Go.Proofs.YtelogmjfekhmpaaGreatDoor
