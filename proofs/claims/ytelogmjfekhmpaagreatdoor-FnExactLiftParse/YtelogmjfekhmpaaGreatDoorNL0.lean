import Derived.Test.YtelogmjfekhmpaaGreatDoorText
import Derived.Test.YtelogmjfekhmpaaGreatDoorKParse
namespace Go.Proofs.YtelogmjfekhmpaaGreatDoor
open Go.RowKit
def wrdL:List (List UInt8):=[[],[],[],[],[],[110,111,110,101],[101,109,112,116,121],[115,111,109,101],[111,110,101],[97,100,100],[115,117,98],[109,117,108],[100,105,118],[114,101,109],[108,101,115,115],[115,97,109,101],[97,110,100],[111,114],[110,111,116],[105,102],[108,101,116],[103,101,116],[112,117,116],[99,117,116],[102,111,114,109],[97,116],[115,105,122,101],[106,111,105,110],[112,97,114,116],[115,104,111,119],[114,101,97,100],[101,108,115,101],[99,97,115,101],[109,97,112],[107,101,101,112],[102,111,108,100],[100,114,111,112],[102,97,105,108],[101,109,105,116],[115,101,110,100],[98,111,116,104],[99,104,111,111,115,101],[116,97,107,101],[101,97,99,104]]
def prtL:List (List UInt8):=[[],[84],[84],[84],[88],[75],[75],[86],[86],[86,86],[86,86],[86,86],[86,86],[86,86],[86,86],[86,86],[86,86],[86,86],[86],[86,86,86],[88,86,86],[78,86],[78,86,86],[78,86],[70],[86,86],[86],[86,86],[86,86,86],[86],[86],[86,86],[88,86,86,86],[88,86,86],[88,86,86],[88,88,86,86,86],[],[35],[86],[78,35,86],[65,65],[86,65,65],[88,86,65],[88,86,65]]
def wrd (k:Nat):ByteArray:=bs (wrdL.getD k [])
def prt (k:Nat):List UInt8:=prtL.getD k []
def lst (k:Nat):Int:=if k=39 then 1 else 0
def mst (k:Nat):Int:=if k=37 then 99 else if k=39 then 12 else 0
def opF (s:ByteArray) (k:Nat):Nat->Nat
 | 0=>0
 | n+1=>if wrd k==s then k else opF s (k+1) n
def opW (s:ByteArray):Nat:=opF s 5 39
def freeB (s:ByteArray):Bool:=nameB s && (opW s==0) && !(s==bs [121,101,115]) && !(s==bs [110,111]) && !(s==bs [101,110,100])
def poF (op:Int):Int:=if op<1∨43<op then 0 else if op<36 then 86 else 65
def qcO (l:List ByteArray) (i:Nat):Bool:=qdT l i && !(l.getD i ByteArray.empty==bs [101,110,100])
def kindB (s:ByteArray):Bool:=(readK (s.size+8) s).isSome
end Go.Proofs.YtelogmjfekhmpaaGreatDoor
