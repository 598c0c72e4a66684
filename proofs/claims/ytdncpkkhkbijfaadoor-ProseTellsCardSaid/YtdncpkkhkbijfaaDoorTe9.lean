import Derived.Test.YtdncpkkhkbijfaaDoorTe2
set_option linter.all false
set_option maxHeartbeats 0
set_option maxRecDepth 100000
namespace Go.Proofs.YtdncpkkhkbijfaaDoor
def sees (k:Tk) (t:List UInt8):Bool:=(k.kind==3||k.kind==4)&&k.text==t
def En (kind:Int) (kids:List Int) (n:Int) (s:ByteArray) (at_:Int):Nd:=⟨kind,none,0,kids,n,s,at_⟩
def rp:List UInt8:=[41]
def lp:List UInt8:=[40]
def rb:List UInt8:=[93]
def lb:List UInt8:=[91]
def comma:List UInt8:=[44]
def minus:List UInt8:=[45]
def bang:List UInt8:=[33]
def Qcw:List UInt8:=[116,114,117,101]
def Qca:List UInt8:=[102,97,108,115,101]
def Qfg:List UInt8:=[110,105,108]
def Ij:List UInt8:=[108,101,110]
def Hf:List UInt8:=[110,101,119]
section
def sg (t:Tk):Nat:=
 if sees t lp then 1 else if sees t Qcw then 2 else if sees t Qca then 3 else if sees t Qfg then 4 else if sees t Ij then 5 else if sees t Hf then 6 else if t.kind=2 then 7 else if t.kind=1 then 8 else 0
end
def lc:List UInt8:=[123]
def rc:List UInt8:=[125]
def semi:List UInt8:=[59]
def eqs:List UInt8:=[61]
def Fa:List UInt8:=[102,110]
def Ja:List UInt8:=[118,97,114]
def X8:List UInt8:=[105,102]
def Jc:List UInt8:=[101,108,115,101]
def V9:List UInt8:=[119,104,105,108,101]
def V8:List UInt8:=[102,111,114]
def Jt:List UInt8:=[98,114,101,97,107]
def Jq:List UInt8:=[99,111,110,116,105,110,117,101]
def Vy:List UInt8:=[114,101,116,117,114,110]
def Je:List UInt8:=[112,114,105,110,116]
end Go.Proofs.YtdncpkkhkbijfaaDoor
