/- A part. -/
import Derived.Test.YtchcmhodnkgojaaGreatPart7
import Derived.MapKept
set_option linter.all false
set_option maxRecDepth 100000
set_option maxHeartbeats 8000000
open Go.Proofs.Tryz
namespace Go.Proofs.YtchcmhodnkgojaaGreat
open Region (ready)
open List (range)
noncomputable section
variable {own own' ro:Nat->Prop}{w w':Φ}{v x z:Θ}{args cs tm:Array Θ}{B aW b c i k m n:Nat}{kt t ty u:θ}{it:Int}{g:Ω}{o:Obj}{a:Addr}{y:ai2}{p s:Ξ}{seen:Array Nat}{A:Obj->Θ->Prop}{Stop:(Nat->Prop)->Ω->Φ->Prop}{ops:Array Oper}{fr:φ}{es:Array ai2}{P:aa1}{Q:Exit->Act->Φ->Prop}{rest:List Oper}{D:Φ->Prop}
section
open Go.Conc
open Go.ConcM (OsLater)
namespace gz
section
variable (F:Nat)(fr:φ)(cs:List φ)(aW:Nat)(it v:Int)(y:Nat->Θ)
def aha:Ω:=gH F fr cs (SD F aW true true it 2 y)
def aid:Ω:=O (aha F fr cs aW it y)
def UU:ay PP false (aha F fr cs aW it y) (aid F fr cs aW it y):=aV λa=>ϰ
abbrev GQ:Ω:=aid F fr cs aW it y
def Rw:aN (GQ F fr cs aW it y)=some (217,#[pt F,.int .i32 2,.int .i32 1]):=ϰ
def Mb:Ω:=O (resume (GQ F fr cs aW it y) (.bool false))
def Nh:ay PP false (resume (GQ F fr cs aW it y) (.bool false)) (Mb F fr cs aW it y):=aV λa=>ϰ
def Uh:bm (Mb F fr cs aW it y)=some (.load 21 (pt F)):=ϰ
def PL:(PP.funcs[(Mb F fr cs aW it y).frame.fn]?).any (·.norace)=true:=ϰ
def Ui:∃tm,HH F aW true true it v tm/\ay PP false (resume (Mb F fr cs aW it y) (.int .i32 v)) (gH F fr cs tm):=
 ⟨(On 4 (resume (Mb F fr cs aW it y) (.int .i32 v))).frame.tmps,⟨ϰ,ϰ,ϰ,ϰ,ϰ,ϰ,ϰ⟩,aZ 4 (cB PP false 4 (resume (Mb F fr cs aW it y) (.int .i32 v))) λa=>ϰ⟩
def Rv:∃tm,HR F tm/\ay PP false (resume (GQ F fr cs aW it y) (.bool true)) (gR F fr cs tm):=
 ⟨(On 11 (resume (GQ F fr cs aW it y) (.bool true))).frame.tmps,⟨ϰ,ϰ⟩,aZ 11 (cB PP false 11 (resume (GQ F fr cs aW it y) (.bool true))) λa=>ϰ⟩
end
section
variable (F:Nat)(fr:φ)(cs:List φ)(aW:Nat)(it v:Int)(y:Nat->Θ)
def h3a:Ω:=gH F fr cs (SD F aW false true it 3 y)
def b3a:Ω:=O (h3a F fr cs aW it y)
def abk:ay PP false (h3a F fr cs aW it y) (b3a F fr cs aW it y):=aV λa=>ϰ
def acL:aN (b3a F fr cs aW it y)=some (221,#[.int .i64 it]):=ϰ
def Sk:Ω:=O (resume (b3a F fr cs aW it y) (.bool false))
def acM:ay PP false (resume (b3a F fr cs aW it y) (.bool false)) (Sk F fr cs aW it y):=aV λa=>ϰ
def d3a:Ω:=O (resume (b3a F fr cs aW it y) (.bool true))
def VY:ay PP false (resume (b3a F fr cs aW it y) (.bool true)) (d3a F fr cs aW it y):=aV λa=>ϰ
def acw:aN (d3a F fr cs aW it y)=some (222,#[]):=ϰ
def e3a:Ω:=O (resume (d3a F fr cs aW it y) U)
def acv:ay PP false (resume (d3a F fr cs aW it y) U) (e3a F fr cs aW it y):=aV λa=>ϰ
def acq:bm (e3a F fr cs aW it y)=some (.load 21 (pt F)):=ϰ
def Vp:(PP.funcs[(e3a F fr cs aW it y).frame.fn]?).any (·.norace)=true:=ϰ
def acr:∃tm,HH F aW false true (IntKind.i64.wrap (it+1)) v tm/\ay PP false (resume (e3a F fr cs aW it y) (.int .i32 v)) (gH F fr cs tm):=
 ⟨(On 4 (resume (e3a F fr cs aW it y) (.int .i32 v))).frame.tmps,⟨ϰ,ϰ,ϰ,ϰ,ϰ,ϰ,ϰ⟩,aZ 4 (cB PP false 4 (resume (e3a F fr cs aW it y) (.int .i32 v))) λa=>ϰ⟩
def VK:aN (Sk F fr cs aW it y)=some (217,#[pt F,.int .i32 3,.int .i32 9]):=ϰ
def m3a:Ω:=O (resume (Sk F fr cs aW it y) (.bool false))
def Rs:ay PP false (resume (Sk F fr cs aW it y) (.bool false)) (m3a F fr cs aW it y):=aV λa=>ϰ
def Z4:bm (m3a F fr cs aW it y)=some (.load 21 (pt F)):=ϰ
def Ug:(PP.funcs[(m3a F fr cs aW it y).frame.fn]?).any (·.norace)=true:=ϰ
def Z5:∃tm,HH F aW false true it v tm/\ay PP false (resume (m3a F fr cs aW it y) (.int .i32 v)) (gH F fr cs tm):=
 ⟨(On 4 (resume (m3a F fr cs aW it y) (.int .i32 v))).frame.tmps,⟨ϰ,ϰ,ϰ,ϰ,ϰ,ϰ,ϰ⟩,aZ 4 (cB PP false 4 (resume (m3a F fr cs aW it y) (.int .i32 v))) λa=>ϰ⟩
def n3a:Ω:=O (resume (Sk F fr cs 0 it y) (.bool true))
def Ru:ay PP false (resume (Sk F fr cs 0 it y) (.bool true)) (n3a F fr cs it y):=aV λa=>ϰ
def PD:aN (n3a F fr cs it y)=some (224,#[]):=ϰ
def p3a:Ω:=O (resume (n3a F fr cs it y) (.int .i64 (aW:Int)))
def ZZ:ay PP false (resume (n3a F fr cs it y) (.int .i64 (aW:Int))) (p3a F fr cs aW it y):=aV λa=>ϰ
def TD:aN (p3a F fr cs aW it y)=some (225,#[sQ F,.bool false,.int .i64 2]):=ϰ
def ZJ:∃tm,HQ F aW false tm/\ay PP false (resume (p3a F fr cs aW it y) U) (gQ F fr cs tm):=
 ⟨(On 1 (resume (p3a F fr cs aW it y) U)).frame.tmps,⟨ϰ,ϰ,ϰ,ϰ⟩,aZ 1 (cB PP false 1 (resume (p3a F fr cs aW it y) U)) λa=>ϰ⟩
def q3a:Ω:=O (resume (Sk F fr cs (aW+1) it y) (.bool true))
def Rt:ay PP false (resume (Sk F fr cs (aW+1) it y) (.bool true)) (q3a F fr cs aW it y):=aV λa=>ϰ
def Tv:aN (q3a F fr cs aW it y)=some (225,#[sQ F,.bool true,.int .i64 2]):=ϰ
def ZB:∃tm,HQ F (aW+1) false tm/\ay PP false (resume (q3a F fr cs aW it y) U) (gQ F fr cs tm):=
 ⟨(On 1 (resume (q3a F fr cs aW it y) U)).frame.tmps,⟨ϰ,ϰ,ϰ,ϰ⟩,aZ 1 (cB PP false 1 (resume (q3a F fr cs aW it y) U)) λa=>ϰ⟩
end
section
variable (F:Nat)(fr:φ)(cs:List φ)(aW:Nat)(it v:Int)(y:Nat->Θ)
def ag9:Ω:=gH F fr cs (SD F aW true true it 3 y)
def No:Ω:=O (ag9 F fr cs aW it y)
def UT:ay PP false (ag9 F fr cs aW it y) (No F fr cs aW it y):=aV λa=>ϰ
def VW:aN (No F fr cs aW it y)=some (221,#[.int .i64 it]):=ϰ
def Bk:Ω:=O (resume (No F fr cs aW it y) (.bool false))
def VX:ay PP false (resume (No F fr cs aW it y) (.bool false)) (Bk F fr cs aW it y):=aV λa=>ϰ
def Vu:Ω:=O (resume (No F fr cs aW it y) (.bool true))
def RF:ay PP false (resume (No F fr cs aW it y) (.bool true)) (Vu F fr cs aW it y):=aV λa=>ϰ
def Vt:aN (Vu F fr cs aW it y)=some (222,#[]):=ϰ
def MS:Ω:=O (resume (Vu F fr cs aW it y) U)
def Vs:ay PP false (resume (Vu F fr cs aW it y) U) (MS F fr cs aW it y):=aV λa=>ϰ
def Vn:bm (MS F fr cs aW it y)=some (.load 21 (pt F)):=ϰ
def Q4:(PP.funcs[(MS F fr cs aW it y).frame.fn]?).any (·.norace)=true:=ϰ
def Vo:∃tm,HH F aW true true (IntKind.i64.wrap (it+1)) v tm/\ay PP false (resume (MS F fr cs aW it y) (.int .i32 v)) (gH F fr cs tm):=
 ⟨(On 4 (resume (MS F fr cs aW it y) (.int .i32 v))).frame.tmps,⟨ϰ,ϰ,ϰ,ϰ,ϰ,ϰ,ϰ⟩,aZ 4 (cB PP false 4 (resume (MS F fr cs aW it y) (.int .i32 v))) λa=>ϰ⟩
def Rr:aN (Bk F fr cs aW it y)=some (217,#[pt F,.int .i32 3,.int .i32 13]):=ϰ
def Ma:Ω:=O (resume (Bk F fr cs aW it y) (.bool false))
def Nd:ay PP false (resume (Bk F fr cs aW it y) (.bool false)) (Ma F fr cs aW it y):=aV λa=>ϰ
def Ue:bm (Ma F fr cs aW it y)=some (.load 21 (pt F)):=ϰ
def PJ:(PP.funcs[(Ma F fr cs aW it y).frame.fn]?).any (·.norace)=true:=ϰ
def Uf:∃tm,HH F aW true true it v tm/\ay PP false (resume (Ma F fr cs aW it y) (.int .i32 v)) (gH F fr cs tm):=
 ⟨(On 4 (resume (Ma F fr cs aW it y) (.int .i32 v))).frame.tmps,⟨ϰ,ϰ,ϰ,ϰ,ϰ,ϰ,ϰ⟩,aZ 4 (cB PP false 4 (resume (Ma F fr cs aW it y) (.int .i32 v))) λa=>ϰ⟩
def T9:Ω:=O (resume (Bk F fr cs 0 it y) (.bool true))
def Ng:ay PP false (resume (Bk F fr cs 0 it y) (.bool true)) (T9 F fr cs it y):=aV λa=>ϰ
def L6:aN (T9 F fr cs it y)=some (224,#[]):=ϰ
def Pf:Ω:=O (resume (T9 F fr cs it y) (.int .i64 (aW:Int)))
def T0:ay PP false (resume (T9 F fr cs it y) (.int .i64 (aW:Int))) (Pf F fr cs aW it y):=aV λa=>ϰ
def Pe:aN (Pf F fr cs aW it y)=some (225,#[sQ F,.bool false,.int .i64 2]):=ϰ
def TB:∃tm,HQ F aW true tm/\ay PP false (resume (Pf F fr cs aW it y) U) (gQ F fr cs tm):=
 ⟨(On 1 (resume (Pf F fr cs aW it y) U)).frame.tmps,⟨ϰ,ϰ,ϰ,ϰ⟩,aZ 1 (cB PP false 1 (resume (Pf F fr cs aW it y) U)) λa=>ϰ⟩
def OZ:Ω:=O (resume (Bk F fr cs (aW+1) it y) (.bool true))
def Nf:ay PP false (resume (Bk F fr cs (aW+1) it y) (.bool true)) (OZ F fr cs aW it y):=aV λa=>ϰ
def OY:aN (OZ F fr cs aW it y)=some (225,#[sQ F,.bool true,.int .i64 2]):=ϰ
def Tu:∃tm,HQ F (aW+1) true tm/\ay PP false (resume (OZ F fr cs aW it y) U) (gQ F fr cs tm):=
 ⟨(On 1 (resume (OZ F fr cs aW it y) U)).frame.tmps,⟨ϰ,ϰ,ϰ,ϰ⟩,aZ 1 (cB PP false 1 (resume (OZ F fr cs aW it y) U)) λa=>ϰ⟩
end
section
variable (F:Nat)(fr:φ)(cs:List φ)(aW:Nat)(it v:Int)(y:Nat->Θ)
def h12:Ω:=gH F fr cs (SD F aW false false it 12 y)
def b12:Ω:=O (h12 F fr cs aW it y)
def abm:ay PP false (h12 F fr cs aW it y) (b12 F fr cs aW it y):=aV λa=>ϰ
abbrev c12:Ω:=b12 F fr cs aW it y
def VR:aN (c12 F fr cs aW it y)=some (217,#[pt F,.int .i32 12,.int .i32 20]):=ϰ
def m12:Ω:=O (resume (c12 F fr cs aW it y) (.bool false))
def Ry:ay PP false (resume (c12 F fr cs aW it y) (.bool false)) (m12 F fr cs aW it y):=aV λa=>ϰ
def aaa:bm (m12 F fr cs aW it y)=some (.load 21 (pt F)):=ϰ
def Uk:(PP.funcs[(m12 F fr cs aW it y).frame.fn]?).any (·.norace)=true:=ϰ
def aab:∃tm,HH F aW false false it v tm/\ay PP false (resume (m12 F fr cs aW it y) (.int .i32 v)) (gH F fr cs tm):=
 ⟨(On 4 (resume (m12 F fr cs aW it y) (.int .i32 v))).frame.tmps,⟨ϰ,ϰ,ϰ,ϰ,ϰ,ϰ,ϰ⟩,aZ 4 (cB PP false 4 (resume (m12 F fr cs aW it y) (.int .i32 v))) λa=>ϰ⟩
def n12:Ω:=O (resume (c12 F fr cs 0 it y) (.bool true))
def RB:ay PP false (resume (c12 F fr cs 0 it y) (.bool true)) (n12 F fr cs it y):=aV λa=>ϰ
def PE:aN (n12 F fr cs it y)=some (224,#[]):=ϰ
def p12:Ω:=O (resume (n12 F fr cs it y) (.int .i64 (aW:Int)))
def Z0:ay PP false (resume (n12 F fr cs it y) (.int .i64 (aW:Int))) (p12 F fr cs aW it y):=aV λa=>ϰ
def TE:aN (p12 F fr cs aW it y)=some (225,#[sQ F,.bool false,.int .i64 2]):=ϰ
def ZL:∃tm,HQ F aW false tm/\ay PP false (resume (p12 F fr cs aW it y) U) (gQ F fr cs tm):=
 ⟨(On 1 (resume (p12 F fr cs aW it y) U)).frame.tmps,⟨ϰ,ϰ,ϰ,ϰ⟩,aZ 1 (cB PP false 1 (resume (p12 F fr cs aW it y) U)) λa=>ϰ⟩
def q12:Ω:=O (resume (c12 F fr cs (aW+1) it y) (.bool true))
def Rz:ay PP false (resume (c12 F fr cs (aW+1) it y) (.bool true)) (q12 F fr cs aW it y):=aV λa=>ϰ
def Tw:aN (q12 F fr cs aW it y)=some (225,#[sQ F,.bool true,.int .i64 2]):=ϰ
def ZD:∃tm,HQ F (aW+1) false tm/\ay PP false (resume (q12 F fr cs aW it y) U) (gQ F fr cs tm):=
 ⟨(On 1 (resume (q12 F fr cs aW it y) U)).frame.tmps,⟨ϰ,ϰ,ϰ,ϰ⟩,aZ 1 (cB PP false 1 (resume (q12 F fr cs aW it y) U)) λa=>ϰ⟩
end
section
variable (F:Nat)(fr:φ)(cs:List φ)(aW:Nat)(it v:Int)(y:Nat->Θ)
def qF:Ω:=O (gQ F fr cs (R9 F aW false y))
def ae6:ay PP false (gQ F fr cs (R9 F aW false y)) (qF F fr cs aW y):=aV λa=>ϰ
def Tt:aN (qF F fr cs aW y)=some (224,#[]):=ϰ
def late(m:Nat):Bool:=match((On 6 (resume (qF F fr cs aW y) (.int .i64 (m:Int)))).frame.tmps[3]?:Option Θ)with|some (.bool b)=>b|_=>false
def ae5(m:Nat):∃tm,HQ F aW (late F fr cs aW y m) tm/\ay PP false (resume (qF F fr cs aW y) (.int .i64 (m:Int))) (gN F fr cs tm):=
 ⟨(On 6 (resume (qF F fr cs aW y) (.int .i64 (m:Int)))).frame.tmps,⟨ϰ,ϰ,ϰ,ϰ⟩,aZ 6 (cB PP false 6 (resume (qF F fr cs aW y) (.int .i64 (m:Int)))) λa=>ϰ⟩
def ae4:∃tm,HQ F aW true tm/\ay PP false (gQ F fr cs (R9 F aW true y)) (gN F fr cs tm):=
 ⟨(On 11 (gQ F fr cs (R9 F aW true y))).frame.tmps,⟨ϰ,ϰ,ϰ,ϰ⟩,aZ 11 (cB PP false 11 (gQ F fr cs (R9 F aW true y))) λa=>ϰ⟩
def f:Ω:=O (gN F fr cs (R9 F aW false y))
def ame:ay PP false (gN F fr cs (R9 F aW false y)) (f F fr cs aW y):=aV λa=>ϰ
def amd:bm (f F fr cs aW y)=some (.load 21 (pt F)):=ϰ
def ahI:(PP.funcs[(f F fr cs aW y).frame.fn]?).any (·.norace)=true:=ϰ
def f_2:∃tm,HH F aW false true 0 2 tm/\ay PP false (resume (f F fr cs aW y) (.int .i32 2)) (gH F fr cs tm):=
 ⟨(On 20 (resume (f F fr cs aW y) (.int .i32 2))).frame.tmps,⟨ϰ,ϰ,ϰ,ϰ,ϰ,ϰ,ϰ⟩,aZ 20 (cB PP false 20 (resume (f F fr cs aW y) (.int .i32 2))) λa=>ϰ⟩
def f_3:∃tm,HH F aW false true 0 3 tm/\ay PP false (resume (f F fr cs aW y) (.int .i32 3)) (gH F fr cs tm):=
 ⟨(On 20 (resume (f F fr cs aW y) (.int .i32 3))).frame.tmps,⟨ϰ,ϰ,ϰ,ϰ,ϰ,ϰ,ϰ⟩,aZ 20 (cB PP false 20 (resume (f F fr cs aW y) (.int .i32 3))) λa=>ϰ⟩
def j12:Ω:=O (resume (f F fr cs aW y) (.int .i32 12))
def amg:ay PP false (resume (f F fr cs aW y) (.int .i32 12)) (j12 F fr cs aW y):=aV λa=>ϰ
def Uy:aN (j12 F fr cs aW y)=some (219,#[pt F,.int .i32 (-11)]):=ϰ
def aaP:∃tm,HR F tm/\ay PP false (resume (j12 F fr cs aW y) (.int .i32 v)) (gR F fr cs tm):=
 ⟨(On 2 (resume (j12 F fr cs aW y) (.int .i32 v))).frame.tmps,⟨ϰ,ϰ⟩,aZ 2 (cB PP false 2 (resume (j12 F fr cs aW y) (.int .i32 v))) λa=>ϰ⟩
def j20:Ω:=O (resume (f F fr cs aW y) (.int .i32 20))
def amf:ay PP false (resume (f F fr cs aW y) (.int .i32 20)) (j20 F fr cs aW y):=aV λa=>ϰ
def Ux:aN (j20 F fr cs aW y)=some (219,#[pt F,.int .i32 (-11)]):=ϰ
def aaO:∃tm,HR F tm/\ay PP false (resume (j20 F fr cs aW y) (.int .i32 v)) (gR F fr cs tm):=
 ⟨(On 2 (resume (j20 F fr cs aW y) (.int .i32 v))).frame.tmps,⟨ϰ,ϰ⟩,aZ 2 (cB PP false 2 (resume (j20 F fr cs aW y) (.int .i32 v))) λa=>ϰ⟩
def fs:Ω:=O (gN F fr cs (R9 F aW true y))
def ahy:ay PP false (gN F fr cs (R9 F aW true y)) (fs F fr cs aW y):=aV λa=>ϰ
def ahx:bm (fs F fr cs aW y)=some (.load 21 (pt F)):=ϰ
def ab7:(PP.funcs[(fs F fr cs aW y).frame.fn]?).any (·.norace)=true:=ϰ
def al6:∃tm,HH F aW true true 0 2 tm/\ay PP false (resume (fs F fr cs aW y) (.int .i32 2)) (gH F fr cs tm):=
 ⟨(On 20 (resume (fs F fr cs aW y) (.int .i32 2))).frame.tmps,⟨ϰ,ϰ,ϰ,ϰ,ϰ,ϰ,ϰ⟩,aZ 20 (cB PP false 20 (resume (fs F fr cs aW y) (.int .i32 2))) λa=>ϰ⟩
def al5:∃tm,HH F aW true true 0 3 tm/\ay PP false (resume (fs F fr cs aW y) (.int .i32 3)) (gH F fr cs tm):=
 ⟨(On 20 (resume (fs F fr cs aW y) (.int .i32 3))).frame.tmps,⟨ϰ,ϰ,ϰ,ϰ,ϰ,ϰ,ϰ⟩,aZ 20 (cB PP false 20 (resume (fs F fr cs aW y) (.int .i32 3))) λa=>ϰ⟩
def PY:Ω:=O (resume (fs F fr cs aW y) (.int .i32 12))
def ahA:ay PP false (resume (fs F fr cs aW y) (.int .i32 12)) (PY F fr cs aW y):=aV λa=>ϰ
def PX:aN (PY F fr cs aW y)=some (219,#[pt F,.int .i32 (-11)]):=ϰ
def Uw:∃tm,HR F tm/\ay PP false (resume (PY F fr cs aW y) (.int .i32 v)) (gR F fr cs tm):=
 ⟨(On 2 (resume (PY F fr cs aW y) (.int .i32 v))).frame.tmps,⟨ϰ,ϰ⟩,aZ 2 (cB PP false 2 (resume (PY F fr cs aW y) (.int .i32 v))) λa=>ϰ⟩
def PW:Ω:=O (resume (fs F fr cs aW y) (.int .i32 20))
def ahz:ay PP false (resume (fs F fr cs aW y) (.int .i32 20)) (PW F fr cs aW y):=aV λa=>ϰ
def PV:aN (PW F fr cs aW y)=some (219,#[pt F,.int .i32 (-7)]):=ϰ
def Uv:∃tm,HR F tm/\ay PP false (resume (PW F fr cs aW y) (.int .i32 v)) (gR F fr cs tm):=
 ⟨(On 2 (resume (PW F fr cs aW y) (.int .i32 v))).frame.tmps,⟨ϰ,ϰ⟩,aZ 2 (cB PP false 2 (resume (PW F fr cs aW y) (.int .i32 v))) λa=>ϰ⟩
end
section
variable (F:Nat)(fr:φ)(cs:List φ)(aW:Nat)(it v:Int)(y:Nat->Θ)
def rE:Ω:=O (gR F fr cs (Wn F y))
def ae1:ay PP false (gR F fr cs (Wn F y)) (rE F fr cs y):=aV λa=>ϰ
def ae0:aN (rE F fr cs y)=some (170,#[]):=ϰ
def rV:Ω:=O (resume (rE F fr cs y) U)
def aeZ:ay PP false (resume (rE F fr cs y) U) (rV F fr cs y):=aV λa=>ϰ
def aeY:bm (rV F fr cs y)=some (.conv (Bf (rV 0 default [] λ_=>ϗ)) (Cp (rV 0 default [] λ_=>ϗ)) (pt F)):=ϰ
def akB:PP.underlying (Bf (rV 0 default [] λ_=>ϗ))=some (.pointer (Cn (rV 0 default [] λ_=>ϗ))):=ϰ
def akC:PP.underlying (Cp (rV 0 default [] λ_=>ϗ))=some .unsafePointer:=ϰ
def akA:(PP.info? (Cn (rV 0 default [] λ_=>ϗ))).map (λi=>decide (i.size=0))=some false:=ϰ
def rA:Ω:=O (resume (rV F fr cs y) (pt F))
def aeX:ay PP false (resume (rV F fr cs y) (pt F)) (rA F fr cs y):=aV λa=>ϰ
def Zv:aN (rA F fr cs y)=some (171,#[pt F]):=ϰ
def ae2:ay PP false (resume (rA F fr cs y) U) (de fr cs U):=aZ 9 (cB PP false 9 (resume (rA F fr cs y) U)) λa=>ϰ
end
section
variable {Δ:Type}{X:Cx Δ}{r:bE}{k:Nat}{T T':Lo}{γ:Gh Δ}{g g':Ω}{w w':Φ}
def RX.dx{a:Bool}(e:ConcM.Eff X.Fd X.Wg w w')(c:∀b:Nat,w'.heap[b]?=w.heap[b]?):DX X a ro own w w' #[]:=
 ⟨e.tape,e.output,al2 e.size.symm,e.os,λb _ _=>c b,ϛ,λ_=>rfl⟩
variable (hm:xQ r=false)(R:Room X γ)
include hm R
theorem uO{f:ac5}{fn:Func}(a:Ext PP f fn)(b:Extern.find fn=some λ_=>pure v)(hc:aN g=some (f,args))(go:LW X r γ k T (resume g v) w):LW X r γ k T g w:=by
 refine aJ.step (bp hc).1 λw₁ hr=>⟨_,w₁,#[],BC a v b hc,(kY _ _ γ.own w₁).1,?_⟩
 have:=(kY (X:=X) (fK T.pc) γ.ro γ.own w₁).2;rw[this];exact go.rely hr
theorem rW(hc:aN g=some (224,args))(go:∀m w',RR X γ w w'->LW X r γ k T (resume g (.int .i64 ((m:Nat):Int))) w')(live:∃s,ShAt X w s):LW X r γ k T g w:=by
 refine aJ.step (bp hc).1 λw₁ hr=>?_
 have c:=ConcM.Eff.later (Mu:=X.Fd) (Wg:=X.Wg) w₁;have⟨s,hs⟩:=hr.live live;have a:ShAt X w₁.later s:=⟨hs.1,hs.2⟩
 refine⟨_,w₁.later,#[],BD (P:=PP) (main:=false) (w:=w₁) Wh Xe Wy hc,RX.dx c λ_=>rfl,?_⟩;have e:(gG X (fK T.pc) γ.ro).up γ.own w₁ w₁.later=γ.own:=by funext b;exact propext ⟨λh=>h.elim id λz=>by have:w₁.later.heap.size=w₁.heap.size:=rfl;omega,.inl⟩
 rw[e];exact go _ _ (hr.trans X (R.rx c a))
theorem xB(a:T.pc=.c2){old nw:Int}(d:T.old=old)(i:T.nw=nw)(hc:aN g=some (217,#[pt X.Fd,.int .i32 old,.int .i32 nw]))(f:(old=0\/old=2)->∀k' w',k'<k->RR X γ w w'->LW X r γ k' (at_ .le T.n) (resume g (.bool true)) w')(h:¬(old=0\/old=2)->∀k' w',k'<k->RR X γ w w'->LW X r γ k' {pc:=.s1,sv:=T.sv,n:=T.n} (resume g (.bool true)) w')(c:∀k' w',k'<k->RR X γ w w'->LW X r γ k' {T with pc:=.r3,old:=0,nw:=0} (resume g (.bool false)) w'):LW X r γ k T g w:=by
 by_cases b:old=0\/old=2
 .refine D8 hm R (T1:=at_ .le T.n) (T2:={T with pc:=.r3,old:=0,nw:=0}) (.inl a) hc (λs e=>?_) (λs _ e=>?_) (by unfold j5;rw[a]) ϛ (by unfold j5;rw[a]) ϛ (f b) λ_=>c;unfold mv;rw[a];simp[d,i,e,b];refine⟨({T with pc:=.r3,old:=0,nw:=0},s),?_,.inr rfl⟩;unfold mv;rw[a];simp[d,e]
 refine D8 hm R (T1:={pc:=.s1,sv:=T.sv,n:=T.n}) (T2:={T with pc:=.r3,old:=0,nw:=0}) (.inl a) hc (λs e=>?_) (λs _ e=>?_) (by unfold j5;rw[a]) ϛ (by unfold j5;rw[a]) ϛ (h b) λ_=>c;unfold mv;rw[a];simp[d,i,e,b];refine⟨({T with pc:=.r3,old:=0,nw:=0},s),?_,.inr rfl⟩;unfold mv;rw[a];simp[d,e]
end
section
variable {Δ:Type}{X:Cx Δ}{r:bE}{γ:Gh Δ}{g:Ω}{w0 w:Φ}{n:Nat}{fr:φ}{cs:List φ}
def kG(X:Cx Δ)(r:bE)(γ:Gh Δ)(n:Nat)(fr:φ)(cs:Ϙ)(w0:Φ)(k:Nat):Prop:=
 ∀(aW:Nat)(tm:ϐ)(w:Φ)(T:Lo),RR X γ w0 w->T.n=n->HH X.Fd aW T.sv T.aw T.it T.old tm->(hd T).pc≠.bad->LW X r γ k (hd T) (gH X.Fd fr cs tm) w
variable (hm:xQ r=false)(R:Room X γ)(live:∃s,ShAt X w0 s)(tk:Taken X r γ n fr cs w0)
include hm R
theorem jk{T:Lo}(d:∀k',k'<k->kG X r γ n fr cs w0 k')(h0:RR X γ w0 w)(c:T.pc=.r0\/T.pc=.r1\/T.pc=.r3)(e:T.n=n)(f:T.pc=.r0->T.aw=false/\T.sv=false/\T.it=0){it':Int}(a:it'=if T.pc=.r1 then IntKind.i64.wrap (T.it+1)else T.it)(hv:bm g=some (.load 21 (pt X.Fd)))(l:(PP.funcs[g.frame.fn]?).any (·.norace)=true)(go:∀v,∃tm,HH X.Fd aW T.sv T.aw it' v tm/\ay PP false (resume g (.int .i32 v)) (gH X.Fd fr cs tm)):LW X r γ k T g w:=by
 refine D7 hm R (by obtain h|h|h:=c<;>simp[h]) hv l λs hf=>?_
 have⟨tm,b,hg⟩:=go s.mu;have hne:∀T1:Lo,(hd T1).pc≠.quit:=λT1=>by obtain h|h|h:=Ge T1<;>rw[h]<;>simp
 obtain h|h|h:=c;have⟨i,m,j⟩:=f h;refine⟨(hd {pc:=.r0,old:=s.mu,n:=T.n},s),by unfold mv;rw[h];simp,?_⟩;by_cases hb:(hd {pc:=.r0,old:=s.mu,n:=T.n}).pc=.bad;exact .inl hb;refine .inr ⟨rfl,by unfold j5;rw[h],hne _,λk' w' hk hr=>aI hg (d k' hk aW tm w' {pc:=.r0,old:=s.mu,n:=T.n} (h0.trans X hr) e ?_ hb)⟩;rw[Γ (by rw[h];simp)]at a;rw[a,i,m,j]at b;exact b;refine⟨(hd {T with old:=s.mu,it:=IntKind.i64.wrap (T.it+1)},s),by unfold mv;rw[h];simp,?_⟩;by_cases hb:(hd {T with old:=s.mu,it:=IntKind.i64.wrap (T.it+1)}).pc=.bad;exact .inl hb;refine .inr ⟨rfl,by unfold j5;rw[h],hne _,λk' w' hk hr=>aI hg (d k' hk aW tm w' {T with old:=s.mu,it:=IntKind.i64.wrap (T.it+1)} (h0.trans X hr) e ?_ hb)⟩;rw[κ h]at a;rw[a]at b;exact b;refine⟨(hd {T with old:=s.mu},s),by unfold mv;rw[h];simp,?_⟩;by_cases hb:(hd {T with old:=s.mu}).pc=.bad;exact .inl hb;refine .inr ⟨rfl,by unfold j5;rw[h],hne _,λk' w' hk hr=>aI hg (d k' hk aW tm w' {T with old:=s.mu} (h0.trans X hr) e ?_ hb)⟩;rw[Γ (by rw[h];simp)]at a;rw[a]at b;exact b
include live tk
theorem GZ(h0:RR X γ w0 w)(h:HR X.Fd tm):LW X r γ k (at_ .le n) (gR X.Fd fr cs tm) w:=by
 rw[h.eq];exact aI (ae1 ..) (GY hm R (ae0 ..) (aeZ ..) (aeY ..) akB akC akA (aeX ..) (Zv ..) (ae2 ..) (h0.live live) λk w1 d o hr=>tk k w1 d o (h0.trans X hr))
theorem Xq{k:Nat}{T:Lo}(t:∀k',k'<k->kG X r γ n fr cs w0 k'){tm:ϐ}{aW:Nat}(h0:RR X γ w0 w)(h:HQ X.Fd aW T.sv tm)(q:T.pc=.r2)(A:T.n=n)(B:T.old=0/\T.nw=0/\T.aw=false/\T.it=0):
  LW X r γ k T (gN X.Fd fr cs tm) w:=by
 rw[h.eq];have hne:∀T1:Lo,(hd T1).pc≠.quit:=λT1=>by obtain h|h|h:=Ge T1<;>rw[h]<;>simp
 have l:∀{z:Nat}{w1:Φ}{d:Int}{u:Ω}{T1:Lo},RR X γ w0 w1->T1.n=n->T1.pc=.a1->T1.nw=d->(d=-11\/d=-7)->aN u=some (219,#[pt X.Fd,.int .i32 d])->
   (∀v,∃tm,HR X.Fd tm/\ay PP false (resume u (.int .i32 v)) (gR X.Fd fr cs tm))->LW X r γ z T1 u w1:=by
  intro z w1 d u T1 h1 x m p C hc y;refine tX hm R (.inl m) hc λs hf=>?_
  by_cases c:(s.mu=12/\T1.nw=-11)\/(s.mu=20/\(T1.nw=-7\/T1.nw=-11))
  .refine⟨(at_ .le T1.n,{s with mu:=s.mu+T1.nw}),by unfold mv;rw[m];simp[c],.inr ⟨?_,by unfold j5;rw[m],ϛ,λk' w' hk hr=>?_⟩⟩;have:IntKind.i32.wrap (s.mu+d)=s.mu+T1.nw:=by
    rw[p];rw[p]at c;obtain⟨a,b⟩|⟨a,b|b⟩:=c<;>rw[a,b]<;>decide
   rw[this]
   .have⟨tm,D,hg⟩:=y (IntKind.i32.wrap (s.mu+d));have:(at_ .le T1.n)=at_ .le n:=by rw[x]
    dsimp only;rw[this];exact aI hg (GZ hm R live tk (h1.trans X hr) D)
  .exact⟨(at_ .bad T1.n,s),by unfold mv;rw[m];simp[c],.inl rfl⟩
 have⟨pc,old,nw,aw,sv,it,j⟩:=T;simp only at q A B;obtain⟨rfl,rfl,rfl,rfl⟩:=B;subst q;subst A;cases sv with
 |false=>
  refine aI (ame ..) (D7 hm R ϛ (amd ..) (ahI ..) λs hf=>?_);by_cases f:s.mu=2\/s.mu=3;refine⟨(hd {pc:=.r2,old:=s.mu,aw:=true,it:=0,n:=j},s),by simp[mv,f],.inr ⟨rfl,rfl,hne _,λk' w' hk hr=>?_⟩⟩;obtain e|e:=f;rw[e];have⟨tm,o,hg⟩:=f_2 X.Fd fr cs aW λi=>tm.getD i ϗ
  exact aI hg (t k' hk aW tm w' {pc:=.r2,old:=2,aw:=true,it:=0,n:=j} (h0.trans X hr) rfl o (by simp[hd]));rw[e];have⟨tm,o,hg⟩:=f_3 X.Fd fr cs aW λi=>tm.getD i ϗ
  exact aI hg (t k' hk aW tm w' {pc:=.r2,old:=3,aw:=true,it:=0,n:=j} (h0.trans X hr) rfl o (by simp[hd]))
  .by_cases h12:s.mu=12;refine⟨({pc:=.a1,nw:=-11,n:=j},s),by simp[mv,h12],.inr ⟨rfl,rfl,ϛ,λk' w' hk hr=>?_⟩⟩;rw[h12];exact aI (amg ..) (l (h0.trans X hr) rfl rfl rfl (.inl rfl) (Uy ..) λv=>aaP ..)
   .by_cases g:s.mu=20;refine⟨({pc:=.a1,nw:=-11,n:=j},s),by simp[mv,g],.inr ⟨rfl,rfl,ϛ,λk' w' hk hr=>?_⟩⟩;rw[g];exact aI (amf ..) (l (h0.trans X hr) rfl rfl rfl (.inl rfl) (Ux ..) λv=>aaO ..)
    .exact⟨(at_ .bad j,s),by simp[mv,f,h12,g],.inl rfl⟩
 |true=>
  refine aI (ahy ..) (D7 hm R ϛ (ahx ..) (ab7 ..) λs hf=>?_);by_cases f:s.mu=2\/s.mu=3;refine⟨(hd {pc:=.r2,old:=s.mu,aw:=true,sv:=true,it:=0,n:=j},s),by simp[mv,f],.inr ⟨rfl,rfl,hne _,λk' w' hk hr=>?_⟩⟩;obtain e|e:=f;rw[e];have⟨tm,o,hg⟩:=al6 X.Fd fr cs aW λi=>tm.getD i ϗ
  exact aI hg (t k' hk aW tm w' {pc:=.r2,old:=2,aw:=true,sv:=true,it:=0,n:=j} (h0.trans X hr) rfl o (by simp[hd]));rw[e];have⟨tm,o,hg⟩:=al5 X.Fd fr cs aW λi=>tm.getD i ϗ
  exact aI hg (t k' hk aW tm w' {pc:=.r2,old:=3,aw:=true,sv:=true,it:=0,n:=j} (h0.trans X hr) rfl o (by simp[hd]))
  .by_cases h12:s.mu=12;refine⟨({pc:=.a1,nw:=-11,n:=j},s),by simp[mv,h12],.inr ⟨rfl,rfl,ϛ,λk' w' hk hr=>?_⟩⟩;rw[h12];exact aI (ahA ..) (l (h0.trans X hr) rfl rfl rfl (.inl rfl) (PX ..) λv=>Uw ..)
   .by_cases g:s.mu=20;refine⟨({pc:=.a1,nw:=-7,n:=j},s),by simp[mv,g],.inr ⟨rfl,rfl,ϛ,λk' w' hk hr=>?_⟩⟩;rw[g];exact aI (ahz ..) (l (h0.trans X hr) rfl rfl rfl (.inr rfl) (PV ..) λv=>Uv ..)
    .exact⟨(at_ .bad j,s),by simp[mv,f,h12,g],.inl rfl⟩
theorem aih{k:Nat}{T:Lo}(d:∀k',k'<k->kG X r γ n fr cs w0 k'){tm:ϐ}{aW:Nat}(h0:RR X γ w0 w)(h:HQ X.Fd aW T.sv tm)(f:T.n=n)(g:T.pc=(if T.sv then .r2 else .t2)/\T.old=0/\T.nw=0/\T.aw=false/\T.it=0):
  LW X r γ k T (gQ X.Fd fr cs tm) w:=by
 rw[h.eq];have⟨pc,o,p,q,sv,it,j⟩:=T;simp only at g f;obtain⟨a,rfl,rfl,rfl,rfl⟩:=g;subst f;cases sv with
 |true=>
  obtain rfl:pc=.r2:=by simpa using a
  have⟨b,c,hg⟩:=ae4 X.Fd fr cs aW λi=>tm.getD i ϗ
  exact aI hg (Xq hm R live tk d h0 c rfl rfl ⟨rfl,rfl,rfl,rfl⟩)
 |false=>
  obtain rfl:pc=.t2:=by simpa using a
  refine aI (ae6 ..) (RJ hm R rfl (Tt ..) (late X.Fd fr cs aW λi=>tm.getD i ϗ) λk' w' m hk hr=>?_);have⟨b,c,hg⟩:=ae5 X.Fd fr cs aW (λi=>tm.getD i ϗ) m;refine aI hg (Xq hm R live tk (λl h1=>d l ϖ) (aW:=aW) (h0.trans X hr) (T:={pc:=.r2,sv:=if late X.Fd fr cs aW (λi=>tm.getD i ϗ) m then true else false,n:=j}) ?_ rfl rfl ⟨rfl,rfl,rfl,rfl⟩);have e:(if late X.Fd fr cs aW (λi=>tm.getD i ϗ) m=true then true else false)=late X.Fd fr cs aW (λi=>tm.getD i ϗ) m:=by cases late X.Fd fr cs aW (λi=>tm.getD i ϗ) m<;>rfl
  simp only[e];exact c
theorem xA{sv:Bool}(a:∀k',k'<k->kG X r γ n fr cs w0 k'){u:Θ}(h0:RR X γ w0 w)(hc:aN g=some (225,#[sQ X.Fd,u,v]))(go:∃tm,HQ X.Fd aW sv tm/\ay PP false (resume g U) (gQ X.Fd fr cs tm)):LW X r γ k {pc:=.s1,sv:=sv,n:=n} g w:=by
 refine acO hm R rfl hc rfl λk' w' hk hr=>?_
 have⟨tm,c,hg⟩:=go;exact aI hg (aih hm R live tk (λb h1=>a b ϖ) (h0.trans X hr) c rfl ⟨rfl,rfl,rfl,rfl,rfl⟩)
theorem aba(b:∀k',k'<k->kG X r γ n fr cs w0 k')(h0:RR X γ w0 w)(h:HH X.Fd aW false false it 0 tm):LW X r γ k {pc:=.c2,old:=0,nw:=1,aw:=false,sv:=false,it:=it,n:=n} (gH X.Fd fr cs tm) w:=by
 rw[h.eq];refine aI (ahe ..) ?_;refine xB hm R rfl rfl rfl (acK ..) (λ_ k2 w2 hk hr=>?_) (λh=>absurd ϛ h) λk2 w2 hk hr=>?_;have⟨a,c,hg⟩:=acJ X.Fd fr cs aW it λi=>tm.getD i ϗ;exact aI hg (GZ hm R live tk (h0.trans X hr) c);exact aI (VS ..) (jk hm R (λd h1=>b d ϖ) (h0.trans X hr) (.inr (.inr rfl)) rfl ϛ (it':=it) ϛ (afR ..) (aac ..) λv=>afS _ _ _ _ _ v _)
theorem aa9{k:Nat}{tm:ϐ}{aW:Nat}{it:Int}(c:∀k',k'<k->kG X r γ n fr cs w0 k')(h0:RR X γ w0 w)(h:HH X.Fd aW false false it 1 tm):LW X r γ k {pc:=.sq,old:=1,nw:=0,aw:=false,sv:=false,it:=it,n:=n} (gH X.Fd fr cs tm) w:=by
 rw[h.eq];refine aI (ahd ..) (D6 hm R rfl rfl (aie ..) (λa w1 f b=>?_) rfl λa w1 f b=>?_);have e:cl {pc:=.sq,old:=1,nw:=0,aw:=false,sv:=false,it:=it,n:=n}={pc:=.c2,old:=1,nw:=9,aw:=false,sv:=false,it:=it,n:=n}:=rfl;rw[e];have h0:=h0.trans X b;refine aI (aif ..) ?_;refine xB hm R rfl rfl rfl (acI ..) (λh=>absurd h ϛ) (λ_ k2 w2 hk hr=>?_) λk2 w2 hk hr=>?_;have h0:=h0.trans X hr;cases aW with|zero=>exact aI (VQ ..) (rW hm R (Ua ..) (λm g d=>aI (afK X.Fd fr cs m it λi=>tm.getD i ϗ) (xA hm R live tk (λa h1=>c a ϖ) (h0.trans X d) (ZK ..) (afe ..))) (h0.live live))|succ aW=>exact aI (VP ..) (xA hm R live tk (λa h1=>c a ϖ) h0 (ZC ..) (afa ..))
 exact aI (VO ..) (jk hm R (λa h1=>c a ϖ) (h0.trans X hr) (.inr (.inr rfl)) rfl ϛ (it':=it) ϛ (afP ..) (Z9 ..) λv=>afQ _ _ _ _ _ v _);exact aI (acN ..) (uO hm R xDo fDo (ah4 ..) (aI (ah3 ..) (jk hm R (λk2 h2=>c k2 ϖ) (h0.trans X b) (.inr (.inl rfl)) rfl ϛ (it':=IntKind.i64.wrap (it+1)) ϛ (ah1 ..) (acs ..) λv=>ah2 _ _ _ _ _ v _)))
theorem UK(b:∀k',k'<k->kG X r γ n fr cs w0 k')(h0:RR X γ w0 w)(h:HH X.Fd aW false true it 2 tm):LW X r γ k {pc:=.c2,old:=2,nw:=1,aw:=true,sv:=false,it:=it,n:=n} (gH X.Fd fr cs tm) w:=by
 rw[h.eq];refine aI (abl ..) ?_;refine xB hm R rfl rfl rfl (VM ..) (λ_ k2 w2 hk hr=>?_) (λh=>absurd ϛ h) λk2 w2 hk hr=>?_;have⟨a,c,hg⟩:=VL X.Fd fr cs aW it λi=>tm.getD i ϗ;exact aI hg (GZ hm R live tk (h0.trans X hr) c);exact aI (Rx ..) (jk hm R (λd h1=>b d ϖ) (h0.trans X hr) (.inr (.inr rfl)) rfl ϛ (it':=it) ϛ (Z6 ..) (Uj ..) λv=>Z7 _ _ _ _ _ v _)
theorem P9(b:∀k',k'<k->kG X r γ n fr cs w0 k')(h0:RR X γ w0 w)(h:HH X.Fd aW true true it 2 tm):LW X r γ k {pc:=.c2,old:=2,nw:=1,aw:=true,sv:=true,it:=it,n:=n} (gH X.Fd fr cs tm) w:=by
 rw[h.eq];refine aI (UU ..) ?_;refine xB hm R rfl rfl rfl (Rw ..) (λ_ k2 w2 hk hr=>?_) (λh=>absurd ϛ h) λk2 w2 hk hr=>?_;have⟨a,c,hg⟩:=Rv X.Fd fr cs aW it λi=>tm.getD i ϗ;exact aI hg (GZ hm R live tk (h0.trans X hr) c);exact aI (Nh ..) (jk hm R (λd h1=>b d ϖ) (h0.trans X hr) (.inr (.inr rfl)) rfl ϛ (it':=it) ϛ (Uh ..) (PL ..) λv=>Ui _ _ _ _ _ v _)
theorem aa8(b:∀k',k'<k->kG X r γ n fr cs w0 k')(h0:RR X γ w0 w)(h:HH X.Fd aW false false it 2 tm):LW X r γ k {pc:=.c2,old:=2,nw:=3,aw:=false,sv:=false,it:=it,n:=n} (gH X.Fd fr cs tm) w:=by
 rw[h.eq];refine aI (ahb ..) ?_;refine xB hm R rfl rfl rfl (acH ..) (λ_ k2 w2 hk hr=>?_) (λh=>absurd ϛ h) λk2 w2 hk hr=>?_;have⟨a,c,hg⟩:=acG X.Fd fr cs aW it λi=>tm.getD i ϗ;exact aI hg (GZ hm R live tk (h0.trans X hr) c);exact aI (VN ..) (jk hm R (λd h1=>b d ϖ) (h0.trans X hr) (.inr (.inr rfl)) rfl ϛ (it':=it) ϛ (afN ..) (Z8 ..) λv=>afO _ _ _ _ _ v _)
theorem UJ{k:Nat}{tm:ϐ}{aW:Nat}{it:Int}(c:∀k',k'<k->kG X r γ n fr cs w0 k')(h0:RR X γ w0 w)(h:HH X.Fd aW false true it 3 tm):LW X r γ k {pc:=.sq,old:=3,nw:=0,aw:=true,sv:=false,it:=it,n:=n} (gH X.Fd fr cs tm) w:=by
 rw[h.eq];refine aI (abk ..) (D6 hm R rfl rfl (acL ..) (λa w1 f b=>?_) rfl λa w1 f b=>?_);have e:cl {pc:=.sq,old:=3,nw:=0,aw:=true,sv:=false,it:=it,n:=n}={pc:=.c2,old:=3,nw:=9,aw:=true,sv:=false,it:=it,n:=n}:=rfl;rw[e];have h0:=h0.trans X b;refine aI (acM ..) ?_;refine xB hm R rfl rfl rfl (VK ..) (λh=>absurd h ϛ) (λ_ k2 w2 hk hr=>?_) λk2 w2 hk hr=>?_;have h0:=h0.trans X hr;cases aW with|zero=>exact aI (Ru ..) (rW hm R (PD ..) (λm g d=>aI (ZZ X.Fd fr cs m it λi=>tm.getD i ϗ) (xA hm R live tk (λa h1=>c a ϖ) (h0.trans X d) (TD ..) (ZJ ..))) (h0.live live))|succ aW=>exact aI (Rt ..) (xA hm R live tk (λa h1=>c a ϖ) h0 (Tv ..) (ZB ..))
 exact aI (Rs ..) (jk hm R (λa h1=>c a ϖ) (h0.trans X hr) (.inr (.inr rfl)) rfl ϛ (it':=it) ϛ (Z4 ..) (Ug ..) λv=>Z5 _ _ _ _ _ v _);exact aI (VY ..) (uO hm R xDo fDo (acw ..) (aI (acv ..) (jk hm R (λk2 h2=>c k2 ϖ) (h0.trans X b) (.inr (.inl rfl)) rfl ϛ (it':=IntKind.i64.wrap (it+1)) ϛ (acq ..) (Vp ..) λv=>acr _ _ _ _ _ v _)))
theorem P8{k:Nat}{tm:ϐ}{aW:Nat}{it:Int}(c:∀k',k'<k->kG X r γ n fr cs w0 k')(h0:RR X γ w0 w)(h:HH X.Fd aW true true it 3 tm):LW X r γ k {pc:=.sq,old:=3,nw:=0,aw:=true,sv:=true,it:=it,n:=n} (gH X.Fd fr cs tm) w:=by
 rw[h.eq];refine aI (UT ..) (D6 hm R rfl rfl (VW ..) (λa w1 f b=>?_) rfl λa w1 f b=>?_);have e:cl {pc:=.sq,old:=3,nw:=0,aw:=true,sv:=true,it:=it,n:=n}={pc:=.c2,old:=3,nw:=13,aw:=true,sv:=true,it:=it,n:=n}:=rfl;rw[e];have h0:=h0.trans X b;refine aI (VX ..) ?_;refine xB hm R rfl rfl rfl (Rr ..) (λh=>absurd h ϛ) (λ_ k2 w2 hk hr=>?_) λk2 w2 hk hr=>?_;have h0:=h0.trans X hr;cases aW with|zero=>exact aI (Ng ..) (rW hm R (L6 ..) (λm g d=>aI (T0 X.Fd fr cs m it λi=>tm.getD i ϗ) (xA hm R live tk (λa h1=>c a ϖ) (h0.trans X d) (Pe ..) (TB ..))) (h0.live live))|succ aW=>exact aI (Nf ..) (xA hm R live tk (λa h1=>c a ϖ) h0 (OY ..) (Tu ..))
 exact aI (Nd ..) (jk hm R (λa h1=>c a ϖ) (h0.trans X hr) (.inr (.inr rfl)) rfl ϛ (it':=it) ϛ (Ue ..) (PJ ..) λv=>Uf _ _ _ _ _ v _);exact aI (RF ..) (uO hm R xDo fDo (Vt ..) (aI (Vs ..) (jk hm R (λk2 h2=>c k2 ϖ) (h0.trans X b) (.inr (.inl rfl)) rfl ϛ (it':=IntKind.i64.wrap (it+1)) ϛ (Vn ..) (Q4 ..) λv=>Vo _ _ _ _ _ v _)))
theorem UL{k:Nat}{tm:ϐ}{aW:Nat}{it:Int}(b:∀k',k'<k->kG X r γ n fr cs w0 k')(h0:RR X γ w0 w)(h:HH X.Fd aW false false it 12 tm):LW X r γ k {pc:=.c2,old:=12,nw:=20,aw:=false,sv:=false,it:=it,n:=n} (gH X.Fd fr cs tm) w:=by
 rw[h.eq];refine aI (abm ..) ?_;refine xB hm R rfl rfl rfl (VR ..) (λh=>absurd h ϛ) (λ_ k2 w2 hk hr=>?_) λk2 w2 hk hr=>?_;have h0:=h0.trans X hr;cases aW with|zero=>exact aI (RB ..) (rW hm R (PE ..) (λm d c=>aI (Z0 X.Fd fr cs m it λi=>tm.getD i ϗ) (xA hm R live tk (λa h1=>b a ϖ) (h0.trans X c) (TE ..) (ZL ..))) (h0.live live))|succ aW=>exact aI (Rz ..) (xA hm R live tk (λa h1=>b a ϖ) h0 (Tw ..) (ZD ..))
 exact aI (Ry ..) (jk hm R (λa h1=>b a ϖ) (h0.trans X hr) (.inr (.inr rfl)) rfl ϛ (it':=it) ϛ (aaa ..) (Uk ..) λv=>aab _ _ _ _ _ v _)
theorem heads:∀k,kG X r γ n fr cs w0 k:=by
 intro k;induction k using Nat.strongRecOn with
 |_ k e=>
 intro aW tm w T h0 g c hb;have⟨pc,a,i,d,sv,it,h⟩:=T;simp only at g c;subst g;by_cases c0:a=0/\d=false/\sv=false;obtain⟨rfl,rfl,rfl⟩:=c0;exact aba hm R live tk e h0 c;by_cases c1:a=1/\d=false/\sv=false;obtain⟨rfl,rfl,rfl⟩:=c1;exact aa9 hm R live tk e h0 c;by_cases Xo:a=2/\d=true/\sv=false;obtain⟨rfl,rfl,rfl⟩:=Xo;exact UK hm R live tk e h0 c;by_cases GQ:a=2/\d=true/\sv=true;obtain⟨rfl,rfl,rfl⟩:=GQ;exact P9 hm R live tk e h0 c;by_cases c2:a=2/\d=false/\sv=false;obtain⟨rfl,rfl,rfl⟩:=c2;exact aa8 hm R live tk e h0 c;by_cases Sk:a=3/\d=true/\sv=false;obtain⟨rfl,rfl,rfl⟩:=Sk;exact UJ hm R live tk e h0 c;by_cases Bk:a=3/\d=true/\sv=true;obtain⟨rfl,rfl,rfl⟩:=Bk;exact P8 hm R live tk e h0 c;by_cases c12:a=12/\d=false/\sv=false;obtain⟨rfl,rfl,rfl⟩:=c12;exact UL hm R live tk e h0 c;exfalso;apply hb;have f:∀b:Bool,b=true\/b=false:=λb=>by cases b<;>simp
 obtain rfl|rfl:=f d<;>rcases f sv with rfl|rfl<;>simp_all [hd]
theorem Md(h0:RR X γ w0 w):LW X r γ k (at_ .r0 n) (UZ X.Fd fr cs) w:=
 jk hm R (λk' _=>heads hm R live tk k') h0 (.inl rfl) rfl ϛ (it':=0) ϛ (lS0 ..) (akZ ..) λv=>ae3 _ _ _ v
theorem fast(h0:RR X γ w0 w):LW X r γ k (at_ .l0 n) (resume (W6 X.Fd fr cs) U) w:=by
 refine aI ⟨200,_,ak1 _ _ _⟩ ?_;refine D8 hm R (T1:=at_ .le n) (T2:=at_ .r0 n) (.inr (.inl rfl)) (lC1 _ _ _) (λs e=>by simp[mv,e]) (λs _ e=>⟨(at_ .r0 n,s),by simp[mv,e],.inr rfl⟩) rfl ϛ rfl ϛ (λk' w' hk hr=>?_) λ_ k' w' hk hr=>?_;exact aI ⟨200,_,ak4 _ _ _⟩ (GY hm R (lE1 _ _ _) ⟨200,_,ak0 _ _ _⟩ (lV1 _ _ _) akW akX akV ⟨200,_,akY _ _ _⟩ (lA1 _ _ _) ⟨6,_,ak5 _ _ _⟩ ((h0.trans X hr).live live) λk w1 d o a=>tk k w1 d o ((h0.trans X hr).trans X a));exact aI ⟨200,_,ak3 _ _ _⟩ (Md hm R live tk (h0.trans X hr))
theorem Me:LW X r γ k (at_ .out (n+1)) (gL0 X.Fd fr cs) w0:=by
 refine aI ⟨200,_,lL0 _ _ _⟩ (jw λk' w₁ hk hr=>?_);refine⟨(bp (lD1 _ _ _)).1,(bp (lD1 _ _ _)).2,ϛ,ϛ,λs a hf=>⟨by simp[mv],λd hd _=>?_⟩⟩;refine⟨(at_ .l0 n,s),by simp[mv],λ_=>⟨ϛ,resume (W6 X.Fd fr cs) U,w₁,#[sW .disable],?_,a,.refl _,by simp[EvStop,j5],?_⟩⟩;rw[hm];exact kb KM .disable MK (lD1 _ _ _);unfold After;rw[Γ ϛ,hm];have:=fast hm R live tk (k:=k') hr;exact this
end
section
variable (F:Nat)(pf:φ)(cs:List φ)(v:Int)
def gU0:Ω:=G {(base 202).at ⟨#[pt F]++Array.replicate 5 ϗ,[]⟩ [.code (tU 202)]with kind:=.deferred} ({pf with mode:=.returning}::cs)
def uL:Ω:=O (gU0 F pf cs)
def ad8:ay PP false (gU0 F pf cs) (uL F pf cs):=⟨200,cB PP false 200 (gU0 F pf cs),λa=>ϰ⟩
def Wm:bm (uL F pf cs)=some (.load 21 (pt F)):=ϰ
def akj:(PP.funcs[(uL F pf cs).frame.fn]?).any (·.norace)=true:=ϰ
def uV:Ω:=O (resume (uL F pf cs) (.int .i32 v))
def adX:ay PP false (resume (uL F pf cs) (.int .i32 v)) (uV F pf cs v):=⟨200,cB PP false 200 (resume (uL F pf cs) (.int .i32 v)),λa=>ϰ⟩
def adU:bm (uV F pf cs v)=some (.conv (Bf (uV 0 default [] 0)) (Cp (uV 0 default [] 0)) (pt F)):=ϰ
def akh:PP.underlying (Bf (uV 0 default [] 0))=some (.pointer (Cn (uV 0 default [] 0))):=ϰ
def aki:PP.underlying (Cp (uV 0 default [] 0))=some .unsafePointer:=ϰ
def akg:(PP.info? (Cn (uV 0 default [] 0))).map (λi=>decide (i.size=0))=some false:=ϰ
def uR:Ω:=O (resume (uV F pf cs v) (pt F))
def adT:ay PP false (resume (uV F pf cs v) (pt F)) (uR F pf cs v):=⟨200,cB PP false 200 (resume (uV F pf cs v) (pt F)),λa=>ϰ⟩
def N7:aN (uR F pf cs v)=some (193,#[pt F]):=ϰ
def uD:Ω:=O (resume (uR F pf cs v) U)
def adW:ay PP false (resume (uR F pf cs v) U) (uD F pf cs v):=⟨200,cB PP false 200 (resume (uR F pf cs v) U),λa=>ϰ⟩
def XM:aN (uD F pf cs v)=some (168,#[]):=ϰ
def uA:Ω:=O (resume (uD F pf cs v) U)
def adZ:ay PP false (resume (uD F pf cs v) U) (uA F pf cs v):=⟨200,cB PP false 200 (resume (uD F pf cs v) U),λa=>ϰ⟩
def XN:aN (uA F pf cs v)=some (219,#[pt F,.int .i32 (-1)]):=ϰ
def uE(x:Int):Ω:=O (resume (uA F pf cs v) (.int .i32 x))
def akp:ay PP false (resume (uA F pf cs v) (.int .i32 0)) (uE F pf cs v 0):=⟨200,cB PP false 200 (resume (uA F pf cs v) (.int .i32 0)),λa=>ϰ⟩
def ako:ay PP false (resume (uA F pf cs v) (.int .i32 2)) (uE F pf cs v 2):=⟨200,cB PP false 200 (resume (uA F pf cs v) (.int .i32 2)),λa=>ϰ⟩
def akn:ay PP false (resume (uA F pf cs v) (.int .i32 8)) (uE F pf cs v 8):=⟨200,cB PP false 200 (resume (uA F pf cs v) (.int .i32 8)),λa=>ϰ⟩
def ad5:ay PP false (resume (uA F pf cs v) (.int .i32 12)) (uE F pf cs v 12):=⟨200,cB PP false 200 (resume (uA F pf cs v) (.int .i32 12)),λa=>ϰ⟩
def akm:aN (uE F pf cs v 0)=some (170,#[]):=ϰ
def akl:aN (uE F pf cs v 2)=some (170,#[]):=ϰ
def akk:aN (uE F pf cs v 8)=some (217,#[pt F,.int .i32 8,.int .i32 2]):=ϰ
def adY:aN (uE F pf cs v 12)=some (227,#[sQ F,.bool true,.int .i64 2]):=ϰ
def uS:Ω:=O (resume (uE F pf cs v 8) (.bool true))
def ad7:ay PP false (resume (uE F pf cs v 8) (.bool true)) (uS F pf cs v):=⟨200,cB PP false 200 (resume (uE F pf cs v 8) (.bool true)),λa=>ϰ⟩
def XH:aN (uS F pf cs v)=some (227,#[sQ F,.bool false,.int .i64 2]):=ϰ
def uF8:Ω:=O (resume (uS F pf cs v) U)
def adV:ay PP false (resume (uS F pf cs v) U) (uF8 F pf cs v):=⟨200,cB PP false 200 (resume (uS F pf cs v) U),λa=>ϰ⟩
def XJ:aN (uF8 F pf cs v)=some (170,#[]):=ϰ
def SA:Ω:=O (resume (uE F pf cs v 12) U)
def XO:ay PP false (resume (uE F pf cs v 12) U) (SA F pf cs v):=⟨200,cB PP false 200 (resume (uE F pf cs v 12) U),λa=>ϰ⟩
def Sz:aN (SA F pf cs v)=some (170,#[]):=ϰ
def XL:ay PP false (resume (uE F pf cs v 0) U) (G {pf with mode:=.returning} cs):=⟨6,cB PP false 6 (resume (uE F pf cs v 0) U),λa=>ϰ⟩
def XK:ay PP false (resume (uE F pf cs v 2) U) (G {pf with mode:=.returning} cs):=⟨6,cB PP false 6 (resume (uE F pf cs v 2) U),λa=>ϰ⟩
def XI:ay PP false (resume (uF8 F pf cs v) U) (G {pf with mode:=.returning} cs):=⟨6,cB PP false 6 (resume (uF8 F pf cs v) U),λa=>ϰ⟩
def Sy:ay PP false (resume (SA F pf cs v) U) (G {pf with mode:=.returning} cs):=⟨6,cB PP false 6 (resume (SA F pf cs v) U),λa=>ϰ⟩
end
def aaf{Δ:Type}{X:Cx Δ}{g:Ω}{w:Φ}{s:Sh}(hv:bm g=some (.load 21 (pt X.Fd)))(c:(PP.funcs[g.frame.fn]?).any (·.norace)=true)(hs:ShAt X w s):stepG PP false g w=.go (resume g (.int .i32 s.mu)) w #[]:=by
 refine WH hv hs.cMu ?_ ?_ c
 .intro w;cases a:w.cell? ⟨X.Fd,0,none⟩with|none=>simp[mA]|some x=>simp[go_sem,a,mA,pt]
 .intro w x b;simp[go_sem,b,mA,pt]
section
variable {Δ:Type}{X:Cx Δ}{r:bE}{k n:Nat}{γ:Gh Δ}{w:Φ}{pf:φ}{cs:List φ}{c d:Δ}
def Er(hm:xQ r=false)(R:Room X γ)(P:¬γ.own X.M)(live:∃s,ShAt X w s)(N:∃o,w.heap[X.M]?=some o/\Ec X r c d o)(u:∀k w',RR X γ w w'->LW X r {γ with mine:=c,other:=d} k (at_ .out n) (G {pf with mode:=.returning} cs) w'):
  aJ PP false (gG X false γ.ro) (eG (KJ X PP k r) (at_ .ur n) {γ with own:=λb=>γ.own b\/b=X.M,other:=d}) (λb=>γ.own b\/b=X.M) (gU0 X.Fd pf cs) w:=by
 have sub:∀{w w':Φ},RX X γ.ro (λb=>γ.own b\/b=X.M) w w'->RR X γ w w':=λh=>⟨h.tape,h.output,h.size,h.os,λb hb y=>h.keep b hb (y.imp .inl id),h.live⟩
 have R':Room X {γ with mine:=c,other:=d}:=⟨R.ne,R.off⟩
 refine aI (ad8 ..) (aJ.step (dH (Wm ..)).1 λw₁ hr=>?_);have⟨I,hs⟩:=hr.live live;refine⟨_,w₁,#[],aaf (Wm ..) (akj ..) hs,(kY _ _ _ w₁).1,?_⟩;have O:=(kY (X:=X) false γ.ro (λb=>γ.own b\/b=X.M) w₁).2;rw[O];refine aI (adX ..) (tH (adU ..) akh aki akg (λf a=>?_) (aI (adT ..) ?_));have⟨s,hs⟩:=(hr.trans X a).live live;exact⟨_,hs.cMu⟩;cases k with
 |zero=>exact aJ.stop λf a=>⟨c,λh=>absurd rfl h,trivial⟩
 |succ k=>
 refine aJ.stop λf a=>⟨c,λh=>absurd rfl h,?_⟩
 have⟨o,y,B⟩:=N;have F:=(Ψ.1 y).1;have x:=hr.trans X a;have E:f.heap[X.M]?=some o:=(x.keep X.M F (.inl (.inr rfl))).trans y;refine⟨(bp (N7 ..)).1,(bp (N7 ..)).2,ϛ,λ_=>⟨o,E,B⟩,λs H hf=>⟨by simp[mv],λS _ _=>?_⟩⟩;refine⟨(at_ .ud n,s),by simp[mv],λ_=>⟨ϛ,resume (uR X.Fd pf cs I.mu) U,f,#[sW (.releaseMerge (mA X))],?_,H,.refl _,by simp[EvStop,j5],?_⟩⟩;rw[hm];exact ir xRm .releaseMerge fRm (N7 ..);unfold After;rw[Γ ϛ,hm];have J:jQ X .ur (λb=>γ.own b\/b=X.M)=γ.own:=by funext b;show((γ.own b\/b=X.M)/\b≠X.M)=γ.own b;exact propext ⟨λh=>h.1.resolve_right h.2,λh=>⟨.inl h,λe=>P (e▸h)⟩⟩
 have key:LW X r {γ with mine:=c,other:=d} k (at_ .ud n) (uD X.Fd pf cs I.mu) f:=?_;have:=aI (adW X.Fd pf cs _) key;rw[<-J]at this;exact this;have i:RR X γ w f:=sub x;have g:∀{D:Nat}{w1:Φ}{z:Ω},RR X γ w w1->aN z=some (170,#[])->ay PP false (resume z U) (G {pf with mode:=.returning} cs)->LW X r {γ with mine:=c,other:=d} D (at_ .ue n) z w1:=by intro D w1 z h1 hc hg;exact yn hm R' (T':=at_ .out n) (m:=.enable) xEn ϛ fEn hc (by simp[mv]) (by simp[EvStop,j5]) ϛ ϛ ϛ ϛ ϛ ϛ λk' w' hk hr=>aI hg (u k' w' (h1.trans X hr))
 refine yn hm R' (T':=at_ .u0 n) (m:=.disable) KM ϛ MK (XM ..) (by simp[mv]) (by simp[EvStop,j5]) ϛ ϛ ϛ ϛ ϛ ϛ λD w1 L j=>?_
 refine aI (adZ ..) (tX hm R' (.inr rfl) (XN ..) λs hf=>?_);by_cases h1:s.mu=1
 .refine⟨(at_ .ue n,{s with mu:=0}),by simp[mv,h1],.inr ⟨by rw[h1];rfl,rfl,ϛ,λk2 w2 p a=>?_⟩⟩;rw[h1];exact aI (akp ..) (g ((i.trans X j).trans X a) (akm ..) (XL ..))
 by_cases t:s.mu=3
 .refine⟨(at_ .ue n,{s with mu:=2}),by simp[mv,h1,t],.inr ⟨by rw[t];rfl,rfl,ϛ,λk2 w2 p a=>?_⟩⟩;rw[t];exact aI (ako ..) (g ((i.trans X j).trans X a) (akl ..) (XK ..))
 by_cases v:s.mu=9
 .refine⟨({pc:=.uc,old:=8,nw:=2,n:=n},{s with mu:=8}),by simp[mv,h1,t,v],.inr ⟨by rw[v];rfl,rfl,ϛ,λk2 w2 p a=>?_⟩⟩;rw[v];refine aI (akn ..) (D8 hm R' (T1:=at_ .us n) (T2:=at_ .bad n) (.inr (.inr rfl)) (akk ..) (λs e=>by simp[mv,e]) (λs _ e=>⟨(at_ .bad n,s),by simp[mv,e],.inl rfl⟩) rfl ϛ rfl ϛ (λk3 Q M A=>?_) λh=>absurd rfl h);refine aI (ad7 ..) (RH hm R' rfl (XH ..) rfl λk4 K C q=>aI (adV ..) ?_);exact g ((((i.trans X j).trans X a).trans X A).trans X q) (XJ ..) (XI ..)
 by_cases l:s.mu=13
 .refine⟨(at_ .us n,{s with mu:=12}),by simp[mv,h1,t,v,l],.inr ⟨by rw[l];rfl,rfl,ϛ,λk2 w2 p a=>?_⟩⟩;rw[l];refine aI (ad5 ..) (RH hm R' rfl (adY ..) rfl λk4 K C q=>aI (XO ..) ?_);exact g (((i.trans X j).trans X a).trans X q) (Sz ..) (Sy ..)
 .exact⟨(at_ .bad n,s),by simp[mv,h1,t,v,l],.inl rfl⟩
end
section
variable {Δ:Type}{X:Cx Δ}{r:bE}{k n:Nat}{T:Lo}{γ:Gh Δ}{own:Nat->Prop}{g:Ω}{w:Φ}
def pF{b:Bool}(hd:b=false){ro:ϒ}{Stop:(Nat->Prop)->Ω->Φ->Prop}{t:θ}{a:Addr}{v:Θ}(h:bm g=some (.load t (.pointer (some a))))(ha:∀w,(isAgg t).run PP w=.ok false w)(f:∀w,(isAgg t).events PP w #[]=#[])(hb:own a.block\/ro a.block)(hc:w.cell? a=some v)(k:aJ PP false (gG X b ro) Stop own (resume g v) w):aJ PP false (gG X b ro) Stop own g w:=by
 subst hd;refine aJ.step (dH h).1 λw₁ hr=>?_
 have d:a.block<w.heap.size:=by
  unfold World.cell? at hc;cases i:w.heap[a.block]? with|none=>rw[i]at hc;simp at hc|some o=>exact(Ψ.1 i).1
 have c:w₁.cell? a=some v:=by unfold World.cell? at hc⊢;rw[hr.keep a.block d hb];exact hc
 have⟨es,e1,e2⟩:=ph (P:=PP) (main:=false) (w:=w₁) (w':=w₁) (x:=v) h (by simp[m6.sem,go_sem,ha,c]);refine⟨_,w₁,es,e1,⟨rfl,rfl,ε _,.refl _,λ_ _ _=>rfl,λe j=>?_,λh=>absurd h ϛ⟩,?_⟩
 .have:=e2 e j;simp[m6.sem,go_sem,ha,f,c]at this;subst this;obtain hb|hb:=hb;exact .inl ⟨a.block,.inl hb,.inl ⟨a,rfl,rfl⟩⟩;exact .inl ⟨a.block,.inr (.inr ⟨hb,rfl⟩),.inl ⟨a,rfl,rfl⟩⟩
 have:=(kY (X:=X) false ro own w₁).2;rw[this];exact k.rely hr
end
section
variable (bw bf F W bd bs:Nat)(dv:Θ)(sd:Int)
def pb(b:Nat):Θ:=.pointer (some ⟨b,0,none⟩)
def ldT(g:Ω):θ:=match bm g with|some (.load t _)=>t|_=>0
def sX:Θ:=.func (.func 131) #[] #[pb F,pb bd,pb bs]
def gW0:Ω:=Go.Conc.born PP {target:=.fn (.func 163) #[pb bw,pb bf],args:=#[]}
def gW1:Ω:=O (gW0 bw bf)
def abK:ay PP false (gW0 bw bf) (gW1 bw bf):=aV λa=>ϰ
def abI:bm (gW1 bw bf)=some (.load (ldT (gW1 0 0)) (.pointer (some ⟨bf,0,none⟩))):=ϰ
def gW2:Ω:=O (resume (gW1 bw bf) (sX F bd bs))
def abJ:ay PP false (resume (gW1 bw bf) (sX F bd bs)) (gW2 bw bf F bd bs):=aV λa=>ϰ
def abG:bm (gW2 bw bf F bd bs)=some (.load (ldT (gW2 0 0 0 0 0)) (.pointer (some ⟨bd,0,none⟩))):=ϰ
def gW3:Ω:=O (resume (gW2 bw bf F bd bs) dv)
def abH:ay PP false (resume (gW2 bw bf F bd bs) dv) (gW3 bw bf F bd bs dv):=aV λa=>ϰ
def abE:bm (gW3 bw bf F bd bs dv)=some (.load (ldT (gW3 0 0 0 0 0 dv)) (.pointer (some ⟨bs,0,none⟩))):=ϰ
def cW:List φ:=(On 1 (resume (gW3 bw bf F bd bs dv) (.int .i64 sd))).callers
def fW:φ:=(cW bw bf F bd bs dv sd).head?.getD default
def tW:List φ:=(cW bw bf F bd bs dv sd).tail
def gK0(fr:φ)(cs:Ϙ):Ω:=Qm 132 #[pb F,dv,.int .i64 sd] 46 fr cs
def abF:ay PP false (resume (gW3 bw bf F bd bs dv) (.int .i64 sd)) (gK0 F dv sd (fW bw bf F bd bs dv sd) (tW bw bf F bd bs dv sd)):=aZ 1 (cB PP false 1 (resume (gW3 bw bf F bd bs dv) (.int .i64 sd))) λa=>ϰ
def gX0:Ω:=de (fW bw bf F bd bs dv sd) (tW bw bf F bd bs dv sd) U
def gX1:Ω:=O (gX0 bw bf F bd bs dv sd)
def abD:ay PP false (gX0 bw bf F bd bs dv sd) (gX1 bw bf F bd bs dv sd):=aV λa=>ϰ
def abB:bm (gX1 bw bf F bd bs dv sd)=some (.load (ldT (gX1 0 0 0 0 0 dv 0)) (.pointer (some ⟨bw,0,none⟩))):=ϰ
def Si:Ω:=O (resume (gX1 bw bf F bd bs dv sd) (pb W))
def abC:ay PP false (resume (gX1 bw bf F bd bs dv sd) (pb W)) (Si bw bf F W bd bs dv sd):=aV λa=>ϰ
def abA:bm (Si bw bf F W bd bs dv sd)=some (.conv (Bf (Si 0 0 0 0 0 0 dv 0)) (Cp (Si 0 0 0 0 0 0 dv 0)) (pb W)):=ϰ
def ahi:PP.underlying (Bf (Si 0 0 0 0 0 0 dv 0))=some (.pointer (Cn (Si 0 0 0 0 0 0 dv 0))):=ϰ
def ahj:PP.underlying (Cp (Si 0 0 0 0 0 0 dv 0))=some .unsafePointer:=ϰ
def ahh:(PP.info? (Cn (Si 0 0 0 0 0 0 dv 0))).map (λi=>decide (i.size=0))=some false:=ϰ
def W5:Ω:=O (resume (Si bw bf F W bd bs dv sd) (pb W))
def abz:ay PP false (resume (Si bw bf F W bd bs dv sd) (pb W)) (W5 bw bf F W bd bs dv sd):=aV λa=>ϰ
def IZ:aN (W5 bw bf F W bd bs dv sd)=some (193,#[pb W]):=ϰ
def gX4:Ω:=O (resume (W5 bw bf F W bd bs dv sd) U)
def abx:ay PP false (resume (W5 bw bf F W bd bs dv sd) U) (gX4 bw bf F W bd bs dv sd):=aV λa=>ϰ
def UY:aN (gX4 bw bf F W bd bs dv sd)=some (168,#[]):=ϰ
def gX5:Ω:=O (resume (gX4 bw bf F W bd bs dv sd) U)
def abw:ay PP false (resume (gX4 bw bf F W bd bs dv sd) U) (gX5 bw bf F W bd bs dv sd):=aV λa=>ϰ
def UX:aN (gX5 bw bf F W bd bs dv sd)=some (176,#[]):=ϰ
def Ba:Ω:=O (resume (gX5 bw bf F W bd bs dv sd) (.bool false))
def abv:ay PP false (resume (gX5 bw bf F W bd bs dv sd) (.bool false)) (Ba bw bf F W bd bs dv sd):=aV λa=>ϰ
end
section
variable (bw bf F W bd bs:Nat)(dv:Θ)(sd:Int)
def Kp:aN (Ba bw bf F W bd bs dv sd)=some (213,#[pb W,.int .u64 18446744069414584320]):=ϰ
def gY(n:Int):Ω:=O (resume (Ba bw bf F W bd bs dv sd) (.int .u64 n))
def abt:ay PP false (resume (Ba bw bf F W bd bs dv sd) (.int .u64 1)) (gY bw bf F W bd bs dv sd 1):=aV λa=>ϰ
def abu:jj (gY bw bf F W bd bs dv sd 0)=some (170,#[]):=ϰ
def abr:jj (gY bw bf F W bd bs dv sd 4294967296)=some (170,#[]):=ϰ
def abq:jj (gY bw bf F W bd bs dv sd 4294967297)=some (170,#[]):=ϰ
def Qi:aN (gY bw bf F W bd bs dv sd 1)=some (203,#[pb W]):=ϰ
def gZ1:Ω:=O (resume (gY bw bf F W bd bs dv sd 1) (.int .u64 1))
def UW:ay PP false (resume (gY bw bf F W bd bs dv sd 1) (.int .u64 1)) (gZ1 bw bf F W bd bs dv sd):=aV λa=>ϰ
def Qh:aN (gZ1 bw bf F W bd bs dv sd)=some (214,#[pb W,.int .u64 0]):=ϰ
def W9:Ω:=O (resume (gZ1 bw bf F W bd bs dv sd) U)
def abp:ay PP false (resume (gZ1 bw bf F W bd bs dv sd) U) (W9 bw bf F W bd bs dv sd):=aV λa=>ϰ
def DM:aN (W9 bw bf F W bd bs dv sd)=some (200,#[sQ W,.bool false,.int .i64 0]):=ϰ
def gZ3:Ω:=O (resume (W9 bw bf F W bd bs dv sd) U)
def abo:jj (gZ3 bw bf F W bd bs dv sd)=some (170,#[]):=ϰ
end
def IW(P:aa1):Nat->Ω->(Nat->Φ)->Option (List (Ω×Φ))
 |0,_,_=>some []
 |n+1,g,ws=>
  match g.status,stepG P false g (ws 0)with
  |.running,.go g' w' es=>if es.isEmpty then(match IW P n g' (λi=>ws (i+1))with|some l=>some ((g',w')::l)|none=>none)else none
  |_,_=>none
def pairs:List Ω->(Nat->Φ)->List (Ω×Φ)
 |[],_=>[]
 |x::l,ws=>(x,ws 0)::pairs l λi=>ws (i+1)
def BX(n:Nat)(g:Ω):List Ω:=match IW PP n g (λ_=>default)with|some l=>l.map (·.1)|none=>[]
def iO{m d:Nat}:∀{n:Nat}{g:Ω}{L:List Ω},(∀f,IW PP n g f=some (pairs L f))->QuitsD PP m d (L.getLastD g)->QuitsD PP (n+m) d g
 |0,g,L,h,q=>by
  have:=h λ_=>default
  simp only[IW,ag0]at this;cases L with|nil=>rw[ϐ9];exact q|cons x l=>simp[pairs]at this
 |n+1,g,L,h,q=>by
  have key:∀w:Φ,g.status=.running/\∃x b,L=x::b/\stepG PP false g w=.go x w #[]/\∀a:Nat->Φ,IW PP n x a=some (pairs b a):=by
   intro w;have h0:∀a:Nat->Φ,g.status=.running/\∃x b,L=x::b/\stepG PP false g w=.go x w #[]/\IW PP n x a=some (pairs b a):=by
    intro a;have:=h λi=>match i with|0=>w|i+1=>a i
    simp only[IW]at this;cases hs:g.status<;>rw[hs]at this<;>(try cases this;done)
    cases e:stepG PP false g w<;>rw[e]at this<;>simp only at this<;>(try cases this;done)
    rename_i r w' es;split at this;rename_i c;have c:es=#[]:=by simpa using c
    subst c;split at this;rename_i l j;cases L with|nil=>simp[pairs]at this|cons x b=>simp only[pairs,ag0,List.cons.injEq,ai6]at this;obtain⟨⟨rfl,rfl⟩,rfl⟩:=this;exact⟨rfl,_,b,rfl,rfl,j⟩
    cases this;cases this
   have⟨hs,x,b,e1,e2,_⟩:=h0 λ_=>w
   refine⟨hs,x,b,e1,e2,λa=>?_⟩;have⟨_,y,k,f1,f2,p⟩:=h0 a;rw[e1]at f1;cases f1;exact p
  have⟨hs,x,b,e1,e2,o⟩:=key default;rw[show n+1+m=n+m+1 by omega];refine QuitsD.ctl hs (λw=>?_) (iO (L:=b) o ?_);have⟨_,y,k,f1,f2,_⟩:=key w;rw[e1]at f1;cases f1;exact f2;rw[e1]at q;cases b with|nil=>exact q|cons z l=>exact q
def uI(h:jj g=some (170,#[]))(q:QuitsD PP n 0 (dK g)):QuitsD PP (n+1) 1 g:=
 .said ⟨.mark .enable,false,true⟩ rfl (rj h).1 (λw=>kd xEn .enable ϛ fEn h) q
section
variable (bw bf F W bd bs:Nat)(dv:Θ)(sd:Int)
def afj(a:ϭ):IW PP 9 (dK (gY bw bf F W bd bs dv sd 0)) a=some (pairs (BX 9 (dK (gY bw bf F W bd bs dv sd 0))) a):=ϰ
def afh(a:ϭ):IW PP 9 (dK (gY bw bf F W bd bs dv sd 4294967296)) a=some (pairs (BX 9 (dK (gY bw bf F W bd bs dv sd 4294967296))) a):=ϰ
def afg(a:ϭ):IW PP 9 (dK (gY bw bf F W bd bs dv sd 4294967297)) a=some (pairs (BX 9 (dK (gY bw bf F W bd bs dv sd 4294967297))) a):=ϰ
def afi(a:ϭ):IW PP 9 (dK (gZ3 bw bf F W bd bs dv sd)) a=some (pairs (BX 9 (dK (gZ3 bw bf F W bd bs dv sd))) a):=ϰ
def ahE:((BX 9 (dK (gY bw bf F W bd bs dv sd 0))).getLastD (dK (gY bw bf F W bd bs dv sd 0))).status=.finished:=ϰ
def ahC:((BX 9 (dK (gY bw bf F W bd bs dv sd 4294967296))).getLastD (dK (gY bw bf F W bd bs dv sd 4294967296))).status=.finished:=ϰ
def ahB:((BX 9 (dK (gY bw bf F W bd bs dv sd 4294967297))).getLastD (dK (gY bw bf F W bd bs dv sd 4294967297))).status=.finished:=ϰ
def ahD:((BX 9 (dK (gZ3 bw bf F W bd bs dv sd))).getLastD (dK (gZ3 bw bf F W bd bs dv sd))).status=.finished:=ϰ
def adO(a:ϭ):IW PP 87 (resume (Ba bw bf F W bd bs dv sd) (.int .u64 0)) a=some (pairs (BX 87 (resume (Ba bw bf F W bd bs dv sd) (.int .u64 0))) a):=ϰ
def ahZ:(BX 87 (resume (Ba bw bf F W bd bs dv sd) (.int .u64 0))).getLastD (resume (Ba bw bf F W bd bs dv sd) (.int .u64 0))=gY bw bf F W bd bs dv sd 0:=ϰ
def Zz:∃n,QuitsD PP n 1 (resume (Ba bw bf F W bd bs dv sd) (.int .u64 0)):=⟨_,iO (adO bw bf F W bd bs dv sd) (by rw[ahZ];exact uI (abu bw bf F W bd bs dv sd) (iO (m:=0) (afj bw bf F W bd bs dv sd) ⟨ahE bw bf F W bd bs dv sd,rfl⟩))⟩
def adM(a:ϭ):IW PP 87 (resume (Ba bw bf F W bd bs dv sd) (.int .u64 4294967296)) a=some (pairs (BX 87 (resume (Ba bw bf F W bd bs dv sd) (.int .u64 4294967296))) a):=ϰ
def ahX:(BX 87 (resume (Ba bw bf F W bd bs dv sd) (.int .u64 4294967296))).getLastD (resume (Ba bw bf F W bd bs dv sd) (.int .u64 4294967296))=gY bw bf F W bd bs dv sd 4294967296:=ϰ
def Zx:∃n,QuitsD PP n 1 (resume (Ba bw bf F W bd bs dv sd) (.int .u64 4294967296)):=⟨_,iO (adM bw bf F W bd bs dv sd) (by rw[ahX];exact uI (abr bw bf F W bd bs dv sd) (iO (m:=0) (afh bw bf F W bd bs dv sd) ⟨ahC bw bf F W bd bs dv sd,rfl⟩))⟩
def adL(a:ϭ):IW PP 87 (resume (Ba bw bf F W bd bs dv sd) (.int .u64 4294967297)) a=some (pairs (BX 87 (resume (Ba bw bf F W bd bs dv sd) (.int .u64 4294967297))) a):=ϰ
def ahW:(BX 87 (resume (Ba bw bf F W bd bs dv sd) (.int .u64 4294967297))).getLastD (resume (Ba bw bf F W bd bs dv sd) (.int .u64 4294967297))=gY bw bf F W bd bs dv sd 4294967297:=ϰ
def Zw:∃n,QuitsD PP n 1 (resume (Ba bw bf F W bd bs dv sd) (.int .u64 4294967297)):=⟨_,iO (adL bw bf F W bd bs dv sd) (by rw[ahW];exact uI (abq bw bf F W bd bs dv sd) (iO (m:=0) (afg bw bf F W bd bs dv sd) ⟨ahB bw bf F W bd bs dv sd,rfl⟩))⟩
def adN(a:ϭ):IW PP 17 (resume (W9 bw bf F W bd bs dv sd) U) a=some (pairs (BX 17 (resume (W9 bw bf F W bd bs dv sd) U)) a):=ϰ
def ahY:(BX 17 (resume (W9 bw bf F W bd bs dv sd) U)).getLastD (resume (W9 bw bf F W bd bs dv sd) U)=gZ3 bw bf F W bd bs dv sd:=ϰ
def Zy:∃n,QuitsD PP n 1 (resume (W9 bw bf F W bd bs dv sd) U):=⟨_,iO (adN bw bf F W bd bs dv sd) (by rw[ahY];exact uI (abo bw bf F W bd bs dv sd) (iO (m:=0) (afi bw bf F W bd bs dv sd) ⟨ahD bw bf F W bd bs dv sd,rfl⟩))⟩
end
def XF:Ext PP 176 Tryz.f176:=⟨func176,ϰ,ϰ,ϰ⟩
def aco:Extern.find Tryz.f176=some (λ_=>pure (.bool false)):=ϰ
def NS:Ext PP 213 Tryz.f213:=⟨func213,ϰ,ϰ,ϰ⟩
def QT:Extern.find Tryz.f213=some (Extern.Atomic.update (Op.intArith .add) .u64 true):=ϰ
def XE:Ext PP 203 Tryz.f203:=⟨func203,ϰ,ϰ,ϰ⟩
def ack:Extern.find Tryz.f203=some (Extern.Atomic.loadT (.int .u64)):=ϰ
def aj2:Ext PP 214 Tryz.f214:=⟨func214,ϰ,ϰ,ϰ⟩
def amh:Extern.find Tryz.f214=some Extern.Atomic.storeT:=ϰ
def Wf:Ext PP 200 Tryz.f200:=⟨func200,ϰ,ϰ,ϰ⟩
def ahM:Extern.find Tryz.f200=some Extern.Sync.semrelease:=ϰ
section
variable {Δ:Type}{X:Cx Δ}{r:bE}{k n:Nat}{γ:Gh Δ}{w:Φ}{bw bf F bd bs:Nat}{dv:Θ}{sd:Int}
variable (hm:xQ r=false)(R:Room X γ)
include hm R
theorem aii:LW X r γ k (at_ .d1 n) (Ba bw bf F X.Wg bd bs dv sd) w:=by
 refine jw λp w1 x y=>dM (bp (Kp ..)) ϛ ϛ ϛ ϛ (λs _ hf f=>?_) λs b hf _=>?_
 exfalso;obtain h|h|h|h|h|h:=hf.2.2.1<;>simp[mv,h,KKi]at f
 rw[hm];have c:=ug (P:=PP) (main:=false) (w:=w1) (ad:=wA X) NS .u64 QT (Kp bw bf F X.Wg bd bs dv sd) b.Nc (b.Sa 0);have a:=b.setWg R.ne (IntKind.u64.wrap (s.wg+18446744069414584320));have d:=ConcM.Eff.set (w:=w1) (Mu:=X.Fd) (Wg:=X.Wg) (wA X) (.int .u64 (IntKind.u64.wrap (s.wg+18446744069414584320))) (.inr rfl);have g:∀{q:Lo×Sh},q∈mv (at_ .d1 n) s->q.1.pc=.bad->∃q∈mv (at_ .d1 n) s,q.1.pc≠.bad->∃g' w' es,stepG PP false (Ba bw bf F X.Wg bd bs dv sd) w1=.go g' w' es/\ShAt X w' q.2/\ConcM.Eff X.Fd X.Wg w1 w'/\EvStop X (at_ .d1 n) q.1 es/\
   (if q.1.pc=.quit then ∃n,QuitsD PP n 1 g' else aJ PP false (gG X (fK q.1.pc) γ.ro) (eG (KJ X PP p r) q.1 γ) γ.own g' w'):=λA hb=>⟨_,A,λh=>absurd hb h⟩
 obtain h|h|h|h|h|h:=hf.2.2.1
 .exact g (q:=(at_ .bad n,s)) (by simp[mv,h,KKi]) rfl
 .exact g (q:=(at_ .bad n,s)) (by simp[mv,h,KKi]) rfl
 .have e:IntKind.u64.wrap (s.wg+18446744069414584320)=0:=by rw[h];decide
  rw[e]at c a d;refine⟨(at_ .quit n,{s with wg:=0}),by simp[mv,h,KKi],λ_=>⟨_,_,_,c,a,d,qZ (okW R.ne) rfl,?_⟩⟩;rw[κ rfl];exact Zz ..
 .have e:IntKind.u64.wrap (s.wg+18446744069414584320)=1:=by rw[h];decide
  rw[e]at c a d;refine⟨(at_ .d2 n,{s with wg:=1}),by simp[mv,h,KKi],λ_=>⟨_,_,_,c,a,d,qZ (okW R.ne) rfl,?_⟩⟩;rw[Γ ϛ];refine aI (abt ..) (jw (T:=at_ .d2 n) λk2 w2 m u=>dM (bp (Qi ..)) ϛ ϛ ϛ ϛ (λs _ hf f=>?_) λs b hf _=>?_);exfalso;by_cases h1:s.wg=1<;>simp[mv,h1]at f
  rw[hm];by_cases h1:¬s.wg=1
  .exact⟨(at_ .bad n,s),by simp[mv,h1],λh=>absurd rfl h⟩
  have h1:s.wg=1:=ϓ8.1 h1;have c:=tu (P:=PP) (main:=false) (w:=w2) (ad:=wA X) XE .u64 ack (Qi bw bf F X.Wg bd bs dv sd) b.Nc;rw[h1]at c;refine⟨(at_ .d3 n,s),by simp[mv,h1],λ_=>⟨_,_,_,c,b,.refl _,Gw (okW R.ne) rfl,?_⟩⟩;rw[Γ ϛ];refine aI (UW ..) (jw (T:=at_ .d3 n) λk3 i z l=>dM (bp (Qh ..)) ϛ ϛ ϛ ϛ (λs _ hf f=>?_) λs b hf _=>?_);exfalso;by_cases h1:s.wg=1<;>simp[mv,h1]at f
  rw[hm];by_cases h1:¬s.wg=1
  .exact⟨(at_ .bad n,s),by simp[mv,h1],λh=>absurd rfl h⟩
  have h1:s.wg=1:=ϓ8.1 h1;have c:=Ew (P:=PP) (main:=false) (w:=i) (ad:=wA X) aj2 amh (Qh bw bf F X.Wg bd bs dv sd) b.Nc (b.Sa 0);have a:=b.setWg R.ne 0;have d:=ConcM.Eff.set (w:=i) (Mu:=X.Fd) (Wg:=X.Wg) (wA X) (.int .u64 0) (.inr rfl);refine⟨(at_ .d4 n,{s with wg:=0}),by simp[mv,h1],λ_=>⟨_,_,_,c,a,d,amn (okW R.ne) rfl,?_⟩⟩;rw[Γ ϛ];refine aI (abp ..) (jw (T:=at_ .d4 n) λk4 j o t=>dM (bp (DM ..)) ϛ ϛ ϛ (λ_=>Em Wf (DM ..)) (λs _ hf f=>by simp[mv]at f) λs b hf _=>?_);rw[hm];have v:IntKind.u32.wrap (s.ws+1)=s.ws+1:=by obtain h|h:=hf.2.2.2<;>rw[h]<;>decide
  have c:=Ez (P:=PP) (main:=false) (w:=j) (ad:=ND X) Wf ahM (DM bw bf F X.Wg bd bs dv sd) b.cWs (b.Sa 1);rw[v]at c;have a:=b.setWs R.ne (s.ws+1);have d:=ConcM.Eff.set (w:=j) (Mu:=X.Fd) (Wg:=X.Wg) (ND X) (.int .u32 (s.ws+1)) (.inr rfl);refine⟨(at_ .quit n,{s with ws:=s.ws+1}),by simp[mv],λ_=>⟨_,_,_,c,a,d,DR (afv R.ne) rfl,?_⟩⟩;rw[κ rfl];exact Zy ..
 .have e:IntKind.u64.wrap (s.wg+18446744069414584320)=4294967296:=by rw[h];decide
  rw[e]at c a d;refine⟨(at_ .quit n,{s with wg:=KKi}),by simp[mv,h,KKi],λ_=>⟨_,_,_,c,a,d,qZ (okW R.ne) rfl,?_⟩⟩;rw[κ rfl];exact Zx ..
 .have e:IntKind.u64.wrap (s.wg+18446744069414584320)=4294967297:=by rw[h];decide
  rw[e]at c a d;refine⟨(at_ .quit n,{s with wg:=KKi+1}),by simp[mv,h,KKi],λ_=>⟨_,_,_,c,a,d,qZ (okW R.ne) rfl,?_⟩⟩;rw[κ rfl];exact Zw ..
theorem MT(a:γ.mine=X.fin r):LW X r γ k (at_ .out n) (W5 bw bf F X.Wg bd bs dv sd) w:=by
 refine jw λk' w₁ hk hr=>?_
 refine⟨(bp (IZ ..)).1,(bp (IZ ..)).2,ϛ,ϛ,λs b hf=>⟨by simp[mv],λd hd _=>?_⟩⟩;refine⟨(at_ .wk n,s),by simp[mv],λ_=>⟨λ_=>a,resume (W5 bw bf F X.Wg bd bs dv sd) U,w₁,#[sW (.releaseMerge (wA X))],?_,b,.refl _,by simp[EvStop,j5],?_⟩⟩;rw[hm];exact ir xRm .releaseMerge fRm (IZ ..)
 .unfold After;rw[Γ ϛ,hm];have key:LW X r γ k' (at_ .wk n) (resume (W5 bw bf F X.Wg bd bs dv sd) U) w₁:=by
   refine aI (abx ..) (yn hm R (T':=at_ .d1 n) (m:=.disable) KM ϛ MK (UY ..) (by simp[mv]) (by simp[EvStop,j5]) ϛ ϛ ϛ ϛ ϛ ϛ λk2 w2 c e=>?_);exact aI (abw ..) (uO hm R XF aco (UX ..) (aI (abv ..) (aii hm R)))
  exact key
end
section
variable {Δ:Type}{X:Cx Δ}{r:bE}{k n:Nat}{γ:Gh Δ}{w:Φ}{bw bf bd bs:Nat}{dv:Θ}{sd:Int}
def NU(hm:xQ r=false)(R:Room X γ)(live:∃s,ShAt X w s)(hb:γ.ro bw)(b:w.cell? ⟨bw,0,none⟩=some (pb X.Wg))(a:γ.mine=X.fin r):LW X r γ k (at_ .out n) (gX0 bw bf X.Fd bd bs dv sd) w:=by
 refine aI (abD ..) (pF rfl (abB ..) (λw=>ϰ) (λw=>ϰ) (.inr hb) b ?_);refine aI (abC ..) (tH (abA ..) (ahi dv) (ahj dv) (ahh dv) (λw₁ hr=>?_) (aI (abz ..) (MT hm R a)));have⟨s,hs⟩:=hr.live live;exact⟨_,hs.Nc⟩
def Ss{T:Lo}(d:fK T.pc=false)(hf:γ.ro bf)(hd:γ.ro bd)(hs:γ.ro bs)(b:w.cell? ⟨bf,0,none⟩=some (sX X.Fd bd bs))(a:w.cell? ⟨bd,0,none⟩=some dv)(c:w.cell? ⟨bs,0,none⟩=some (.int .i64 sd))(go:LW X r γ k T (gK0 X.Fd dv sd (fW bw bf X.Fd bd bs dv sd) (tW bw bf X.Fd bd bs dv sd)) w):LW X r γ k T (gW0 bw bf) w:=by
 refine aI (abK ..) (pF d (abI ..) (λw=>ϰ) (λw=>ϰ) (.inr hf) b ?_);refine aI (abJ ..) (pF d (abG ..) (λw=>ϰ) (λw=>ϰ) (.inr hd) a ?_);refine aI (abH ..) (pF d (abE ..) (λw=>ϰ) (λw=>ϰ) (.inr hs) c ?_);exact aI (abF ..) go
end
def RT{α:Type}(s:Sem α)(w:Φ)(x:α)(w':Φ)(ev:Ϛ):Prop:=∀es,s.runT PP w es=(.ok x w',es++ev)
section
variable {α β:Type}{s:Sem α}{f:α->Sem β}{w w1 w2:Φ}{x:α}{y:β}{e1 e2:Array Event}
def RT.bind'(h:RT s w x w1 e1)(k:RT (f x) w1 y w2 e2):RT (s.bind f) w y w2 (e1++e2):=λes=>by
 rw[Sem.runT_bind',h es];dsimp only;rw[k,Array.append_assoc]
def RT.bind(h:RT s w x w1 e1)(k:RT (f x) w1 y w2 e2):RT (s>>=f) w y w2 (e1++e2):=h.bind' k
def RT.bk(h:RT s w x w1 #[])(k:RT (f x) w1 y w2 e2):RT (s>>=f) w y w2 e2:=by
 have:=h.bind k
 rwa [an0]at this
def RT.fH(h:RT s w x w1 e1)(k:RT (f x) w1 y w2 #[]):RT (s>>=f) w y w2 e1:=by
 have:=h.bind k
 rwa [am5]at this
def RT.pure(x:α):RT (Pure.pure x:Sem α) w x w #[]:=λes=>by show(Result.ok x w,es)=_;rw[am5]
def RT.run(h:RT s w x w1 e1):s.run PP w=.ok x w1:=by rw[<-Sem.runT_fst PP s w #[],h #[]]
def RT.ev(h:RT s w x w1 e1):s.events PP w #[]=e1:=by
 show(s.runT PP w #[]).2=e1;rw[h #[]];simp
end
def iz:RT program w PP w #[]:=λes=>by show(Result.ok PP w,es)=_;rw[am5]
def uz{i:TypeInfo}(h:PP.info? t=some i):RT (typeInfo t) w i w #[]:=iz.bk (by rw[h];exact .pure i)
def iw{d:TypeDesc}(h:PP.underlying t=some d):RT (underlying t) w d w #[]:=iz.bk (by rw[h];exact .pure d)
def rO(h:(PP.info? t).map (·.size)=some n):RT (Go.sizeOf t) w n w #[]:=by
 have⟨i,h1,h2⟩:=ψ.1 h;exact(uz h1).bk (h2▸.pure _)
def x5(h:(PP.info? t).bind (·.zero)=some z):RT (zeroValue t) w z w #[]:=by
 have⟨i,h1,h2⟩:=ϒ7.1 h;exact(uz h1).bk (by rw[h2];exact .pure _)
def i7{b:Bool}(h:(PP.underlying t).map (λd=>match d with|.struct _|.array _ _=>true|_=>false)=some b):RT (isAgg t) w b w #[]:=by
 have⟨d,h1,h2⟩:=ψ.1 h;refine(iw h1).bk ?_;cases d<;>simp only at h2⊢<;>subst h2<;>exact .pure _
def iN{r:Nat}(h:w.heap[r]?=some o)(hc:∀c t f,o≠.cells c t f:=by simp):RT (getObj r) w o w #[⟨.obj r,false,o.isChan⟩]:=λes=>by
 unfold getObj;simp only[Sem.runT,h];cases o<;>first|(exact absurd rfl (hc ..))|simp
def kj{w:Φ}{r:Nat}{o a:Obj}(h:w.heap[r]?=some a)(hc:∀c t f,a≠.cells c t f:=by simp):RT (setObj r o) w () {w with heap:=w.heap.setIfInBounds r o} #[⟨.obj r,true,o.isChan⟩]:=λes=>by
 show(match w.heap[r]? with
  |some (.cells ..)=>_
  |some _=>_
  |none=>_)=_
 rw[h];cases a<;>first|(exact absurd rfl (hc _ _ _))|(show(Result.ok _ _,es.push _)=_;simp)
def qE(o:Obj):RT (newObj o) w w.heap.size {w with heap:=w.heap.push o} #[]:=λes=>by show(Result.ok _ _,es)=_;rw[am5]
def lN(h:w.cell? a=some v):RT (load a) w v w #[⟨.cell a,false,false⟩]:=λes=>by
 unfold load;simp only[Sem.runT,h];simp;rfl
def OJ{u:Θ}(h:w.cell? a=some u)(b:w.frozen? a=false)(hv:ni v=true):RT (store a v) w () (w.setCell a v) #[⟨.cell a,true,false⟩]:=λes=>by
 show(Sem.store .plain a v (.pure ())).runT PP w es=_;rw[wU hv,h];simp only[b];show(Result.ok _ _,es.push _)=_;simp;rfl
structure Bn (b:Nat)(o:Obj)(w w':Φ):Prop where
 tape:w'.tape=w.tape
 output:w'.output=w.output
 os:w'.os=w.os
 size:w'.heap.size=w.heap.size
 at_:w'.heap[b]?=some o
 rest:∀c,c≠b->w'.heap[c]?=w.heap[c]?
def o6{d:Obj}(h:w.heap[b]?=some d):Bn b o w {w with heap:=w.heap.setIfInBounds b o}:=by
 have a:=(Ψ.1 h).1;exact⟨rfl,rfl,rfl,ϛ,by simp[a],λc hc=>by simp[ζ hc.symm]⟩
def N4{f:Nat×Nat}(h:w.heap[b]?=some (.cells cs t f)):Bn b (.cells (cs.setIfInBounds i v) t f) w (w.setCell ⟨b,i,none⟩ v):=
 ⟨rfl,rfl,rfl,by simp[World.setCell],by rw[setCell_eq_setRow w b i cs t f v h,setRow_heap w b cs _ t f h],λc hc=>(aside_setCell w ⟨b,i,none⟩ v).block c hc⟩
def Bn.trans{b:Nat}{o a:Obj}{w w1 w2:Φ}(h:Bn b o w w1)(k:Bn b a w1 w2):Bn b a w w2:=
 ⟨k.tape.trans h.tape,k.output.trans h.output,k.os.trans h.os,k.size.trans h.size,k.at_,λc hc=>(k.rest c hc).trans (h.rest c hc)⟩
def cell_of{f:Nat×Nat}(h:w.heap[b]?=some (.cells cs t f))(a:cs[i]?=some v):w.cell? ⟨b,i,none⟩=some v:=by simp[World.cell?,h,a]
def SE(h:w.heap[b]?=some (.cells cs t (0,0))):w.frozen? ⟨b,i,none⟩=false:=by simp[World.frozen?,h]
def Aw(b off i:Nat):Addr.add ⟨b,off,none⟩ i=⟨b,off+i,none⟩:=by
 unfold Addr.add;by_cases h:i=0;subst h;rfl;rw[Γ h]
def lL{w:Φ}{b:Nat}{cs:ϐ}{t:θ}{f:Nat×Nat}(h:w.heap[b]?=some (.cells cs t f))(off:Nat):∀(n i:Nat)(acc:ϐ),off+i+n<=cs.size->
  ∃ev,RT (loadCellsFrom ⟨b,off,none⟩ i n acc) w (acc++cs.extract (off+i) (off+i+n)) w ev/\∀e∈ev,∃a:Addr,e=⟨.cell a,false,false⟩/\a.block=b
 |0,i,acc,_=>⟨#[],by
   have e:acc++cs.extract (off+i) (off+i+0)=acc:=by simp;omega
   rw[e];exact RT.pure (w:=w) acc,ϛ⟩
 |n+1,i,acc,hn=>by
  have d:off+i<cs.size:=ϖ;have⟨ev,h1,h2⟩:=lL h off n (i+1) (acc.push cs[off+i]) ϖ;refine⟨#[⟨.cell ⟨b,off+i,none⟩,false,false⟩]++ev,?_,?_⟩;have e:acc++cs.extract (off+i) (off+i+(n+1))=acc.push cs[off+i]++cs.extract (off+(i+1)) (off+(i+1)+n):=by apply Array.ext';simp[ϔ4];rw[show off+(i+1)=off+i+1 by omega,ac7 (by simpa using d)];simp
  have e2:loadCellsFrom ⟨b,off,none⟩ i (n+1) acc=(load (Addr.add ⟨b,off,none⟩ i)>>=λv=>loadCellsFrom ⟨b,off,none⟩ (i+1) n (acc.push v)):=by rw[loadCellsFrom]
  rw[e,e2,Aw];exact(lN (w:=w) (a:=⟨b,off+i,none⟩) (cell_of h (τ d))).bind (f:=λv=>loadCellsFrom ⟨b,off,none⟩ (i+1) n (acc.push v)) h1;intro e c;obtain c|c:=ai1.1 c;simp at c;subst c;exact⟨_,rfl,rfl⟩;exact h2 e c
def bK(cs:ϐ):List Θ->Nat->Array Θ
 |[],_=>cs
 |v::vs,i=>bK (cs.setIfInBounds i v) vs (i+1)
def oa{b:Nat}{t:θ}(off:Nat):∀(c:ϝ)(i:Nat){w:Φ}{cs:ϐ},w.heap[b]?=some (.cells cs t (0,0))->off+i+c.length<=cs.size->(∀v∈c,ni v=true)->
  ∃w' ev,RT (storeCells ⟨b,off,none⟩ c i) w () w' ev/\Bn b (.cells (bK cs c (off+i)) t (0,0)) w w'/\∀e∈ev,∃a:Addr,e=⟨.cell a,true,false⟩/\a.block=b
 |[],i,w,cs,h,_,_=>⟨w,#[],by simpa[storeCells] using RT.pure (w:=w) (),⟨rfl,rfl,rfl,rfl,h,λ_ _=>rfl⟩,ϛ⟩
 |v::c,i,w,cs,h,hn,hv=>by
  simp only[ϲ]at hn;have g:off+i<cs.size:=ϖ;have u:=N4 (i:=off+i) (v:=v) h;have⟨w',ev,h1,h2,k⟩:=oa off c (i+1) u.at_ (by simp;omega) λx j=>hv x (by simp[j])
  have e2:storeCells ⟨b,off,none⟩ (v::c) i=(store (Addr.add ⟨b,off,none⟩ i) v>>=λ_=>storeCells ⟨b,off,none⟩ c (i+1)):=by rw[storeCells]
  rw[e2,Aw];refine⟨w',#[⟨.cell ⟨b,off+i,none⟩,true,false⟩]++ev,(OJ (w:=w) (a:=⟨b,off+i,none⟩) (cell_of h (τ g)) (SE h) (hv v ϛ)).bind (f:=λ_=>storeCells ⟨b,off,none⟩ c (i+1)) h1,u.trans h2,λe d=>?_⟩;obtain d|d:=ai1.1 d;simp at d;subst d;exact⟨_,rfl,rfl⟩;exact k e d
def EvB(b:Nat)(e:Event):Prop:=e.sync=false/\nT b e.loc
def jW{x:Bool}(h:a.block=b):EvB b ⟨.cell a,x,false⟩:=⟨rfl,.inl ⟨a,rfl,h⟩⟩
def eK{x:Bool}:EvB b ⟨.obj b,x,false⟩:=⟨rfl,.inr rfl⟩
section
variable {w:Φ}{b:Nat}{t:θ}
def kU{f:Nat×Nat}{off:Nat}(h:w.heap[b]?=some (.cells cs u f))(ha:(PP.underlying t).map (λd=>match d with|.struct _|.array _ _=>true|_=>false)=some true)(c:(PP.info? t).map (·.size)=some n)(i:off+n<=cs.size):
  ∃ev,RT (m6.load t (.pointer (some ⟨b,off,none⟩))).sem w (.value (.agg (cs.extract off (off+n)))) w ev/\∀e∈ev,EvB b e/\e.write=false:=by
 have⟨ev,h1,h2⟩:=lL h off n 0 #[] ϖ;refine⟨ev,RT.fH (x:=.agg (cs.extract off (off+n))) ?_ (.pure _),λe g=>?_⟩;show RT (do if<-isAgg t then Pure.pure (.agg (<-loadCells ⟨b,off,none⟩ (<-Go.sizeOf t)))else load ⟨b,off,none⟩) w _ w ev;refine(i7 ha).bk ?_;simp only[if_true];refine(rO c).bk ?_;refine RT.fH ?_ (.pure _);simpa[loadCells] using h1;obtain⟨a,rfl,hb⟩:=h2 e g;exact⟨jW hb,rfl⟩
def iy{off:Nat}(h:w.heap[b]?=some (.cells cs u (0,0)))(f:(PP.info? t).map (·.size)=some v.cells.size)(c:off+v.cells.size<=cs.size)(h1:∀x∈v.cells.toList,ni x=true):
  ∃w' ev,RT (m6.store t (.pointer (some ⟨b,off,none⟩)) v).sem w .skip w' ev/\Bn b (.cells (bK cs v.cells.toList off) u (0,0)) w w'/\∀e∈ev,EvB b e:=by
 have⟨w',ev,h2,d,i⟩:=oa off v.cells.toList 0 h (by simpa using c) h1;refine⟨w',ev,RT.fH (x:=()) ?_ (.pure _),d,λe g=>?_⟩;show RT (do
  if v.cells.size≠(<-Go.sizeOf t) then stuck "storeVar: the value has not the size of the variable"
  storeCells ⟨b,off,none⟩ v.cells.toList) w _ w' ev
 refine(rO f).bk ?_;simp only[ne_eq,not_true,if_false];exact RT.bk (.pure _) h2;obtain⟨a,rfl,hb⟩:=i e g;exact jW hb
def y6(t:θ)(v:Θ):RT (m6.box t v).sem w (.value (.pointer (some ⟨w.heap.size,0,none⟩))) {w with heap:=w.heap.push (.cells v.cells t (0,0))} #[]:=
 RT.bk (x:=.pointer (some ⟨w.heap.size,0,none⟩)) (RT.bk (x:=⟨w.heap.size,0,none⟩) (RT.bk (qE _) (.pure _)) (.pure _)) (.pure _)
def oH(h:(PP.info? t).bind (·.zero)=some z):RT (m6.alloc t).sem w (.value (.pointer (some ⟨w.heap.size,0,none⟩))) {w with heap:=w.heap.push (.cells z.cells t (0,0))} #[]:=
 RT.bk (x:=.pointer (some ⟨w.heap.size,0,none⟩)) ((x5 h).bk (RT.bk (x:=⟨w.heap.size,0,none⟩) (RT.bk (qE _) (.pure _)) (.pure _))) (.pure _)
def Ib(t:θ):RT (m6.makeMap t).sem w (.value (.map (some w.heap.size))) {w with heap:=w.heap.push (.map #[] 0)} #[]:=
 RT.bk (x:=.map (some w.heap.size)) (RT.bk (qE _) (.pure _)) (.pure _)
end
open Go.MapKept in
structure dU (es:Array ai2)(c:Nat)(f:Ξ->Option Θ):Prop where
 stamped:Stamped es c
 keys:∀e∈es.toList,IsKey .string e.key
 has:∀s v,f s=some v↔∃e∈es.toList,e.key=.string s/\e.val=v
section
open Go.MapKept
variable {w:Φ}{m:Nat}{t kt vt:θ}{es:Array ai2}{c:Nat}{f:Ξ->Option Θ}{s:Ξ}{z v:Θ}
def jA{k:Θ}(h:IsKey .string k):∃s,k=.string s:=by cases k<;>simp_all [IsKey]
def dU.uniq(h:dU es c f){x:ai2}(k:x∈es.toList)(g:y∈es.toList)(hk:x.key=y.key):x=y:=by
 have b:=((stamped_iff es c).1 h.stamped).2.2;rw[am8]at b;obtain⟨i,d,rfl⟩:=am6.1 k;obtain⟨j,e,rfl⟩:=am6.1 g;obtain a|rfl|a:=ϑ7 i j;exact absurd hk (b i j d e a);rfl;exact absurd hk.symm (b j i e d a)
def dU.empty(c:Nat):dU #[] c λ_=>none:=⟨stamped_empty c,ϛ,ϛ⟩
def wW{e:Bool}(hk:PP.underlying kt=some .string):RT (Instr.checkKey e (n+1) kt (.string s)) w () w #[]:=
 (iw hk).bk (.pure _)
def yZ(hk:PP.underlying kt=some .string)(h:dU es c f):
  (RT (Instr.findKey kt (.string s) es.toList) w none w #[]/\f s=none/\∀e∈es.toList,e.key≠.string s)\/∃j e,es[j]?=some e/\RT (Instr.findKey kt (.string s) es.toList) w (some (j,e.val)) w #[]/\e.key=.string s/\f s=some e.val:=by
 obtain⟨h1,h2⟩|⟨j,e,h1,h2,a⟩:=findNow_spec (d:=.string) (k:=.string s) trivial es.toList 0 h.keys;refine .inl ⟨(iw hk).bk (by rw[h1];exact .pure _),?_,h2⟩;cases hf:f s with|none=>rfl|some v=>have⟨e,b,a,_⟩:=(h.has s v).1 hf;exact absurd a (h2 e b)
 have hm:e∈es.toList:=aj0 h2;exact .inr ⟨j,e,by simpa using h2,(iw hk).bk (by rw[h1,ϐ9];exact .pure _),a,(h.has s e.val).2 ⟨e,hm,a,rfl⟩⟩
def rP(b:PP.underlying t=some (.map kt vt))(hk:PP.underlying kt=some .string)(a:(PP.info? vt).bind (·.zero)=some z)(h:w.heap[m]?=some (.map es c))(hm:dU es c f):
  RT (m6.lookup t (.map (some m)) (.string s) false).sem w (.value ((f s).getD z)) w #[⟨.obj m,false,false⟩]:=by
 refine RT.fH (x:=(f s).getD z) ((iw b).bk ?_) (.pure _);refine RT.fH (x:=.map es c) (iN h) ?_;refine RT.bk (x:=es) (.pure _) ?_;refine RT.bk (wW hk) ?_;obtain⟨h1,h2,_⟩|⟨j,e,_,h1,_,h2⟩:=yZ (w:=w) (s:=s) hk hm;rw[h2];exact RT.bk h1 ((x5 a).bk (RT.bk (x:=(z,false)) (.pure _) (.pure _)));rw[h2];exact RT.bk h1 (RT.bk (x:=(e.val,true)) (.pure _) (.pure _))
def sN(J:PP.underlying t=some (.map kt vt))(hk:PP.underlying kt=some .string)(h:w.heap[m]?=some (.map es c))(hm:dU es c f):
  ∃p G w' ev,RT (m6.mapUpdate t (.map (some m)) (.string s) v).sem w .skip w' ev/\Bn m (.map p G) w w'/\(∀e∈ev,EvB m e)/\p.size<=es.size+1/\dU p G λs'=>if s'=s then some v else f s':=by
 have B:∀{w':Φ}{ev:Ϛ},RT (do
   match<-Instr.findKey kt (.string s) es.toList with
   |some (i,_)=>do
    let key <-Instr.keyThatStays (((es[i]?).map (·.key)).getD (.string s)) (.string s)
    setObj m (.map (es.modify i λe=>{e with key,val:=v}) c)
   |none=>setObj m (.map (es.push {key:=.string s,val:=v,born:=c}) (c+1))) w () w' ev->RT (m6.mapUpdate t (.map (some m)) (.string s) v).sem w .skip w' (#[⟨.obj m,false,false⟩]++ev):=by
  intro w' ev h2;refine RT.fH (x:=()) ((iw J).bk ?_) (.pure _);refine RT.bind (x:=.map es c) (iN h) ?_;exact RT.bk (wW hk) h2
 obtain⟨h1,h2,h3⟩|⟨j,e,hj,h1,h2,h3⟩:=yZ (w:=w) (s:=s) hk hm;refine⟨es.push {key:=.string s,val:=v,born:=c},c+1,_,_,B (RT.bk h1 (kj h)),o6 h,?_,ϛ,stamped_push hm.stamped h3,?_,?_⟩;intro e A;simp at A;obtain rfl|rfl:=A;exact eK;exact⟨rfl,.inr rfl⟩;intro x a;simp only[Array.toList_push,ag4,ξ]at a;obtain a|rfl:=a;exact hm.keys x a;trivial;intro s' I;by_cases hs:s'=s;subst hs;simp only[if_true];constructor;intro q;have q:=ag2 q;subst q;exact⟨{key:=.string s',val:=v,born:=c},ϛ,rfl,rfl⟩;rintro⟨x,a,h5,h6⟩;simp only[Array.toList_push,ag4,ξ]at a;obtain a|rfl:=a;exact absurd h5 (h3 x a);rw[<-h6];rw[Γ hs,hm.has];constructor;rintro⟨x,a,h5,h6⟩;exact⟨x,by simp[a],h5,h6⟩;rintro⟨x,a,h5,h6⟩;simp only[Array.toList_push,ag4,ξ]at a;obtain a|rfl:=a;exact⟨x,a,h5,h6⟩;exact absurd (by simpa using h5.symm) hs;have E:RT (Instr.keyThatStays (((es[j]?).map (·.key)).getD (.string s)) (.string s)) w (.string s) w #[]:=by rw[hj];simp only[ι,Option.getD_some,h2];unfold Instr.keyThatStays;rw[κ (sameBits_self (d:=.string) (k:=.string s) trivial 10000)];exact .pure _
 have o:∀y,es[j]?=some y->({y with key:=.string s,val:=v}:ai2).key=y.key:=λy g=>by rw[hj]at g;cases g;exact h2.symm
 have H:e∈es.toList:=by
  have:es.toList[j]?=some e:=by simpa using hj
  exact aj0 this
 refine⟨es.modify j λe=>{e with key:=.string s,val:=v},c,_,_,B (RT.bk h1 (RT.bk E (kj h))),o6 h,?_,ϛ,stamped_modify hm.stamped _ _ (λ_ _=>rfl) λy _ g=>o y g,isKey_modify hm.keys _ _ o,?_⟩;intro e A;simp at A;obtain rfl|rfl:=A;exact eK;exact⟨rfl,.inr rfl⟩;have D:∀x:ai2,x∈(es.modify j λe=>{e with key:=.string s,val:=v}).toList↔(∃i,i≠j/\es[i]?=some x)\/x={e with key:=.string s,val:=v}:=by
  intro x;rw[List.mem_iff_getElem?];simp only[ai8,aj3];constructor;rintro⟨i,z⟩;by_cases b:j=i;subst b;simp[hj]at z;exact .inr z.symm;simp[b]at z;exact .inl ⟨i,λq=>b q.symm,z⟩;rintro(⟨i,h5,h6⟩|rfl);have hne:¬j=i:=λq=>h5 q.symm
  exact⟨i,by rw[Γ hne];exact h6⟩;exact⟨j,by rw[κ rfl,hj];rfl⟩
 have others:∀i x,i≠j->es[i]?=some x->x.key≠.string s:=by intro i x b a C;have F:=((stamped_iff es c).1 hm.stamped).2.2;rw[am8]at F;have l:=Ψ.1 a;have n:=Ψ.1 hj;obtain u|u:=Nat.lt_or_gt_of_ne b;have:=F i j (by simpa using l.1) (by simpa using n.1) u;simp only[Array.getElem_toList]at this;rw[l.2,n.2]at this;exact this (C.trans h2.symm);have:=F j i (by simpa using n.1) (by simpa using l.1) u;simp only[Array.getElem_toList]at this;rw[l.2,n.2]at this;exact this (h2.trans C.symm)
 intro s' I;by_cases hs:s'=s;subst hs;simp only[if_true];constructor;intro q;have q:=ag2 q;subst q;exact⟨{e with key:=.string s',val:=v},(D _).2 (.inr rfl),rfl,rfl⟩;rintro⟨x,a,h5,h6⟩;rcases(D x).1 a with⟨i,h7,h8⟩|rfl;exact absurd h5 (others i x h7 h8);rw[<-h6];rw[Γ hs,hm.has];constructor;rintro⟨x,a,h5,h6⟩;have⟨i,z⟩:=List.mem_iff_getElem?.1 a;have r:es[i]?=some x:=by simpa using z
 refine⟨x,(D x).2 (.inl ⟨i,λq=>?_,r⟩),h5,h6⟩;subst q;rw[hj]at r;cases r;rw[h2]at h5;exact hs (by simpa using h5.symm);rintro⟨x,a,h5,h6⟩;rcases(D x).1 a with⟨i,h7,h8⟩|rfl;have:es.toList[i]?=some x:=by simpa using h8
 exact⟨x,aj0 this,h5,h6⟩;exact absurd (by simpa using h5.symm) hs
def C7(g:PP.underlying t=some (.map kt vt))(hk:PP.underlying kt=some .string)(h:w.heap[m]?=some (.map es c))(hm:dU es c f):
  ∃a b w' ev,RT (m6.mapUpdate t (.map (some m)) (.string s) v).sem w .skip w' ev/\Bn m (.map a b) w w'/\(∀e∈ev,EvB m e)/\dU a b λs'=>if s'=s then some v else f s':=
 let⟨a,b,w',ev,h1,h2,d,_,i⟩:=sN g hk h hm
 ⟨a,b,w',ev,h1,h2,d,i⟩
def yY(a:PP.underlying t=some (.map kt vt))(h:w.heap[m]?=some (.map es c)):
  RT (m6.range t (.map (some m))).sem w (.value (.pointer (some ⟨w.heap.size,0,none⟩))) {w with heap:=w.heap.push (.mapIter (some m) c #[] c)} #[⟨.obj m,false,false⟩]:=by
 refine RT.fH (x:=.pointer (some ⟨w.heap.size,0,none⟩)) ((iw a).bk ?_) (.pure _);refine RT.fH (x:=.map es c) (iN h) ?_;refine RT.bk (x:=.mapIter (some m) c #[] c) (.pure _) ?_;exact RT.bk (qE _) (.pure _)
def rQ{q:Question}:∃n w',RT (choose q) w n w' #[]/\w'.tape=w.tape/\w'.output=w.output/\w'.os=w.os/\w'.heap=w.heap/\((q.forced=true/\n=0)\/∃x,n=q.cut x):=by
 by_cases a:q.forced=true;refine⟨0,w,λes=>?_,rfl,rfl,rfl,rfl,.inl ⟨a,rfl⟩⟩;unfold choose;simp only[Sem.runT,a,if_true];simp;refine⟨q.cut (w.tape w.drawn q),{w with drawn:=w.drawn+1},λes=>?_,rfl,rfl,rfl,rfl,.inr ⟨_,rfl⟩⟩;unfold choose;simp only[Sem.runT,a];simp
def leftOf(es:Ϧ)(seen:ϩ):Array ai2:=es.filter λe=>!seen.contains e.born
def PS(hm:dU es c f):(leftOf es seen).filter (λe=>decide (e.born<c))=leftOf es seen/\(leftOf es seen).filter (λe=>decide (e.born>=c))=#[]:=by
 have a:∀e∈leftOf es seen,e.born<c:=λe b=>hm.stamped.1 e (by have:=(Array.mem_filter.1 b).1;simpa using this)
 constructor;rw[Array.filter_eq_self]
 exactλe b=>by simpa using a e b
 rw[Array.filter_eq_empty_iff]
 exactλe b=>by simpa using a e b
def JN{it:Nat}{seen:ϩ}{ty:θ}(p:w.heap[it]?=some (.mapIter (some m) c seen c))(h:w.heap[m]?=some (.map es c))(hm:dU es c f):
  (leftOf es seen=#[]/\∃w' ev,RT (m6.next (.pointer (some ⟨it,0,none⟩)) false ty).sem w (.value (.tuple #[.bool false])) w' ev/\w'.tape=w.tape/\w'.output=w.output/\w'.os=w.os/\w'.heap=w.heap/\∀e∈ev,(EvB it e\/EvB m e)/\e.write=false)\/
  ∃e∈leftOf es seen,∃w' ev,RT (m6.next (.pointer (some ⟨it,0,none⟩)) false ty).sem w (.value (.tuple #[.bool true,e.key,e.val])) w' ev/\Bn it (.mapIter (some m) c (seen.push e.born) c) w w'/\∀e∈ev,EvB it e\/(EvB m e/\e.write=false):=by
 have⟨l1,l2⟩:=PS (seen:=seen) hm;have g:(!seen.isEmpty&&!es.isEmpty&&es.all λe=>decide (e.born>=c))=false:=by
  by_cases d:es.isEmpty=true;simp[d];have:∃e,e∈es:=by
   cases i:es.toList with
   |nil=>exact absurd (by simpa using i) d
   |cons x l=>exact⟨x,by
     have:x∈es.toList:=by rw[i];simp
     simpa using this⟩
  have⟨x,C⟩:=this;have E:=hm.stamped.1 x (by simpa using C);have:(es.all λe=>decide (e.born>=c))=false:=by
   cases j:es.all λe=>decide (e.born>=c)with
   |false=>rfl
   |true=>
    have:=(ae8.1 j) x C;have:c<=x.born:=by simpa using this
    omega
  rw[this];simp
 have k:∀{x:Θ}{w':Φ}{ev:Ϛ},RT (do
   match(((if(leftOf es seen).isEmpty then#[none]else#[])++(leftOf es seen++#[]).map some)[<-choose (.mapNext ((if(leftOf es seen).isEmpty then#[none]else#[])++(leftOf es seen++#[]).map some).size)]?:Option (Option ai2))with
   |some (some e)=>
    setObj it (.mapIter (some m) c (seen.push e.born) c)
    Pure.pure (.tuple #[.bool true,e.key,e.val])
   |some none=>Pure.pure (.tuple #[.bool false])
   |none=>stuck "Next: no such candidate") w x w' ev->RT (m6.next (.pointer (some ⟨it,0,none⟩)) false ty).sem w (.value x) w' (#[⟨.obj it,false,false⟩]++(#[⟨.obj m,false,false⟩]++ev)):=by
  intro x w' ev h2;refine RT.fH (x:=x) ?_ (.pure _);refine RT.bind (x:=.mapIter (some m) c seen c) (iN p) ?_;refine RT.bind (x:=.map es c) (iN h) ?_;show RT (if(!seen.isEmpty&&!es.isEmpty&&es.all λe=>decide (e.born>=c))=true then _ else _) _ _ _ _;rw[g];simp only[ab6,if_false];have e1:(es.filter λe=>!seen.contains e.born)=leftOf es seen:=rfl;rw[e1,l1,l2];exact h2
 by_cases v:leftOf es seen=#[];left;refine⟨v,?_⟩;have⟨n,w',c1,c2,t,A,r,z⟩:=rQ (w:=w) (q:=.mapNext 1);have s:n=0:=by obtain⟨_,e⟩|⟨x,e⟩:=z;exact e;rw[e];simp[Question.cut,Nat.mod_one]
 subst s;refine⟨w',_,k (ev:=#[]) ?_,c2,t,A,r,?_⟩;have hc:((if(leftOf es seen).isEmpty then#[none]else#[])++(leftOf es seen++#[]).map some:Array (Option ai2))=#[none]:=by rw[v];simp
 rw[hc];exact RT.bk (x:=0) c1 (.pure _);intro e d;simp at d;obtain rfl|rfl:=d;exact⟨.inl eK,rfl⟩;exact⟨.inr eK,rfl⟩;right;have a:0<(leftOf es seen).size:=Nat.pos_of_ne_zero λe=>v (Array.eq_empty_of_size_eq_zero e)
 have y:(leftOf es seen).isEmpty=false:=by simpa[Array.isEmpty] using Nat.pos_iff_ne_zero.1 a
 have B:((if(leftOf es seen).isEmpty then#[none]else#[])++(leftOf es seen++#[]).map some:Array (Option ai2))=(leftOf es seen).map some:=by simp[y]
 have⟨n,w1,c1,c2,t,A,r,z⟩:=rQ (w:=w) (q:=.mapNext (leftOf es seen).size);have s:n<(leftOf es seen).size:=by obtain⟨_,e⟩|⟨x,e⟩:=z;omega;rw[e];exact Nat.mod_lt _ a
 have D:w1.heap[it]?=some (.mapIter (some m) c seen c):=by rw[r];exact p
 have u:=o6 (o:=.mapIter (some m) c (seen.push (leftOf es seen)[n].born) c) D;refine⟨(leftOf es seen)[n],ϑ8 s,_,_,k (ev:=#[⟨.obj it,true,false⟩]) ?_,⟨u.tape.trans c2,u.output.trans t,u.os.trans A,u.size.trans (by rw[r]),u.at_,λb hb=>(u.rest b hb).trans (by rw[r])⟩,?_⟩;rw[B];simp only[Array.size_map];refine RT.bk c1 ?_;have:((leftOf es seen).map some)[n]?=some (some (leftOf es seen)[n]):=by simp[s]
 rw[this];exact RT.fH (kj D) (.pure _);intro e d;simp at d;obtain rfl|rfl|rfl:=d;exact .inl eK;exact .inr ⟨eK,rfl⟩;exact .inl eK
def y5{it:Nat}{seen:ϩ}{e:ai2}(g:w.heap[it]?=some (.mapIter (some m) c (seen.push e.born) c))(h:w.heap[m]?=some (.map es c))(hm:dU es c f)(n:e∈es.toList):
  RT (m6.entry (.pointer (some ⟨it,0,none⟩))).sem w (.value (.tuple #[e.key,e.val])) w (#[⟨.obj it,false,false⟩]++#[⟨.obj m,false,false⟩]):=by
 refine RT.fH (x:=.tuple #[e.key,e.val]) ?_ (.pure _);refine RT.bind (x:=.mapIter (some m) c (seen.push e.born) c) (iN g) ?_;have hb:(seen.push e.born).back?=some e.born:=ϛ;have hf:es.find? (λx=>x.born==e.born)=some e:=by
  cases hf:es.find? (λx=>x.born==e.born)with
  |none=>rw[Array.find?_eq_none]at hf;exact absurd ϛ (hf e (by simpa using n))
  |some x=>
   have o:=Array.mem_of_find?_eq_some hf;have b:x.born=e.born:=by simpa using Array.find?_some hf
   have d:=hm.stamped.2.1;rw[List.Nodup,ϒ3,am8]at d;obtain⟨i,k,rfl⟩:=am6.1 (show x∈es.toList by simpa using o);obtain⟨j,l,rfl⟩:=am6.1 n;obtain a|rfl|a:=ϑ7 i j;exact absurd b (d i j k l a);rfl;exact absurd b.symm (d j i l k a)
 dsimp only;rw[hb];refine RT.fH (x:=.map es c) (iN h) ?_;show RT (if(c !=c)=true then _ else _) _ _ _ _;simp only[bne_self_eq_false,ab6,if_false];rw[hf];exact .pure _
end
def ab8{α β:Type}(a b:α)(c:β)(f:α->β->Sem (ForInStep β)):forIn (#[a,b]:Array α) c f=(do
  match<-f a c with
  |.done x=>Pure.pure x
  |.yield x=>match<-f b x with
   |.done x=>Pure.pure x
   |.yield x=>Pure.pure x):=by
 rfl
abbrev TH:θ:=161
def sC(i:Nat):Field:=match PP.underlying TH with|some (.struct fs)=>fs.getD i default|_=>default
def ake:PP.underlying TH=some (.struct #[sC 0,sC 1]):=ϰ
def hv(b:Bool)(s:Ξ):Θ:=.agg #[.bool b,.string s]
def JM{off:Nat}(ha:(PP.underlying t).map (λd=>match d with|.struct _|.array _ _=>true|_=>false)=some false)(h:cs[off]?=some v):RT (part t cs off) w v w #[]:=by
 refine(i7 ha).bk ?_;simp only[ab6,if_false];rw[h];exact .pure _
def BK{w:Φ}(n:Nat)(b1 b2:Bool)(s1 s2:Ξ):RT (Op.equalIn (n+2) TH (hv b1 s1) (hv b2 s2)) w (b1==b2&&s1==s2) w #[]:=by
 have f0:sC 0={name:=(sC 0).name,type:=4,offset:=0,embedded:=(sC 0).embedded,tag:=(sC 0).tag,pkgPath:=(sC 0).pkgPath,byteOffset:=(sC 0).byteOffset}:=ϰ;have n0:((sC 0).name== "_")=false:=ϰ;have n1:((sC 1).name== "_")=false:=ϰ;have t0:(sC 0).type=4:=ϰ;have f:(sC 1).type=9:=ϰ;have g:(sC 0).offset=0:=ϰ;have e:(sC 1).offset=1:=ϰ;have a:RT (Op.equalIn (n+1) 4 (.bool b1) (.bool b2)) w (b1==b2) w #[]:=(iw (d:= .bool) ϰ).bk (.pure _);have e1:RT (Op.equalIn (n+1) 9 (.string s1) (.string s2)) w (s1==s2) w #[]:=(iw (d:= .string) ϰ).bk (.pure _);refine(iw ake).bk ?_;refine iz.bk ?_;have c:PP.stoodInHeld TH=false:=ϰ;show RT (if PP.stoodInHeld TH=true then _ else _) _ _ _ _;rw[c];simp only[ab6,if_false];rw[ab8];have m0:(sC 0).name≠ "_":=by simpa using n0
 have m1:(sC 1).name≠ "_":=by simpa using n1
 simp only[κ m0,κ m1,t0,f,g,e];have p0:∀(b:Bool)(s:Ξ),RT (part 4 #[.bool b,.string s] 0) w (.bool b) w #[]:=λb s=>JM ϰ rfl
 have p1:∀(b:Bool)(s:Ξ),RT (part 9 #[.bool b,.string s] 1) w (.string s) w #[]:=λb s=>JM ϰ rfl
 cases hb:b1==b2 with
 |false=>rw[hb]at a;exact RT.bk (x:=(some false,())) (RT.bk (x:=ForInStep.done (some false,())) ((p0 _ _).bk ((p0 _ _).bk (a.bk (.pure _)))) (.pure _)) (.pure _)
 |true=>
  rw[hb]at a;cases hs:s1==s2 with|false=>rw[hs]at e1;exact RT.bk (x:=(some false,())) (RT.bk (x:=ForInStep.yield (none,())) ((p0 _ _).bk ((p0 _ _).bk (a.bk (.pure _)))) (RT.bk (x:=ForInStep.done (some false,())) ((p1 _ _).bk ((p1 _ _).bk (e1.bk (.pure _)))) (.pure _))) (.pure _)|true=>rw[hs]at e1;exact RT.bk (x:=(none,())) (RT.bk (x:=ForInStep.yield (none,())) ((p0 _ _).bk ((p0 _ _).bk (a.bk (.pure _)))) (RT.bk (x:=ForInStep.yield (none,())) ((p1 _ _).bk ((p1 _ _).bk (e1.bk (.pure _)))) (.pure _))) (.pure _)
def JO(b1 b2:Bool)(s1 s2:Ξ):RT (m6.bin .neq TH (hv b1 s1) (hv b2 s2)).sem w (.value (.bool (!(b1==b2&&s1==s2)))) w #[]:=by
 have hg:PP.eqGuardType PP.depth TH=false:=ϰ;refine RT.bk (x:=.bool (!(b1==b2&&s1==s2))) (RT.bk (x:=()) (w1:=w) ?_ ?_) (.pure _);unfold eqGuard;simp only[hv];refine iz.bk (iz.bk ?_);rw[hg];exact .pure _;exact RT.bk (BK 9998 b1 b2 s1 s2) (.pure _)
section
variable {Δ:Type}{X:Cx Δ}{ro own:Nat->Prop}{Stop:(Nat->Prop)->Ω->Φ->Prop}{v:m6}{g:Ω}{w:Φ}{main:Bool}
def gS{ev:Ϛ}(h:bm g=some v)(hr:RT v.sem w (.value x) w' ev):∃es,stepG PP main g w=.go (resume g x) w' es/\∀e∈es,e∈ev:=by
 have⟨es,e1,e2⟩:=ph (P:=PP) (main:=main) h hr.run;exact⟨es,e1,λe a=>hr.ev▸e2 e a⟩
def Ey{ev:Ϛ}(h:bm g=some v)(hr:RT v.sem w .skip w' ev):∃es,stepG PP main g w=.go (resume g ϗ) w' es/\∀e∈es,e∈ev:=by
 have⟨es,e1,e2⟩:=step_skip (P:=PP) (main:=main) h hr.run;exact⟨es,e1,λe a=>hr.ev▸e2 e a⟩
def tR{a:Nat}{e:Event}(hb:own b\/(ro b/\e.write=false))(h:EvB b e):EvX X ro own n a e:=.inl ⟨b,hb.imp id λh=>.inr h,h.2⟩
def dL(h:bm g=some v)(hr:∀w₁,RX X ro own w w₁->∃w' ev,RT v.sem w₁ (.value x) w' ev/\w'.tape=w₁.tape/\w'.output=w₁.output/\w'.os=w₁.os/\w'.heap=w₁.heap/\∀e∈ev,∃b,EvB b e/\(own b\/(ro b/\e.write=false)))(k:∀w',RX X ro own w w'->aJ PP main (gG X false ro) Stop own (resume g x) w'):aJ PP main (gG X false ro) Stop own g w:=by
 refine aJ.step (dH h).1 λw₁ h1=>?_
 have⟨w',ev,r,d,i,f,a,j⟩:=hr w₁ h1;have⟨es,e1,e2⟩:=gS (main:=main) h r;have c:(gG X false ro).up own w₁ w'=own:=by funext b;exact propext ⟨λh=>h.elim id λz=>by rw[a]at z;omega,.inl⟩
 refine⟨_,w',es,e1,⟨d,i,by rw[a];exact ε _,by rw[f];exact .refl _,λb _ _=>by rw[a],λe l=>?_,λh=>absurd h ϛ⟩,?_⟩;have⟨b,h2,m⟩:=j e (e2 e l);exact tR m h2;rw[c];exact k w' (h1.trans X ⟨d,i,by rw[a];exact ε _,by rw[f];exact .refl _,λb _ _=>by rw[a],λ⟨s,hs⟩=>⟨s,by rw[ShAt,a];exact hs⟩⟩)
def iQ{f:Ϡ}(h:bm g=some v)(hr:∀w₁,RX X ro own w w₁->∃ev,RT v.sem w₁ (.value (f w₁.heap.size)) {w₁ with heap:=w₁.heap.push o} ev/\∀e∈ev,∃b,EvB b e/\(own b\/(ro b/\e.write=false)))(k:∀w' B,RX X ro own w w'->w.heap.size<=B->w'.heap[B]?=some o->aJ PP main (gG X false ro) Stop (λb=>own b\/b=B) (resume g (f B)) w'):aJ PP main (gG X false ro) Stop own g w:=by
 refine aJ.step (dH h).1 λw₁ h1=>?_
 have⟨ev,r,d⟩:=hr w₁ h1;have⟨es,e1,e2⟩:=gS (main:=main) h r;have c:(gG X false ro).up own w₁ {w₁ with heap:=w₁.heap.push o}=λb=>own b\/b=w₁.heap.size:=by funext b;show(own b\/(w₁.heap.size<=b/\b<(w₁.heap.push o).size))=_;rw[Array.size_push];exact propext ⟨λh=>h.imp id λz=>ϖ,λh=>h.imp id λz=>ϖ⟩
 have a:∀b,b<w₁.heap.size->(w₁.heap.push o)[b]?=w₁.heap[b]?:=λb hb=>by rw[am3];rw[Γ ϖ]
 refine⟨_,_,es,e1,⟨rfl,rfl,ϛ,.refl _,λb hb _=>a b hb,λe i=>?_,λh=>absurd h ϛ⟩,?_⟩;have⟨b,h2,j⟩:=d e (e2 e i);exact tR j h2;rw[c];refine k _ _ (h1.trans X ⟨rfl,rfl,ϛ,.refl _,λb hb _=>a b hb,λ⟨s,hs⟩=>⟨s,?_,?_⟩⟩) h1.size ϛ;rw[<-hs.1];exact a _ (Ψ.1 hs.1).1;rw[<-hs.2];exact a _ (Ψ.1 hs.2).1
def ku(hb:own b)(m:b≠X.Fd/\b≠X.Wg)(h:bm g=some v)(hr:∀w₁,RX X ro own w w₁->∃x o w' ev,(RT v.sem w₁ (.value x) w' ev\/(RT v.sem w₁ .skip w' ev/\x=ϗ))/\Bn b o w₁ w'/\A o x/\∀e∈ev,∃c,EvB c e/\(own c\/(ro c/\e.write=false)))(k:∀w' o x,(∀c,c<w.heap.size->c≠b->own c\/ro c->w'.heap[c]?=w.heap[c]?)->w'.heap[b]?=some o->A o x->RX X ro (λc=>own c/\c≠b) w w'->aJ PP main (gG X false ro) Stop own (resume g x) w')(i:¬ro b):aJ PP main (gG X false ro) Stop own g w:=by
 refine aJ.step (dH h).1 λw₁ h1=>?_
 have⟨x,o,w',ev,r,u,a,n⟩:=hr w₁ h1;have j:∃es,stepG PP main g w₁=.go (resume g x) w' es/\∀e∈es,e∈ev:=by obtain r|⟨r,rfl⟩:=r;exact gS (main:=main) h r;exact Ey (main:=main) h r
 have⟨es,e1,e2⟩:=j;have f:(gG X false ro).up own w₁ w'=own:=by funext c;exact propext ⟨λh=>h.elim id λz=>by rw[u.size]at z;omega,.inl⟩
 refine⟨_,w',es,e1,⟨u.tape,u.output,al2 u.size.symm,by rw[u.os];exact .refl _,λc _ hc=>u.rest c λe=>hc (e▸hb),λe p=>?_,λh=>absurd h ϛ⟩,?_⟩;have⟨c,h2,q⟩:=n e (e2 e p);exact tR q h2;rw[f];refine k w' o x (λc hc hne d=>(u.rest c hne).trans (h1.keep c hc d)) u.at_ a ?_;refine⟨u.tape.trans h1.tape,u.output.trans h1.output,ac3 h1.size (al2 u.size.symm),by rw[u.os];exact h1.os,λc hc d=>?_,λl=>?_⟩;have hne:c≠b:=λe=>d.elim (λh=>h.2 e) λh=>i (e▸h)
 exact(u.rest c hne).trans (h1.keep c hc (d.imp (·.1) id));have⟨s,hs⟩:=h1.live l;exact⟨s,(u.rest _ m.1.symm).trans hs.1,(u.rest _ m.2.symm).trans hs.2⟩
end
abbrev TM:θ:=153
abbrev Nu:θ:=164
section
variable (F M B7 B8:Nat)(side:Nat)(path:Ξ)(hb:Bool)(hc:Ξ)(x:Θ)(fr:φ)(cs:List φ)
def gP0:Ω:=Qm 167 #[pt F,.string path,.int .i64 (side:Int),hv hb hc] 31 fr cs
def gP1:Ω:=O (gP0 F side path hb hc fr cs)
def ab0:ay PP false (gP0 F side path hb hc fr cs) (gP1 F side path hb hc fr cs):=aV λa=>ϰ
def U1:bm (gP1 F side path hb hc fr cs)=some (.box TH (hv hb hc)):=ϰ
def fP:φ:=(On 7 (resume (gP1 F side path hb hc fr cs) (pb B7))).callers.head?.getD default
def abZ:ay PP false (resume (gP1 F side path hb hc fr cs) (pb B7)) (gL0 F (fP F B7 side path hb hc fr cs) (fr::cs)):=aZ 7 (cB PP false 7 (resume (gP1 F side path hb hc fr cs) (pb B7))) λa=>ϰ
def gP3:Ω:=de (fP F B7 side path hb hc fr cs) (fr::cs) U
def gP4:Ω:=O (gP3 F B7 side path hb hc fr cs)
def abY:ay PP false (gP3 F B7 side path hb hc fr cs) (gP4 F B7 side path hb hc fr cs):=aV λa=>ϰ
def abW:bm (gP4 F B7 side path hb hc fr cs)=some (.load TM (.pointer (some ⟨F,2,none⟩))):=ϰ
def gP5:Ω:=O (resume (gP4 F B7 side path hb hc fr cs) (.map (some M)))
def abX:ay PP false (resume (gP4 F B7 side path hb hc fr cs) (.map (some M))) (gP5 F M B7 side path hb hc fr cs):=aV λa=>ϰ
def abU:bm (gP5 F M B7 side path hb hc fr cs)=some (.lookup TM (.map (some M)) (.string path) false):=ϰ
def gP6:Ω:=O (resume (gP5 F M B7 side path hb hc fr cs) x)
def abV:ay PP false (resume (gP5 F M B7 side path hb hc fr cs) x) (gP6 F M B7 side path hb hc x fr cs):=aV λa=>ϰ
def abT:bm (gP6 F M B7 side path hb hc x fr cs)=some (.alloc Nu):=ϰ
def gP7:Ω:=O (resume (gP6 F M B7 side path hb hc x fr cs) (pb B8))
def abS:ay PP false (resume (gP6 F M B7 side path hb hc x fr cs) (pb B8)) (gP7 F M B7 B8 side path hb hc x fr cs):=aV λa=>ϰ
def abQ:bm (gP7 F M B7 B8 side path hb hc x fr cs)=some (.store Nu (pb B8) x):=ϰ
def gP8:Ω:=O (resume (gP7 F M B7 B8 side path hb hc x fr cs) ϗ)
def abR:ay PP false (resume (gP7 F M B7 B8 side path hb hc x fr cs) ϗ) (gP8 F M B7 B8 side path hb hc x fr cs):=aV λa=>ϰ
def abO:bm (gP8 F M B7 B8 side path hb hc x fr cs)=some (.indexAddr 159 (pb B8) (.int .i64 (side:Int))):=ϰ
def gP9:Ω:=O (resume (gP8 F M B7 B8 side path hb hc x fr cs) (.pointer (some ⟨B8,side,none⟩)))
def abP:ay PP false (resume (gP8 F M B7 B8 side path hb hc x fr cs) (.pointer (some ⟨B8,side,none⟩))) (gP9 F M B7 B8 side path hb hc x fr cs):=aV λa=>ϰ
def abM:bm (gP9 F M B7 B8 side path hb hc x fr cs)=some (.store 4 (.pointer (some ⟨B8,side,none⟩)) (.bool true)):=ϰ
def Vb:Ω:=O (resume (gP9 F M B7 B8 side path hb hc x fr cs) ϗ)
def abN:ay PP false (resume (gP9 F M B7 B8 side path hb hc x fr cs) ϗ) (Vb F M B7 B8 side path hb hc x fr cs):=aV λa=>ϰ
def U9:bm (Vb F M B7 B8 side path hb hc x fr cs)=some (.load TH (pb B7)):=ϰ
def U8:Ω:=O (resume (Vb F M B7 B8 side path hb hc x fr cs) (hv hb hc))
def Va:ay PP false (resume (Vb F M B7 B8 side path hb hc x fr cs) (hv hb hc)) (U8 F M B7 B8 side path hb hc x fr cs):=aV λa=>ϰ
def U6:bm (U8 F M B7 B8 side path hb hc x fr cs)=some (.indexAddr 162 (.pointer (some ⟨B8,2,none⟩)) (.int .i64 (side:Int))):=ϰ
def U5:Ω:=O (resume (U8 F M B7 B8 side path hb hc x fr cs) (.pointer (some ⟨B8,2+2*side,none⟩)))
def U7:ay PP false (resume (U8 F M B7 B8 side path hb hc x fr cs) (.pointer (some ⟨B8,2+2*side,none⟩))) (U5 F M B7 B8 side path hb hc x fr cs):=aV λa=>ϰ
def U3:bm (U5 F M B7 B8 side path hb hc x fr cs)=some (.store TH (.pointer (some ⟨B8,2+2*side,none⟩)) (hv hb hc)):=ϰ
def Qk:Ω:=O (resume (U5 F M B7 B8 side path hb hc x fr cs) ϗ)
def U4:ay PP false (resume (U5 F M B7 B8 side path hb hc x fr cs) ϗ) (Qk F M B7 B8 side path hb hc x fr cs):=aV λa=>ϰ
def tmP:Array Θ:=(Qk F M B7 B8 side path hb hc x fr cs).frame.tmps
def qe:Array Oper:=match(Qk 0 0 0 0 0 default false default ϗ default []).frame.todo with|.code (.region _ ops _)::_=>ops|_=>#[]
def idP:Nat:=match(Qk 0 0 0 0 0 default false default ϗ default []).frame.todo with|.code (.region id ..)::_=>id|_=>0
def pH(F:Nat)(tm:ϐ)(l:ϓ)(fr:φ)(cs:Ϙ):Ω:=G ((base 167).at ⟨tm,[dcall 202 #[pt F]]⟩ [.inRegion qe l]) (fr::cs)
def U2:Qk F M B7 B8 side path hb hc x fr cs=G ((base 167).at ⟨tmP F M B7 B8 side path hb hc x fr cs,[dcall 202 #[pt F]]⟩ [.code (.region idP qe true)]) (fr::cs):=ϰ
def N8:(tmP F M B7 B8 side path hb hc x fr cs).size=35:=ϰ
def aej:(tmP F M B7 B8 side path hb hc x fr cs)[0]?=some (pt F):=ϰ
def aei:(tmP F M B7 B8 side path hb hc x fr cs)[1]?=some (.string path):=ϰ
def aeh:(tmP F M B7 B8 side path hb hc x fr cs)[8]?=some (pb B8):=ϰ
end
section
variable (F:Nat)(y:Nat->Θ)(l:List Nat)(fr:φ)(cs:List φ)
def Et(y:Ϡ):Array Θ:=(rl y 0 35 []).toArray
def rN(tm:ϐ)(h:tm.size=35):tm=Et λi=>tm.getD i ϗ:=slots tm h
def EE(tm:ϐ)(h:tm.size=35):tm=(rl (λi=>tm.getD i ϗ) 0 35 []).toArray:=slots tm h
def afs:ay PP false (pH F (Et y) (0::l) fr cs) (pH F ((Et y).setIfInBounds 29 (y 0)) l fr cs):=aZ 1 1 λa=>ϰ
def afr:ay PP false (pH F ((rl y 0 29 (pt F::rl y 30 5 [])).toArray) (1::l) fr cs) (pH F (((rl y 0 29 (pt F::rl y 30 5 [])).toArray:ϐ).setIfInBounds 30 (pt F)) l fr cs):=aZ 1 1 λa=>ϰ
def afq:ay PP false (pH F ((rl y 0 30 (pt F::rl y 31 4 [])).toArray) (2::l) fr cs) (pH F (((rl y 0 30 (pt F::rl y 31 4 [])).toArray:ϐ).setIfInBounds 31 (.pointer (some ⟨F,2,none⟩))) l fr cs):=aZ 1 1 λa=>ϰ
def afp:bm (pH F (Et y) (3::l) fr cs)=some (.load TM (y 31)):=ϰ
def ZU(v:Θ):resume (pH F (Et y) (3::l) fr cs) v=pH F ((Et y).setIfInBounds 32 v) l fr cs:=ϰ
def afo:ay PP false (pH F (Et y) (4::l) fr cs) (pH F ((Et y).setIfInBounds 33 (y 1)) l fr cs):=aZ 1 1 λa=>ϰ
def afn:bm (pH F (Et y) (5::l) fr cs)=some (.load Nu (y 8)):=ϰ
def ZT(v:Θ):resume (pH F (Et y) (5::l) fr cs) v=pH F ((Et y).setIfInBounds 34 v) l fr cs:=ϰ
def afm:bm (pH F (Et y) (6::l) fr cs)=some (.mapUpdate TM (y 32) (y 33) (y 34)):=ϰ
def ZS:resume (pH F (Et y) (6::l) fr cs) ϗ=pH F (Et y) l fr cs:=ϰ
def pfP(tm:ϐ):φ:=(base 167).at ⟨tm,[]⟩ []
def U0(tm:ϐ):ay PP false (pH F tm [] fr cs) (gU0 F (pfP tm) (fr::cs)):=aZ 3 (cB PP false 3 (pH F tm [] fr cs)) λa=>ϰ
def Pb(tm:ϐ):ay PP false (G {pfP tm with mode:=.returning} (fr::cs)) (de fr cs U):=aZ 1 1 λa=>ϰ
def bits(n:Nat):Array Bool:=#[n%2==1,n/2%2==1,n/4%2==1,n/8%2==1,n/16%2==1,n/32%2==1,n/64%2==1]
def needs:Nat->List Nat
 |1=>[0]|2=>[1]|3=>[2]|6=>[3,4,5]|_=>[]
def vA(b:Ϯ):Bool:=(range 7).all λi=>!b.getD i false||(needs i).all λj=>b.getD j false
def LX:qe.size=7:=ϰ
def Zs:((range 128).all λn=>(ready .any qe (bits n)).all λi=>decide (i<7)&&!(bits n).getD i true&&(needs i).all λj=>(bits n).getD j false)=true:=ϰ
def Tr:((range 128).all λn=>!(ready .any qe (bits n)).isEmpty||!vA (bits n)||(bits n).all id)=true:=ϰ
def cntF(n:Nat):Nat:=((range 7).filter λi=>!(bits n).getD i true).length
def Tq:((range 128).all λn=>(ready .any qe (bits n)).all λi=>(bits n).setIfInBounds i true==bits (n+2^i)&&decide (cntF (n+2^i)+1=cntF n)&&decide (n+2^i<128)&&
  (!vA (bits n)||vA (bits (n+2^i)))&&(i !=6||!vA (bits n)||cntF n==1)&&(i==6||(bits (n+2^i)).getD 6 true==(bits n).getD 6 true))=true:=ϰ
end
def RT.of0{α:Type}{s:Sem α}{x:α}(h:∀es,s.runT PP w es=(.ok x w',es)):RT s w x w' #[]:=λes=>by rw[h,am5]
def Zp{w:Φ}(B:Nat):∀side:Nat,side<2->RT (m6.indexAddr 159 (pb B) (.int .i64 (side:Int))).sem w (.value (.pointer (some ⟨B,side,none⟩))) w #[]
 |0,_=>.of0 λes=>ϰ
 |1,_=>.of0 λes=>ϰ
def Zo{w:Φ}(B:Nat):∀side:Nat,side<2->RT (m6.indexAddr 162 (.pointer (some ⟨B,2,none⟩)) (.int .i64 (side:Int))).sem w (.value (.pointer (some ⟨B,2+2*side,none⟩))) w #[]
 |0,_=>.of0 λes=>ϰ
 |1,_=>.of0 λes=>ϰ
def N5:PP.underlying TM=some (.map 9 Nu):=ϰ
def N6:PP.underlying 9=some .string:=ϰ
def zF:Θ:=.agg #[.bool false,.bool false,.bool false,.string ⟨#[]⟩,.bool false,.string ⟨#[]⟩]
def NP:(PP.info? Nu).bind (·.zero)=some zF:=ϰ
def Qf(b:Region.Mode)(ops:Ϝ)(fuel t:Nat)(a:Ϯ)(c:t%(ready b ops a).length<(ready b ops a).length):
  Region.linearise.go b ops (fuel+1) t a []=(ready b ops a)[t%(ready b ops a).length]::
   Region.linearise.go b ops fuel (t/(ready b ops a).length) (a.setIfInBounds ((ready b ops a)[t%(ready b ops a).length]) true) []:=by
 simp only[Region.linearise.go]
 change (match(ready b ops a)[t%(ready b ops a).length]? with
  |some i=>Region.linearise.go b ops fuel (t/(ready b ops a).length) (a.setIfInBounds i true) [i]
  |none=>[].reverse)=_
 rw[al3 c];simp only;rw[Go.linearise_go_acc,List.reverse_singleton,List.singleton_append]
structure Kept (n:Nat)(F M:Nat)(path:Ξ)(fc:Array Θ)(B8:Nat)(tm:Array Θ):Prop where
 size:tm.size=35
 s0:tm[0]?=some (pt F)
 s1:tm[1]?=some (.string path)
 s8:tm[8]?=some (pb B8)
 r0:(bits n).getD 0 false=true->tm[29]?=some (pt F)
 r1:(bits n).getD 1 false=true->tm[30]?=some (pt F)
 r2:(bits n).getD 2 false=true->tm[31]?=some (.pointer (some ⟨F,2,none⟩))
 r3:(bits n).getD 3 false=true->tm[32]?=some (.map (some M))
 r4:(bits n).getD 4 false=true->tm[33]?=some (.string path)
 r5:(bits n).getD 5 false=true->tm[34]?=some (.agg fc)
section
variable {F M B8:Nat}{path:Ξ}{fc:Array Θ}{tm:Array Θ}{n i:Nat}
def Kept.set(h:Kept n F M path fc B8 tm)(hb:(bits n).setIfInBounds i true=bits (n+2^i))(c:i<6)(hv:v=match i with|0=>pt F|1=>pt F|2=>.pointer (some ⟨F,2,none⟩)|3=>.map (some M)|4=>.string path|_=>.agg fc):Kept (n+2^i) F M path fc B8 (tm.setIfInBounds (29+i) v):=by
 have hs:=h.size;have at_:∀j,j≠29+i->(tm.setIfInBounds (29+i) v)[j]?=tm[j]?:=λj a=>by rw[ζ a.symm]
 have self:(tm.setIfInBounds (29+i) v)[29+i]?=some v:=by rw[ac1 ϖ]
 have b:∀j,(bits (n+2^i)).getD j false=true->j=i\/(bits n).getD j false=true:=by intro j a;by_cases e:j=i;exact .inl e;right;rw[<-hb,ag1,ζ λq=>e q.symm,<-ag1]at a;exact a
 refine⟨by simp[hs],by rw[at_ 0 ϖ];exact h.s0,by rw[at_ 1 ϖ];exact h.s1,by rw[at_ 8 ϖ];exact h.s8,?_,?_,?_,?_,?_,?_⟩<;>intro a<;>rcases b _ a with e|e
 subst e;subst hv;exact self
 .by_cases q:i=0;subst q;subst hv;exact self
  .rw[at_ 29 ϖ];exact h.r0 e
 subst e;subst hv;exact self
 .by_cases q:i=1;subst q;subst hv;exact self
  .rw[at_ 30 ϖ];exact h.r1 e
 subst e;subst hv;exact self
 .by_cases q:i=2;subst q;subst hv;exact self
  .rw[at_ 31 ϖ];exact h.r2 e
 subst e;subst hv;exact self
 .by_cases q:i=3;subst q;subst hv;exact self
  .rw[at_ 32 ϖ];exact h.r3 e
 subst e;subst hv;exact self
 .by_cases q:i=4;subst q;subst hv;exact self
  .rw[at_ 33 ϖ];exact h.r4 e
 subst e;subst hv;exact self
 .by_cases q:i=5;subst q;subst hv;exact self
  .rw[at_ 34 ϖ];exact h.r5 e
end
def BZ{Δ:Type}{X:Cx Δ}(h:bm g=some (.load TM v))(hv:v=.pointer (some ⟨X.Fd,2,none⟩))(live:∃s,ShAt X w s)(k:∀w2,RX X ro own w w2->aJ PP false (gG X false ro) Stop own (resume g (.map (some X.M))) w2):aJ PP false (gG X false ro) Stop own g w:=by
 subst hv;refine aJ.step (dH h).1 λw1 h1=>?_
 have⟨s,hs⟩:=h1.live live;have hc:w1.cell? ⟨X.Fd,2,none⟩=some (.map (some X.M)):=by simp[World.cell?,hs.1]
 have r:RT (m6.load TM (.pointer (some ⟨X.Fd,2,none⟩))).sem w1 (.value (.map (some X.M))) w1 #[⟨.cell ⟨X.Fd,2,none⟩,false,false⟩]:=by refine RT.fH (x:=.map (some X.M)) ?_ (.pure _);show RT (do if<-isAgg TM then Pure.pure (.agg (<-loadCells ⟨X.Fd,2,none⟩ (<-Go.sizeOf TM)))else load ⟨X.Fd,2,none⟩) _ _ _ _;refine(i7 (b:=false) ϰ).bk ?_;simp only[ab6,if_false];exact lN hc
 have⟨es,e1,e2⟩:=gS (main:=false) h r;refine⟨_,w1,es,e1,⟨rfl,rfl,ε _,.refl _,λ_ _ _=>rfl,λe a=>?_,λh=>absurd h ϛ⟩,?_⟩;have:=e2 e a;simp at this;subst this;exact .inr (.inl ⟨rfl,rfl,rfl⟩);have e:=(kY (X:=X) false ro own w1).2;rw[e];exact k w1 h1
section
variable {Δ:Type}{X:Cx Δ}{ro own:Nat->Prop}{Stop:(Nat->Prop)->Ω->Φ->Prop}{w:Φ}{M B8:Nat}{path:Ξ}{fc:Array Θ}{fr:φ}{cs:List φ}{es:Array ai2}{c:Nat}{f:Ξ->Option Θ}
variable (hXM:X.M=M)(hne:M≠X.Fd/\M≠X.Wg)(zN:own M)(Kj:own B8)(UD:¬ro M)(hm:dU es c f)(hfc:fc.size=6)
structure Mid (X:Cx Δ)(ro own:Nat->Prop)(M B8:Nat)(fc:Array Θ)(es:Array ai2)(c:Nat)(w w1:Φ):Prop where
 r:RX X ro own w w1
 live:∃s,ShAt X w1 s
 at8:w1.heap[B8]?=some (.cells fc Nu (0,0))
 atM:w1.heap[M]?=some (.map es c)
include zN Kj
theorem Mid.rely{w1 w2:Φ}(h:Mid X ro own M B8 fc es c w w1)(h2:RX X ro own w1 w2):Mid X ro own M B8 fc es c w w2:=
 ⟨h.r.trans X h2,h2.live h.live,(h2.keep B8 (Ψ.1 h.at8).1 (.inl Kj)).trans h.at8,(h2.keep M (Ψ.1 h.atM).1 (.inl zN)).trans h.atM⟩
variable {n:Nat}{tm:Array Θ}{L:List Nat}{w1:Φ}(hK:Kept n X.Fd M path fc B8 tm)(hA:Mid X ro own M B8 fc es c w w1)
include hK hA
theorem aan(a:(bits n).setIfInBounds 0 true=bits (n+2^0))(e:∀{d:ϐ}{w2:Φ},Mid X ro own M B8 fc es c w w2->Kept (n+2^0) X.Fd M path fc B8 d->aJ PP false (gG X false ro) Stop own (pH X.Fd d L fr cs) w2):
  aJ PP false (gG X false ro) Stop own (pH X.Fd tm (0::L) fr cs) w1:=by
 have b:=rN tm hK.size;rw[b];refine aI (afs ..) ?_;rw[<-b,cI hK.s0];exact e hA (hK.set a (by decide) rfl)
theorem aam(a:(bits n).setIfInBounds 1 true=bits (n+2^1))(f:(bits n).getD 0 false=true)(g:∀{e:ϐ}{w2:Φ},Mid X ro own M B8 fc es c w w2->Kept (n+2^1) X.Fd M path fc B8 e->aJ PP false (gG X false ro) Stop own (pH X.Fd e L fr cs) w2):
  aJ PP false (gG X false ro) Stop own (pH X.Fd tm (1::L) fr cs) w1:=by
 have b:=EE tm hK.size;simp only[rl]at b;have d:=cI (hK.r0 f);rw[d]at b;have h:=afr X.Fd (λi=>tm.getD i ϗ) L fr cs;simp only[rl]at h;rw[<-b]at h;refine aI h ?_;exact g hA (hK.set a (by decide) rfl)
theorem aal(a:(bits n).setIfInBounds 2 true=bits (n+2^2))(d1:(bits n).getD 1 false=true)(f:∀{e:ϐ}{w2:Φ},Mid X ro own M B8 fc es c w w2->Kept (n+2^2) X.Fd M path fc B8 e->aJ PP false (gG X false ro) Stop own (pH X.Fd e L fr cs) w2):
  aJ PP false (gG X false ro) Stop own (pH X.Fd tm (2::L) fr cs) w1:=by
 have b:=EE tm hK.size;simp only[rl]at b;have d:=cI (hK.r1 d1);rw[d]at b;have h:=afq X.Fd (λi=>tm.getD i ϗ) L fr cs;simp only[rl]at h;rw[<-b]at h;refine aI h ?_;exact f hA (hK.set a (by decide) rfl)
include hXM in
theorem aak(a:(bits n).setIfInBounds 3 true=bits (n+2^3))(d2:(bits n).getD 2 false=true)(f:∀{e:ϐ}{w2:Φ},Mid X ro own M B8 fc es c w w2->Kept (n+2^3) X.Fd M path fc B8 e->aJ PP false (gG X false ro) Stop own (pH X.Fd e L fr cs) w2):
  aJ PP false (gG X false ro) Stop own (pH X.Fd tm (3::L) fr cs) w1:=by
 have d:=rN tm hK.size;have b:=cI (hK.r2 d2);rw[d];refine BZ (X:=X) (afp ..) b hA.live λw2 h2=>?_
 rw[ZU,<-d,hXM];exact f (hA.rely zN Kj h2) (hK.set a (by decide) rfl)
theorem aaj(a:(bits n).setIfInBounds 4 true=bits (n+2^4))(e:∀{d:ϐ}{w2:Φ},Mid X ro own M B8 fc es c w w2->Kept (n+2^4) X.Fd M path fc B8 d->aJ PP false (gG X false ro) Stop own (pH X.Fd d L fr cs) w2):
  aJ PP false (gG X false ro) Stop own (pH X.Fd tm (4::L) fr cs) w1:=by
 have b:=rN tm hK.size;rw[b];refine aI (afo ..) ?_;rw[<-b,cI hK.s1];exact e hA (hK.set a (by decide) rfl)
include hfc in
theorem aai(a:(bits n).setIfInBounds 5 true=bits (n+2^5))(j:∀{f:ϐ}{w2:Φ},Mid X ro own M B8 fc es c w w2->Kept (n+2^5) X.Fd M path fc B8 f->aJ PP false (gG X false ro) Stop own (pH X.Fd f L fr cs) w2):
  aJ PP false (gG X false ro) Stop own (pH X.Fd tm (5::L) fr cs) w1:=by
 have b:=rN tm hK.size;rw[b];have g:=cI hK.s8;have hv:bm (pH X.Fd (Et λi=>tm.getD i ϗ) (5::L) fr cs)=some (.load Nu (.pointer (some ⟨B8,0,none⟩))):=by rw[afn,g];rfl
 refine dL hv (x:=.agg fc) (λw2 h2=>?_) λw2 h2=>?_
 have⟨ev,d,r2⟩:=kU (t:=Nu) (off:=0) (n:=6) (hA.rely zN Kj h2).at8 ϰ ϰ ϖ;have e:fc.extract 0 (0+6)=fc:=by rw[show 0+6=fc.size by omega];simp
 rw[e]at d;exact⟨w2,ev,d,rfl,rfl,rfl,rfl,λe h=>⟨B8,(r2 e h).1,.inl Kj⟩⟩;rw[ZT,<-b];exact j (hA.rely zN Kj h2) (hK.set a (by decide) rfl)
include hne UD hm in
theorem aah(C:(bits n).getD 3 false=true)(u:(bits n).getD 4 false=true)(E:(bits n).getD 5 false=true)
  (k:∀g w' a d,g.size=35->w'.heap[M]?=some (.map a d)->dU a d (λs=>if s=path then some (.agg fc)else f s)->RX X ro (λc=>own c/\c≠M) w w'->aJ PP false (gG X false ro) Stop own (pH X.Fd g [] fr cs) w'):
  aJ PP false (gG X false ro) Stop own (pH X.Fd tm (6::[]) fr cs) w1:=by
 have p:=rN tm hK.size;rw[p];have j:=cI (hK.r3 C);have l:=cI (hK.r4 u);have h:=cI (hK.r5 E);have hv:bm (pH X.Fd (Et λi=>tm.getD i ϗ) (6::[]) fr cs)=some (.mapUpdate TM (.map (some M)) (.string path) (.agg fc)):=by rw[afm,j,l,h]
 refine ku (A:=λo x=>x=ϗ/\∃a d,o=.map a d/\dU a d λs=>if s=path then some (.agg fc)else f s) zN hne hv (λw2 h2=>?_) (λw2 o x h2 D B r=>?_) UD;have⟨a,d,w',ev,q,r2,r3,r4⟩:=C7 (t:=TM) (v:=.agg fc) (s:=path) N5 N6 (hA.rely zN Kj h2).atM hm;exact⟨ϗ,_,w',ev,.inr ⟨q,rfl⟩,r2,⟨rfl,a,d,rfl,r4⟩,λe y=>⟨M,r3 e y,.inl zN⟩⟩;obtain⟨rfl,a,d,rfl,z⟩:=B;rw[ZS];have hr:=hA.r;exact k _ w2 a d (by simp[Et,rl]) D z (RX.trans X (b:=w1) ⟨hr.tape,hr.output,hr.size,hr.os,λb hb m=>hr.keep b hb (m.imp (·.1) id),hr.live⟩ r)
omit hK hA
include hXM hne UD hm hfc
theorem ID(k:∀z w' p N,z.size=35->w'.heap[M]?=some (.map p N)->dU p N (λs=>if s=path then some (.agg fc)else f s)->RX X ro (λc=>own c/\c≠M) w w'->aJ PP false (gG X false ro) Stop own (pH X.Fd z [] fr cs) w')(fuel:Nat):∀(t n:Nat)(tm:ϐ)(w1:Φ),Mid X ro own M B8 fc es c w w1->n<128->vA (bits n)=true->(bits n).getD 6 true=false->cntF n=fuel->Kept n X.Fd M path fc B8 tm->
   aJ PP false (gG X false ro) Stop own (pH X.Fd tm (Region.linearise.go .any qe fuel t (bits n) []) fr cs) w1:=by
 induction fuel with
 |zero=>
  intro t n tm w1 _ C h B hc _;exfalso;have:(6:Nat)∈(range 7).filter λi=>!(bits n).getD i true:=ai3.2 ⟨ϛ,by rw[B];rfl⟩
  unfold cntF at hc;rw[Ϻ]at hc;rw[hc]at this;cases this
 |succ fuel Q=>
  intro t n tm w1 hA C h B hc hK;have K:=ae7.1 Zs n (ah9.2 C);have l:=ae7.1 Tr n (ah9.2 C);have r:=ae7.1 Tq n (ah9.2 C);have x:ready .any qe (bits n)≠[]:=by
   intro e;rw[e,h]at l;simp only[List.isEmpty_nil,Bool.not_true,Bool.false_or]at l;have:(bits n)[6]?=some true:=by have hs:(bits n).size=7:=rfl;have:=ae8.1 l ((bits n)[6]'(by rw[hs];decide)) (ϑ8 _);rw[τ (by rw[hs];decide)];exact congrArg some this
   rw[ag1,this]at B;cases B
  have u:0<(ready .any qe (bits n)).length:=List.length_pos_iff.2 x;have A:=Nat.mod_lt t u;have y:=Qf .any qe fuel t (bits n) A;rw[y];generalize L:(ready .any qe (bits n))[t%(ready .any qe (bits n)).length]=i;have q:i∈ready .any qe (bits n):=L▸ag5 A;have q1:=ae7.1 K i q;have O:=ae7.1 r i q;simp only[χ,ai0,ak7,ϑ6,ai5,bne_iff_ne]at q1 O;have⟨⟨S,R⟩,D⟩:=q1;obtain⟨⟨⟨⟨⟨b,P⟩,v⟩,m⟩,E⟩,G⟩:=O;have m:=m.resolve_left (by rw[h];simp);have d:∀j,j∈needs i->(bits n).getD j false=true:=ae7.1 D;have o:i≠6->∀{F:ϐ}{w2:Φ},Mid X ro own M B8 fc es c w w2->Kept (n+2^i) X.Fd M path fc B8 F->
    aJ PP false (gG X false ro) Stop own (pH X.Fd F (Region.linearise.go .any qe fuel (t/(ready .any qe (bits n)).length) ((bits n).setIfInBounds i true) []) fr cs) w2:=λH {F w2} a g=>by
   rw[b];exact Q _ _ _ _ a v m ((G.resolve_left H).trans B) ϖ g
  clear L y K l r;have J:i=0\/i=1\/i=2\/i=3\/i=4\/i=5\/i=6:=ϖ;obtain rfl|rfl|rfl|rfl|rfl|rfl|rfl:=J;exact aan zN Kj hK hA b (o (by decide));exact aam zN Kj hK hA b (d 0 (by simp[needs])) (o (by decide));exact aal zN Kj hK hA b (d 1 (by simp[needs])) (o (by decide));exact aak hXM zN Kj hK hA b (d 2 (by simp[needs])) (o (by decide));exact aaj zN Kj hK hA b (o (by decide));exact aai zN Kj hfc hK hA b (o (by decide));have I:fuel=0:=by have:=(E.resolve_left (by simp[h]));omega
  subst I;exact aah hne zN Kj UD hm hK hA (d 3 (by simp[needs])) (d 4 (by simp[needs])) (d 5 (by simp[needs])) k
end
abbrev jE:=Ξ->Option (Bool×Ξ)
def cA(a b:Option (Bool×Ξ)):Array Θ:=
 #[.bool a.isSome,.bool b.isSome,.bool (a.getD (false,⟨#[]⟩)).1,.string (a.getD (false,⟨#[]⟩)).2,.bool (b.getD (false,⟨#[]⟩)).1,.string (b.getD (false,⟨#[]⟩)).2]
def comb(a b:Option (Bool×Ξ)):Option Θ:=if a.isSome||b.isSome then some (.agg (cA a b))else none
def Ai(a b:Option (Bool×Ξ)):(comb a b).getD zF=.agg (cA a b):=by
 cases a<;>cases b<;>rfl
def Ja(a b:jE)(o:Obj):Prop:=∃es c f,o=.map es c/\dU es c f/\∀s,f s=comb (a s) (b s)
def cD:bE->Nat
 |.b=>1
 |_=>0
def jz(m:jE)(path:Ξ)(h:Bool×Ξ):jE:=λs=>if s=path then some h else m s
def Ch(r:bE)(mine other:Option (Bool×Ξ)):Array Θ:=match r with
 |.a=>cA mine other
 |_=>cA other mine
def acb(r:bE)(hr:r=.a\/r=.b)(mine other:Option (Bool×Ξ))(hb:Bool)(hc:Ξ):
  bK (bK (Ch r mine other) [.bool true] (cD r)) [.bool hb,.string hc] (2+2*cD r)=Ch r (some (hb,hc)) other:=by
 obtain rfl|rfl:=hr<;>rfl
def wS:∀(l:ϝ)(cs:ϐ)(i:Nat),(bK cs l i).size=cs.size
 |[],_,_=>rfl
 |v::l,cs,i=>by unfold bK;rw[wS l];simp
def qX(r:bE)(a b:Option (Bool×Ξ)):(Ch r a b).size=6:=by cases r<;>rfl
def Vh(r:bE)(a b:Option (Bool×Ξ)):∀x∈(Value.agg (Ch r a b)).cells.toList,ni x=true:=by
 have:(Value.agg (Ch r a b)).cells=Ch r a b:=rfl;rw[this];cases r<;>simp[Ch,cA,ni]
def Vg(r:bE)(a b:Option (Bool×Ξ)):bK zF.cells (Value.agg (Ch r a b)).cells.toList 0=Ch r a b:=by
 cases r<;>rfl
def aaS:(PP.info? Nu).map (·.size)=some 6:=ϰ
def aga:(PP.info? 4).map (·.size)=some 1:=ϰ
def Kd:(PP.info? TH).map (·.size)=some 2:=ϰ
def ail:(PP.underlying TH).map (λd=>match d with|.struct _|.array _ _=>true|_=>false)=some true:=ϰ
def Hn{P:aa1}{main:Bool}{b:φ}{a:Act}{id:Nat}{ops:Ϝ}{k:ϕ}{cs:Ϙ}{w w':Φ}{t:Nat}(h:(choose (.order b.fn id)).run P w=.ok t w'):
  stepG P main (G (b.at a (.code (.region id ops true)::k)) cs) w=.go (G (b.at a (.inRegion ops (Region.schedule (P.follows .mixedOrders) ops t)::k)) cs) w' #[]:=by
 first
  |(simp[stepG,stepG.exec,G,Frame.at,h];done)
  |(simp[stepG,stepG.exec,G,Frame.at];simp at h;rw[h])
def Lr{a:Bool}(hm:a=true)(t:Nat):Region.schedule a ops t=Region.linearise.go .any ops ops.size t (Array.replicate ops.size false) []:=by
 unfold Region.schedule Region.linearise;rw[hm];rfl
def aic:Array.replicate 7 false=bits 0:=by rfl
def IE{Δ:Type}{X:Cx Δ}{cs:Ϙ}{F:Nat}(k:∀w' t,RX X ro own w w'->aJ PP false (gG X false ro) Stop own (pH F tm (Region.linearise.go .any qe 7 t (bits 0) []) fr cs) w'):
  aJ PP false (gG X false ro) Stop own (G ((base 167).at ⟨tm,[dcall 202 #[pt F]]⟩ [.code (.region idP qe true)]) (fr::cs)) w:=by
 refine aJ.step rfl λw1 h1=>?_
 have⟨t,w',c1,c2,f,g,c,_⟩:=rQ (w:=w1) (q:=.order 167 idP);have d:=c1.run;have hm:PP.follows .mixedOrders=true:=ϰ;have hs:=Hn (main:=false) (b:=base 167) (a:=⟨tm,[dcall 202 #[pt F]]⟩) (ops:=qe) (k:=[]) (cs:=fr::cs) d;rw[Lr hm,LX,aic]at hs;have e:(gG X false ro).up own w1 w'=own:=by funext b;exact propext ⟨λh=>h.elim id λz=>by rw[c]at z;omega,.inl⟩
 refine⟨_,w',#[],hs,⟨c2,f,by rw[c];exact ε _,by rw[g];exact .refl _,λb _ _=>by rw[c],ϛ,λh=>absurd h ϛ⟩,?_⟩;rw[e];exact k w' t (h1.trans X ⟨c2,f,by rw[c];exact ε _,by rw[g];exact .refl _,λb _ _=>by rw[c],λ⟨s,hs⟩=>⟨s,by rw[ShAt,c];exact hs⟩⟩)
def RX.sub{Δ:Type}{X:Cx Δ}(h:RX X ro own w w')(hs:∀b,own' b->own b):RX X ro own' w w':=
 ⟨h.tape,h.output,h.size,h.os,λb hb a=>h.keep b hb (a.imp (hs b) id),h.live⟩
def bq{Δ:Type}{X:Cx Δ}(h:RX X ro own w w')(hb:own b\/ro b)(a:w.heap[b]?=some o):w'.heap[b]?=some o:=
 (h.keep b (Ψ.1 a).1 hb).trans a
def lt_of_some(a:w.heap[b]?=some o):b<w.heap.size:=(Ψ.1 a).1
section
variable {X:Cx jE}{r:bE}{γ:Gh jE}{w:Φ}{n:Nat}{path:Ξ}{hb:Bool}{hc:Ξ}{fr:φ}{cs:List φ}
structure Bo (X:Cx jE)(r:bE)(γ:Gh jE):Prop where
 dat:X.Dat=Ja
 role:r=.a\/r=.b
 room:Room X γ
 om:¬γ.own X.M
 rm:¬γ.ro X.M
 mf:X.M≠X.Fd
 mw:X.M≠X.Wg
def Bo.worker(h:Bo X r γ):xQ r=false:=by obtain rfl|rfl:=h.role<;>rfl
def Bo.amp(h:Bo X r γ){mine other:jE}(d:Ec X r mine other o):∃es c f,o=.map es c/\dU es c f/\∀s,(f s).getD zF=.agg (Ch r (mine s) (other s))/\(f s=none↔mine s=none/\other s=none):=by
 have hd:=h.dat;have key:∀a b:Option (Bool×Ξ),comb a b=none↔a=none/\b=none:=λa b=>by cases a<;>cases b<;>simp[comb]
 obtain rfl|rfl:=h.role;have d:X.Dat mine other o:=d;rw[hd]at d;have⟨es,c,f,h1,h2,e⟩:=d;exact⟨es,c,f,h1,h2,λs=>⟨by rw[e,Ai];rfl,by rw[e];exact key ..⟩⟩;have d:X.Dat other mine o:=d;rw[hd]at d;have⟨es,c,f,h1,h2,e⟩:=d;exact⟨es,c,f,h1,h2,λs=>⟨by rw[e,Ai];rfl,by rw[e,key];exact and_comm⟩⟩
def Bo.put(h:Bo X r γ){mine other:jE}{a:Ϧ}{e:Nat}{f:Ξ->Option Θ}(b:Ec X r mine other o)(i:o=.map es c)(hm:dU es c f)(d:dU a e λs=>if s=path then some (.agg (Ch r (some (hb,hc)) (other path)))else f s):Ec X r (jz mine path (hb,hc)) other (.map a e):=by
 have hd:=h.dat;obtain rfl|rfl:=h.role;have b:X.Dat mine other o:=b;show X.Dat (jz mine path (hb,hc)) other _;rw[hd]at b⊢;have⟨es1,c1,f1,h1,h2,g⟩:=b;rw[i]at h1;cases h1;refine⟨a,e,_,rfl,d,λs=>?_⟩;have hf:f s=f1 s:=Option.ext λv=>(hm.has s v).trans (h2.has s v).symm
 by_cases hs:s=path;subst hs;simp[jz,comb,Ch];simp only[Γ hs,jz];rw[hf,g];have b:X.Dat other mine o:=b;show X.Dat other (jz mine path (hb,hc)) _;rw[hd]at b⊢;have⟨es1,c1,f1,h1,h2,g⟩:=b;rw[i]at h1;cases h1;refine⟨a,e,_,rfl,d,λs=>?_⟩;have hf:f s=f1 s:=Option.ext λv=>(hm.has s v).trans (h2.has s v).symm
 by_cases hs:s=path;subst hs;simp[jz,comb,Ch];simp only[Γ hs,jz];rw[hf,g]
def ZE(a:Bo X r γ)(m:∀b,γ.own b\/γ.ro b->b<w.heap.size)(live:∃s,ShAt X w s){B7:Nat}(u:γ.own B7)(w7:w.heap[B7]?=some (.cells #[.bool hb,.string hc] TH (0,0)))(R:∀k w' own' d,(∀b,γ.own b->own' b)->(∀b,own' b->γ.own b\/w.heap.size<=b)->(∀b,own' b->b<w'.heap.size)->RR X γ w w'->LW X r {γ with own:=own',mine:=jz γ.mine path (hb,hc),other:=d} k (at_ .out n) (de fr cs U) w'):
  Taken X r γ n (fP X.Fd B7 (cD r) path hb hc fr cs) (fr::cs) w:=by
 intro k w1 d o C ho hD;have hm:=a.worker;obtain⟨es,c,f,rfl,l,hf⟩:=a.amp hD;have BY:=C.live live;have aL:=bq C (.inl u) w7;have a6:B7≠X.M:=λe=>a.om (e▸u)
 refine aI (abY X.Fd B7 (cD r) path hb hc fr cs) (BZ (abW _ _ _ _ _ _ _ _) rfl BY λw2 h2=>?_);refine aI (abX _ _ _ _ _ _ _ _ _) ?_;have J:=bq h2 (.inl (.inr rfl)) ho;refine dL (abU _ _ _ _ _ _ _ _ _) (x:=.agg (Ch r (γ.mine path) (d path))) (λw3 B=>?_) λw3 B=>?_
 have W2:=bq B (.inl (.inr rfl)) J;have:=rP (t:=TM) (s:=path) N5 N6 NP W2 l;rw[(hf path).1]at this;exact⟨w3,_,this,rfl,rfl,rfl,rfl,λe p=>⟨X.M,by simp at p;subst p;exact eK,.inl (.inr rfl)⟩⟩;have W2:=bq B (.inl (.inr rfl)) J;refine aI (abV _ _ _ _ _ _ _ _ _ _) ?_;refine iQ (f:=λb=>pb b) (abT _ _ _ _ _ _ _ _ _ _) (λw4 M=>⟨#[],oH NP,ϛ⟩) λw4 B8 M T N=>?_
 refine aI (abS _ _ _ B8 _ _ _ _ _ _ _) ?_;have V:=bq M (.inl (.inr rfl)) W2;have ao:=bq M (.inl (.inl u)) (bq B (.inl (.inl u)) (bq h2 (.inl (.inl u)) aL));have W:=(h2.trans X B).trans X M;have WN:=W.live BY;have a4:w.heap.size<=B8:=ac3 C.size (ac3 (h2.trans X B).size T);have a9:X.M<w1.heap.size:=lt_of_some ho;have aw:=(h2.trans X B).size;have y:B8≠X.M:=λe=>ϖ
 have ac:B8≠B7:=λe=>by have:=lt_of_some w7;omega
 have⟨s1,O⟩:=BY;have z:B8≠X.Fd/\B8≠X.Wg:=⟨λe=>by have:=lt_of_some O.1;omega,λe=>by have:=lt_of_some O.2;omega⟩
 have G:¬γ.ro B8:=λe=>by have:=m B8 (.inr e);omega
 have a2:∀b,γ.own b->b≠B8:=λb e q=>by have:=m b (.inl e);omega
 have i:∀b,γ.own b->((γ.own b\/b=X.M)\/b=B8):=λb e=>.inl (.inl e)
 have D:(λb=>(γ.own b\/b=X.M)\/b=B8) X.M:=.inl (.inr rfl);have g:(λb=>(γ.own b\/b=X.M)\/b=B8) B8:=.inr rfl;have H4:RX X γ.ro γ.own w w4:=C.trans X ((h2.sub λb e=>.inl e).trans X ((B.sub λb e=>.inl e).trans X (M.sub λb e=>.inl e)));clear h2 B M W J W2 T aw;have XS:∀{w' aa:Φ},RX X γ.ro (λb=>((γ.own b\/b=X.M)\/b=B8)/\b≠B8) w' aa->RX X γ.ro γ.own w' aa:=λh=>h.sub λb e=>⟨i b e,a2 b e⟩
 refine ku (b:=B8) (A:=λo x=>x=ϗ/\o=.cells (Ch r (γ.mine path) (d path)) Nu (0,0)) g z (abQ _ _ _ _ _ _ _ _ _ _ _) (λw5 F=>?_) (λw5 o x _ ag ha F=>?_) G;have Q:=bq F (.inl g) N;have⟨w',ev,H,r2,r3⟩:=iy (t:=Nu) (off:=0) (v:=.agg (Ch r (γ.mine path) (d path))) Q (by
  have:(Value.agg (Ch r (γ.mine path) (d path))).cells.size=6:=qX _ _ _;rw[this];exact aaS) (by
  have:(Value.agg (Ch r (γ.mine path) (d path))).cells.size=6:=qX _ _ _;rw[this];simp[zF,Value.cells]) (Vh _ _ _)
 rw[Vg]at r2;exact⟨ϗ,_,w',ev,.inr ⟨H,rfl⟩,r2,⟨rfl,rfl⟩,λe p=>⟨B8,r3 e p,.inl g⟩⟩;obtain⟨rfl,rfl⟩:=ha;have M5:=bq F (.inl ⟨D,y.symm⟩) V;have aq:=bq F (.inl ⟨i B7 u,ac.symm⟩) ao;have WM:=F.live WN;have H5:=H4.trans X (XS F);refine aI (abR _ _ _ _ _ _ _ _ _ _ _) ?_;have j:cD r<2:=by obtain rfl|rfl:=a.role<;>decide
 refine dL (abO _ _ _ _ _ _ _ _ _ _ _) (x:=.pointer (some ⟨B8,cD r,none⟩)) (λw6 K=>⟨w6,#[],Zp B8 _ j,rfl,rfl,rfl,rfl,ϛ⟩) λw6 K=>?_
 have Z:=bq K (.inl g) ag;have M6:=bq K (.inl D) M5;have Y:=bq K (.inl (i B7 u)) aq;have WL:=K.live WM;have H6:=H5.trans X (K.sub i);clear F K M5 aq WM H5 ag N V ao WN H4;refine aI (abP _ _ _ _ _ _ _ _ _ _ _) ?_;refine ku (b:=B8) (A:=λo x=>x=ϗ/\o=.cells (bK (Ch r (γ.mine path) (d path)) [.bool true] (cD r)) Nu (0,0)) g z (abM _ _ _ _ _ _ _ _ _ _ _) (λar I=>?_) (λar o x _ S ha I=>?_) G;have Q:=bq I (.inl g) Z;have⟨w',ev,H,r2,r3⟩:=iy (t:=4) (off:=cD r) (v:=.bool true) Q aga (by rw[qX];show cD r+1<=6;omega) (by simp[Value.cells,ni])
 exact⟨ϗ,_,w',ev,.inr ⟨H,rfl⟩,r2,⟨rfl,rfl⟩,λe p=>⟨B8,r3 e p,.inl g⟩⟩;obtain⟨rfl,rfl⟩:=ha;have M7:=bq I (.inl ⟨D,y.symm⟩) M6;have an:=bq I (.inl ⟨i B7 u,ac.symm⟩) Y;have WK:=I.live WL;have H7:=H6.trans X (XS I);refine aI (abN _ _ _ _ _ _ _ _ _ _ _) ?_;refine dL (U9 _ _ _ _ _ _ _ _ _ _ _) (x:=hv hb hc) (λw8 E=>?_) λw8 E=>?_
 have⟨ev,H,r2⟩:=kU (t:=TH) (off:=0) (n:=2) (bq E (.inl (i B7 u)) an) ail Kd ϛ;exact⟨w8,ev,H,rfl,rfl,rfl,rfl,λe p=>⟨B7,(r2 e p).1,.inl (i B7 u)⟩⟩;have am:=bq E (.inl g) S;have M8:=bq E (.inl D) M7;have WJ:=E.live WK;have H8:=H7.trans X (E.sub i);refine aI (Va _ _ _ _ _ _ _ _ _ _ _) ?_;refine dL (U6 _ _ _ _ _ _ _ _ _ _ _) (x:=.pointer (some ⟨B8,2+2*cD r,none⟩)) (λw9 L=>⟨w9,#[],Zo B8 _ j,rfl,rfl,rfl,rfl,ϛ⟩) λw9 L=>?_
 have aW:=bq L (.inl g) am;have M9:=bq L (.inl D) M8;have a3:=L.live WJ;have H9:=H8.trans X (L.sub i);clear I E L M6 M7 M8 Y an WL WK WJ H6 H7 H8 Z S am;refine aI (U7 _ _ _ _ _ _ _ _ _ _ _) ?_;refine ku (b:=B8) (A:=λo x=>x=ϗ/\o=.cells (Ch r (some (hb,hc)) (d path)) Nu (0,0)) g z (U3 _ _ _ _ _ _ _ _ _ _ _) (λwA hA=>?_) (λwA o x _ a1 ha hA=>?_) G;have Q:=bq hA (.inl g) aW;have⟨w',ev,H,r2,r3⟩:=iy (t:=TH) (off:=2+2*cD r) (v:=hv hb hc) Q Kd (by rw[wS,qX];show 2+2*cD r+2<=6;omega) (by simp[hv,Value.cells,ni])
 have e:(hv hb hc).cells.toList=[.bool hb,.string hc]:=rfl;rw[e,acb r a.role]at r2;exact⟨ϗ,_,w',ev,.inr ⟨H,rfl⟩,r2,⟨rfl,rfl⟩,λe p=>⟨B8,r3 e p,.inl g⟩⟩;obtain⟨rfl,rfl⟩:=ha;have MA:=bq hA (.inl ⟨D,y.symm⟩) M9;have a5:=hA.live a3;have HA:=H9.trans X (XS hA);refine aI (U4 _ _ _ _ _ _ _ _ _ _ _) ?_;rw[U2];refine IE λwB t hB=>?_
 have P:=bq hB (.inl g) a1;have MB:=bq hB (.inl D) MA;have WI:=hB.live a5;have HB:=HA.trans X (hB.sub i);refine ID (w:=wB) rfl ⟨a.mf,a.mw⟩ D g a.rm l (qX _ _ _) (λa8 wC a7 c' _ a0 av hC=>?_) 7 t 0 _ wB ⟨RX.refl X _ _ _,WI,P,MB⟩ (by decide) (by decide) (by decide) (by decide)
  ⟨N8 _ _ _ _ _ _ _ _ _ _ _,aej _ _ _ _ _ _ _ _ _ _ _,aei _ _ _ _ _ _ _ _ _ _ _,aeh _ _ _ _ _ _ _ _ _ _ _,λh=>absurd h (by decide),λh=>absurd h (by decide),λh=>absurd h (by decide),λh=>absurd h (by decide),λh=>absurd h (by decide),λh=>absurd h (by decide)⟩
 have HC:RX X γ.ro γ.own w wC:=HB.trans X (hC.sub λb e=>⟨i b e,λq=>a.om (q▸e)⟩);refine aI (U0 _ _ _ _) ?_;have eo:(λb=>(γ.own b\/b=X.M)\/b=B8)=λb=>(γ.own b\/b=B8)\/b=X.M:=by funext b;exact propext ⟨λh=>h.elim (λh=>h.elim (λh=>.inl (.inl h)) .inr) λh=>.inl (.inr h),λh=>h.elim (λh=>h.elim (λh=>.inl (.inl h)) .inr) λh=>.inl (.inr h)⟩
 rw[eo];have R2:Room X {γ with own:=λb=>γ.own b\/b=B8}:=⟨a.room.ne,λb h=>by rcases h with(h|rfl)|h;exact a.room.off b (.inl h);exact z;exact a.room.off b (.inr h)⟩
 exact Er (γ:={γ with own:=λb=>γ.own b\/b=B8}) (c:=jz γ.mine path (hb,hc)) (d:=d) hm R2 (λh=>h.elim a.om λe=>y e.symm) (hC.live WI) ⟨_,a0,a.put hD rfl l av⟩ λk' wD al=>
  aI (Pb _ _ _) (R k' wD (λb=>γ.own b\/b=B8) d (λb h=>.inl h) (λb h=>Or.imp id (λe:b=B8=>by rw[e];exact a4) h) (λb h=>by have s1:=HC.size;have s2:=hC.size;have s3:=al.size;obtain h|rfl:=h;have:=m b (.inl h);omega;have:=lt_of_some P;omega) (HC.trans X (al.sub λb h=>.inl h)))
def Fu(a:Bo X r γ)(c:∀b,γ.own b\/γ.ro b->b<w.heap.size)(v:X.M<w.heap.size)(live:∃s,ShAt X w s)(i:∀k w' own' d,(∀b,γ.own b->own' b)->(∀b,own' b->γ.own b\/w.heap.size<=b)->(∀b,own' b->b<w'.heap.size)->RR X γ w w'->LW X r {γ with own:=own',mine:=jz γ.mine path (hb,hc),other:=d} k (at_ .out n) (de fr cs U) w')(k:Nat):
  LW X r γ k (at_ .out (n+1)) (gP0 X.Fd (cD r) path hb hc fr cs) w:=by
 refine aI (ab0 _ _ _ _ _ _ _) (iQ (f:=λb=>pb b) (U1 _ _ _ _ _ _ _) (λw1 h1=>⟨#[],y6 _ _,ϛ⟩) λw1 B7 h1 q j=>?_);refine aI (abZ _ _ _ _ _ _ _ _) ?_;have⟨s1,g⟩:=live;have x:B7≠X.Fd/\B7≠X.Wg:=⟨λe=>by have:=lt_of_some g.1;omega,λe=>by have:=lt_of_some g.2;omega⟩
 have S1:Bo X r {γ with own:=λb=>γ.own b\/b=B7}:=⟨a.dat,a.role,⟨a.room.ne,λb h=>by rcases h with(h|rfl)|h;exact a.room.off b (.inl h);exact x;exact a.room.off b (.inr h)⟩,λh=>h.elim a.om λe=>ϖ,a.rm,a.mf,a.mw⟩
 have l:=lt_of_some j;have m:∀b,(γ.own b\/b=B7)\/γ.ro b->b<w1.heap.size:=λb h=>by have:=h1.size;rcases h with(h|rfl)|h;have:=c b (.inl h);omega;exact l;have:=c b (.inr h);omega
 have o:=h1.live ⟨s1,g⟩;refine Me (γ:={γ with own:=λb=>γ.own b\/b=B7}) a.worker S1.room o (ZE S1 m o (.inr rfl) j λk w' own' d t y p u=>?_);exact i k w' own' d (λb h=>t b (.inl h)) (λb h=>by rcases y b h with(h|rfl)|h;exact .inl h;exact .inr q;exact .inr (ac3 h1.size h)) p (h1.trans X (RX.sub u λb h=>.inl h))
end
abbrev TC:θ:=251
section
variable (F:Nat)(dv:Θ)(side:Nat)(m1 m2:Θ)(fr:φ)(cs:List φ)
def gC0(dv:Θ)(set:Int)(fr:φ)(cs:Ϙ):Ω:=Qm 166 #[dv,.int .i64 set] 28 fr cs
def fK1:φ:=(On 5 (gK0 F dv (side:Int) fr cs)).callers.head?.getD default
def ab5:ay PP false (gK0 F dv (side:Int) fr cs) (gC0 dv (side:Int) (fK1 F dv side fr cs) (fr::cs)):=aZ 5 (cB PP false 5 (gK0 F dv (side:Int) fr cs)) λa=>ϰ
def fK2:φ:=(On 2 (de (fK1 F dv side fr cs) (fr::cs) m1)).callers.head?.getD default
def ab4:ay PP false (de (fK1 F dv side fr cs) (fr::cs) m1) (gC0 dv 2 (fK2 F dv side m1 fr cs) (fr::cs)):=aZ 2 (cB PP false 2 (de (fK1 F dv side fr cs) (fr::cs) m1)) λa=>ϰ
def gK3:Ω:=O (de (fK2 F dv side m1 fr cs) (fr::cs) m2)
def ab3:ay PP false (de (fK2 F dv side m1 fr cs) (fr::cs) m2) (gK3 F dv side m1 m2 fr cs):=aV λa=>ϰ
def ab1:bm (gK3 F dv side m1 m2 fr cs)=some (.range TC m1):=ϰ
end
def XQ:List Item:=(O (resume (gK3 0 default 0 ϗ ϗ default []) (pb 0))).frame.todo
def gL1(tm:ϐ)(fr:φ)(cs:Ϙ):Ω:=G ((base 132).at ⟨tm,[]⟩ XQ) (fr::cs)
section
variable (F:Nat)(dv:Θ)(side M1 M2 it:Nat)(path s s2:Ξ)(b2:Bool)(B9:Nat)(fr:φ)(cs:List φ)(y:Nat->Θ)
def aem:Array Θ:=#[pt F,dv,.int .i64 (side:Int),y 3,y 4,y 5,.map (some M1),.map (some M2),y 8,y 9,y 10,y 11,y 12,y 13,y 14,y 15,y 16,pb it,y 18,y 19,y 20,y 21,y 22,y 23,y 24,y 25,y 26,y 27,y 28,y 29,y 30,y 31,y 32,y 33,y 34,y 35,y 36,y 37,y 38,y 39,y 40,y 41,y 42,y 43,y 44,y 45,y 46,y 47,y 48]
def ael:Array Θ:=#[pt F,dv,.int .i64 (side:Int),y 3,y 4,y 5,.map (some M1),.map (some M2),y 8,y 9,y 10,y 11,y 12,y 13,y 14,y 15,y 16,y 17,y 18,y 19,y 20,y 21,y 22,y 23,y 24,y 25,y 26,y 27,y 28,y 29,y 30,y 31,y 32,y 33,pb it,y 35,y 36,y 37,y 38,y 39,y 40,y 41,y 42,y 43,y 44,y 45,y 46,y 47,y 48]
structure HL1 (F:Nat)(dv:Θ)(side M1 M2 it:Nat)(tm:Array Θ):Prop where
 size:tm.size=49
 s0:tm[0]?=some (pt F)
 s1:tm[1]?=some (dv)
 s2:tm[2]?=some (.int .i64 (side:Int))
 s6:tm[6]?=some (.map (some M1))
 s7:tm[7]?=some (.map (some M2))
 s17:tm[17]?=some (pb it)
structure HL2 (F:Nat)(dv:Θ)(side M1 M2 it:Nat)(tm:Array Θ):Prop where
 size:tm.size=49
 s0:tm[0]?=some (pt F)
 s1:tm[1]?=some (dv)
 s2:tm[2]?=some (.int .i64 (side:Int))
 s6:tm[6]?=some (.map (some M1))
 s7:tm[7]?=some (.map (some M2))
 s34:tm[34]?=some (pb it)
def HL1.eq{F:Nat}{dv:Θ}{side M1 M2 it:Nat}(h:HL1 F dv side M1 M2 it tm):tm=aem F dv side M1 M2 it λi=>tm.getD i ϗ:=by
 have h1:=slots tm h.size;simp only[rl]at h1;rw[cI h.s0,cI h.s1,cI h.s2,cI h.s6,cI h.s7,cI h.s17]at h1;exact h1
def HL2.eq{F:Nat}{dv:Θ}{side M1 M2 it:Nat}(h:HL2 F dv side M1 M2 it tm):tm=ael F dv side M1 M2 it λi=>tm.getD i ϗ:=by
 have h1:=slots tm h.size;simp only[rl]at h1;rw[cI h.s0,cI h.s1,cI h.s2,cI h.s6,cI h.s7,cI h.s34]at h1;exact h1
def ab2(a:Θ)(h1:a=.map (some M1)):∃tm,HL1 F dv side M1 M2 it tm/\ay PP false (resume (gK3 F dv side a (.map (some M2)) fr cs) (pb it)) (gL1 tm fr cs):=by
 subst h1;exact⟨(O (resume (gK3 F dv side (.map (some M1)) (.map (some M2)) fr cs) (pb it))).frame.tmps,⟨ϰ,ϰ,ϰ,ϰ,ϰ,ϰ,ϰ⟩,aZ 200 (cB PP false 200 (resume (gK3 F dv side (.map (some M1)) (.map (some M2)) fr cs) (pb it))) λb=>ϰ⟩
abbrev l1:Ω:=gL1 (aem F dv side M1 M2 it y) fr cs
def nxT(g:Ω):θ:=match bm g with|some (.next _ _ t)=>t|_=>0
def af3:bm (l1 F dv side M1 M2 it fr cs y)=some (.next (pb it) false (nxT (l1 0 default 0 0 0 0 default [] λ_=>ϗ))):=ϰ
def l1o:Ω:=O (resume (l1 F dv side M1 M2 it fr cs y) (.tuple #[.bool false]))
def Ur:ay PP false (resume (l1 F dv side M1 M2 it fr cs y) (.tuple #[.bool false])) (l1o F dv side M1 M2 it fr cs y):=aV λa=>ϰ
def aaw:bm (l1o F dv side M1 M2 it fr cs y)=some (.range TC (.map (some M2))):=ϰ
def l1a:Ω:=O (resume (l1 F dv side M1 M2 it fr cs y) (.tuple #[.bool true,.string path,hv true s]))
def Us:ay PP false (resume (l1 F dv side M1 M2 it fr cs y) (.tuple #[.bool true,.string path,hv true s])) (l1a F dv side M1 M2 it path s fr cs y):=aV λa=>ϰ
def aaM:bm (l1a F dv side M1 M2 it path s fr cs y)=some (.entry (pb it)):=ϰ
def l1b:Ω:=O (resume (l1a F dv side M1 M2 it path s fr cs y) (.tuple #[.string path,hv true s]))
def aaL:ay PP false (resume (l1a F dv side M1 M2 it path s fr cs y) (.tuple #[.string path,hv true s])) (l1b F dv side M1 M2 it path s fr cs y):=aV λa=>ϰ
def aaK:bm (l1b F dv side M1 M2 it path s fr cs y)=some (.alloc TH):=ϰ
def l1c:Ω:=O (resume (l1b F dv side M1 M2 it path s fr cs y) (pb B9))
def aaJ:ay PP false (resume (l1b F dv side M1 M2 it path s fr cs y) (pb B9)) (l1c F dv side M1 M2 it path s B9 fr cs y):=aV λa=>ϰ
def aaH:bm (l1c F dv side M1 M2 it path s B9 fr cs y)=some (.store TH (pb B9) (hv true s)):=ϰ
def l1d:Ω:=O (resume (l1c F dv side M1 M2 it path s B9 fr cs y) ϗ)
def aaI:ay PP false (resume (l1c F dv side M1 M2 it path s B9 fr cs y) ϗ) (l1d F dv side M1 M2 it path s B9 fr cs y):=aV λa=>ϰ
def aaF:bm (l1d F dv side M1 M2 it path s B9 fr cs y)=some (.load TH (pb B9)):=ϰ
def l1e:Ω:=O (resume (l1d F dv side M1 M2 it path s B9 fr cs y) (hv true s))
def aaG:ay PP false (resume (l1d F dv side M1 M2 it path s B9 fr cs y) (hv true s)) (l1e F dv side M1 M2 it path s B9 fr cs y):=aV λa=>ϰ
def aaD:bm (l1e F dv side M1 M2 it path s B9 fr cs y)=some (.lookup TC (.map (some M2)) (.string path) false):=ϰ
def WY:Ω:=O (resume (l1e F dv side M1 M2 it path s B9 fr cs y) (hv b2 s2))
def aaE:ay PP false (resume (l1e F dv side M1 M2 it path s B9 fr cs y) (hv b2 s2)) (WY F dv side M1 M2 it path s s2 b2 B9 fr cs y):=aV λa=>ϰ
def aaB:bm (WY F dv side M1 M2 it path s s2 b2 B9 fr cs y)=some (.bin .neq TH (hv true s) (hv b2 s2)):=ϰ
def aaA:∃tm,HL1 F dv side M1 M2 it tm/\ay PP false (resume (WY F dv side M1 M2 it path s s2 b2 B9 fr cs y) (.bool false)) (gL1 tm fr cs):=⟨(O (resume (WY F dv side M1 M2 it path s s2 b2 B9 fr cs y) (.bool false))).frame.tmps,⟨ϰ,ϰ,ϰ,ϰ,ϰ,ϰ,ϰ⟩,aZ 200 (cB PP false 200 (resume (WY F dv side M1 M2 it path s s2 b2 B9 fr cs y) (.bool false))) λa=>ϰ⟩
def l1g:Ω:=O (resume (WY F dv side M1 M2 it path s s2 b2 B9 fr cs y) (.bool true))
def Uq:ay PP false (resume (WY F dv side M1 M2 it path s s2 b2 B9 fr cs y) (.bool true)) (l1g F dv side M1 M2 it path s s2 b2 B9 fr cs y):=aV λa=>ϰ
def aay:bm (l1g F dv side M1 M2 it path s s2 b2 B9 fr cs y)=some (.load TH (pb B9)):=ϰ
def l1F:φ:=(On 1 (resume (l1g F dv side M1 M2 it path s s2 b2 B9 fr cs y) (hv true s))).callers.head?.getD default
def aaz:ay PP false (resume (l1g F dv side M1 M2 it path s s2 b2 B9 fr cs y) (hv true s)) (gP0 F side path true s (l1F F dv side M1 M2 it path s s2 b2 B9 fr cs y) (fr::cs)):=aZ 1 (cB PP false 1 (resume (l1g F dv side M1 M2 it path s s2 b2 B9 fr cs y) (hv true s))) λa=>ϰ
def aaN:∃tm,HL1 F dv side M1 M2 it tm/\ay PP false (de (l1F F dv side M1 M2 it path s s2 b2 B9 fr cs y) (fr::cs) U) (gL1 tm fr cs):=⟨(O (de (l1F F dv side M1 M2 it path s s2 b2 B9 fr cs y) (fr::cs) U)).frame.tmps,⟨ϰ,ϰ,ϰ,ϰ,ϰ,ϰ,ϰ⟩,aZ 200 (cB PP false 200 (de (l1F F dv side M1 M2 it path s s2 b2 B9 fr cs y) (fr::cs) U)) λa=>ϰ⟩
end
def XP:List Item:=(O (resume (l1o 0 default 0 0 0 0 default [] λ_=>ϗ) (pb 0))).frame.todo
def gL2(tm:ϐ)(fr:φ)(cs:Ϙ):Ω:=G ((base 132).at ⟨tm,[]⟩ XP) (fr::cs)
section
variable (F:Nat)(dv:Θ)(side M1 M2 it it2:Nat)(path s s2:Ξ)(b2:Bool)(B9:Nat)(fr:φ)(cs:List φ)(y:Nat->Θ)
def aax:∃tm,HL2 F dv side M1 M2 it2 tm/\ay PP false (resume (l1o F dv side M1 M2 it fr cs y) (pb it2)) (gL2 tm fr cs):=⟨(O (resume (l1o F dv side M1 M2 it fr cs y) (pb it2))).frame.tmps,⟨ϰ,ϰ,ϰ,ϰ,ϰ,ϰ,ϰ⟩,aZ 200 (cB PP false 200 (resume (l1o F dv side M1 M2 it fr cs y) (pb it2))) λa=>ϰ⟩
abbrev l2:Ω:=gL2 (ael F dv side M1 M2 it y) fr cs
def af1:bm (l2 F dv side M1 M2 it fr cs y)=some (.next (pb it) false (nxT (l2 0 default 0 0 0 0 default [] λ_=>ϗ))):=ϰ
def Uo:ay PP false (resume (l2 F dv side M1 M2 it fr cs y) (.tuple #[.bool false])) (de fr cs U):=aZ 7 (cB PP false 7 (resume (l2 F dv side M1 M2 it fr cs y) (.tuple #[.bool false]))) λa=>ϰ
def l2a:Ω:=O (resume (l2 F dv side M1 M2 it fr cs y) (.tuple #[.bool true,.string path,hv true s]))
def Up:ay PP false (resume (l2 F dv side M1 M2 it fr cs y) (.tuple #[.bool true,.string path,hv true s])) (l2a F dv side M1 M2 it path s fr cs y):=aV λa=>ϰ
def aau:bm (l2a F dv side M1 M2 it path s fr cs y)=some (.entry (pb it)):=ϰ
def WX:Ω:=O (resume (l2a F dv side M1 M2 it path s fr cs y) (.tuple #[.string path,hv true s]))
def aat:ay PP false (resume (l2a F dv side M1 M2 it path s fr cs y) (.tuple #[.string path,hv true s])) (WX F dv side M1 M2 it path s fr cs y):=aV λa=>ϰ
def aar:bm (WX F dv side M1 M2 it path s fr cs y)=some (.lookup TC (.map (some M1)) (.string path) false):=ϰ
def Un:∃tm,HL2 F dv side M1 M2 it tm/\ay PP false (resume (WX F dv side M1 M2 it path s fr cs y) (hv true s2)) (gL2 tm fr cs):=⟨(O (resume (WX F dv side M1 M2 it path s fr cs y) (hv true s2))).frame.tmps,⟨ϰ,ϰ,ϰ,ϰ,ϰ,ϰ,ϰ⟩,aZ 200 (cB PP false 200 (resume (WX F dv side M1 M2 it path s fr cs y) (hv true s2))) λa=>ϰ⟩
def l2c:Ω:=O (resume (WX F dv side M1 M2 it path s fr cs y) (hv false s2))
def aaq:ay PP false (resume (WX F dv side M1 M2 it path s fr cs y) (hv false s2)) (l2c F dv side M1 M2 it path s s2 fr cs y):=aV λa=>ϰ
def aap:bm (l2c F dv side M1 M2 it path s s2 fr cs y)=some (.build TH #[]):=ϰ
def l2F:φ:=(On 1 (resume (l2c F dv side M1 M2 it path s s2 fr cs y) (hv false ⟨#[]⟩))).callers.head?.getD default
def aao:ay PP false (resume (l2c F dv side M1 M2 it path s s2 fr cs y) (hv false ⟨#[]⟩)) (gP0 F side path false ⟨#[]⟩ (l2F F dv side M1 M2 it path s s2 fr cs y) (fr::cs)):=aZ 1 (cB PP false 1 (resume (l2c F dv side M1 M2 it path s s2 fr cs y) (hv false ⟨#[]⟩))) λa=>ϰ
def aav:∃tm,HL2 F dv side M1 M2 it tm/\ay PP false (de (l2F F dv side M1 M2 it path s s2 fr cs y) (fr::cs) U) (gL2 tm fr cs):=⟨(O (de (l2F F dv side M1 M2 it path s s2 fr cs y) (fr::cs) U)).frame.tmps,⟨ϰ,ϰ,ϰ,ϰ,ϰ,ϰ,ϰ⟩,aZ 200 (cB PP false 200 (de (l2F F dv side M1 M2 it path s s2 fr cs y) (fr::cs) U)) λa=>ϰ⟩
end
section
variable {X:Cx jE}{r:bE}{γ:Gh jE}{w w':Φ}
structure Now (X:Cx jE)(r:bE)(γ:Gh jE)(w:Φ):Prop where
 spot:Bo X r γ
 low:∀b,γ.own b\/γ.ro b->b<w.heap.size
 ml:X.M<w.heap.size
 live:∃s,ShAt X w s
def Now.rely(h:Now X r γ w)(hr:RR X γ w w'):Now X r γ w':=
 ⟨h.spot,λb hb=>ω (h.low b hb) hr.size,ω h.ml hr.size,hr.live h.live⟩
def Now.grow(h:Now X r γ w)(hr:RR X γ w w'){m d:jE}(h1:∀b,own' b->γ.own b\/w.heap.size<=b)(h2:∀b,own' b->b<w'.heap.size):Now X r {γ with own:=own',mine:=m,other:=d} w':=by
 have⟨s,hs⟩:=h.live;have c:=lt_of_some hs.1;have a:=lt_of_some hs.2;have e:=h.ml;refine⟨⟨h.spot.dat,h.spot.role,⟨h.spot.room.ne,λb hb=>?_⟩,λhb=>?_,h.spot.rm,h.spot.mf,h.spot.mw⟩,λb hb=>?_,ω h.ml hr.size,hr.live h.live⟩;obtain hb|hb:=hb;obtain hb|hb:=h1 b hb;exact h.spot.room.off b (.inl hb);exact⟨ϖ,ϖ⟩;exact h.spot.room.off b (.inr hb);obtain hb|hb:=h1 _ hb;exact h.spot.om hb;omega;obtain hb|hb:=hb;exact h2 b hb;exact ω (h.low b (.inr hb)) hr.size
end
def zH{Δ:Type}{X:Cx Δ}{it:Nat}{f:Ξ->Option Θ}(h:bm g=some (.next (pb it) false ty))(i:own it)(o:own m)(t:it≠X.Fd/\it≠X.Wg)(n:¬ro it)(p:w.heap[it]?=some (.mapIter (some m) c seen c))(k:w.heap[m]?=some (.map es c))(hm:dU es c f)(over:leftOf es seen=#[]->∀w',RX X ro own w w'->aJ PP false (gG X false ro) Stop own (resume g (.tuple #[.bool false])) w')(more:∀e∈leftOf es seen,∀w',RX X ro (λb=>own b/\b≠it) w w'->w'.heap[it]?=some (.mapIter (some m) c (seen.push e.born) c)->aJ PP false (gG X false ro) Stop own (resume g (.tuple #[.bool true,e.key,e.val])) w'):
  aJ PP false (gG X false ro) Stop own g w:=by
 refine aJ.step (dH h).1 λw1 h1=>?_
 obtain⟨hl,w',ev,rt,a1,a2,a3,a4,a5⟩|⟨e,he,w',ev,rt,u,a5⟩:=JN (w:=w1) (ty:=ty) (bq h1 (.inl i) p) (bq h1 (.inl o) k) hm;have⟨a,e1,e2⟩:=gS (main:=false) h rt;have d:(gG X false ro).up own w1 w'=own:=by funext b;exact propext ⟨λh=>h.elim id λz=>by rw[a4]at z;omega,.inl⟩
 refine⟨_,w',a,e1,⟨a1,a2,by rw[a4];exact ε _,by rw[a3];exact .refl _,λb _ _=>by rw[a4],λx j=>?_,λh=>absurd h ϛ⟩,?_⟩;rcases(a5 x (e2 x j)).1 with q|q;exact tR (.inl i) q;exact tR (.inl o) q;rw[d];exact over hl w' (h1.trans X ⟨a1,a2,by rw[a4];exact ε _,by rw[a3];exact .refl _,λb _ _=>by rw[a4],λ⟨s,hs⟩=>⟨s,by rw[ShAt,a4];exact hs⟩⟩);have⟨a,e1,e2⟩:=gS (main:=false) h rt;have d:(gG X false ro).up own w1 w'=own:=by funext b;exact propext ⟨λh=>h.elim id λz=>by rw[u.size]at z;omega,.inl⟩
 refine⟨_,w',a,e1,⟨u.tape,u.output,al2 u.size.symm,by rw[u.os];exact .refl _,λb _ hb=>u.rest b λq=>hb (q▸i),λx j=>?_,λh=>absurd h ϛ⟩,?_⟩;obtain q|q:=a5 x (e2 x j);exact tR (.inl i) q;exact tR (.inl o) q.1;rw[d];refine more e he w' ?_ u.at_;refine⟨u.tape.trans h1.tape,u.output.trans h1.output,ac3 h1.size (al2 u.size.symm),by rw[u.os];exact h1.os,λb hb r=>?_,λl=>?_⟩;have hne:b≠it:=λq=>r.elim (λh=>h.2 q) λh=>n (q▸h)
 exact(u.rest b hne).trans (h1.keep b hb (r.imp (·.1) id));have⟨s,hs⟩:=h1.live l;exact⟨s,(u.rest _ t.1.symm).trans hs.1,(u.rest _ t.2.symm).trans hs.2⟩
section
variable (gN gA:Ξ->Option Ξ)
open Classical in
def lh:jE:=λs=>if gN s=gA s then none else some (match gN s with|some c=>(true,c)|none=>(false,⟨#[]⟩))
def NB(V:Ξ->Prop)(mine:jE):Prop:=∀s,(∃c,gN s=some c/\gA s≠some c/\V s/\mine s=some (true,c))\/((gN s=none\/gA s=gN s\/¬V s)/\mine s=none)
def Sn(V:Ξ->Prop)(mine:jE):Prop:=∀s,(∃c,gN s=some c/\gA s≠some c/\mine s=some (true,c))\/(gN s=none/\gA s≠none/\V s/\mine s=some (false,⟨#[]⟩))\/((gA s=gN s\/(gN s=none/\¬V s))/\mine s=none)
variable {gN gA}{V V':Ξ->Prop}{mine:jE}{path:Ξ}{c:Ξ}
def NB.start:NB gN gA (λ_=>False) λ_=>none:=λ_=>.inr ⟨.inr (.inr id),rfl⟩
def NB.put(h:NB gN gA V mine)(d:∀s,V' s↔V s\/s=path)(h1:gN path=some c)(h2:gA path≠some c):NB gN gA V' (jz mine path (true,c)):=λs=>by
 by_cases hs:s=path;subst hs;exact .inl ⟨c,h1,h2,(d s).2 (.inr rfl),by simp[jz]⟩;have e:jz mine path (true,c) s=mine s:=by simp[jz,hs]
 rw[e];have hv:V' s↔V s:=(d s).trans ⟨λh=>h.resolve_right hs,.inl⟩;obtain⟨x,a1,a2,a3,a4⟩|⟨a1,a2⟩:=h s;exact .inl ⟨x,a1,a2,hv.2 a3,a4⟩;exact .inr ⟨a1.imp id λa=>a.imp id λa b=>a (hv.1 b),a2⟩
def NB.skip(h:NB gN gA V mine)(c:∀s,V' s↔V s\/s=path)(h1:gA path=gN path):NB gN gA V' mine:=λs=>by
 obtain⟨x,a1,a2,a3,a4⟩|⟨a1,a2⟩:=h s;exact .inl ⟨x,a1,a2,(c s).2 (.inl a3),a4⟩;refine .inr ⟨?_,a2⟩;by_cases hs:s=path;subst hs;exact .inr (.inl h1);exact a1.imp id λa=>a.imp id λa b=>a (((c s).1 b).resolve_right hs)
def NB.done(h:NB gN gA V mine)(b:∀s,gN s≠none->V s):Sn gN gA (λ_=>False) mine:=λs=>by
 obtain⟨x,a,a2,a3,a4⟩|⟨a,a2⟩:=h s;exact .inl ⟨x,a,a2,a4⟩;refine .inr (.inr ⟨?_,a2⟩);obtain a|a|a:=a;exact .inr ⟨a,id⟩;exact .inl a;exact .inr ⟨ad2 λq=>a (b s q),id⟩
def Sn.put(h:Sn gN gA V mine)(f:∀s,V' s↔V s\/s=path)(h1:gN path=none)(h2:gA path≠none):Sn gN gA V' (jz mine path (false,⟨#[]⟩)):=λs=>by
 by_cases hs:s=path;subst hs;exact .inr (.inl ⟨h1,h2,(f s).2 (.inr rfl),by simp[jz]⟩);have e:jz mine path (false,⟨#[]⟩) s=mine s:=by simp[jz,hs]
 rw[e];have hv:V' s↔V s:=(f s).trans ⟨λh=>h.resolve_right hs,.inl⟩;obtain a|⟨c,d,i,g⟩|⟨c,d⟩:=h s;exact .inl a;exact .inr (.inl ⟨c,d,hv.2 i,g⟩);exact .inr (.inr ⟨c.imp id λa=>⟨a.1,λb=>a.2 (hv.1 b)⟩,d⟩)
def Sn.skip(h:Sn gN gA V mine)(e:∀s,V' s↔V s\/s=path)(h1:gN path≠none):Sn gN gA V' mine:=λs=>by
 obtain a|⟨c,d,g,f⟩|⟨c,d⟩:=h s;exact .inl a;exact .inr (.inl ⟨c,d,(e s).2 (.inl g),f⟩);refine .inr (.inr ⟨c.imp id λa=>⟨a.1,λb=>?_⟩,d⟩);rcases(e s).1 b with b|b;exact a.2 b;subst b;exact h1 a.1
def Sn.done(h:Sn gN gA V mine)(c:∀s,gA s≠none->V s):mine=lh gN gA:=by
 funext s;unfold lh;obtain⟨x,a,a2,a4⟩|⟨a,a2,b,a4⟩|⟨a,a2⟩:=h s;rw[Γ (by rw[a];exactλq=>a2 q.symm),a,a4];rw[Γ (by rw[a];exactλq=>a2 q.symm),a,a4];by_cases q:gN s=gA s;rw[κ q,a2];exfalso;obtain a|⟨a,b⟩:=a;exact q a.symm;exact b (c s λz=>q (a.trans z.symm))
end
section
open Go.MapKept
variable {es:Array ai2}{c:Nat}{f:Ξ->Option Θ}{seen:Array Nat}{e:ai2}{path:Ξ}
def Ea(es:Ϧ)(seen:ϩ)(s:Ξ):Prop:=∃e∈es.toList,e.key=.string s/\e.born∈seen
def dU.Nl(h:dU es c f){x:ai2}(k:x∈es.toList)(g:y∈es.toList)(hk:x.born=y.born):x=y:=by
 have b:=h.stamped.2.1;rw[List.Nodup,ϒ3,am8]at b;obtain⟨i,d,rfl⟩:=am6.1 k;obtain⟨j,e,rfl⟩:=am6.1 g;obtain a|rfl|a:=ϑ7 i j;exact absurd hk (b i j d e a);rfl;exact absurd hk.symm (b j i e d a)
def yD(h:dU es c f)(a:e∈es.toList)(hk:e.key=.string path)(s:Ξ):Ea es (seen.push e.born) s↔Ea es seen s\/s=path:=by
 constructor;rintro⟨x,hx,h1,h2⟩;obtain h2|h2:=Array.mem_push.1 h2;exact .inl ⟨x,hx,h1,h2⟩;have:=h.Nl hx a h2;subst this;rw[hk]at h1;exact .inr (by simpa using h1.symm);rintro(⟨x,hx,h1,h2⟩|rfl);exact⟨x,hx,h1,Array.mem_push.2 (.inl h2)⟩;exact⟨e,a,hk,Array.mem_push.2 (.inr rfl)⟩
def CA(s:Ξ):¬Ea es #[] s:=λ⟨_,_,_,h⟩=>by simp at h
def CB(h:dU es c f)(b:leftOf es seen=#[])(hs:f s≠none):Ea es seen s:=by
 have⟨v,hv⟩:=Option.ne_none_iff_exists'.1 hs;have⟨x,a,h1,_⟩:=(h.has s v).1 hv;refine⟨x,a,h1,?_⟩;refine ad2 λq=>?_
 have:x∈leftOf es seen:=Array.mem_filter.2 ⟨by simpa using a,by simpa using q⟩;rw[b]at this;simp at this
def zG(a:e∈leftOf es seen):e∈es.toList:=by simpa using(Array.mem_filter.1 a).1
def wl(a:e∈leftOf es seen):(leftOf es (seen.push e.born)).size<(leftOf es seen).size:=by
 have h1:(leftOf es (seen.push e.born)).toList=(leftOf es seen).toList.filter λx=>!(x.born==e.born):=by unfold leftOf;rw[Array.toList_filter,Array.toList_filter,List.filter_filter];congr 1;funext x;rw[Array.contains_push];cases seen.contains x.born<;>cases (x.born==e.born)<;>rfl
 rw[<-aj6,<-aj6,h1];refine List.length_filter_lt_length_iff_exists.2 ⟨e,by simpa using a,ϛ⟩
end
section
variable {X:Cx jE}{r:bE}{ro O0:Nat->Prop}{w0:Φ}{gN gA:Ξ->Option Ξ}{es1 es2:Array ai2}{c1 c2 M1 M2:Nat}{fr:φ}{cs:List φ}{dv:Θ}
def qU(g:Ξ->Option Ξ):Ξ->Option Θ:=λs=>(g s).map (hv true)
structure Two (X:Cx jE)(r:bE)(ro O0:Nat->Prop)(w0:Φ)(gN gA:Ξ->Option Ξ)(es1 es2:Array ai2)(c1 c2 M1 M2:Nat)(γ:Gh jE)(w:Φ):Prop where
 now:Now X r γ w
 roe:γ.ro=ro
 own:∀b,O0 b->γ.own b
 old:∀b,γ.own b->O0 b\/w0.heap.size<=b
 hr:RX X ro O0 w0 w
 o1:γ.own M1
 o2:γ.own M2
 w1:w.heap[M1]?=some (.map es1 c1)
 w2:w.heap[M2]?=some (.map es2 c2)
 i1:dU es1 c1 (qU gN)
 i2:dU es2 c2 (qU gA)
variable {γ:Gh jE}{w w':Φ}
def Two.rely(h:Two X r ro O0 w0 gN gA es1 es2 c1 c2 M1 M2 γ w)(hr:RX X γ.ro γ.own w w'):Two X r ro O0 w0 gN gA es1 es2 c1 c2 M1 M2 γ w':=
 ⟨h.now.rely hr,h.roe,h.own,h.old,h.hr.trans X (by rw[h.roe]at hr;exact hr.sub h.own),h.o1,h.o2,bq hr (.inl h.o1) h.w1,bq hr (.inl h.o2) h.w2,h.i1,h.i2⟩
def Two.grow(h:Two X r ro O0 w0 gN gA es1 es2 c1 c2 M1 M2 γ w)(hr:RX X γ.ro γ.own w w'){own':ϒ}{m d:jE}(h0:∀b,γ.own b->own' b)(h1:∀b,own' b->γ.own b\/w.heap.size<=b)(h2:∀b,own' b->b<w'.heap.size):
  Two X r ro O0 w0 gN gA es1 es2 c1 c2 M1 M2 {γ with own:=own',mine:=m,other:=d} w':=by
 have k:=h.rely hr;refine⟨h.now.grow hr h1 h2,h.roe,λb hb=>h0 b (h.own b hb),λb hb=>?_,k.hr,h0 _ h.o1,h0 _ h.o2,k.w1,k.w2,h.i1,h.i2⟩;obtain hb|hb:=h1 b hb;exact h.old b hb;exact .inr (ac3 h.hr.size hb)
def Two.turn(h:Two X r ro O0 w0 gN gA es1 es2 c1 c2 M1 M2 γ w){it:Nat}(hr:RX X γ.ro (λb=>γ.own b/\b≠it) w w')(n1:it≠M1)(a:it≠M2)(n0:¬O0 it):Two X r ro O0 w0 gN gA es1 es2 c1 c2 M1 M2 γ w':=by
 have k:Now X r γ w':=⟨h.now.spot,λb hb=>ω (h.now.low b hb) hr.size,ω h.now.ml hr.size,hr.live h.now.live⟩
 exact⟨k,h.roe,h.own,h.old,h.hr.trans X (by rw[h.roe]at hr;exact hr.sub λb hb=>⟨h.own b hb,λq=>n0 (q▸hb)⟩),h.o1,h.o2,bq hr (.inl ⟨h.o1,n1.symm⟩) h.w1,bq hr (.inl ⟨h.o2,a.symm⟩) h.w2,h.i1,h.i2⟩
def Two.off(h:Two X r ro O0 w0 gN gA es1 es2 c1 c2 M1 M2 γ w){b:Nat}(hb:γ.own b):b≠X.Fd/\b≠X.Wg:=h.now.spot.room.off b (.inl hb)
def Done(X:Cx jE)(r:bE)(ro O0:ϒ)(w0:Φ)(a:jE)(fr:φ)(cs:Ϙ):Prop:=
 ∀k w' (γ:Gh jE) n,Now X r γ w'->γ.ro=ro->(∀b,O0 b->γ.own b)->(∀b,γ.own b->O0 b\/w0.heap.size<=b)->RX X ro O0 w0 w'->γ.mine=a->LW X r γ k (at_ .out n) (de fr cs U) w'
def JC:PP.underlying TC=some (.map 9 TH):=ϰ
def NO:(PP.info? TH).bind (·.zero)=some (hv false ⟨#[]⟩):=ϰ
def afT(Z:Done X r ro O0 w0 (lh gN gA) fr cs)(L:Nat):∀(seen:ϩ)(γ:Gh jE)(w:Φ)(tm:ϐ)(it n k:Nat),(leftOf es2 seen).size=L->L<=n->Two X r ro O0 w0 gN gA es1 es2 c1 c2 M1 M2 γ w->γ.own it->it≠M1->it≠M2->¬O0 it->¬γ.ro it->
  w.heap[it]?=some (.mapIter (some M2) c2 seen c2)->Sn gN gA (Ea es2 seen) γ.mine->HL2 X.Fd dv (cD r) M1 M2 it tm->LW X r γ k (at_ .out n) (gL2 tm fr cs) w:=by
 induction L using Nat.strongRecOn with
 |_ L K=>
 intro seen γ w tm it n k U hn a c h z A H J B hH;have hm:=a.now.spot.worker;rw[hH.eq];refine zH (af1 ..) c a.o2 (a.off c) H J a.w2 a.i2 (λW w1 h1=>?_) λe Q w1 h1 G=>?_;refine aI (Uo ..) ?_;have O:=a.rely h1;refine Z k w1 γ n O.now a.roe a.own a.old O.hr (B.done λs hs=>CB a.i2 W (by simpa[qU] using hs));have b:=zG Q;have⟨path,hk⟩:=jA (a.i2.keys e b);have q:=(a.i2.has path e.val).2 ⟨e,b,hk,rfl⟩;have⟨s,hs,v⟩:=ψ.1 q;have l:=wl Q;have S:=λs=>yD (seen:=seen) a.i2 b hk s
 rw[hk,<-v];have T1:=a.turn h1 h z A;clear h1;refine aI (Up ..) ?_;refine dL (aau ..) (x:=.tuple #[.string path,hv true s]) (λw2 h2=>?_) λw2 h2=>?_
 have:=y5 (bq h2 (.inl c) G) (T1.rely h2).w2 a.i2 b;rw[hk,<-v]at this;exact⟨w2,_,this,rfl,rfl,rfl,rfl,λx p=>by simp at p;obtain rfl|rfl:=p;exact⟨it,eK,.inl c⟩;exact⟨M2,eK,.inl a.o2⟩⟩
 have T2:=T1.rely h2;have g:=bq h2 (.inl c) G;refine aI (aat ..) ?_;refine dL (aar ..) (x:=(qU gN path).getD (hv false ⟨#[]⟩)) (λF u=>?_) λF u=>?_
 exact⟨F,_,rP (t:=TC) JC N6 NO (T2.rely u).w1 a.i1,rfl,rfl,rfl,rfl,λx p=>by simp at p;subst p;exact⟨M1,eK,.inl a.o1⟩⟩
 have M:=T2.rely u;have f:=bq u (.inl c) g;clear h2 u G g T1 T2;have o:(leftOf es2 (seen.push e.born)).size<L:=U▸l;have hA:gA path≠none:=by rw[hs];simp
 cases y:gN path with
 |some s2=>
  have E:(qU gN path).getD (hv false ⟨#[]⟩)=hv true s2:=by simp[qU,y]
  rw[E];have⟨j,C,hg⟩:=Un X.Fd dv (cD r) M1 M2 it path s s2 fr cs λi=>tm.getD i ϗ
  exact aI hg (K _ o (seen.push e.born) γ F j it n k rfl ϖ M c h z A H f (B.skip S (by rw[y];simp)) C)
 |none=>
  have E:(qU gN path).getD (hv false ⟨#[]⟩)=hv false ⟨#[]⟩:=by simp[qU,y]
  rw[E];refine aI (aaq ..) ?_;refine dL (aap ..) (x:=hv false ⟨#[]⟩) (λR I=>⟨R,#[],.of0 λes=>ϰ,rfl,rfl,rfl,rfl,ϛ⟩) λR I=>?_
  have m:=M.rely I;have V:=bq I (.inl c) f;refine aI (aao ..) ?_;obtain⟨D,rfl⟩:∃D,n=D+1:=⟨n-1,ϖ⟩
  refine Fu m.now.spot m.now.low m.now.ml m.now.live (λk' Y own' d N a2 T P=>?_) k;have⟨j,C,hg⟩:=aav X.Fd dv (cD r) M1 M2 it path s ⟨#[]⟩ fr cs λi=>tm.getD i ϗ
  exact aI hg (K _ o (seen.push e.born) {γ with own:=own',mine:=jz γ.mine path (false,⟨#[]⟩),other:=d} Y j it D k' rfl ϖ (m.grow P N a2 T) (N _ c) h z A H (bq P (.inl c) V) (B.put S y hA) C)
def Two.more(h:Two X r ro O0 w0 gN gA es1 es2 c1 c2 M1 M2 γ w)(hr:RX X γ.ro γ.own w w')(a:w.heap.size<=B)(c:w'.heap[B]?=some o):Two X r ro O0 w0 gN gA es1 es2 c1 c2 M1 M2 {γ with own:=λb=>γ.own b\/b=B} w':=
 h.grow hr (m:=γ.mine) (d:=γ.other) (λb hb=>.inl hb) (λb hb=>Or.imp id (λe:b=B=>by rw[e];exact a) hb) (λb hb=>by obtain hb|rfl:=hb;exact ω (h.now.low b (.inl hb)) hr.size;exact lt_of_some c)
def Two.fresh(h:Two X r ro O0 w0 gN gA es1 es2 c1 c2 M1 M2 γ w)(a:w.heap.size<=B):B≠M1/\B≠M2/\¬γ.own B/\¬γ.ro B/\(B≠X.Fd/\B≠X.Wg)/\(w0.heap.size<=w.heap.size):=by
 have⟨s,hs⟩:=h.now.live;exact⟨λe=>by have:=lt_of_some h.w1;omega,λe=>by have:=lt_of_some h.w2;omega,λe=>by have:=h.now.low B (.inl e);omega,λe=>by have:=h.now.low B (.inr e);omega,⟨λe=>by have:=lt_of_some hs.1;omega,λe=>by have:=lt_of_some hs.2;omega⟩,h.hr.size⟩
def afU(WT:∀b,O0 b->b<w0.heap.size)(hD:Done X r ro O0 w0 (lh gN gA) fr cs)(L:Nat):∀(seen:ϩ)(γ:Gh jE)(w:Φ)(tm:ϐ)(it n k:Nat),(leftOf es1 seen).size=L->L+es2.size<=n->Two X r ro O0 w0 gN gA es1 es2 c1 c2 M1 M2 γ w->γ.own it->it≠M1->it≠M2->¬O0 it->¬γ.ro it->
  w.heap[it]?=some (.mapIter (some M1) c1 seen c1)->NB gN gA (Ea es1 seen) γ.mine->HL1 X.Fd dv (cD r) M1 M2 it tm->LW X r γ k (at_ .out n) (gL1 tm fr cs) w:=by
 induction L using Nat.strongRecOn with
 |_ L ih=>
 intro seen γ w tm it n k hL hn c g F Dv ZY Pw am hI hH;have hm:=c.now.spot.worker;rw[hH.eq];refine zH (af3 _ _ _ _ _ _ _ _ _) g c.o1 (c.off g) Pw am c.w1 c.i1 (λhl w1 h1=>?_) λe H w1 h1 A9=>?_;refine aI (Ur _ _ _ _ _ _ _ _ _) ?_;have T1:=c.rely h1;refine iQ (f:=λb=>pb b) (aaw _ _ _ _ _ _ _ _ _) (λw2 h2=>⟨_,yY JC (T1.rely h2).w2,λx m=>by simp at m;subst m;exact⟨M2,eK,.inl c.o2⟩⟩) λw2 B h2 hB W=>?_
 have⟨f1,f2,f3,f4,f5,f6⟩:=T1.fresh hB;have T2:=T1.more h2 hB W;have⟨j,U,hg⟩:=aax X.Fd dv (cD r) M1 M2 it B fr cs λi=>tm.getD i ϗ
 have an:(leftOf es2 #[]).size=es2.size:=by
  have:leftOf es2 #[]=es2:=by unfold leftOf;rw[Array.filter_eq_self];simp
  rw[this]
 have e2:Ea es2 #[]=λ_=>False:=funext λs=>propext ⟨CA s,False.elim⟩
 exact aI hg (afT hD _ #[] {γ with own:=λb=>γ.own b\/b=B} w2 j B n k rfl (by rw[an];omega) T2 (.inr rfl) f1 f2 (λq=>by have:=WT B q;omega) f4 W (by rw[e2];exact hI.done λs hs=>CB c.i1 hl (by simpa[qU] using hs)) U)
 have h:=zG H;have⟨path,hk⟩:=jA (c.i1.keys e h);have O:=(c.i1.has path e.val).2 ⟨e,h,hk,rfl⟩;have⟨s,hs,Q⟩:=ψ.1 O;have D:=wl H;have hV:=λs=>yD (seen:=seen) c.i1 h hk s
 rw[hk,<-Q];have T1:=c.turn h1 F Dv ZY;clear h1;refine aI (Us _ _ _ _ _ _ _ _ _ _ _) ?_;refine dL (aaM _ _ _ _ _ _ _ _ _ _ _) (x:=.tuple #[.string path,hv true s]) (λw2 h2=>?_) λw2 h2=>?_
 have:=y5 (bq h2 (.inl g) A9) (T1.rely h2).w1 c.i1 h;rw[hk,<-Q]at this;exact⟨w2,_,this,rfl,rfl,rfl,rfl,λx m=>by simp at m;obtain rfl|rfl:=m;exact⟨it,eK,.inl g⟩;exact⟨M1,eK,.inl c.o1⟩⟩
 have T2:=T1.rely h2;have z:=bq h2 (.inl g) A9;refine aI (aaL _ _ _ _ _ _ _ _ _ _ _) ?_;refine iQ (f:=λb=>pb b) (aaK _ _ _ _ _ _ _ _ _ _ _) (λw3 h3=>⟨#[],oH NO,ϛ⟩) λw3 B9 h3 K E=>?_
 have⟨f1,f2,f3,f4,f5,f6⟩:=T2.fresh K;have ao:B9≠it:=λq=>f3 (q▸g)
 have T3:=T2.more h3 K E;have u:w3.heap[it]?=_:=bq h3 (.inl g) z;have aq:=T2.hr.size;clear h2 h3 A9 z T1 T2;have y:(λb=>γ.own b\/b=B9) B9:=.inr rfl;refine aI (aaJ _ _ _ _ _ _ _ _ B9 _ _ _) ?_;refine ku (b:=B9) (A:=λo x=>x=ϗ/\o=.cells #[.bool true,.string s] TH (0,0)) y f5 (aaH _ _ _ _ _ _ _ _ _ _ _ _) (λw4 P=>?_) (λw4 o x _ C ha P=>?_) f4;have⟨w',ev,r1,r2,r3⟩:=iy (t:=TH) (off:=0) (v:=hv true s) (bq P (.inl y) E) Kd (by simp[hv,Value.cells]) (by simp[hv,Value.cells,ni]);exact⟨ϗ,_,w',ev,.inr ⟨r1,rfl⟩,r2,⟨rfl,rfl⟩,λe H=>⟨B9,r3 e H,.inl y⟩⟩;obtain⟨rfl,rfl⟩:=ha;have T4:=T3.turn P f1 f2 (λq=>by have:=WT B9 q;omega);have UI:=bq P (.inl ⟨.inl g,ao.symm⟩) u;clear P T3 u E;refine aI (aaI _ _ _ _ _ _ _ _ _ _ _ _) ?_;have ld:∀{w5 l:Φ},w5.heap[B9]?=some (.cells #[.bool true,.string s] TH (0,0))->RX X γ.ro (λb=>γ.own b\/b=B9) w5 l->∃w' ev,RT (m6.load TH (pb B9)).sem l (.value (hv true s)) w' ev/\w'.tape=l.tape/\w'.output=l.output/\w'.os=l.os/\w'.heap=l.heap/\∀e∈ev,∃b,EvB b e/\((γ.own b\/b=B9)\/(γ.ro b/\e.write=false)):=by intro w5 l a b;have⟨ev,r1,r2⟩:=kU (t:=TH) (off:=0) (n:=2) (bq b (.inl y) a) ail Kd ϛ;exact⟨l,ev,r1,rfl,rfl,rfl,rfl,λe H=>⟨B9,(r2 e H).1,.inl y⟩⟩
 refine dL (aaF _ _ _ _ _ _ _ _ _ _ _ _) (x:=hv true s) (λw5 G=>ld C G) λw5 G=>?_
 have T5:=T4.rely G;have Z:=bq G (.inl (.inl g)) UI;have N:=bq G (.inl y) C;clear G T4 UI C;refine aI (aaG _ _ _ _ _ _ _ _ _ _ _ _) ?_;have m:∃b2 s2,(qU gA path).getD (hv false ⟨#[]⟩)=hv b2 s2/\((true==b2&&s==s2)=true↔gA path=some s):=by
  cases hA:gA path with|none=>exact⟨false,⟨#[]⟩,by simp[qU,hA],ϛ⟩|some s2=>exact⟨true,s2,by simp[qU,hA],by simp only[beq_self_eq_true,Bool.true_and,Go.MapKept.bytes_beq,ag0];exact eq_comm⟩
 have⟨b2,s2,al,M⟩:=m;refine dL (aaD _ _ _ _ _ _ _ _ _ _ _ _) (x:=hv b2 s2) (λl I=>?_) λl I=>?_
 have:=rP (t:=TC) (s:=path) JC N6 NO (T5.rely I).w2 c.i2;rw[al]at this;exact⟨l,_,this,rfl,rfl,rfl,rfl,λx m=>by simp at m;subst m;exact⟨M2,eK,.inl (.inl c.o2)⟩⟩
 have T6:=T5.rely I;have V:=bq I (.inl (.inl g)) Z;have J:=bq I (.inl y) N;clear I T5 Z N;refine aI (aaE _ _ _ _ _ _ _ _ _ _ _ _ _ _) ?_;refine dL (aaB _ _ _ _ _ _ _ _ _ _ _ _ _ _) (x:=.bool (!(true==b2&&s==s2))) (λw7 T=>⟨w7,#[],JO _ _ _ _,rfl,rfl,rfl,rfl,ϛ⟩) λw7 T=>?_
 have T7:=T6.rely T;have Y:=bq T (.inl (.inl g)) V;have ag:=bq T (.inl y) J;clear T T6 V J;have R:(leftOf es1 (seen.push e.born)).size<L:=hL▸D;by_cases p:(true==b2&&s==s2)=true;rw[p];have⟨j,U,hg⟩:=aaA X.Fd dv (cD r) M1 M2 it path s s2 b2 B9 fr cs λi=>tm.getD i ϗ
 exact aI hg (ih _ R (seen.push e.born) {γ with own:=λb=>γ.own b\/b=B9} w7 j it n k rfl ϖ T7 (.inl g) F Dv ZY Pw Y (hI.skip hV (by rw[M.1 p,hs])) U);have aa:(true==b2&&s==s2)=false:=by simpa using p
 rw[aa];refine aI (Uq _ _ _ _ _ _ _ _ _ _ _ _ _ _) ?_;refine dL (aay _ _ _ _ _ _ _ _ _ _ _ _ _ _) (x:=hv true s) (λw8 h8=>ld ag h8) λw8 h8=>?_
 have S:=T7.rely h8;have ac:=bq h8 (.inl (.inl g)) Y;refine aI (aaz _ _ _ _ _ _ _ _ _ _ _ _ _ _) ?_;obtain⟨n',rfl⟩:∃n',n=n'+1:=⟨n-1,ϖ⟩
 refine Fu (γ:={γ with own:=λb=>γ.own b\/b=B9}) S.now.spot S.now.low S.now.ml S.now.live (λk' w9 own' d a1 a2 a4 a3=>?_) k;have⟨j,U,hg⟩:=aaN X.Fd dv (cD r) M1 M2 it path s s2 b2 B9 fr cs λi=>tm.getD i ϗ
 exact aI hg (ih _ R (seen.push e.born) {γ with own:=own',mine:=jz γ.mine path (true,s),other:=d} w9 j it n' k' rfl ϖ (S.grow a3 a1 a2 a4) (a1 _ (.inl g)) F Dv ZY Pw (bq a3 (.inl (.inl g)) ac) (hI.put hV hs λq=>p (M.2 q)) U)
end
end gz
end
section
open Go.RowKit Go.Lib
def s9(set:Int)(fs:List dk):Ξ->Option Ξ:=fs.foldl (λg f=>if(f.set:Int)=set then λs=>if s=aj f.path then some (aj f.content)else g s else g) λ_=>none
def Ql(set:Int)(fs:List dk)(k:Nat)(hk:k<fs.length):s9 set (fs.take (k+1))=if(fs[k].set:Int)=set then λs=>if s=aj fs[k].path then some (aj fs[k].content)else s9 set (fs.take k) s else s9 set (fs.take k):=by
 unfold s9;rw[ac0 hk,ϑ9];rfl
def UA(g:Ξ->Option Ξ)(p c:Ξ):gz.qU (λs=>if s=p then some c else g s)=λs=>if s=p then some (gz.hv true c)else gz.qU g s:=by
 funext s;unfold gz.qU;by_cases h:s=p;simp[h];simp[h]
def XG:prog.underlying 251=some (.map 9 161):=ϰ
def akf:prog.underlying 9=some .string:=ϰ
section
variable {P:aa1}{ops:Array Oper}{Q:Exit->Act->Φ->Prop}{o:Oper}{rest:List Oper}{a:Act}{w:Φ}
def CJ(_:o.op=.makeMap t none)(h:af (wpList P ops Q (o::rest) a w)):wpList P ops Q (o::rest) a w:=h
def yH{x y z:ac4}(_:o.op=.mapUpdate t x y z)(h:af (wpList P ops Q (o::rest) a w)):wpList P ops Q (o::rest) a w:=h
end
def Hc{a:Act}{o:Oper}(hg:o.guard=none)(t:θ)(c:o.op=.makeMap t none)(h:∀w' b,w.heap.size<=b->aG [] w w'->w'.heap[b]?=some (.map #[] 0)->wpList P ops Q rest (a.put o.dst (.map (some b))) w'):wpList P ops Q (o::rest) a w:=by
 refine bX hg (.map (some w.heap.size)) (w.alloc (.map #[] 0)) (by unfold execOp;rw[c];rfl) (h _ _ (ε _) (aG.alloc ..) ?_);show(w.heap.push _)[w.heap.size]?=_;simp
def aG.upd(h:gz.Bn m o w w'):aG [m] w w':=⟨h.os,h.tape,h.output,by rw[h.size];exact ε _,λk _ hk=>h.rest k (by simpa using hk)⟩
theorem Cy{a:Act}{o:Oper}(hg:o.guard=none)(x y z:ac4)(e:o.op=.mapUpdate 251 x y z)(i:a.eval x=.map (some m))(g:a.eval y=.string p)(j:a.eval z=v){f:Ξ->Option Θ}(hm:w.heap[m]?=some (.map es c))(hf:gz.dU es c f)(h:∀w' b d,aG [m] w w'->w'.heap[m]?=some (.map b d)->gz.dU b d (λs=>if s=p then some v else f s)->b.size<=es.size+1->wpList prog ops Q rest (a.put o.dst undef) w'):wpList prog ops Q (o::rest) a w:=by
 obtain⟨b,d,w',ev,h1,h2,_,l,k⟩:=gz.sN (v:=v) XG akf hm hf;refine Cw hg w' ?_ (h w' b d (aG.upd h2) h2.at_ k l);have:=h1.run;unfold execOp;rw[e];dsimp only;rw[i,g,j];exact this
def Ah(set:Int)(x:DS)(n:Nat)(w:Φ)(e:Ending)(w':Φ):Prop:=∃m es c,e=.returned (.map (some m))/\w.heap.size<=m/\w'.heap[m]?=some (.map es c)/\gz.dU es c (gz.qU (s9 set (aS x n)))/\es.size<=54/\aG [] w w'
def Bg{d:Nat}{x:DS}(R:Sl D d n x)(set:Int)(w:Φ)(h:D w):
  ∃S,Tryz.f166.body=some S/\S.wp prog (bodyPost prog Tryz.f166 (Ah set x n w)) {tmps:=#[.pointer (some ⟨d,0,none⟩),.int .i64 set]++Array.replicate (Tryz.f166.ntmps-(#[.pointer (some ⟨d,0,none⟩),.int .i64 set]:Array Θ).size) ϗ,defers:=[]} w:=by
 refine⟨_,rfl,?_⟩;simp only[ntmps166,ab9,ϲ,List.length_nil,Nat.reduceAdd,Nat.reduceSub,Array.replicate_succ,
   Array.replicate_zero,List.push_toArray,List.append_toArray,ϸ,ϻ]
 have Y:(aS x n).length<=54:=by unfold aS;rw[af2];exact fM x n
 have F:Hid (∀f∈aS x n,f.set<256):=λf hf=>by unfold aS at hf;rw[ac9]at hf;obtain⟨i,_,rfl⟩:=hf;exact vU _
 go_wp2_with (with_reducible refine CJ rfl ?_);refine Hc rfl 251 rfl ?_;intro w1 m l1 f1 z;go_wp2_with fail;have h1:=R.new h f1 ϛ;refine(RM R w1 h1).mono ?_;rintro e w2⟨v,rfl,hv,f2⟩;have r2:w2.heap[m]?=some (.map #[] 0):=by rw[f2.block m (Ψ.1 z).1 ϛ];exact z
 have M:=f1.trans f2;have Z:m<w1.heap.size:=(Ψ.1 z).1;have qU:∀k∈[m],v.ownBlock≠some k:=λk hk e=>by simp only[ξ]at hk;subst hk;have:=(hv.lt _ e).1;omega
 clear f1 f2 z h1;generalize u:aS x n=fs at*;have HF:Hid (aS x n=fs):=u;clear u;have⟨ad,cap,J⟩:=aY hv;subst J;have qU:Hid (∀k∈[m],(Value.slice ad fs.length cap).ownBlock≠some k):=qU;have ml:m<w2.heap.size:=(Ψ.1 r2).1;go_wp2_with fail
 go_loopw [12] (λc wr=>∃(k:Nat)(es:Ϧ)(l:Nat),c=.int .i64 k/\k<=fs.length/\aG [m] w2 wr/\wr.heap[m]?=some (.map es l)/\Hid (gz.dU es l (gz.qU (s9 set (fs.take k)))/\es.size<=k)) λc _=>fs.length-(intOf c).toNat
 case atStart=>exact⟨0,#[],0,rfl,ϖ,aG.refl ..,r2,gz.dU.empty 0,ϛ⟩
 case round=>
  obtain⟨k,es,l,rfl,hk,t,B,j⟩:=hrel;clear r2;have q:=t.owns hv qU.out;by_cases o:k<fs.length
  .obtain⟨g,O,rfl,hg,aa,_,G,r⟩:=cO q;have b:((O.toList.drop (k*3)).take 3)=cA fs[k].set fs[k].path fs[k].content:=by
    rw[pA r _ _,vh fs k o]
   have K:=Ql set fs k o;have I:=F.out fs[k] (ag5 o);generalize fs[k]=f at b K I;have U:Hid (s9 set (fs.take (k+1))=if(f.set:Int)=set then λs=>if s=aj f.path then some (aj f.content)else s9 set (fs.take k) s else s9 set (fs.take k)):=K;clear K G r;go_wp2_with (with_reducible refine ax 107 rfl ?_);refine bT rfl 107 _ rfl g (k*3) rfl kV 3 eS _ _ hg (cA f.set f.path f.content) b rfl ?_;clear b hg;go_wp2_with (with_reducible refine au rfl ?_);refine br rfl 107 rfl yw lY ?_;intro w4 W T H r5;have Q:W≠m:=by have:=t.size;omega
   have a:w4.heap[m]?=some (.map es l):=by rw[H.block m (Ψ.1 B).1 ϛ];exact B
   go_wp2_with (with_reducible refine ah 107 rfl ?_);refine cu rfl 107 _ _ rfl _ 0 rfl _ rfl 3 eS ?_ ?_ _ _ r5 ?_ ?_;rfl;simp[cA,Value.oneCell'];decide;intro X E N;rw[bV _ _ (by rfl)]at N;have A:Row X W (cA f.set f.path f.content).toArray 107:=N;have p:X.heap[m]?=some (.map es l):=by rw[E.block m (Ψ.1 a).1 (by simpa using Q.symm)];exact a
   have y:=H.trans E (by simpa using T);have V:=t.trans y;have c0:=A.val 0 (.int .i64 f.set);have c1:=A.val 1 (.string (aj f.path));have c2:=A.val 2 (.string (aj f.content));clear N r5 H E y t T q B a A;go_wp2_with (with_reducible refine yH rfl ?_)
   .refine Cy rfl _ _ _ rfl rfl rfl rfl p j.out.1 ?_;intro w6 C c6 f6 L P ac;have DO:=V.trans f6;go_wp2_with fail;refine⟨⟨k+1,C,c6,ϛ,ϖ,DO,L,?_,?_⟩,by simp[intOf];omega⟩;rw[U.out,κ (by simpa using(‹((f.set:Int)==set)=true›)),UA];exact P;have:=j.out.2;omega
   refine⟨⟨k+1,es,l,ϛ,ϖ,V,p,?_,?_⟩,by simp[intOf];omega⟩;rw[U.out,Γ (by simpa using(‹((f.set:Int)==set)=false›))];exact j.out.1;have:=j.out.2;omega
  .obtain rfl:k=fs.length:=ϖ
   go_wp2;go_ret;exact⟨m,es,l,rfl,l1,B,by rw[HF.out];rw[ϓ2]at j;exact j.out.1,by have:=j.out.2;omega,(M.trans t (by simp;omega)).mono⟩
end
section
open Go.Conc
open Go.ConcM (OsLater)
namespace gz
section
variable {X:Cx jE}{r:bE}{ro:Nat->Prop}{gN gA:Ξ->Option Ξ}{dv:Θ}{K:Nat}{Rd:Φ->Prop}
def Cont(X:Cx jE)(r:bE)(ro:ϒ)(Rd:ϣ)(dv:Θ)(set:Int)(g:Ξ->Option Ξ)(K:Nat):Prop:=
 ∀(γ:Gh jE)(k:Nat)(T:Lo)(w:Φ)(fr:φ)(cs:Ϙ),fK T.pc=false->Now X r γ w->γ.ro=ro->Rd w->
  (∀w' m es c (own':ϒ),(∀b,γ.own b->own' b)->(∀b,own' b->γ.own b\/w.heap.size<=b)->(∀b,own' b->b<w'.heap.size)->RX X γ.ro γ.own w w'->own' m->¬γ.own m->w'.heap[m]?=some (.map es c)->dU es c (qU g)->es.size<=K->
   LW X r {γ with own:=own'} k T (de fr cs (.map (some m))) w')->LW X r γ k T (gC0 dv set fr cs) w
def Mc(i:∀w w' own,Rd w->RX X ro own w w'->Rd w')(h1:Cont X r ro Rd dv (cD r:Int) gN K)(h2:Cont X r ro Rd dv 2 gA K){γ:Gh jE}{cs:Ϙ}(V:2*K<=n)(h:Now X r γ w)(a:γ.ro=ro)(H:Rd w)(h0:γ.mine=λ_=>none)(R:Done X r ro γ.own w (lh gN gA) fr cs):LW X r γ k (at_ .out n) (gK0 X.Fd dv (cD r:Int) fr cs) w:=by
 refine aI (ab5 ..) (h1 γ k _ w _ _ rfl h a H λw1 M1 es1 c1 l F I O g j U u L s1=>?_);have T1:Now X r {γ with own:=l} w1:=h.grow g (m:=γ.mine) (d:=γ.other) I O;have T:Rd w1:=i w w1 γ.own H (a▸g);refine aI (ab4 ..) (h2 {γ with own:=l} k _ w1 _ _ rfl T1 a T λw2 M2 es2 c2 y b1 b2 P A o2 Q z i2 s2=>?_);have T2:Now X r {γ with own:=y} w2:=T1.grow A (m:=γ.mine) (d:=γ.other) b2 P;have S:RX X ro γ.own w w2:=by have o:RX X ro γ.own w w1:=a▸g;have p:RX X ro l w1 w2:=a▸A;exact o.trans X (p.sub F)
 have c:Two X r ro γ.own w gN gA es1 es2 c1 c2 M1 M2 {γ with own:=y} w2:=by refine⟨T2,a,λb hb=>b1 b (F b hb),λb hb=>?_,S,b1 _ j,o2,bq A (.inl j) u,z,L,i2⟩;obtain hb|hb:=b2 b hb;exact I b hb;exact .inr (ac3 g.size hb)
 refine aI (ab3 ..) ?_;refine iQ (f:=λb=>pb b) (ab1 ..) (λG C=>⟨_,yY JC (c.rely C).w1,λx D=>by simp at D;subst D;exact⟨M1,eK,.inl (b1 _ j)⟩⟩) λG B C E e=>?_
 have⟨f1,f2,Z,J,W,Y⟩:=c.fresh E;have M:=c.more C E e;have⟨t,N,hg⟩:=ab2 X.Fd dv (cD r) M1 M2 B fr cs (.map (some M1)) rfl;have v:leftOf es1 #[]=es1:=by unfold leftOf;rw[Array.filter_eq_self];simp
 have e1:Ea es1 #[]=λ_=>False:=funext λs=>propext ⟨CA s,False.elim⟩
 exact aI hg (afU (λb hb=>h.low b (.inl hb)) R _ #[] {γ with own:=λb=>y b\/b=B} G t B n k rfl (by rw[v];omega) M (.inr rfl) f1 f2 (λq=>by have:=h.low B (.inl q);omega) J e (by rw[e1];show NB gN gA _ γ.mine;rw[h0];exact NB.start) N)
def wI(c:∀w w' own,Rd w->RX X ro own w w'->Rd w')(h1:Cont X r ro Rd dv (cD r:Int) gN K)(h2:Cont X r ro Rd dv 2 gA K){γ:Gh jE}{bw bf bd bs:Nat}(u:2*K<=n)(i:Now X r γ w)(g:γ.ro=ro)(p:Rd w)(h0:γ.mine=λ_=>none)(b:X.fin r=lh gN gA)(a:ro bw)(t:ro bf)(rd:ro bd)(o:ro bs)(h:w.cell? ⟨bw,0,none⟩=some (pb X.Wg))(q:w.cell? ⟨bf,0,none⟩=some (sX X.Fd bd bs))(l:w.cell? ⟨bd,0,none⟩=some dv)(cs:w.cell? ⟨bs,0,none⟩=some (.int .i64 (cD r:Int))):
  LW X r γ k (at_ .out n) (gW0 bw bf) w:=by
 subst g;refine Ss rfl t rd o q l cs (Mc c h1 h2 u i rfl p h0 λk' w' m x e t2 v y s j=>?_);have f:bw<w.heap.size:=i.low bw (.inr a);have d:w'.cell? ⟨bw,0,none⟩=some (pb X.Wg):=by unfold World.cell? at h⊢;rw[s.keep bw f (.inr a)];exact h
 exact NU e.spot.worker e.spot.room e.live (t2▸a) d (j.trans b.symm)
end
def OT(g:Ω):Ω:=Dp PP true 200 g
def OTn(n:Nat)(g:Ω):Ω:=Dp PP true n g
def bO(h:∀a:Nat->Φ,AD PP true 200 g a=some (OT g,(range (cB PP true 200 g)).map a)):ay PP true g (OT g):=⟨200,_,h⟩
def cj{g':Ω}(n m:Nat)(h:∀a:Nat->Φ,AD PP true n g a=some (g',(range m).map a)):ay PP true g g':=⟨n,m,h⟩
abbrev NN:θ:=219
abbrev TWg:θ:=225
def fd0(M:Nat):Θ:=.agg #[.int .i32 0,.int .u32 0,.map (some M)]
section
variable (W F bw bf bd bs bs' M:Nat)(dv f:Θ)(fr:φ)(cs:List φ)(x:Int)(y:Nat->Θ)
def Zm:Ω:=Qm 162 #[pb W,.int .i64 1] 115 fr cs
def sA1:Ω:=OT (Zm W fr cs)
def OH:ay PP true (Zm W fr cs) (sA1 W fr cs):=bO λa=>ϰ
def x4:aN (sA1 W fr cs)=some (168,#[]):=ϰ
def sA2:Ω:=OT (resume (sA1 W fr cs) U)
def OG:ay PP true (resume (sA1 W fr cs) U) (sA2 W fr cs):=bO λa=>ϰ
def JL:aN (sA2 W fr cs)=some (176,#[]):=ϰ
def sA3:Ω:=OT (resume (sA2 W fr cs) (.bool false))
def OF:ay PP true (resume (sA2 W fr cs) (.bool false)) (sA3 W fr cs):=bO λa=>ϰ
def x3:aN (sA3 W fr cs)=some (213,#[pb W,.int .u64 4294967296]):=ϰ
def Se:Ω:=OT (resume (sA3 W fr cs) (.int .u64 4294967296))
def OE:ay PP true (resume (sA3 W fr cs) (.int .u64 4294967296)) (Se W fr cs):=bO λa=>ϰ
def OD:bm (Se W fr cs)=some (.conv (Bf (Se 0 default [])) (Cp (Se 0 default [])) (sQ W)):=ϰ
def Ww:PP.underlying (Bf (Se 0 default []))=some (.pointer (Cn (Se 0 default []))):=ϰ
def Wx:PP.underlying (Cp (Se 0 default []))=some .unsafePointer:=ϰ
def Wv:(PP.info? (Cn (Se 0 default []))).map (λi=>decide (i.size=0))=some false:=ϰ
def sA5:Ω:=OT (resume (Se W fr cs) (sQ W))
def OC:ay PP true (resume (Se W fr cs) (sQ W)) (sA5 W fr cs):=bO λa=>ϰ
def C5:aN (sA5 W fr cs)=some (198,#[sQ W]):=ϰ
def sA6:Ω:=OT (resume (sA5 W fr cs) U)
def OB:ay PP true (resume (sA5 W fr cs) U) (sA6 W fr cs):=bO λa=>ϰ
def OA:jj (sA6 W fr cs)=some (170,#[]):=ϰ
def JK:ay PP true (dK (sA6 W fr cs)) (de fr cs U):=cj 1 (cB PP true 1 (dK (sA6 W fr cs))) λa=>ϰ
def sA7:Ω:=OT (resume (sA3 W fr cs) (.int .u64 8589934592))
def Zl:ay PP true (resume (sA3 W fr cs) (.int .u64 8589934592)) (sA7 W fr cs):=bO λa=>ϰ
def Zk:jj (sA7 W fr cs)=some (170,#[]):=ϰ
def Te:ay PP true (dK (sA7 W fr cs)) (de fr cs U):=cj 1 (cB PP true 1 (dK (sA7 W fr cs))) λa=>ϰ
def sG0:Ω:=Qm 130 #[pb W,f] 5 fr cs
def sG1:Ω:=OT (sG0 W f fr cs)
def Y0:ay PP true (sG0 W f fr cs) (sG1 W f fr cs):=bO λa=>ϰ
def YZ:bm (sG1 W f fr cs)=some (.box 249 (pb W)):=ϰ
def sG2:Ω:=OT (resume (sG1 W f fr cs) (pb bw))
def YY:ay PP true (resume (sG1 W f fr cs) (pb bw)) (sG2 W bw f fr cs):=bO λa=>ϰ
def YX:bm (sG2 W bw f fr cs)=some (.box 1 f):=ϰ
def sG3:Ω:=OT (resume (sG2 W bw f fr cs) (pb bf))
def YW:ay PP true (resume (sG2 W bw f fr cs) (pb bf)) (sG3 W bw bf f fr cs):=bO λa=>ϰ
def YU:bm (sG3 W bw bf f fr cs)=some (.load 249 (pb bw)):=ϰ
def fG:φ:=(OTn 1 (resume (sG3 W bw bf f fr cs) (pb W))).callers.head?.getD default
def YV:ay PP true (resume (sG3 W bw bf f fr cs) (pb W)) (Zm W (fG W bw bf f fr cs) (fr::cs)):=cj 1 (cB PP true 1 (resume (sG3 W bw bf f fr cs) (pb W))) λa=>ϰ
def YT:Ω:=OT (de (fG W bw bf f fr cs) (fr::cs) U)
def YS:ay PP true (de (fG W bw bf f fr cs) (fr::cs) U) (YT W bw bf f fr cs):=bO λa=>ϰ
def Tc:ay PP true (resume (YT W bw bf f fr cs) ϗ) (de fr cs U):=cj 3 (cB PP true 3 (resume (YT W bw bf f fr cs) ϗ)) λa=>ϰ
def sT0:Ω:=Qm 88 #[dv] 16 fr cs
def sT1:Ω:=OT (sT0 dv fr cs)
def Yl:ay PP true (sT0 dv fr cs) (sT1 dv fr cs):=bO λa=>ϰ
def Yk:bm (sT1 dv fr cs)=some (.box 94 dv):=ϰ
def sT2:Ω:=OT (resume (sT1 dv fr cs) (pb bd))
def Yj:ay PP true (resume (sT1 dv fr cs) (pb bd)) (sT2 bd dv fr cs):=bO λa=>ϰ
def Yi:bm (sT2 bd dv fr cs)=some (.makeMap TM):=ϰ
def sT3:Ω:=OT (resume (sT2 bd dv fr cs) (.map (some M)))
def Yh:ay PP true (resume (sT2 bd dv fr cs) (.map (some M))) (sT3 bd M dv fr cs):=bO λa=>ϰ
def Yg:bm (sT3 bd M dv fr cs)=some (.build NN #[(1,.map (some M))]):=ϰ
def sT4:Ω:=OT (resume (sT3 bd M dv fr cs) (fd0 M))
def Yf:ay PP true (resume (sT3 bd M dv fr cs) (fd0 M)) (sT4 bd M dv fr cs):=bO λa=>ϰ
def Ye:bm (sT4 bd M dv fr cs)=some (.alloc NN):=ϰ
def sT5:Ω:=OT (resume (sT4 bd M dv fr cs) (pb F))
def Yd:ay PP true (resume (sT4 bd M dv fr cs) (pb F)) (sT5 F bd M dv fr cs):=bO λa=>ϰ
def Yc:bm (sT5 F bd M dv fr cs)=some (.store NN (pb F) (fd0 M)):=ϰ
def sT6:Ω:=OT (resume (sT5 F bd M dv fr cs) ϗ)
def Yb:ay PP true (resume (sT5 F bd M dv fr cs) ϗ) (sT6 F bd M dv fr cs):=bO λa=>ϰ
def Ya:bm (sT6 F bd M dv fr cs)=some (.alloc TWg):=ϰ
def sT7:Ω:=OT (resume (sT6 F bd M dv fr cs) (pb W))
def X9:ay PP true (resume (sT6 F bd M dv fr cs) (pb W)) (sT7 W F bd M dv fr cs):=bO λa=>ϰ
def X8:bm (sT7 W F bd M dv fr cs)=some (.alloc 3):=ϰ
def sT8:Ω:=OT (resume (sT7 W F bd M dv fr cs) (pb bs))
def X7:ay PP true (resume (sT7 W F bd M dv fr cs) (pb bs)) (sT8 W F bd bs M dv fr cs):=bO λa=>ϰ
def X5:bm (sT8 W F bd bs M dv fr cs)=some (.store 3 (pb bs) (.int .i64 0)):=ϰ
def fT1:φ:=(OTn 4 (resume (sT8 W F bd bs M dv fr cs) ϗ)).callers.head?.getD default
def X6:ay PP true (resume (sT8 W F bd bs M dv fr cs) ϗ) (sG0 W (sX F bd bs) (fT1 W F bd bs M dv fr cs) (fr::cs)):=cj 4 (cB PP true 4 (resume (sT8 W F bd bs M dv fr cs) ϗ)) λa=>ϰ
def sS7:Ω:=OT (de (fT1 W F bd bs M dv fr cs) (fr::cs) U)
def Yr:ay PP true (de (fT1 W F bd bs M dv fr cs) (fr::cs) U) (sS7 W F bd bs M dv fr cs):=bO λa=>ϰ
def Yq:bm (sS7 W F bd bs M dv fr cs)=some (.alloc 3):=ϰ
def sS8:Ω:=OT (resume (sS7 W F bd bs M dv fr cs) (pb bs'))
def Yp:ay PP true (resume (sS7 W F bd bs M dv fr cs) (pb bs')) (sS8 W F bd bs bs' M dv fr cs):=bO λa=>ϰ
def Yn:bm (sS8 W F bd bs bs' M dv fr cs)=some (.store 3 (pb bs') (.int .i64 1)):=ϰ
def fT2:φ:=(OTn 4 (resume (sS8 W F bd bs bs' M dv fr cs) ϗ)).callers.head?.getD default
def Yo:ay PP true (resume (sS8 W F bd bs bs' M dv fr cs) ϗ) (sG0 W (sX F bd bs') (fT2 W F bd bs bs' M dv fr cs) (fr::cs)):=cj 4 (cB PP true 4 (resume (sS8 W F bd bs bs' M dv fr cs) ϗ)) λa=>ϰ
def sW0:Ω:=Qm 133 #[pb W] 83 fr cs
def fT3:φ:=(OTn 17 (de (fT2 W F bd bs bs' M dv fr cs) (fr::cs) U)).callers.head?.getD default
def Ym:ay PP true (de (fT2 W F bd bs bs' M dv fr cs) (fr::cs) U) (sW0 W (fT3 W F bd bs bs' M dv fr cs) (fr::cs)):=cj 17 (cB PP true 17 (de (fT2 W F bd bs bs' M dv fr cs) (fr::cs) U)) λa=>ϰ
def Ls:Ω:=OT (sW0 W fr cs)
def HV:ay PP true (sW0 W fr cs) (Ls W fr cs):=bO λa=>ϰ
def JI:aN (Ls W fr cs)=some (168,#[]):=ϰ
end
def aea:List Item:=match(OT (resume (Ls 0 default []) U)).callers with|f::_=>f.todo|[]=>[]
def akr(W:Nat):φ:=(OT (resume (Ls W default []) U)).frame
def sH(W:Nat)(tm:ϐ)(fr:φ)(cs:Ϙ):Ω:=G (akr W) ((base 133).at ⟨tm,[]⟩ aea::fr::cs)
structure HW (W:Nat)(tm:Array Θ):Prop where
 size:tm.size=84
 s0:tm[0]?=some (pb W)
def tmW(W:Nat)(y:Ϡ):Array Θ:=#[pb W,y 1,y 2,y 3,y 4,y 5,y 6,y 7,y 8,y 9,y 10,y 11,y 12,y 13,y 14,y 15,y 16,y 17,y 18,y 19,y 20,y 21,y 22,y 23,y 24,y 25,y 26,y 27,y 28,y 29,y 30,y 31,y 32,y 33,y 34,y 35,y 36,y 37,y 38,y 39,y 40,y 41,y 42,y 43,y 44,y 45,y 46,y 47,y 48,y 49,y 50,y 51,y 52,y 53,y 54,y 55,y 56,y 57,y 58,y 59,y 60,y 61,y 62,y 63,y 64,y 65,y 66,y 67,y 68,y 69,y 70,y 71,y 72,y 73,y 74,y 75,y 76,y 77,y 78,y 79,y 80,y 81,y 82,y 83]
def HW.eq{W:Nat}(h:HW W tm):tm=tmW W λi=>tm.getD i ϗ:=by
 have h1:=slots tm h.size;simp only[rl]at h1;rw[cI h.s0]at h1;exact h1
section
variable (W:Nat)(fr:φ)(cs:List φ)(y:Nat->Θ)
def Yw:∃tm,HW W tm/\ay PP true (resume (Ls W fr cs) U) (sH W tm fr cs):=⟨match(OT (resume (Ls W fr cs) U)).callers with|f::_=>f.tmps|[]=>#[],⟨ϰ,ϰ⟩,cj 200 (cB PP true 200 (resume (Ls W fr cs) U)) λa=>ϰ⟩
abbrev sh:Ω:=sH W (tmW W y) fr cs
def Ws:aN (sh W fr cs y)=some (203,#[pb W]):=ϰ
def sE:Ω:=OT (resume (sh W fr cs y) (.int .u64 0))
def aeC:ay PP true (resume (sh W fr cs y) (.int .u64 0)) (sE W fr cs y):=bO λa=>ϰ
def aeB:aN (sE W fr cs y)=some (170,#[]):=ϰ
def Sb:Ω:=OT (resume (sE W fr cs y) U)
def Y8:ay PP true (resume (sE W fr cs y) U) (Sb W fr cs y):=bO λa=>ϰ
def Y7:bm (Sb W fr cs y)=some (.conv (Bf (Sb 0 default [] λ_=>ϗ)) (Cp (Sb 0 default [] λ_=>ϗ)) (pb W)):=ϰ
def aeE:PP.underlying (Bf (Sb 0 default [] λ_=>ϗ))=some (.pointer (Cn (Sb 0 default [] λ_=>ϗ))):=ϰ
def aeF:PP.underlying (Cp (Sb 0 default [] λ_=>ϗ))=some .unsafePointer:=ϰ
def aeD:(PP.info? (Cn (Sb 0 default [] λ_=>ϗ))).map (λi=>decide (i.size=0))=some false:=ϰ
def sEM:Ω:=OT (resume (Sb W fr cs y) (pb W))
def Y5:ay PP true (resume (Sb W fr cs y) (pb W)) (sEM W fr cs y):=bO λa=>ϰ
def Y6:aN (sEM W fr cs y)=some (171,#[pb W]):=ϰ
def Td:ay PP true (resume (sEM W fr cs y) U) (de fr cs U):=cj 20 (cB PP true 20 (resume (sEM W fr cs y) U)) λa=>ϰ
def Zj:Ω:=OT (resume (sh W fr cs y) (.int .u64 4294967296))
def Zi:ay PP true (resume (sh W fr cs y) (.int .u64 4294967296)) (Zj W fr cs y):=bO λa=>ϰ
def C4:aN (Zj W fr cs y)=some (204,#[pb W,.int .u64 4294967296,.int .u64 4294967297]):=ϰ
def Zh:∃tm,HW W tm/\ay PP true (resume (Zj W fr cs y) (.bool false)) (sH W tm fr cs):=⟨match(OT (resume (Zj W fr cs y) (.bool false))).callers with|f::_=>f.tmps|[]=>#[],⟨ϰ,ϰ⟩,cj 200 (cB PP true 200 (resume (Zj W fr cs y) (.bool false))) λa=>ϰ⟩
def Sd:Ω:=OT (resume (Zj W fr cs y) (.bool true))
def Zd:ay PP true (resume (Zj W fr cs y) (.bool true)) (Sd W fr cs y):=bO λa=>ϰ
def Zc:bm (Sd W fr cs y)=some (.conv (Bf (Sd 0 default [] λ_=>ϗ)) (Cp (Sd 0 default [] λ_=>ϗ)) (sQ W)):=ϰ
def aeK:PP.underlying (Bf (Sd 0 default [] λ_=>ϗ))=some (.pointer (Cn (Sd 0 default [] λ_=>ϗ))):=ϰ
def aeL:PP.underlying (Cp (Sd 0 default [] λ_=>ϗ))=some .unsafePointer:=ϰ
def aeJ:(PP.info? (Cn (Sd 0 default [] λ_=>ϗ))).map (λi=>decide (i.size=0))=some false:=ϰ
def sFk:Ω:=OT (resume (Sd W fr cs y) (sQ W))
def Y4:ay PP true (resume (Sd W fr cs y) (sQ W)) (sFk W fr cs y):=bO λa=>ϰ
def Y3:aN (sFk W fr cs y)=some (175,#[sQ W]):=ϰ
def sIk:Ω:=OT (resume (sFk W fr cs y) U)
def YQ:ay PP true (resume (sFk W fr cs y) U) (sIk W fr cs y):=bO λa=>ϰ
def Tb:aN (sIk W fr cs y)=some (177,#[sQ W,.bool false]):=ϰ
def sJk:Ω:=OT (resume (sIk W fr cs y) U)
def YO:ay PP true (resume (sIk W fr cs y) U) (sJk W fr cs y):=bO λa=>ϰ
def YN:aN (sJk W fr cs y)=some (203,#[pb W]):=ϰ
def sKk:Ω:=OT (resume (sJk W fr cs y) (.int .u64 0))
def YD:ay PP true (resume (sJk W fr cs y) (.int .u64 0)) (sKk W fr cs y):=bO λa=>ϰ
def YC:aN (sKk W fr cs y)=some (170,#[]):=ϰ
def AV:Ω:=OT (resume (sKk W fr cs y) U)
def S9:ay PP true (resume (sKk W fr cs y) U) (AV W fr cs y):=bO λa=>ϰ
def S8:bm (AV W fr cs y)=some (.conv (Bf (AV 0 default [] λ_=>ϗ)) (Cp (AV 0 default [] λ_=>ϗ)) (pb W)):=ϰ
def YF:PP.underlying (Bf (AV 0 default [] λ_=>ϗ))=some (.pointer (Cn (AV 0 default [] λ_=>ϗ))):=ϰ
def YG:PP.underlying (Cp (AV 0 default [] λ_=>ϗ))=some .unsafePointer:=ϰ
def YE:(PP.info? (Cn (AV 0 default [] λ_=>ϗ))).map (λi=>decide (i.size=0))=some false:=ϰ
def S7:Ω:=OT (resume (AV W fr cs y) (pb W))
def S5:ay PP true (resume (AV W fr cs y) (pb W)) (S7 W fr cs y):=bO λa=>ϰ
def S6:aN (S7 W fr cs y)=some (171,#[pb W]):=ϰ
def Ow:ay PP true (resume (S7 W fr cs y) U) (de fr cs U):=cj 10 (cB PP true 10 (resume (S7 W fr cs y) U)) λa=>ϰ
def Zg:Ω:=OT (resume (sh W fr cs y) (.int .u64 8589934592))
def Zf:ay PP true (resume (sh W fr cs y) (.int .u64 8589934592)) (Zg W fr cs y):=bO λa=>ϰ
def C3:aN (Zg W fr cs y)=some (204,#[pb W,.int .u64 8589934592,.int .u64 8589934593]):=ϰ
def Ze:∃tm,HW W tm/\ay PP true (resume (Zg W fr cs y) (.bool false)) (sH W tm fr cs):=⟨match(OT (resume (Zg W fr cs y) (.bool false))).callers with|f::_=>f.tmps|[]=>#[],⟨ϰ,ϰ⟩,cj 200 (cB PP true 200 (resume (Zg W fr cs y) (.bool false))) λa=>ϰ⟩
def Sc:Ω:=OT (resume (Zg W fr cs y) (.bool true))
def Zb:ay PP true (resume (Zg W fr cs y) (.bool true)) (Sc W fr cs y):=bO λa=>ϰ
def Za:bm (Sc W fr cs y)=some (.conv (Bf (Sc 0 default [] λ_=>ϗ)) (Cp (Sc 0 default [] λ_=>ϗ)) (sQ W)):=ϰ
def aeH:PP.underlying (Bf (Sc 0 default [] λ_=>ϗ))=some (.pointer (Cn (Sc 0 default [] λ_=>ϗ))):=ϰ
def aeI:PP.underlying (Cp (Sc 0 default [] λ_=>ϗ))=some .unsafePointer:=ϰ
def aeG:(PP.info? (Cn (Sc 0 default [] λ_=>ϗ))).map (λi=>decide (i.size=0))=some false:=ϰ
def sFl:Ω:=OT (resume (Sc W fr cs y) (sQ W))
def Y2:ay PP true (resume (Sc W fr cs y) (sQ W)) (sFl W fr cs y):=bO λa=>ϰ
def Y1:aN (sFl W fr cs y)=some (175,#[sQ W]):=ϰ
def sIl:Ω:=OT (resume (sFl W fr cs y) U)
def YP:ay PP true (resume (sFl W fr cs y) U) (sIl W fr cs y):=bO λa=>ϰ
def Ta:aN (sIl W fr cs y)=some (177,#[sQ W,.bool false]):=ϰ
def sJl:Ω:=OT (resume (sIl W fr cs y) U)
def YM:ay PP true (resume (sIl W fr cs y) U) (sJl W fr cs y):=bO λa=>ϰ
def YL:aN (sJl W fr cs y)=some (203,#[pb W]):=ϰ
def sKl:Ω:=OT (resume (sJl W fr cs y) (.int .u64 0))
def Yy:ay PP true (resume (sJl W fr cs y) (.int .u64 0)) (sKl W fr cs y):=bO λa=>ϰ
def Yx:aN (sKl W fr cs y)=some (170,#[]):=ϰ
def AU:Ω:=OT (resume (sKl W fr cs y) U)
def S4:ay PP true (resume (sKl W fr cs y) U) (AU W fr cs y):=bO λa=>ϰ
def S3:bm (AU W fr cs y)=some (.conv (Bf (AU 0 default [] λ_=>ϗ)) (Cp (AU 0 default [] λ_=>ϗ)) (pb W)):=ϰ
def YA:PP.underlying (Bf (AU 0 default [] λ_=>ϗ))=some (.pointer (Cn (AU 0 default [] λ_=>ϗ))):=ϰ
def YB:PP.underlying (Cp (AU 0 default [] λ_=>ϗ))=some .unsafePointer:=ϰ
def Yz:(PP.info? (Cn (AU 0 default [] λ_=>ϗ))).map (λi=>decide (i.size=0))=some false:=ϰ
def S2:Ω:=OT (resume (AU W fr cs y) (pb W))
def SY:ay PP true (resume (AU W fr cs y) (pb W)) (S2 W fr cs y):=bO λa=>ϰ
def SZ:aN (S2 W fr cs y)=some (171,#[pb W]):=ϰ
def Ov:ay PP true (resume (S2 W fr cs y) U) (de fr cs U):=cj 10 (cB PP true 10 (resume (S2 W fr cs y) U)) λa=>ϰ
end
end gz
end
end
end Go.Proofs.YtchcmhodnkgojaaGreat
