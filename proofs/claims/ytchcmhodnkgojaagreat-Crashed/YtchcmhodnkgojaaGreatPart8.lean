/- On the way to the last text; put together and shortened by program. -/
import Derived.Test.YtchcmhodnkgojaaGreatPart7
import Derived.MapKept
set_option linter.all false
set_option maxRecDepth 100000
set_option maxHeartbeats 8000000
open Go.Proofs.Tryz
namespace Go.Proofs.YtchcmhodnkgojaaGreat
open Region (ready)
open List (range)
noncomputable section
section
open Go.Conc
open Go.ConcM (OsLater)
namespace aI
section
variable (F:Nat)(fr:κ)(cs:List κ)(aR:Nat)(it v:Int)(y:Nat->Φ)
def h1:Θ:=gH F fr cs (Sv F aR false false it 1 y)
def b1:Θ:=O (h1 F fr cs aR it y)
def ag2:az PP false (h1 F fr cs aR it y) (b1 F fr cs aR it y):=aP λa=>ϰ
def ah5:aJ (b1 F fr cs aR it y)=some (221,#[.int .i64 it]):=ϰ
def c1:Θ:=O (resume (b1 F fr cs aR it y) (.bool false))
def ah6:az PP false (resume (b1 F fr cs aR it y) (.bool false)) (c1 F fr cs aR it y):=aP λa=>ϰ
def d1:Θ:=O (resume (b1 F fr cs aR it y) (.bool true))
def acr:az PP false (resume (b1 F fr cs aR it y) (.bool true)) (d1 F fr cs aR it y):=aP λa=>ϰ
def ahV:aJ (d1 F fr cs aR it y)=some (222,#[]):=ϰ
def e1:Θ:=O (resume (d1 F fr cs aR it y) U)
def ahU:az PP false (resume (d1 F fr cs aR it y) U) (e1 F fr cs aR it y):=aP λa=>ϰ
def ahS:aY (e1 F fr cs aR it y)=some (.load 21 (pt F)):=ϰ
def ab6:(PP.funcs[(e1 F fr cs aR it y).frame.fn]?).any (·.norace)=true:=ϰ
def ahT:∃tm,HH F aR false false (IntKind.i64.wrap (it+1)) v tm/\az PP false (resume (e1 F fr cs aR it y) (.int .i32 v)) (gH F fr cs tm):=
 ⟨(On 4 (resume (e1 F fr cs aR it y) (.int .i32 v))).frame.tmps,⟨ϰ,ϰ,ϰ,ϰ,ϰ,ϰ,ϰ⟩,aS 4 (cj PP false 4 (resume (e1 F fr cs aR it y) (.int .i32 v))) λa=>ϰ⟩
def acm:aJ (c1 F fr cs aR it y)=some (217,#[pt F,.int .i32 1,.int .i32 9]):=ϰ
def m1:Θ:=O (resume (c1 F fr cs aR it y) (.bool false))
def Vy:az PP false (resume (c1 F fr cs aR it y) (.bool false)) (m1 F fr cs aR it y):=aP λa=>ϰ
def afE:aY (m1 F fr cs aR it y)=some (.load 21 (pt F)):=ϰ
def ZH:(PP.funcs[(m1 F fr cs aR it y).frame.fn]?).any (·.norace)=true:=ϰ
def afF:∃tm,HH F aR false false it v tm/\az PP false (resume (m1 F fr cs aR it y) (.int .i32 v)) (gH F fr cs tm):=
 ⟨(On 4 (resume (m1 F fr cs aR it y) (.int .i32 v))).frame.tmps,⟨ϰ,ϰ,ϰ,ϰ,ϰ,ϰ,ϰ⟩,aS 4 (cj PP false 4 (resume (m1 F fr cs aR it y) (.int .i32 v))) λa=>ϰ⟩
def n1:Θ:=O (resume (c1 F fr cs 0 it y) (.bool true))
def VB:az PP false (resume (c1 F fr cs 0 it y) (.bool true)) (n1 F fr cs it y):=aP λa=>ϰ
def TU:aJ (n1 F fr cs it y)=some (224,#[]):=ϰ
def p1:Θ:=O (resume (n1 F fr cs it y) (.int .i64 (aR:Int)))
def afA:az PP false (resume (n1 F fr cs it y) (.int .i64 (aR:Int))) (p1 F fr cs aR it y):=aP λa=>ϰ
def Zi:aJ (p1 F fr cs aR it y)=some (225,#[sD F,.bool false,.int .i64 2]):=ϰ
def ae4:∃tm,HQ F aR false tm/\az PP false (resume (p1 F fr cs aR it y) U) (gQ F fr cs tm):=
 ⟨(On 1 (resume (p1 F fr cs aR it y) U)).frame.tmps,⟨ϰ,ϰ,ϰ,ϰ⟩,aS 1 (cj PP false 1 (resume (p1 F fr cs aR it y) U)) λa=>ϰ⟩
def q1:Θ:=O (resume (c1 F fr cs (aR+1) it y) (.bool true))
def Vz:az PP false (resume (c1 F fr cs (aR+1) it y) (.bool true)) (q1 F fr cs aR it y):=aP λa=>ϰ
def Zc:aJ (q1 F fr cs aR it y)=some (225,#[sD F,.bool true,.int .i64 2]):=ϰ
def ae0:∃tm,HQ F (aR+1) false tm/\az PP false (resume (q1 F fr cs aR it y) U) (gQ F fr cs tm):=
 ⟨(On 1 (resume (q1 F fr cs aR it y) U)).frame.tmps,⟨ϰ,ϰ,ϰ,ϰ⟩,aS 1 (cj PP false 1 (resume (q1 F fr cs aR it y) U)) λa=>ϰ⟩
end
section
variable (F:Nat)(fr:κ)(cs:List κ)(aR:Nat)(it v:Int)(y:Nat->Φ)
def h2:Θ:=gH F fr cs (Sv F aR false false it 2 y)
def b2:Θ:=O (h2 F fr cs aR it y)
def ag1:az PP false (h2 F fr cs aR it y) (b2 F fr cs aR it y):=aP λa=>ϰ
abbrev c2:Θ:=b2 F fr cs aR it y
def acl:aJ (c2 F fr cs aR it y)=some (217,#[pt F,.int .i32 2,.int .i32 3]):=ϰ
def m2:Θ:=O (resume (c2 F fr cs aR it y) (.bool false))
def Vx:az PP false (resume (c2 F fr cs aR it y) (.bool false)) (m2 F fr cs aR it y):=aP λa=>ϰ
def afC:aY (m2 F fr cs aR it y)=some (.load 21 (pt F)):=ϰ
def ZG:(PP.funcs[(m2 F fr cs aR it y).frame.fn]?).any (·.norace)=true:=ϰ
def afD:∃tm,HH F aR false false it v tm/\az PP false (resume (m2 F fr cs aR it y) (.int .i32 v)) (gH F fr cs tm):=
 ⟨(On 4 (resume (m2 F fr cs aR it y) (.int .i32 v))).frame.tmps,⟨ϰ,ϰ,ϰ,ϰ,ϰ,ϰ,ϰ⟩,aS 4 (cj PP false 4 (resume (m2 F fr cs aR it y) (.int .i32 v))) λa=>ϰ⟩
def ack:∃tm,HR F tm/\az PP false (resume (c2 F fr cs aR it y) (.bool true)) (gR F fr cs tm):=
 ⟨(On 11 (resume (c2 F fr cs aR it y) (.bool true))).frame.tmps,⟨ϰ,ϰ⟩,aS 11 (cj PP false 11 (resume (c2 F fr cs aR it y) (.bool true))) λa=>ϰ⟩
end
section
variable (F:Nat)(fr:κ)(cs:List κ)(aR:Nat)(it v:Int)(y:Nat->Φ)
def h2a:Θ:=gH F fr cs (Sv F aR false true it 2 y)
def b2a:Θ:=O (h2a F fr cs aR it y)
def aaX:az PP false (h2a F fr cs aR it y) (b2a F fr cs aR it y):=aP λa=>ϰ
abbrev WS:Θ:=b2a F fr cs aR it y
def Vw:aJ (WS F fr cs aR it y)=some (217,#[pt F,.int .i32 2,.int .i32 1]):=ϰ
def m2a:Θ:=O (resume (WS F fr cs aR it y) (.bool false))
def Rm:az PP false (resume (WS F fr cs aR it y) (.bool false)) (m2a F fr cs aR it y):=aP λa=>ϰ
def ZE:aY (m2a F fr cs aR it y)=some (.load 21 (pt F)):=ϰ
def Ub:(PP.funcs[(m2a F fr cs aR it y).frame.fn]?).any (·.norace)=true:=ϰ
def ZF:∃tm,HH F aR false true it v tm/\az PP false (resume (m2a F fr cs aR it y) (.int .i32 v)) (gH F fr cs tm):=
 ⟨(On 4 (resume (m2a F fr cs aR it y) (.int .i32 v))).frame.tmps,⟨ϰ,ϰ,ϰ,ϰ,ϰ,ϰ,ϰ⟩,aS 4 (cj PP false 4 (resume (m2a F fr cs aR it y) (.int .i32 v))) λa=>ϰ⟩
def Vv:∃tm,HR F tm/\az PP false (resume (WS F fr cs aR it y) (.bool true)) (gR F fr cs tm):=
 ⟨(On 11 (resume (WS F fr cs aR it y) (.bool true))).frame.tmps,⟨ϰ,ϰ⟩,aS 11 (cj PP false 11 (resume (WS F fr cs aR it y) (.bool true))) λa=>ϰ⟩
end
section
variable (F:Nat)(fr:κ)(cs:List κ)(aR:Nat)(it v:Int)(y:Nat->Φ)
def ag0:Θ:=gH F fr cs (Sv F aR true true it 2 y)
def ah4:Θ:=O (ag0 F fr cs aR it y)
def UH:az PP false (ag0 F fr cs aR it y) (ah4 F fr cs aR it y):=aP λa=>ϰ
abbrev GY:Θ:=ah4 F fr cs aR it y
def Rl:aJ (GY F fr cs aR it y)=some (217,#[pt F,.int .i32 2,.int .i32 1]):=ϰ
def Ml:Θ:=O (resume (GY F fr cs aR it y) (.bool false))
def NA:az PP false (resume (GY F fr cs aR it y) (.bool false)) (Ml F fr cs aR it y):=aP λa=>ϰ
def T9:aY (Ml F fr cs aR it y)=some (.load 21 (pt F)):=ϰ
def PM:(PP.funcs[(Ml F fr cs aR it y).frame.fn]?).any (·.norace)=true:=ϰ
def Ua:∃tm,HH F aR true true it v tm/\az PP false (resume (Ml F fr cs aR it y) (.int .i32 v)) (gH F fr cs tm):=
 ⟨(On 4 (resume (Ml F fr cs aR it y) (.int .i32 v))).frame.tmps,⟨ϰ,ϰ,ϰ,ϰ,ϰ,ϰ,ϰ⟩,aS 4 (cj PP false 4 (resume (Ml F fr cs aR it y) (.int .i32 v))) λa=>ϰ⟩
def Rj:∃tm,HR F tm/\az PP false (resume (GY F fr cs aR it y) (.bool true)) (gR F fr cs tm):=
 ⟨(On 11 (resume (GY F fr cs aR it y) (.bool true))).frame.tmps,⟨ϰ,ϰ⟩,aS 11 (cj PP false 11 (resume (GY F fr cs aR it y) (.bool true))) λa=>ϰ⟩
end
section
variable (F:Nat)(fr:κ)(cs:List κ)(aR:Nat)(it v:Int)(y:Nat->Φ)
def h3a:Θ:=gH F fr cs (Sv F aR false true it 3 y)
def b3a:Θ:=O (h3a F fr cs aR it y)
def aaW:az PP false (h3a F fr cs aR it y) (b3a F fr cs aR it y):=aP λa=>ϰ
def acp:aJ (b3a F fr cs aR it y)=some (221,#[.int .i64 it]):=ϰ
def R9:Θ:=O (resume (b3a F fr cs aR it y) (.bool false))
def acq:az PP false (resume (b3a F fr cs aR it y) (.bool false)) (R9 F fr cs aR it y):=aP λa=>ϰ
def d3a:Θ:=O (resume (b3a F fr cs aR it y) (.bool true))
def VH:az PP false (resume (b3a F fr cs aR it y) (.bool true)) (d3a F fr cs aR it y):=aP λa=>ϰ
def ab9:aJ (d3a F fr cs aR it y)=some (222,#[]):=ϰ
def e3a:Θ:=O (resume (d3a F fr cs aR it y) U)
def ab8:az PP false (resume (d3a F fr cs aR it y) U) (e3a F fr cs aR it y):=aP λa=>ϰ
def ab4:aY (e3a F fr cs aR it y)=some (.load 21 (pt F)):=ϰ
def U9:(PP.funcs[(e3a F fr cs aR it y).frame.fn]?).any (·.norace)=true:=ϰ
def ab5:∃tm,HH F aR false true (IntKind.i64.wrap (it+1)) v tm/\az PP false (resume (e3a F fr cs aR it y) (.int .i32 v)) (gH F fr cs tm):=
 ⟨(On 4 (resume (e3a F fr cs aR it y) (.int .i32 v))).frame.tmps,⟨ϰ,ϰ,ϰ,ϰ,ϰ,ϰ,ϰ⟩,aS 4 (cj PP false 4 (resume (e3a F fr cs aR it y) (.int .i32 v))) λa=>ϰ⟩
def Vu:aJ (R9 F fr cs aR it y)=some (217,#[pt F,.int .i32 3,.int .i32 9]):=ϰ
def m3a:Θ:=O (resume (R9 F fr cs aR it y) (.bool false))
def Rg:az PP false (resume (R9 F fr cs aR it y) (.bool false)) (m3a F fr cs aR it y):=aP λa=>ϰ
def ZC:aY (m3a F fr cs aR it y)=some (.load 21 (pt F)):=ϰ
def T0:(PP.funcs[(m3a F fr cs aR it y).frame.fn]?).any (·.norace)=true:=ϰ
def ZD:∃tm,HH F aR false true it v tm/\az PP false (resume (m3a F fr cs aR it y) (.int .i32 v)) (gH F fr cs tm):=
 ⟨(On 4 (resume (m3a F fr cs aR it y) (.int .i32 v))).frame.tmps,⟨ϰ,ϰ,ϰ,ϰ,ϰ,ϰ,ϰ⟩,aS 4 (cj PP false 4 (resume (m3a F fr cs aR it y) (.int .i32 v))) λa=>ϰ⟩
def n3a:Θ:=O (resume (R9 F fr cs 0 it y) (.bool true))
def Ri:az PP false (resume (R9 F fr cs 0 it y) (.bool true)) (n3a F fr cs it y):=aP λa=>ϰ
def PE:aJ (n3a F fr cs it y)=some (224,#[]):=ϰ
def p3a:Θ:=O (resume (n3a F fr cs it y) (.int .i64 (aR:Int)))
def Zx:az PP false (resume (n3a F fr cs it y) (.int .i64 (aR:Int))) (p3a F fr cs aR it y):=aP λa=>ϰ
def Tx:aJ (p3a F fr cs aR it y)=some (225,#[sD F,.bool false,.int .i64 2]):=ϰ
def Zh:∃tm,HQ F aR false tm/\az PP false (resume (p3a F fr cs aR it y) U) (gQ F fr cs tm):=
 ⟨(On 1 (resume (p3a F fr cs aR it y) U)).frame.tmps,⟨ϰ,ϰ,ϰ,ϰ⟩,aS 1 (cj PP false 1 (resume (p3a F fr cs aR it y) U)) λa=>ϰ⟩
def q3a:Θ:=O (resume (R9 F fr cs (aR+1) it y) (.bool true))
def Rh:az PP false (resume (R9 F fr cs (aR+1) it y) (.bool true)) (q3a F fr cs aR it y):=aP λa=>ϰ
def Tr:aJ (q3a F fr cs aR it y)=some (225,#[sD F,.bool true,.int .i64 2]):=ϰ
def Zb:∃tm,HQ F (aR+1) false tm/\az PP false (resume (q3a F fr cs aR it y) U) (gQ F fr cs tm):=
 ⟨(On 1 (resume (q3a F fr cs aR it y) U)).frame.tmps,⟨ϰ,ϰ,ϰ,ϰ⟩,aS 1 (cj PP false 1 (resume (q3a F fr cs aR it y) U)) λa=>ϰ⟩
end
section
variable (F:Nat)(fr:κ)(cs:List κ)(aR:Nat)(it v:Int)(y:Nat->Φ)
def agZ:Θ:=gH F fr cs (Sv F aR true true it 3 y)
def NF:Θ:=O (agZ F fr cs aR it y)
def UG:az PP false (agZ F fr cs aR it y) (NF F fr cs aR it y):=aP λa=>ϰ
def VF:aJ (NF F fr cs aR it y)=some (221,#[.int .i64 it]):=ϰ
def Bv:Θ:=O (resume (NF F fr cs aR it y) (.bool false))
def VG:az PP false (resume (NF F fr cs aR it y) (.bool false)) (Bv F fr cs aR it y):=aP λa=>ϰ
def Vf:Θ:=O (resume (NF F fr cs aR it y) (.bool true))
def Rs:az PP false (resume (NF F fr cs aR it y) (.bool true)) (Vf F fr cs aR it y):=aP λa=>ϰ
def Ve:aJ (Vf F fr cs aR it y)=some (222,#[]):=ϰ
def Nh:Θ:=O (resume (Vf F fr cs aR it y) U)
def Vd:az PP false (resume (Vf F fr cs aR it y) U) (Nh F fr cs aR it y):=aP λa=>ϰ
def U7:aY (Nh F fr cs aR it y)=some (.load 21 (pt F)):=ϰ
def QZ:(PP.funcs[(Nh F fr cs aR it y).frame.fn]?).any (·.norace)=true:=ϰ
def U8:∃tm,HH F aR true true (IntKind.i64.wrap (it+1)) v tm/\az PP false (resume (Nh F fr cs aR it y) (.int .i32 v)) (gH F fr cs tm):=
 ⟨(On 4 (resume (Nh F fr cs aR it y) (.int .i32 v))).frame.tmps,⟨ϰ,ϰ,ϰ,ϰ,ϰ,ϰ,ϰ⟩,aS 4 (cj PP false 4 (resume (Nh F fr cs aR it y) (.int .i32 v))) λa=>ϰ⟩
def Rf:aJ (Bv F fr cs aR it y)=some (217,#[pt F,.int .i32 3,.int .i32 13]):=ϰ
def Mk:Θ:=O (resume (Bv F fr cs aR it y) (.bool false))
def Nw:az PP false (resume (Bv F fr cs aR it y) (.bool false)) (Mk F fr cs aR it y):=aP λa=>ϰ
def TY:aY (Mk F fr cs aR it y)=some (.load 21 (pt F)):=ϰ
def PL:(PP.funcs[(Mk F fr cs aR it y).frame.fn]?).any (·.norace)=true:=ϰ
def TZ:∃tm,HH F aR true true it v tm/\az PP false (resume (Mk F fr cs aR it y) (.int .i32 v)) (gH F fr cs tm):=
 ⟨(On 4 (resume (Mk F fr cs aR it y) (.int .i32 v))).frame.tmps,⟨ϰ,ϰ,ϰ,ϰ,ϰ,ϰ,ϰ⟩,aS 4 (cj PP false 4 (resume (Mk F fr cs aR it y) (.int .i32 v))) λa=>ϰ⟩
def TT:Θ:=O (resume (Bv F fr cs 0 it y) (.bool true))
def Nz:az PP false (resume (Bv F fr cs 0 it y) (.bool true)) (TT F fr cs it y):=aP λa=>ϰ
def Mg:aJ (TT F fr cs it y)=some (224,#[]):=ϰ
def Pm:Θ:=O (resume (TT F fr cs it y) (.int .i64 (aR:Int)))
def TS:az PP false (resume (TT F fr cs it y) (.int .i64 (aR:Int))) (Pm F fr cs aR it y):=aP λa=>ϰ
def Pk:aJ (Pm F fr cs aR it y)=some (225,#[sD F,.bool false,.int .i64 2]):=ϰ
def Tw:∃tm,HQ F aR true tm/\az PP false (resume (Pm F fr cs aR it y) U) (gQ F fr cs tm):=
 ⟨(On 1 (resume (Pm F fr cs aR it y) U)).frame.tmps,⟨ϰ,ϰ,ϰ,ϰ⟩,aS 1 (cj PP false 1 (resume (Pm F fr cs aR it y) U)) λa=>ϰ⟩
def Pb:Θ:=O (resume (Bv F fr cs (aR+1) it y) (.bool true))
def Ny:az PP false (resume (Bv F fr cs (aR+1) it y) (.bool true)) (Pb F fr cs aR it y):=aP λa=>ϰ
def Pa:aJ (Pb F fr cs aR it y)=some (225,#[sD F,.bool true,.int .i64 2]):=ϰ
def Tq:∃tm,HQ F (aR+1) true tm/\az PP false (resume (Pb F fr cs aR it y) U) (gQ F fr cs tm):=
 ⟨(On 1 (resume (Pb F fr cs aR it y) U)).frame.tmps,⟨ϰ,ϰ,ϰ,ϰ⟩,aS 1 (cj PP false 1 (resume (Pb F fr cs aR it y) U)) λa=>ϰ⟩
end
section
variable (F:Nat)(fr:κ)(cs:List κ)(aR:Nat)(it v:Int)(y:Nat->Φ)
def h12:Θ:=gH F fr cs (Sv F aR false false it 12 y)
def b12:Θ:=O (h12 F fr cs aR it y)
def aaZ:az PP false (h12 F fr cs aR it y) (b12 F fr cs aR it y):=aP λa=>ϰ
abbrev c12:Θ:=b12 F fr cs aR it y
def VC:aJ (c12 F fr cs aR it y)=some (217,#[pt F,.int .i32 12,.int .i32 20]):=ϰ
def m12:Θ:=O (resume (c12 F fr cs aR it y) (.bool false))
def Rn:az PP false (resume (c12 F fr cs aR it y) (.bool false)) (m12 F fr cs aR it y):=aP λa=>ϰ
def ZI:aY (m12 F fr cs aR it y)=some (.load 21 (pt F)):=ϰ
def Uc:(PP.funcs[(m12 F fr cs aR it y).frame.fn]?).any (·.norace)=true:=ϰ
def ZJ:∃tm,HH F aR false false it v tm/\az PP false (resume (m12 F fr cs aR it y) (.int .i32 v)) (gH F fr cs tm):=
 ⟨(On 4 (resume (m12 F fr cs aR it y) (.int .i32 v))).frame.tmps,⟨ϰ,ϰ,ϰ,ϰ,ϰ,ϰ,ϰ⟩,aS 4 (cj PP false 4 (resume (m12 F fr cs aR it y) (.int .i32 v))) λa=>ϰ⟩
def n12:Θ:=O (resume (c12 F fr cs 0 it y) (.bool true))
def Rp:az PP false (resume (c12 F fr cs 0 it y) (.bool true)) (n12 F fr cs it y):=aP λa=>ϰ
def PF:aJ (n12 F fr cs it y)=some (224,#[]):=ϰ
def p12:Θ:=O (resume (n12 F fr cs it y) (.int .i64 (aR:Int)))
def Zy:az PP false (resume (n12 F fr cs it y) (.int .i64 (aR:Int))) (p12 F fr cs aR it y):=aP λa=>ϰ
def Ty:aJ (p12 F fr cs aR it y)=some (225,#[sD F,.bool false,.int .i64 2]):=ϰ
def Zj:∃tm,HQ F aR false tm/\az PP false (resume (p12 F fr cs aR it y) U) (gQ F fr cs tm):=
 ⟨(On 1 (resume (p12 F fr cs aR it y) U)).frame.tmps,⟨ϰ,ϰ,ϰ,ϰ⟩,aS 1 (cj PP false 1 (resume (p12 F fr cs aR it y) U)) λa=>ϰ⟩
def q12:Θ:=O (resume (c12 F fr cs (aR+1) it y) (.bool true))
def Ro:az PP false (resume (c12 F fr cs (aR+1) it y) (.bool true)) (q12 F fr cs aR it y):=aP λa=>ϰ
def Ts:aJ (q12 F fr cs aR it y)=some (225,#[sD F,.bool true,.int .i64 2]):=ϰ
def Zd:∃tm,HQ F (aR+1) false tm/\az PP false (resume (q12 F fr cs aR it y) U) (gQ F fr cs tm):=
 ⟨(On 1 (resume (q12 F fr cs aR it y) U)).frame.tmps,⟨ϰ,ϰ,ϰ,ϰ⟩,aS 1 (cj PP false 1 (resume (q12 F fr cs aR it y) U)) λa=>ϰ⟩
end
section
variable (F:Nat)(fr:κ)(cs:List κ)(aR:Nat)(it v:Int)(y:Nat->Φ)
def qF:Θ:=O (gQ F fr cs (RW F aR false y))
def aeW:az PP false (gQ F fr cs (RW F aR false y)) (qF F fr cs aR y):=aP λa=>ϰ
def Tp:aJ (qF F fr cs aR y)=some (224,#[]):=ϰ
def late (m:Nat):Bool:=match((On 6 (resume (qF F fr cs aR y) (.int .i64 (m:Int)))).frame.tmps[3]? :Option Φ) with|some (.bool b)=>b|_=>false
def aeV (m:Nat):∃tm,HQ F aR (late F fr cs aR y m) tm/\az PP false (resume (qF F fr cs aR y) (.int .i64 (m:Int))) (gN F fr cs tm):=
 ⟨(On 6 (resume (qF F fr cs aR y) (.int .i64 (m:Int)))).frame.tmps,⟨ϰ,ϰ,ϰ,ϰ⟩,aS 6 (cj PP false 6 (resume (qF F fr cs aR y) (.int .i64 (m:Int)))) λa=>ϰ⟩
def aeU:∃tm,HQ F aR true tm/\az PP false (gQ F fr cs (RW F aR true y)) (gN F fr cs tm):=
 ⟨(On 11 (gQ F fr cs (RW F aR true y))).frame.tmps,⟨ϰ,ϰ,ϰ,ϰ⟩,aS 11 (cj PP false 11 (gQ F fr cs (RW F aR true y))) λa=>ϰ⟩
def f:Θ:=O (gN F fr cs (RW F aR false y))
def amm:az PP false (gN F fr cs (RW F aR false y)) (f F fr cs aR y):=aP λa=>ϰ
def aml:aY (f F fr cs aR y)=some (.load 21 (pt F)):=ϰ
def ahu:(PP.funcs[(f F fr cs aR y).frame.fn]?).any (·.norace)=true:=ϰ
def f_2:∃tm,HH F aR false true 0 2 tm/\az PP false (resume (f F fr cs aR y) (.int .i32 2)) (gH F fr cs tm):=
 ⟨(On 20 (resume (f F fr cs aR y) (.int .i32 2))).frame.tmps,⟨ϰ,ϰ,ϰ,ϰ,ϰ,ϰ,ϰ⟩,aS 20 (cj PP false 20 (resume (f F fr cs aR y) (.int .i32 2))) λa=>ϰ⟩
def f_3:∃tm,HH F aR false true 0 3 tm/\az PP false (resume (f F fr cs aR y) (.int .i32 3)) (gH F fr cs tm):=
 ⟨(On 20 (resume (f F fr cs aR y) (.int .i32 3))).frame.tmps,⟨ϰ,ϰ,ϰ,ϰ,ϰ,ϰ,ϰ⟩,aS 20 (cj PP false 20 (resume (f F fr cs aR y) (.int .i32 3))) λa=>ϰ⟩
def j12:Θ:=O (resume (f F fr cs aR y) (.int .i32 12))
def amo:az PP false (resume (f F fr cs aR y) (.int .i32 12)) (j12 F fr cs aR y):=aP λa=>ϰ
def Up:aJ (j12 F fr cs aR y)=some (219,#[pt F,.int .i32 (-11)]):=ϰ
def aan:∃tm,HR F tm/\az PP false (resume (j12 F fr cs aR y) (.int .i32 v)) (gR F fr cs tm):=
 ⟨(On 2 (resume (j12 F fr cs aR y) (.int .i32 v))).frame.tmps,⟨ϰ,ϰ⟩,aS 2 (cj PP false 2 (resume (j12 F fr cs aR y) (.int .i32 v))) λa=>ϰ⟩
def j20:Θ:=O (resume (f F fr cs aR y) (.int .i32 20))
def amn:az PP false (resume (f F fr cs aR y) (.int .i32 20)) (j20 F fr cs aR y):=aP λa=>ϰ
def Uo:aJ (j20 F fr cs aR y)=some (219,#[pt F,.int .i32 (-11)]):=ϰ
def aam:∃tm,HR F tm/\az PP false (resume (j20 F fr cs aR y) (.int .i32 v)) (gR F fr cs tm):=
 ⟨(On 2 (resume (j20 F fr cs aR y) (.int .i32 v))).frame.tmps,⟨ϰ,ϰ⟩,aS 2 (cj PP false 2 (resume (j20 F fr cs aR y) (.int .i32 v))) λa=>ϰ⟩
def fs:Θ:=O (gN F fr cs (RW F aR true y))
def ahn:az PP false (gN F fr cs (RW F aR true y)) (fs F fr cs aR y):=aP λa=>ϰ
def ahm:aY (fs F fr cs aR y)=some (.load 21 (pt F)):=ϰ
def abK:(PP.funcs[(fs F fr cs aR y).frame.fn]?).any (·.norace)=true:=ϰ
def ame:∃tm,HH F aR true true 0 2 tm/\az PP false (resume (fs F fr cs aR y) (.int .i32 2)) (gH F fr cs tm):=
 ⟨(On 20 (resume (fs F fr cs aR y) (.int .i32 2))).frame.tmps,⟨ϰ,ϰ,ϰ,ϰ,ϰ,ϰ,ϰ⟩,aS 20 (cj PP false 20 (resume (fs F fr cs aR y) (.int .i32 2))) λa=>ϰ⟩
def amd:∃tm,HH F aR true true 0 3 tm/\az PP false (resume (fs F fr cs aR y) (.int .i32 3)) (gH F fr cs tm):=
 ⟨(On 20 (resume (fs F fr cs aR y) (.int .i32 3))).frame.tmps,⟨ϰ,ϰ,ϰ,ϰ,ϰ,ϰ,ϰ⟩,aS 20 (cj PP false 20 (resume (fs F fr cs aR y) (.int .i32 3))) λa=>ϰ⟩
def PZ:Θ:=O (resume (fs F fr cs aR y) (.int .i32 12))
def ahp:az PP false (resume (fs F fr cs aR y) (.int .i32 12)) (PZ F fr cs aR y):=aP λa=>ϰ
def PY:aJ (PZ F fr cs aR y)=some (219,#[pt F,.int .i32 (-11)]):=ϰ
def Un:∃tm,HR F tm/\az PP false (resume (PZ F fr cs aR y) (.int .i32 v)) (gR F fr cs tm):=
 ⟨(On 2 (resume (PZ F fr cs aR y) (.int .i32 v))).frame.tmps,⟨ϰ,ϰ⟩,aS 2 (cj PP false 2 (resume (PZ F fr cs aR y) (.int .i32 v))) λa=>ϰ⟩
def PX:Θ:=O (resume (fs F fr cs aR y) (.int .i32 20))
def aho:az PP false (resume (fs F fr cs aR y) (.int .i32 20)) (PX F fr cs aR y):=aP λa=>ϰ
def PW:aJ (PX F fr cs aR y)=some (219,#[pt F,.int .i32 (-7)]):=ϰ
def Um:∃tm,HR F tm/\az PP false (resume (PX F fr cs aR y) (.int .i32 v)) (gR F fr cs tm):=
 ⟨(On 2 (resume (PX F fr cs aR y) (.int .i32 v))).frame.tmps,⟨ϰ,ϰ⟩,aS 2 (cj PP false 2 (resume (PX F fr cs aR y) (.int .i32 v))) λa=>ϰ⟩
end
section
variable (F:Nat)(fr:κ)(cs:List κ)(aR:Nat)(it v:Int)(y:Nat->Φ)
def rE:Θ:=O (gR F fr cs (V6 F y))
def aeL:az PP false (gR F fr cs (V6 F y)) (rE F fr cs y):=aP λa=>ϰ
def aeK:aJ (rE F fr cs y)=some (170,#[]):=ϰ
def rV:Θ:=O (resume (rE F fr cs y) U)
def aeJ:az PP false (resume (rE F fr cs y) U) (rV F fr cs y):=aP λa=>ϰ
def aeI:aY (rV F fr cs y)=some (.conv (Bp (rV 0 default [] λ_=>ϗ)) (CK (rV 0 default [] λ_=>ϗ)) (pt F)):=ϰ
def akJ:PP.underlying (Bp (rV 0 default [] λ_=>ϗ))=some (.pointer (CJ (rV 0 default [] λ_=>ϗ))):=ϰ
def akK:PP.underlying (CK (rV 0 default [] λ_=>ϗ))=some .unsafePointer:=ϰ
def akI:(PP.info? (CJ (rV 0 default [] λ_=>ϗ))).map (λi=>decide (i.size=0))=some false:=ϰ
def rA:Θ:=O (resume (rV F fr cs y) (pt F))
def aeH:az PP false (resume (rV F fr cs y) (pt F)) (rA F fr cs y):=aP λa=>ϰ
def Y4:aJ (rA F fr cs y)=some (171,#[pt F]):=ϰ
def aeM:az PP false (resume (rA F fr cs y) U) (da fr cs U):=aS 9 (cj PP false 9 (resume (rA F fr cs y) U)) λa=>ϰ
end
section
variable {Δ:Type}{X:Cx Δ}{r:bB}{k:Nat}{T T':Lo}{γ:Gh Δ}{g g':Θ}{w w':Ω}
def RX.dx {a:Bool}{ro own:ϒ}{w w':Ω}(e:ConcM.Eff X.Fd X.Wg w w')(c:∀b:Nat,w'.heap[b]? =w.heap[b]?):DX X a ro own w w' #[]:=
 ⟨e.tape,e.output,ai8 e.size.symm,e.os,λb _ _=>c b,ϛ,λ_=>rfl⟩
variable (hm:x6 r=false)(R:Room X γ)
include hm R
theorem uw {f:ac0}{fn:Func}(a:Ext PP f fn){v:Φ}(b:Extern.find fn=some (λ_=>pure v)){args:ϐ}(hc:aJ g=some (f,args))(go:LW X r γ k T (resume g v) w):LW X r γ k T g w:=by
 refine aG.step (bk hc).1 λw₁ hr=>⟨_,w₁,#[],BO a v b hc,(k7 _ _ γ.own w₁).1,?_⟩
 have:=(k7 (X:=X) (fS T.pc) γ.ro γ.own w₁).2;rw[this];exact go.rely hr
theorem rH {args:ϐ}(hc:aJ g=some (224,args))(go:∀m w',RR X γ w w'->LW X r γ k T (resume g (.int .i64 ((m:Nat):Int))) w')(live:∃s,ShAt X w s):LW X r γ k T g w:=by
 refine aG.step (bk hc).1 λw₁ hr=>?_
 have d:=ConcM.Eff.later (Mu:=X.Fd) (Wg:=X.Wg) w₁;have⟨s,c⟩:=hr.live live;have a:ShAt X w₁.later s:=⟨c.1,c.2⟩
 refine⟨_,w₁.later,#[],BP (P:=PP) (main:=false) (w:=w₁) V0 WI Wh hc,RX.dx d λ_=>rfl,?_⟩;have e:(gX X (fS T.pc) γ.ro).up γ.own w₁ w₁.later=γ.own:=by
  funext b
  exact propext ⟨λh=>h.elim id λz=>by have:w₁.later.heap.size=w₁.heap.size:=rfl;omega,.inl⟩
 rw[e];exact go _ _ (hr.trans X (R.rx d a))
theorem xO (a:T.pc= .c2){old nw:Int}(d:T.old=old)(i:T.nw=nw)(hc:aJ g=some (217,#[pt X.Fd,.int .i32 old,.int .i32 nw]))(f:(old=0\/old=2)->∀k' w',k'<k->RR X γ w w'->LW X r γ k' (at_ .le T.n) (resume g (.bool true)) w')(h:¬(old=0\/old=2)->∀k' w',k'<k->RR X γ w w'->LW X r γ k' {pc:= .s1,sv:=T.sv,n:=T.n} (resume g (.bool true)) w')(c:∀k' w',k'<k->RR X γ w w'->LW X r γ k' {T with pc:= .r3,old:=0,nw:=0} (resume g (.bool false)) w'):LW X r γ k T g w:=by
 by_cases b:old=0\/old=2
 .refine D9 hm R (T1:=at_ .le T.n) (T2:={T with pc:= .r3,old:=0,nw:=0}) (.inl a) hc (λs e=>?_) (λs _ e=>?_) (by unfold kb;rw[a]) ϛ (by unfold kb;rw[a]) ϛ (f b) (λ_=>c)
  .unfold mv
   rw[a];simp[d,i,e,b]
  .refine⟨({T with pc:= .r3,old:=0,nw:=0},s),?_,.inr rfl⟩
   unfold mv;rw[a];simp[d,e]
 .refine D9 hm R (T1:={pc:= .s1,sv:=T.sv,n:=T.n}) (T2:={T with pc:= .r3,old:=0,nw:=0}) (.inl a) hc (λs e=>?_) (λs _ e=>?_) (by unfold kb;rw[a]) ϛ (by unfold kb;rw[a]) ϛ (h b) (λ_=>c)
  .unfold mv
   rw[a];simp[d,i,e,b]
  .refine⟨({T with pc:= .r3,old:=0,nw:=0},s),?_,.inr rfl⟩
   unfold mv;rw[a];simp[d,e]
end
section
variable {Δ:Type}{X:Cx Δ}{r:bB}{γ:Gh Δ}{g:Θ}{w0 w:Ω}{n:Nat}{fr:κ}{cs:List κ}
def kM (X:Cx Δ)(r:bB)(γ:Gh Δ)(n:Nat)(fr:κ)(cs:ϙ)(w0:Ω)(k:Nat):Prop:=
 ∀(aR:Nat)(tm:ϐ)(w:Ω)(T:Lo),RR X γ w0 w->T.n=n->HH X.Fd aR T.sv T.aw T.it T.old tm->(hd T).pc≠.bad->LW X r γ k (hd T) (gH X.Fd fr cs tm) w
variable (hm:x6 r=false)(R:Room X γ)(live:∃s,ShAt X w0 s)(tk:Taken X r γ n fr cs w0)
include hm R
theorem jA {k:Nat}{T:Lo}(f:∀k',k'<k->kM X r γ n fr cs w0 k')(h0:RR X γ w0 w)(d:T.pc= .r0\/T.pc= .r1\/T.pc= .r3)(e:T.n=n)(i:T.pc= .r0->T.aw=false/\T.sv=false/\T.it=0){aR:Nat}{it':Int}(a:it'=if T.pc= .r1 then IntKind.i64.wrap (T.it+1) else T.it)(hv:aY g=some (.load 21 (pt X.Fd)))(j:(PP.funcs[g.frame.fn]?).any (·.norace)=true)(go:∀v,∃tm,HH X.Fd aR T.sv T.aw it' v tm/\az PP false (resume g (.int .i32 v)) (gH X.Fd fr cs tm)):LW X r γ k T g w:=by
 refine D8 hm R (by rcases d with h|h|h<;>simp[h]) hv j λs p=>?_
 have⟨tm,b,hg⟩:=go s.mu;have hne:∀T1:Lo,(hd T1).pc≠.quit:=λT1=>by rcases Gg T1 with h|h|h<;>rw[h]<;>simp
 rcases d with h|h|h
 .have⟨m,o,l⟩:=i h
  refine⟨(hd {pc:= .r0,old:=s.mu,n:=T.n},s),by unfold mv;rw[h];simp,?_⟩
  by_cases hb:(hd {pc:= .r0,old:=s.mu,n:=T.n}).pc= .bad
  .exact .inl hb
  .refine .inr ⟨rfl,by unfold kb;rw[h],hne _,λk' w' c hr=>aF hg (f k' c aR tm w' {pc:= .r0,old:=s.mu,n:=T.n} (h0.trans X hr) e ?_ hb)⟩
   rw[ζ (by rw[h];simp)] at a;rw[a,m,o,l] at b;exact b
 .refine⟨(hd {T with old:=s.mu,it:=IntKind.i64.wrap (T.it+1)},s),by unfold mv;rw[h];simp,?_⟩
  by_cases hb:(hd {T with old:=s.mu,it:=IntKind.i64.wrap (T.it+1)}).pc= .bad
  .exact .inl hb
  .refine .inr ⟨rfl,by unfold kb;rw[h],hne _,λk' w' c hr=>aF hg (f k' c aR tm w' {T with old:=s.mu,it:=IntKind.i64.wrap (T.it+1)} (h0.trans X hr) e ?_ hb)⟩
   rw[φ h] at a;rw[a] at b;exact b
 .refine⟨(hd {T with old:=s.mu},s),by unfold mv;rw[h];simp,?_⟩
  by_cases hb:(hd {T with old:=s.mu}).pc= .bad
  .exact .inl hb
  .refine .inr ⟨rfl,by unfold kb;rw[h],hne _,λk' w' c hr=>aF hg (f k' c aR tm w' {T with old:=s.mu} (h0.trans X hr) e ?_ hb)⟩
   rw[ζ (by rw[h];simp)] at a;rw[a] at b;exact b
include live tk
theorem G6 {k:Nat}{tm:ϐ}(h0:RR X γ w0 w)(h:HR X.Fd tm):LW X r γ k (at_ .le n) (gR X.Fd fr cs tm) w:=by
 rw[h.eq];exact aF (aeL ..) (G5 hm R (aeK ..) (aeJ ..) (aeI ..) akJ akK akI (aeH ..) (Y4 ..) (aeM ..) (h0.live live) λk w1 d o hr=>tk k w1 d o (h0.trans X hr))
theorem WU {k:Nat}{T:Lo}(x:∀k',k'<k->kM X r γ n fr cs w0 k'){tm:ϐ}{aR:Nat}(h0:RR X γ w0 w)(h:HQ X.Fd aR T.sv tm)(t:T.pc= .r2)(B:T.n=n)(D:T.old=0/\T.nw=0/\T.aw=false/\T.it=0):
  LW X r γ k T (gN X.Fd fr cs tm) w:=by
 rw[h.eq];have hne:∀T1:Lo,(hd T1).pc≠.quit:=λT1=>by rcases Gg T1 with h|h|h<;>rw[h]<;>simp
 have m:∀{C:Nat}{w1:Ω}{d:Int}{u:Θ}{T1:Lo},RR X γ w0 w1->T1.n=n->T1.pc= .a1->T1.nw=d->(d=-11\/d=-7)->aJ u=some (219,#[pt X.Fd,.int .i32 d])->
   (∀v,∃tm,HR X.Fd tm/\az PP false (resume u (.int .i32 v)) (gR X.Fd fr cs tm))->LW X r γ C T1 u w1:=by
  intro C w1 d u T1 h1 y o q E hc z;refine Rw hm R (.inl o) hc λs A=>?_
  by_cases c:(s.mu=12/\T1.nw=-11)\/(s.mu=20/\(T1.nw=-7\/T1.nw=-11))
  .refine⟨(at_ .le T1.n,{s with mu:=s.mu+T1.nw}),by unfold mv;rw[o];simp[c],.inr ⟨?_,by unfold kb;rw[o],ϛ,λk' w' l hr=>?_⟩⟩
   .have:IntKind.i32.wrap (s.mu+d)=s.mu+T1.nw:=by
     rw[q];rw[q] at c;rcases c with⟨a,b⟩|⟨a,b|b⟩<;>rw[a,b]<;>decide
    rw[this]
   .have⟨tm,F,hg⟩:=z (IntKind.i32.wrap (s.mu+d))
    have:(at_ .le T1.n)=at_ .le n:=by rw[y]
    dsimp only;rw[this];exact aF hg (G6 hm R live tk (h1.trans X hr) F)
  .exact⟨(at_ .bad T1.n,s),by unfold mv;rw[o];simp[c],.inl rfl⟩
 have⟨pc,old,nw,aw,sv,it,j⟩:=T;simp only at t B D;obtain⟨rfl,rfl,rfl,rfl⟩:=D;subst t;subst B;cases sv with
 |false=>
  refine aF (amm ..) (D8 hm R ϛ (aml ..) (ahu ..) λs A=>?_)
  by_cases g:s.mu=2\/s.mu=3
  .refine⟨(hd {pc:= .r2,old:=s.mu,aw:=true,it:=0,n:=j},s),by simp[mv,g],.inr ⟨rfl,rfl,hne _,λk' w' l hr=>?_⟩⟩
   rcases g with e|e
   .rw[e]
    have⟨tm,p,hg⟩:=f_2 X.Fd fr cs aR λi=>tm.getD i ϗ
    exact aF hg (x k' l aR tm w' {pc:= .r2,old:=2,aw:=true,it:=0,n:=j} (h0.trans X hr) rfl p (by simp[hd]))
   .rw[e]
    have⟨tm,p,hg⟩:=f_3 X.Fd fr cs aR λi=>tm.getD i ϗ
    exact aF hg (x k' l aR tm w' {pc:= .r2,old:=3,aw:=true,it:=0,n:=j} (h0.trans X hr) rfl p (by simp[hd]))
  .by_cases h12:s.mu=12
   .refine⟨({pc:= .a1,nw:=-11,n:=j},s),by simp[mv,h12],.inr ⟨rfl,rfl,ϛ,λk' w' l hr=>?_⟩⟩
    rw[h12];exact aF (amo ..) (m (h0.trans X hr) rfl rfl rfl (.inl rfl) (Up ..) λv=>aan ..)
   .by_cases f:s.mu=20
    .refine⟨({pc:= .a1,nw:=-11,n:=j},s),by simp[mv,f],.inr ⟨rfl,rfl,ϛ,λk' w' l hr=>?_⟩⟩
     rw[f];exact aF (amn ..) (m (h0.trans X hr) rfl rfl rfl (.inl rfl) (Uo ..) λv=>aam ..)
    .exact⟨(at_ .bad j,s),by simp[mv,g,h12,f],.inl rfl⟩
 |true=>
  refine aF (ahn ..) (D8 hm R ϛ (ahm ..) (abK ..) λs A=>?_)
  by_cases g:s.mu=2\/s.mu=3
  .refine⟨(hd {pc:= .r2,old:=s.mu,aw:=true,sv:=true,it:=0,n:=j},s),by simp[mv,g],.inr ⟨rfl,rfl,hne _,λk' w' l hr=>?_⟩⟩
   rcases g with e|e
   .rw[e]
    have⟨tm,p,hg⟩:=ame X.Fd fr cs aR λi=>tm.getD i ϗ
    exact aF hg (x k' l aR tm w' {pc:= .r2,old:=2,aw:=true,sv:=true,it:=0,n:=j} (h0.trans X hr) rfl p (by simp[hd]))
   .rw[e]
    have⟨tm,p,hg⟩:=amd X.Fd fr cs aR λi=>tm.getD i ϗ
    exact aF hg (x k' l aR tm w' {pc:= .r2,old:=3,aw:=true,sv:=true,it:=0,n:=j} (h0.trans X hr) rfl p (by simp[hd]))
  .by_cases h12:s.mu=12
   .refine⟨({pc:= .a1,nw:=-11,n:=j},s),by simp[mv,h12],.inr ⟨rfl,rfl,ϛ,λk' w' l hr=>?_⟩⟩
    rw[h12];exact aF (ahp ..) (m (h0.trans X hr) rfl rfl rfl (.inl rfl) (PY ..) λv=>Un ..)
   .by_cases f:s.mu=20
    .refine⟨({pc:= .a1,nw:=-7,n:=j},s),by simp[mv,f],.inr ⟨rfl,rfl,ϛ,λk' w' l hr=>?_⟩⟩
     rw[f];exact aF (aho ..) (m (h0.trans X hr) rfl rfl rfl (.inr rfl) (PW ..) λv=>Um ..)
    .exact⟨(at_ .bad j,s),by simp[mv,g,h12,f],.inl rfl⟩
theorem ah8 {k:Nat}{T:Lo}(f:∀k',k'<k->kM X r γ n fr cs w0 k'){tm:ϐ}{aR:Nat}(h0:RR X γ w0 w)(h:HQ X.Fd aR T.sv tm)(d:T.n=n)(g:T.pc=(if T.sv then .r2 else .t2)/\T.old=0/\T.nw=0/\T.aw=false/\T.it=0):
  LW X r γ k T (gQ X.Fd fr cs tm) w:=by
 rw[h.eq];have⟨pc,j,q,s,sv,it,l⟩:=T;simp only at g d;obtain⟨a,rfl,rfl,rfl,rfl⟩:=g;subst d;cases sv with
 |true=>
  obtain rfl:pc= .r2:=by simpa using a
  have⟨b,c,hg⟩:=aeU X.Fd fr cs aR λi=>tm.getD i ϗ
  exact aF hg (WU hm R live tk f h0 c rfl rfl ⟨rfl,rfl,rfl,rfl⟩)
 |false=>
  obtain rfl:pc= .t2:=by simpa using a
  refine aF (aeW ..) (Rv hm R rfl (Tp ..) (late X.Fd fr cs aR λi=>tm.getD i ϗ) λk' w' m p hr=>?_);have⟨b,c,hg⟩:=aeV X.Fd fr cs aR (λi=>tm.getD i ϗ) m
  refine aF hg (WU hm R live tk (λo h1=>f o ϖ) (aR:=aR) (h0.trans X hr) (T:={pc:= .r2,sv:=if late X.Fd fr cs aR (λi=>tm.getD i ϗ) m then true else false,n:=l}) ?_ rfl rfl ⟨rfl,rfl,rfl,rfl⟩);have e:(if late X.Fd fr cs aR (λi=>tm.getD i ϗ) m=true then true else false)=late X.Fd fr cs aR (λi=>tm.getD i ϗ) m:=by
   cases late X.Fd fr cs aR (λi=>tm.getD i ϗ) m<;>rfl
  simp only[e];exact c
theorem xN {k:Nat}{sv:Bool}(c:∀k',k'<k->kM X r γ n fr cs w0 k'){aR:Nat}{u v:Φ}(h0:RR X γ w0 w)(hc:aJ g=some (225,#[sD X.Fd,u,v]))(go:∃tm,HQ X.Fd aR sv tm/\az PP false (resume g U) (gQ X.Fd fr cs tm)):LW X r γ k {pc:= .s1,sv:=sv,n:=n} g w:=by
 refine acs hm R rfl hc rfl λk' w' d hr=>?_
 have⟨tm,a,hg⟩:=go;exact aF hg (ah8 hm R live tk (λb h1=>c b ϖ) (h0.trans X hr) a rfl ⟨rfl,rfl,rfl,rfl,rfl⟩)
theorem aaH {k:Nat}{tm:ϐ}{aR:Nat}{it:Int}(e:∀k',k'<k->kM X r γ n fr cs w0 k')(h0:RR X γ w0 w)(h:HH X.Fd aR false false it 0 tm):LW X r γ k {pc:= .c2,old:=0,nw:=1,aw:=false,sv:=false,it:=it,n:=n} (gH X.Fd fr cs tm) w:=by
 rw[h.eq];refine aF (ag3 ..) ?_;refine xO hm R rfl rfl rfl (aco ..) (λ_ k2 w2 b hr=>?_) (λh=>absurd ϛ h) (λk2 w2 b hr=>?_)
 .have⟨c,a,hg⟩:=acn X.Fd fr cs aR it (λi=>tm.getD i ϗ)
  exact aF hg (G6 hm R live tk (h0.trans X hr) a)
 .exact aF (VD ..) (jA hm R (λd h1=>e d ϖ) (h0.trans X hr) (.inr (.inr rfl)) rfl ϛ (it':=it) ϛ (afG ..) (ZK ..) λv=>afH _ _ _ _ _ v _)
theorem aaG {k:Nat}{tm:ϐ}{aR:Nat}{it:Int}(c:∀k',k'<k->kM X r γ n fr cs w0 k')(h0:RR X γ w0 w)(h:HH X.Fd aR false false it 1 tm):LW X r γ k {pc:= .sq,old:=1,nw:=0,aw:=false,sv:=false,it:=it,n:=n} (gH X.Fd fr cs tm) w:=by
 rw[h.eq];refine aF (ag2 ..) (D7 hm R rfl rfl (ah5 ..) (λa w1 d b=>?_) rfl (λa w1 d b=>?_))
 .have e:cl {pc:= .sq,old:=1,nw:=0,aw:=false,sv:=false,it:=it,n:=n}={pc:= .c2,old:=1,nw:=9,aw:=false,sv:=false,it:=it,n:=n}:=rfl
  rw[e];have h0:=h0.trans X b;refine aF (ah6 ..) ?_;refine xO hm R rfl rfl rfl (acm ..) (λh=>absurd h ϛ) (λ_ k2 w2 g hr=>?_) (λk2 w2 g hr=>?_)
  .have h0:=h0.trans X hr
   cases aR with
   |zero=>exact aF (VB ..) (rH hm R (TU ..) (λm j f=>aF (afA X.Fd fr cs m it (λi=>tm.getD i ϗ)) (xN hm R live tk (λa h1=>c a ϖ) (h0.trans X f) (Zi ..) (ae4 ..))) (h0.live live))
   |succ aR=>exact aF (Vz ..) (xN hm R live tk (λa h1=>c a ϖ) h0 (Zc ..) (ae0 ..))
  .exact aF (Vy ..) (jA hm R (λa h1=>c a ϖ) (h0.trans X hr) (.inr (.inr rfl)) rfl ϛ (it':=it) ϛ (afE ..) (ZH ..) λv=>afF _ _ _ _ _ v _)
 .exact aF (acr ..) (uw hm R xDo fDo (ahV ..) (aF (ahU ..) (jA hm R (λk2 h2=>c k2 ϖ) (h0.trans X b) (.inr (.inl rfl)) rfl ϛ (it':=IntKind.i64.wrap (it+1)) ϛ (ahS ..) (ab6 ..) λv=>ahT _ _ _ _ _ v _)))
theorem Uy {k:Nat}{tm:ϐ}{aR:Nat}{it:Int}(e:∀k',k'<k->kM X r γ n fr cs w0 k')(h0:RR X γ w0 w)(h:HH X.Fd aR false true it 2 tm):LW X r γ k {pc:= .c2,old:=2,nw:=1,aw:=true,sv:=false,it:=it,n:=n} (gH X.Fd fr cs tm) w:=by
 rw[h.eq];refine aF (aaX ..) ?_;refine xO hm R rfl rfl rfl (Vw ..) (λ_ k2 w2 b hr=>?_) (λh=>absurd ϛ h) (λk2 w2 b hr=>?_)
 .have⟨c,a,hg⟩:=Vv X.Fd fr cs aR it (λi=>tm.getD i ϗ)
  exact aF hg (G6 hm R live tk (h0.trans X hr) a)
 .exact aF (Rm ..) (jA hm R (λd h1=>e d ϖ) (h0.trans X hr) (.inr (.inr rfl)) rfl ϛ (it':=it) ϛ (ZE ..) (Ub ..) λv=>ZF _ _ _ _ _ v _)
theorem Qb {k:Nat}{tm:ϐ}{aR:Nat}{it:Int}(e:∀k',k'<k->kM X r γ n fr cs w0 k')(h0:RR X γ w0 w)(h:HH X.Fd aR true true it 2 tm):LW X r γ k {pc:= .c2,old:=2,nw:=1,aw:=true,sv:=true,it:=it,n:=n} (gH X.Fd fr cs tm) w:=by
 rw[h.eq];refine aF (UH ..) ?_;refine xO hm R rfl rfl rfl (Rl ..) (λ_ k2 w2 b hr=>?_) (λh=>absurd ϛ h) (λk2 w2 b hr=>?_)
 .have⟨c,a,hg⟩:=Rj X.Fd fr cs aR it (λi=>tm.getD i ϗ)
  exact aF hg (G6 hm R live tk (h0.trans X hr) a)
 .exact aF (NA ..) (jA hm R (λd h1=>e d ϖ) (h0.trans X hr) (.inr (.inr rfl)) rfl ϛ (it':=it) ϛ (T9 ..) (PM ..) λv=>Ua _ _ _ _ _ v _)
theorem aaF {k:Nat}{tm:ϐ}{aR:Nat}{it:Int}(e:∀k',k'<k->kM X r γ n fr cs w0 k')(h0:RR X γ w0 w)(h:HH X.Fd aR false false it 2 tm):LW X r γ k {pc:= .c2,old:=2,nw:=3,aw:=false,sv:=false,it:=it,n:=n} (gH X.Fd fr cs tm) w:=by
 rw[h.eq];refine aF (ag1 ..) ?_;refine xO hm R rfl rfl rfl (acl ..) (λ_ k2 w2 b hr=>?_) (λh=>absurd ϛ h) (λk2 w2 b hr=>?_)
 .have⟨c,a,hg⟩:=ack X.Fd fr cs aR it (λi=>tm.getD i ϗ)
  exact aF hg (G6 hm R live tk (h0.trans X hr) a)
 .exact aF (Vx ..) (jA hm R (λd h1=>e d ϖ) (h0.trans X hr) (.inr (.inr rfl)) rfl ϛ (it':=it) ϛ (afC ..) (ZG ..) λv=>afD _ _ _ _ _ v _)
theorem Ux {k:Nat}{tm:ϐ}{aR:Nat}{it:Int}(c:∀k',k'<k->kM X r γ n fr cs w0 k')(h0:RR X γ w0 w)(h:HH X.Fd aR false true it 3 tm):LW X r γ k {pc:= .sq,old:=3,nw:=0,aw:=true,sv:=false,it:=it,n:=n} (gH X.Fd fr cs tm) w:=by
 rw[h.eq];refine aF (aaW ..) (D7 hm R rfl rfl (acp ..) (λa w1 d b=>?_) rfl (λa w1 d b=>?_))
 .have e:cl {pc:= .sq,old:=3,nw:=0,aw:=true,sv:=false,it:=it,n:=n}={pc:= .c2,old:=3,nw:=9,aw:=true,sv:=false,it:=it,n:=n}:=rfl
  rw[e];have h0:=h0.trans X b;refine aF (acq ..) ?_;refine xO hm R rfl rfl rfl (Vu ..) (λh=>absurd h ϛ) (λ_ k2 w2 g hr=>?_) (λk2 w2 g hr=>?_)
  .have h0:=h0.trans X hr
   cases aR with
   |zero=>exact aF (Ri ..) (rH hm R (PE ..) (λm j f=>aF (Zx X.Fd fr cs m it (λi=>tm.getD i ϗ)) (xN hm R live tk (λa h1=>c a ϖ) (h0.trans X f) (Tx ..) (Zh ..))) (h0.live live))
   |succ aR=>exact aF (Rh ..) (xN hm R live tk (λa h1=>c a ϖ) h0 (Tr ..) (Zb ..))
  .exact aF (Rg ..) (jA hm R (λa h1=>c a ϖ) (h0.trans X hr) (.inr (.inr rfl)) rfl ϛ (it':=it) ϛ (ZC ..) (T0 ..) λv=>ZD _ _ _ _ _ v _)
 .exact aF (VH ..) (uw hm R xDo fDo (ab9 ..) (aF (ab8 ..) (jA hm R (λk2 h2=>c k2 ϖ) (h0.trans X b) (.inr (.inl rfl)) rfl ϛ (it':=IntKind.i64.wrap (it+1)) ϛ (ab4 ..) (U9 ..) λv=>ab5 _ _ _ _ _ v _)))
theorem Qa {k:Nat}{tm:ϐ}{aR:Nat}{it:Int}(c:∀k',k'<k->kM X r γ n fr cs w0 k')(h0:RR X γ w0 w)(h:HH X.Fd aR true true it 3 tm):LW X r γ k {pc:= .sq,old:=3,nw:=0,aw:=true,sv:=true,it:=it,n:=n} (gH X.Fd fr cs tm) w:=by
 rw[h.eq];refine aF (UG ..) (D7 hm R rfl rfl (VF ..) (λa w1 d b=>?_) rfl (λa w1 d b=>?_))
 .have e:cl {pc:= .sq,old:=3,nw:=0,aw:=true,sv:=true,it:=it,n:=n}={pc:= .c2,old:=3,nw:=13,aw:=true,sv:=true,it:=it,n:=n}:=rfl
  rw[e];have h0:=h0.trans X b;refine aF (VG ..) ?_;refine xO hm R rfl rfl rfl (Rf ..) (λh=>absurd h ϛ) (λ_ k2 w2 g hr=>?_) (λk2 w2 g hr=>?_)
  .have h0:=h0.trans X hr
   cases aR with
   |zero=>exact aF (Nz ..) (rH hm R (Mg ..) (λm j f=>aF (TS X.Fd fr cs m it (λi=>tm.getD i ϗ)) (xN hm R live tk (λa h1=>c a ϖ) (h0.trans X f) (Pk ..) (Tw ..))) (h0.live live))
   |succ aR=>exact aF (Ny ..) (xN hm R live tk (λa h1=>c a ϖ) h0 (Pa ..) (Tq ..))
  .exact aF (Nw ..) (jA hm R (λa h1=>c a ϖ) (h0.trans X hr) (.inr (.inr rfl)) rfl ϛ (it':=it) ϛ (TY ..) (PL ..) λv=>TZ _ _ _ _ _ v _)
 .exact aF (Rs ..) (uw hm R xDo fDo (Ve ..) (aF (Vd ..) (jA hm R (λk2 h2=>c k2 ϖ) (h0.trans X b) (.inr (.inl rfl)) rfl ϛ (it':=IntKind.i64.wrap (it+1)) ϛ (U7 ..) (QZ ..) λv=>U8 _ _ _ _ _ v _)))
theorem Uz {k:Nat}{tm:ϐ}{aR:Nat}{it:Int}(c:∀k',k'<k->kM X r γ n fr cs w0 k')(h0:RR X γ w0 w)(h:HH X.Fd aR false false it 12 tm):LW X r γ k {pc:= .c2,old:=12,nw:=20,aw:=false,sv:=false,it:=it,n:=n} (gH X.Fd fr cs tm) w:=by
 rw[h.eq];refine aF (aaZ ..) ?_;refine xO hm R rfl rfl rfl (VC ..) (λh=>absurd h ϛ) (λ_ k2 w2 d hr=>?_) (λk2 w2 d hr=>?_)
 .have h0:=h0.trans X hr
  cases aR with
  |zero=>exact aF (Rp ..) (rH hm R (PF ..) (λm e b=>aF (Zy X.Fd fr cs m it (λi=>tm.getD i ϗ)) (xN hm R live tk (λa h1=>c a ϖ) (h0.trans X b) (Ty ..) (Zj ..))) (h0.live live))
  |succ aR=>exact aF (Ro ..) (xN hm R live tk (λa h1=>c a ϖ) h0 (Ts ..) (Zd ..))
 .exact aF (Rn ..) (jA hm R (λa h1=>c a ϖ) (h0.trans X hr) (.inr (.inr rfl)) rfl ϛ (it':=it) ϛ (ZI ..) (Uc ..) λv=>ZJ _ _ _ _ _ v _)
theorem heads:∀k,kM X r γ n fr cs w0 k:=by
 intro k
 induction k using Nat.strongRecOn with
 |_ k f=>
 intro aR tm w T h0 h d hb;have⟨j,a,l,e,c,it,i⟩:=T;simp only at h d;subst h
 by_cases c0:a=0/\e=false/\c=false
 .obtain⟨rfl,rfl,rfl⟩:=c0
  exact aaH hm R live tk f h0 d
 by_cases c1:a=1/\e=false/\c=false
 .obtain⟨rfl,rfl,rfl⟩:=c1
  exact aaG hm R live tk f h0 d
 by_cases WS:a=2/\e=true/\c=false
 .obtain⟨rfl,rfl,rfl⟩:=WS
  exact Uy hm R live tk f h0 d
 by_cases GY:a=2/\e=true/\c=true
 .obtain⟨rfl,rfl,rfl⟩:=GY
  exact Qb hm R live tk f h0 d
 by_cases c2:a=2/\e=false/\c=false
 .obtain⟨rfl,rfl,rfl⟩:=c2
  exact aaF hm R live tk f h0 d
 by_cases R9:a=3/\e=true/\c=false
 .obtain⟨rfl,rfl,rfl⟩:=R9
  exact Ux hm R live tk f h0 d
 by_cases Bv:a=3/\e=true/\c=true
 .obtain⟨rfl,rfl,rfl⟩:=Bv
  exact Qa hm R live tk f h0 d
 by_cases c12:a=12/\e=false/\c=false
 .obtain⟨rfl,rfl,rfl⟩:=c12
  exact Uz hm R live tk f h0 d
 exfalso
 apply hb
 have g:∀b:Bool,b=true\/b=false:=λb=>by cases b<;>simp
 rcases g e with rfl|rfl<;>rcases g c with rfl|rfl<;>simp_all [hd]
theorem Mn {k:Nat}(h0:RR X γ w0 w):LW X r γ k (at_ .r0 n) (UL X.Fd fr cs) w:=
 jA hm R (λk' _=>heads hm R live tk k') h0 (.inl rfl) rfl ϛ (it':=0) ϛ (lS0 ..) (ak6 ..) λv=>aeT _ _ _ v
theorem fast {k:Nat}(h0:RR X γ w0 w):LW X r γ k (at_ .l0 n) (resume (gD1 X.Fd fr cs) U) w:=by
 refine aF ⟨200,_,ak8 _ _ _⟩ ?_;refine D9 hm R (T1:=at_ .le n) (T2:=at_ .r0 n) (.inr (.inl rfl)) (lC1 _ _ _) (λs e=>by simp[mv,e]) (λs _ e=>⟨(at_ .r0 n,s),by simp[mv,e],.inr rfl⟩) rfl ϛ rfl ϛ (λk' w' b hr=>?_) (λ_ k' w' b hr=>?_)
 .exact aF ⟨200,_,alb _ _ _⟩ (G5 hm R (lE1 _ _ _) ⟨200,_,ak7 _ _ _⟩ (lV1 _ _ _) ak3 ak4 ak2 ⟨200,_,ak5 _ _ _⟩ (lA1 _ _ _) ⟨6,_,alc _ _ _⟩ ((h0.trans X hr).live live) λk w1 d o a=>tk k w1 d o ((h0.trans X hr).trans X a))
 .exact aF ⟨200,_,ala _ _ _⟩ (Mn hm R live tk (h0.trans X hr))
theorem Mo {k:Nat}:LW X r γ k (at_ .out (n+1)) (gL0 X.Fd fr cs) w0:=by
 refine aF ⟨200,_,lL0 _ _ _⟩ (jH λk' w₁ b hr=>?_);refine⟨(bk (lD1 _ _ _)).1,(bk (lD1 _ _ _)).2,ϛ,ϛ,λs a c=>⟨by simp[mv],λd hd _=>?_⟩⟩;refine⟨(at_ .l0 n,s),by simp[mv],λ_=>⟨ϛ,resume (gD1 X.Fd fr cs) U,w₁,#[sK .disable],?_,a,.refl _,by simp[EvStop,kb],?_⟩⟩
 .rw[hm]
  exact kq K3 .disable MS (lD1 _ _ _)
 .unfold After
  rw[ζ ϛ,hm];have:=fast hm R live tk (k:=k') hr;exact this
end
section
variable (F:Nat)(pf:κ)(cs:List κ)(v:Int)
def gU0:Θ:=G {(base 202).at ⟨#[pt F]++Array.replicate 5 ϗ,[]⟩ [.code (tK 202)] with kind:= .deferred} ({pf with mode:= .returning}::cs)
def uL:Θ:=O (gU0 F pf cs)
def adQ:az PP false (gU0 F pf cs) (uL F pf cs):=⟨200,cj PP false 200 (gU0 F pf cs),λa=>ϰ⟩
def V5:aY (uL F pf cs)=some (.load 21 (pt F)):=ϰ
def akp:(PP.funcs[(uL F pf cs).frame.fn]?).any (·.norace)=true:=ϰ
def uV:Θ:=O (resume (uL F pf cs) (.int .i32 v))
def adL:az PP false (resume (uL F pf cs) (.int .i32 v)) (uV F pf cs v):=⟨200,cj PP false 200 (resume (uL F pf cs) (.int .i32 v)),λa=>ϰ⟩
def adI:aY (uV F pf cs v)=some (.conv (Bp (uV 0 default [] 0)) (CK (uV 0 default [] 0)) (pt F)):=ϰ
def akn:PP.underlying (Bp (uV 0 default [] 0))=some (.pointer (CJ (uV 0 default [] 0))):=ϰ
def ako:PP.underlying (CK (uV 0 default [] 0))=some .unsafePointer:=ϰ
def akm:(PP.info? (CJ (uV 0 default [] 0))).map (λi=>decide (i.size=0))=some false:=ϰ
def uR:Θ:=O (resume (uV F pf cs v) (pt F))
def adH:az PP false (resume (uV F pf cs v) (pt F)) (uR F pf cs v):=⟨200,cj PP false 200 (resume (uV F pf cs v) (pt F)),λa=>ϰ⟩
def Oh:aJ (uR F pf cs v)=some (193,#[pt F]):=ϰ
def uD:Θ:=O (resume (uR F pf cs v) U)
def adK:az PP false (resume (uR F pf cs v) U) (uD F pf cs v):=⟨200,cj PP false 200 (resume (uR F pf cs v) U),λa=>ϰ⟩
def Xh:aJ (uD F pf cs v)=some (168,#[]):=ϰ
def uA:Θ:=O (resume (uD F pf cs v) U)
def adN:az PP false (resume (uD F pf cs v) U) (uA F pf cs v):=⟨200,cj PP false 200 (resume (uD F pf cs v) U),λa=>ϰ⟩
def Xi:aJ (uA F pf cs v)=some (219,#[pt F,.int .i32 (-1)]):=ϰ
def uE (x:Int):Θ:=O (resume (uA F pf cs v) (.int .i32 x))
def akv:az PP false (resume (uA F pf cs v) (.int .i32 0)) (uE F pf cs v 0):=⟨200,cj PP false 200 (resume (uA F pf cs v) (.int .i32 0)),λa=>ϰ⟩
def aku:az PP false (resume (uA F pf cs v) (.int .i32 2)) (uE F pf cs v 2):=⟨200,cj PP false 200 (resume (uA F pf cs v) (.int .i32 2)),λa=>ϰ⟩
def akt:az PP false (resume (uA F pf cs v) (.int .i32 8)) (uE F pf cs v 8):=⟨200,cj PP false 200 (resume (uA F pf cs v) (.int .i32 8)),λa=>ϰ⟩
def adO:az PP false (resume (uA F pf cs v) (.int .i32 12)) (uE F pf cs v 12):=⟨200,cj PP false 200 (resume (uA F pf cs v) (.int .i32 12)),λa=>ϰ⟩
def aks:aJ (uE F pf cs v 0)=some (170,#[]):=ϰ
def akr:aJ (uE F pf cs v 2)=some (170,#[]):=ϰ
def akq:aJ (uE F pf cs v 8)=some (217,#[pt F,.int .i32 8,.int .i32 2]):=ϰ
def adM:aJ (uE F pf cs v 12)=some (227,#[sD F,.bool true,.int .i64 2]):=ϰ
def uS:Θ:=O (resume (uE F pf cs v 8) (.bool true))
def adP:az PP false (resume (uE F pf cs v 8) (.bool true)) (uS F pf cs v):=⟨200,cj PP false 200 (resume (uE F pf cs v 8) (.bool true)),λa=>ϰ⟩
def Xc:aJ (uS F pf cs v)=some (227,#[sD F,.bool false,.int .i64 2]):=ϰ
def uF8:Θ:=O (resume (uS F pf cs v) U)
def adJ:az PP false (resume (uS F pf cs v) U) (uF8 F pf cs v):=⟨200,cj PP false 200 (resume (uS F pf cs v) U),λa=>ϰ⟩
def Xe:aJ (uF8 F pf cs v)=some (170,#[]):=ϰ
def Sp:Θ:=O (resume (uE F pf cs v 12) U)
def Xj:az PP false (resume (uE F pf cs v 12) U) (Sp F pf cs v):=⟨200,cj PP false 200 (resume (uE F pf cs v 12) U),λa=>ϰ⟩
def So:aJ (Sp F pf cs v)=some (170,#[]):=ϰ
def Xg:az PP false (resume (uE F pf cs v 0) U) (G {pf with mode:= .returning} cs):=⟨6,cj PP false 6 (resume (uE F pf cs v 0) U),λa=>ϰ⟩
def Xf:az PP false (resume (uE F pf cs v 2) U) (G {pf with mode:= .returning} cs):=⟨6,cj PP false 6 (resume (uE F pf cs v 2) U),λa=>ϰ⟩
def Xd:az PP false (resume (uF8 F pf cs v) U) (G {pf with mode:= .returning} cs):=⟨6,cj PP false 6 (resume (uF8 F pf cs v) U),λa=>ϰ⟩
def Sn:az PP false (resume (Sp F pf cs v) U) (G {pf with mode:= .returning} cs):=⟨6,cj PP false 6 (resume (Sp F pf cs v) U),λa=>ϰ⟩
end
def ZN {Δ:Type}{X:Cx Δ}{g:Θ}{w:Ω}{s:Sh}(hv:aY g=some (.load 21 (pt X.Fd)))(b:(PP.funcs[g.frame.fn]?).any (·.norace)=true)(c:ShAt X w s):stepG PP false g w= .go (resume g (.int .i32 s.mu)) w #[]:=by
 refine Wp hv c.cMu ?_ ?_ b
 .intro w
  cases a:w.cell? ⟨X.Fd,0,none⟩ with
  |none=>simp[mA]
  |some x=>simp[go_sem,a,mA,pt]
 .intro w x d
  simp[go_sem,d,mA,pt]
section
variable {Δ:Type}{X:Cx Δ}{r:bB}{k n:Nat}{γ:Gh Δ}{w:Ω}{pf:κ}{cs:List κ}{c d:Δ}
def Ev (hm:x6 r=false)(R:Room X γ)(T:¬γ.own X.M)(live:∃s,ShAt X w s)(S:∃o,w.heap[X.M]? =some o/\Ef X r c d o)(v:∀k w',RR X γ w w'->LW X r {γ with mine:=c,other:=d} k (at_ .out n) (G {pf with mode:= .returning} cs) w'):
  aG PP false (gX X false γ.ro) (eK (KX X PP k r) (at_ .ur n) {γ with own:=λb=>γ.own b\/b=X.M,other:=d}) (λb=>γ.own b\/b=X.M) (gU0 X.Fd pf cs) w:=by
 have sub:∀{w w':Ω},RX X γ.ro (λb=>γ.own b\/b=X.M) w w'->RR X γ w w':=λh=>⟨h.tape,h.output,h.size,h.os,λb hb y=>h.keep b hb (y.imp .inl id),h.live⟩
 have R':Room X {γ with mine:=c,other:=d}:=⟨R.ne,R.off⟩
 refine aF (adQ ..) (aG.step (dy (V5 ..)).1 λw₁ hr=>?_);have⟨K,I⟩:=hr.live live;refine⟨_,w₁,#[],ZN (V5 ..) (akp ..) I,(k7 _ _ _ w₁).1,?_⟩;have L:=(k7 (X:=X) false γ.ro (λb=>γ.own b\/b=X.M) w₁).2;rw[L];refine aF (adL ..) (tn (adI ..) akn ako akm (λf a=>?_) (aF (adH ..) ?_))
 .have⟨s,I⟩:=(hr.trans X a).live live
  exact⟨_,I.cMu⟩
 cases k with
 |zero=>exact aG.stop λf a=>⟨c,λh=>absurd rfl h,trivial⟩
 |succ k=>
 refine aG.stop λf a=>⟨c,λh=>absurd rfl h,?_⟩
 have⟨o,y,F⟩:=S;have C:=(Ψ.1 y).1;have u:=hr.trans X a;have J:f.heap[X.M]? =some o:=(u.keep X.M C (.inl (.inr rfl))).trans y;refine⟨(bk (Oh ..)).1,(bk (Oh ..)).2,ϛ,λ_=>⟨o,J,F⟩,λs H O=>⟨by simp[mv],λV _ _=>?_⟩⟩
 refine⟨(at_ .ud n,s),by simp[mv],λ_=>⟨ϛ,resume (uR X.Fd pf cs K.mu) U,f,#[sK (.releaseMerge (mA X))],?_,H,.refl _,by simp[EvStop,kb],?_⟩⟩
 .rw[hm]
  exact iJ xRm .releaseMerge fRm (Oh ..)
 unfold After;rw[ζ ϛ,hm];have Q:jZ X .ur (λb=>γ.own b\/b=X.M)=γ.own:=by
  funext b
  show((γ.own b\/b=X.M)/\b≠X.M)=γ.own b;exact propext ⟨λh=>h.1.resolve_right h.2,λh=>⟨.inl h,λe=>T (e▸h)⟩⟩
 have B:LW X r {γ with mine:=c,other:=d} k (at_ .ud n) (uD X.Fd pf cs K.mu) f:=?_
 .have:=aF (adK X.Fd pf cs _) B
  rw[<-Q] at this;exact this
 have j:RR X γ w f:=sub u;have i:∀{D:Nat}{w1:Ω}{z:Θ},RR X γ w w1->aJ z=some (170,#[])->az PP false (resume z U) (G {pf with mode:= .returning} cs)->LW X r {γ with mine:=c,other:=d} D (at_ .ue n) z w1:=by
  intro D w1 z h1 hc hg;exact yB hm R' (T':=at_ .out n) (m:= .enable) xEn ϛ fEn hc (by simp[mv]) (by simp[EvStop,kb]) ϛ ϛ ϛ ϛ ϛ ϛ λk' w' W hr=>aF hg (v k' w' (h1.trans X hr))
 refine yB hm R' (T':=at_ .u0 n) (m:= .disable) K3 ϛ MS (Xh ..) (by simp[mv]) (by simp[EvStop,kb]) ϛ ϛ ϛ ϛ ϛ ϛ λD w1 P l=>?_
 refine aF (adN ..) (Rw hm R' (.inr rfl) (Xi ..) λs O=>?_)
 by_cases h1:s.mu=1
 .refine⟨(at_ .ue n,{s with mu:=0}),by simp[mv,h1],.inr ⟨by rw[h1];rfl,rfl,ϛ,λk2 w2 p a=>?_⟩⟩
  rw[h1];exact aF (akv ..) (i ((j.trans X l).trans X a) (aks ..) (Xg ..))
 by_cases t:s.mu=3
 .refine⟨(at_ .ue n,{s with mu:=2}),by simp[mv,h1,t],.inr ⟨by rw[t];rfl,rfl,ϛ,λk2 w2 p a=>?_⟩⟩
  rw[t];exact aF (aku ..) (i ((j.trans X l).trans X a) (akr ..) (Xf ..))
 by_cases x:s.mu=9
 .refine⟨({pc:= .uc,old:=8,nw:=2,n:=n},{s with mu:=8}),by simp[mv,h1,t,x],.inr ⟨by rw[x];rfl,rfl,ϛ,λk2 w2 p a=>?_⟩⟩
  rw[x];refine aF (akt ..) (D9 hm R' (T1:=at_ .us n) (T2:=at_ .bad n) (.inr (.inr rfl)) (akq ..) (λs e=>by simp[mv,e]) (λs _ e=>⟨(at_ .bad n,s),by simp[mv,e],.inl rfl⟩) rfl ϛ rfl ϛ (λk3 Y M E=>?_) (λh=>absurd rfl h));refine aF (adP ..) (Rt hm R' rfl (Xc ..) rfl λk4 N A q=>aF (adJ ..) ?_)
  exact i ((((j.trans X l).trans X a).trans X E).trans X q) (Xe ..) (Xd ..)
 by_cases g:s.mu=13
 .refine⟨(at_ .us n,{s with mu:=12}),by simp[mv,h1,t,x,g],.inr ⟨by rw[g];rfl,rfl,ϛ,λk2 w2 p a=>?_⟩⟩
  rw[g];refine aF (adO ..) (Rt hm R' rfl (adM ..) rfl λk4 N A q=>aF (Xj ..) ?_);exact i (((j.trans X l).trans X a).trans X q) (So ..) (Sn ..)
 .exact⟨(at_ .bad n,s),by simp[mv,h1,t,x,g],.inl rfl⟩
end
section
variable {Δ:Type}{X:Cx Δ}{r:bB}{k n:Nat}{T:Lo}{γ:Gh Δ}{own:Nat->Prop}{g:Θ}{w:Ω}
def ph {b:Bool}(hd:b=false){ro:ϒ}{Stop:(Nat->Prop)->Θ->Ω->Prop}{t:η}{a:Addr}{v:Φ}(h:aY g=some (.load t (.pointer (some a))))(ha:∀w,(isAgg t).run PP w= .ok false w)(f:∀w,(isAgg t).events PP w #[]=#[])(hb:own a.block\/ro a.block)(hc:w.cell? a=some v)(k:aG PP false (gX X b ro) Stop own (resume g v) w):aG PP false (gX X b ro) Stop own g w:=by
 subst hd;refine aG.step (dy h).1 λw₁ hr=>?_
 have d:a.block<w.heap.size:=by
  unfold World.cell? at hc;cases i:w.heap[a.block]? with
  |none=>rw[i] at hc;simp at hc
  |some o=>exact(Ψ.1 i).1
 have c:w₁.cell? a=some v:=by
  unfold World.cell? at hc⊢;rw[hr.keep a.block d hb];exact hc
 have⟨es,e1,e2⟩:=oJ (P:=PP) (main:=false) (w:=w₁) (w':=w₁) (x:=v) h (by simp[lE.sem,go_sem,ha,c]);refine⟨_,w₁,es,e1,⟨rfl,rfl,ι _,.refl _,λ_ _ _=>rfl,λe j=>?_,λh=>absurd h ϛ⟩,?_⟩
 .have:=e2 e j
  simp[lE.sem,go_sem,ha,f,c] at this;subst this;rcases hb with hb|hb
  .exact .inl ⟨a.block,.inl hb,.inl ⟨a,rfl,rfl⟩⟩
  .exact .inl ⟨a.block,.inr (.inr ⟨hb,rfl⟩),.inl ⟨a,rfl,rfl⟩⟩
 .have:=(k7 (X:=X) false ro own w₁).2
  rw[this];exact k.rely hr
end
section
variable (bw bf F W bd bs:Nat)(dv:Φ)(sd:Int)
def pb (b:Nat):Φ:= .pointer (some ⟨b,0,none⟩)
def ldT (g:Θ):η:=match aY g with|some (.load t _)=>t|_=>0
def sM:Φ:= .func (.func 131) #[] #[pb F,pb bd,pb bs]
def gW0:Θ:=Go.Conc.born PP {target:= .fn (.func 163) #[pb bw,pb bf],args:=#[]}
def gW1:Θ:=O (gW0 bw bf)
def abm:az PP false (gW0 bw bf) (gW1 bw bf):=aP λa=>ϰ
def abk:aY (gW1 bw bf)=some (.load (ldT (gW1 0 0)) (.pointer (some ⟨bf,0,none⟩))):=ϰ
def gW2:Θ:=O (resume (gW1 bw bf) (sM F bd bs))
def abl:az PP false (resume (gW1 bw bf) (sM F bd bs)) (gW2 bw bf F bd bs):=aP λa=>ϰ
def abi:aY (gW2 bw bf F bd bs)=some (.load (ldT (gW2 0 0 0 0 0)) (.pointer (some ⟨bd,0,none⟩))):=ϰ
def gW3:Θ:=O (resume (gW2 bw bf F bd bs) dv)
def abj:az PP false (resume (gW2 bw bf F bd bs) dv) (gW3 bw bf F bd bs dv):=aP λa=>ϰ
def abg:aY (gW3 bw bf F bd bs dv)=some (.load (ldT (gW3 0 0 0 0 0 dv)) (.pointer (some ⟨bs,0,none⟩))):=ϰ
def cW:List κ:=(On 1 (resume (gW3 bw bf F bd bs dv) (.int .i64 sd))).callers
def fW:κ:=(cW bw bf F bd bs dv sd).head?.getD default
def tW:List κ:=(cW bw bf F bd bs dv sd).tail
def gK0 (fr:κ)(cs:ϙ):Θ:=Qk 132 #[pb F,dv,.int .i64 sd] 46 fr cs
def abh:az PP false (resume (gW3 bw bf F bd bs dv) (.int .i64 sd)) (gK0 F dv sd (fW bw bf F bd bs dv sd) (tW bw bf F bd bs dv sd)):=aS 1 (cj PP false 1 (resume (gW3 bw bf F bd bs dv) (.int .i64 sd))) λa=>ϰ
def gX0:Θ:=da (fW bw bf F bd bs dv sd) (tW bw bf F bd bs dv sd) U
def gX1:Θ:=O (gX0 bw bf F bd bs dv sd)
def abf:az PP false (gX0 bw bf F bd bs dv sd) (gX1 bw bf F bd bs dv sd):=aP λa=>ϰ
def abd:aY (gX1 bw bf F bd bs dv sd)=some (.load (ldT (gX1 0 0 0 0 0 dv 0)) (.pointer (some ⟨bw,0,none⟩))):=ϰ
def R7:Θ:=O (resume (gX1 bw bf F bd bs dv sd) (pb W))
def abe:az PP false (resume (gX1 bw bf F bd bs dv sd) (pb W)) (R7 bw bf F W bd bs dv sd):=aP λa=>ϰ
def abc:aY (R7 bw bf F W bd bs dv sd)=some (.conv (Bp (R7 0 0 0 0 0 0 dv 0)) (CK (R7 0 0 0 0 0 0 dv 0)) (pb W)):=ϰ
def ag8:PP.underlying (Bp (R7 0 0 0 0 0 0 dv 0))=some (.pointer (CJ (R7 0 0 0 0 0 0 dv 0))):=ϰ
def ag9:PP.underlying (CK (R7 0 0 0 0 0 0 dv 0))=some .unsafePointer:=ϰ
def ag7:(PP.info? (CJ (R7 0 0 0 0 0 0 dv 0))).map (λi=>decide (i.size=0))=some false:=ϰ
def gX3:Θ:=O (resume (R7 bw bf F W bd bs dv sd) (pb W))
def abb:az PP false (resume (R7 bw bf F W bd bs dv sd) (pb W)) (gX3 bw bf F W bd bs dv sd):=aP λa=>ϰ
def I2:aJ (gX3 bw bf F W bd bs dv sd)=some (193,#[pb W]):=ϰ
def gX4:Θ:=O (resume (gX3 bw bf F W bd bs dv sd) U)
def aa9:az PP false (resume (gX3 bw bf F W bd bs dv sd) U) (gX4 bw bf F W bd bs dv sd):=aP λa=>ϰ
def UK:aJ (gX4 bw bf F W bd bs dv sd)=some (168,#[]):=ϰ
def gX5:Θ:=O (resume (gX4 bw bf F W bd bs dv sd) U)
def aa8:az PP false (resume (gX4 bw bf F W bd bs dv sd) U) (gX5 bw bf F W bd bs dv sd):=aP λa=>ϰ
def UJ:aJ (gX5 bw bf F W bd bs dv sd)=some (176,#[]):=ϰ
def Bh:Θ:=O (resume (gX5 bw bf F W bd bs dv sd) (.bool false))
def aa7:az PP false (resume (gX5 bw bf F W bd bs dv sd) (.bool false)) (Bh bw bf F W bd bs dv sd):=aP λa=>ϰ
end
section
variable (bw bf F W bd bs:Nat)(dv:Φ)(sd:Int)
def KA:aJ (Bh bw bf F W bd bs dv sd)=some (213,#[pb W,.int .u64 18446744069414584320]):=ϰ
def gY (n:Int):Θ:=O (resume (Bh bw bf F W bd bs dv sd) (.int .u64 n))
def aa5:az PP false (resume (Bh bw bf F W bd bs dv sd) (.int .u64 1)) (gY bw bf F W bd bs dv sd 1):=aP λa=>ϰ
def aa6:jx (gY bw bf F W bd bs dv sd 0)=some (170,#[]):=ϰ
def aa4:jx (gY bw bf F W bd bs dv sd 4294967296)=some (170,#[]):=ϰ
def aa3:jx (gY bw bf F W bd bs dv sd 4294967297)=some (170,#[]):=ϰ
def Qg:aJ (gY bw bf F W bd bs dv sd 1)=some (203,#[pb W]):=ϰ
def gZ1:Θ:=O (resume (gY bw bf F W bd bs dv sd 1) (.int .u64 1))
def UI:az PP false (resume (gY bw bf F W bd bs dv sd 1) (.int .u64 1)) (gZ1 bw bf F W bd bs dv sd):=aP λa=>ϰ
def Qf:aJ (gZ1 bw bf F W bd bs dv sd)=some (214,#[pb W,.int .u64 0]):=ϰ
def WD:Θ:=O (resume (gZ1 bw bf F W bd bs dv sd) U)
def aa2:az PP false (resume (gZ1 bw bf F W bd bs dv sd) U) (WD bw bf F W bd bs dv sd):=aP λa=>ϰ
def DU:aJ (WD bw bf F W bd bs dv sd)=some (200,#[sD W,.bool false,.int .i64 0]):=ϰ
def gZ3:Θ:=O (resume (WD bw bf F W bd bs dv sd) U)
def aa1:jx (gZ3 bw bf F W bd bs dv sd)=some (170,#[]):=ϰ
end
def I0 (P:ω):Nat->Θ->(Nat->Ω)->Option (List (Θ×Ω))
 |0,_,_=>some []
 |n+1,g,ws=>
  match g.status,stepG P false g (ws 0) with
  |.running,.go g' w' es=>if es.isEmpty then(match I0 P n g' (λi=>ws (i+1)) with|some l=>some ((g',w')::l)|none=>none) else none
  |_,_=>none
def pairs:List Θ->(Nat->Ω)->List (Θ×Ω)
 |[],_=>[]
 |x::l,ws=>(x,ws 0)::pairs l (λi=>ws (i+1))
def Cq (n:Nat)(g:Θ):List Θ:=match I0 PP n g (λ_=>default) with|some l=>l.map (·.1)|none=>[]
def jc {m d:Nat}:∀{n:Nat}{g:Θ}{L:List Θ},(∀k,I0 PP n g k=some (pairs L k))->QuitsD PP m d (L.getLastD g)->QuitsD PP (n+m) d g
 |0,g,L,h,q=>by
  have:=h λ_=>default
  simp only[I0,af5] at this;cases L with
  |nil=>rw[ϓ9];exact q
  |cons x l=>simp[pairs] at this
 |n+1,g,L,h,q=>by
  have b:∀w:Ω,g.status= .running/\∃x L',L=x::L'/\stepG PP false g w= .go x w #[]/\∀a:Nat->Ω,I0 PP n x a=some (pairs L' a):=by
   intro w;have h0:∀a:Nat->Ω,g.status= .running/\∃x L',L=x::L'/\stepG PP false g w= .go x w #[]/\I0 PP n x a=some (pairs L' a):=by
    intro a;have:=h λi=>match i with|0=>w|i+1=>a i
    simp only[I0] at this;cases e:g.status<;>rw[e] at this<;>(try cases this;done)
    cases f:stepG PP false g w<;>rw[f] at this<;>simp only at this<;>(try cases this;done)
    rename_i t w' es;split at this
    .rename_i j
     have j:es=#[]:=by simpa using j
     subst j;split at this
     .rename_i l r
      cases L with
      |nil=>simp[pairs] at this
      |cons x L'=>
       simp only[pairs,af5,List.cons.injEq,ai1] at this;obtain⟨⟨rfl,rfl⟩,rfl⟩:=this;exact⟨rfl,_,L',rfl,rfl,r⟩
     .cases this
    .cases this
   have⟨e,x,L',e1,e2,_⟩:=h0 λ_=>w
   refine⟨e,x,L',e1,e2,λa=>?_⟩;have⟨_,y,p,c,f2,s⟩:=h0 a;rw[e1] at c;cases c;exact s
  have⟨e,x,L',e1,e2,o⟩:=b default;rw[show n+1+m=n+m+1 by omega];refine QuitsD.ctl e (λw=>?_) (jc (L:=L') o ?_)
  .have⟨_,y,p,c,f2,_⟩:=b w
   rw[e1] at c;cases c;exact f2
  .rw[e1] at q
   cases L' with
   |nil=>exact q
   |cons z l=>exact q
def uq {g:Θ}{n:Nat}(h:jx g=some (170,#[]))(q:QuitsD PP n 0 (dJ g)):QuitsD PP (n+1) 1 g:=
 .said ⟨.mark .enable,false,true⟩ rfl (qT h).1 (λw=>kr xEn .enable ϛ fEn h) q
section
variable (bw bf F W bd bs:Nat)(dv:Φ)(sd:Int)
def ae9 (a:Ϭ):I0 PP 9 (dJ (gY bw bf F W bd bs dv sd 0)) a=some (pairs (Cq 9 (dJ (gY bw bf F W bd bs dv sd 0))) a):=ϰ
def ae7 (a:Ϭ):I0 PP 9 (dJ (gY bw bf F W bd bs dv sd 4294967296)) a=some (pairs (Cq 9 (dJ (gY bw bf F W bd bs dv sd 4294967296))) a):=ϰ
def ae6 (a:Ϭ):I0 PP 9 (dJ (gY bw bf F W bd bs dv sd 4294967297)) a=some (pairs (Cq 9 (dJ (gY bw bf F W bd bs dv sd 4294967297))) a):=ϰ
def ae8 (a:Ϭ):I0 PP 9 (dJ (gZ3 bw bf F W bd bs dv sd)) a=some (pairs (Cq 9 (dJ (gZ3 bw bf F W bd bs dv sd))) a):=ϰ
def aht:((Cq 9 (dJ (gY bw bf F W bd bs dv sd 0))).getLastD (dJ (gY bw bf F W bd bs dv sd 0))).status= .finished:=ϰ
def ahr:((Cq 9 (dJ (gY bw bf F W bd bs dv sd 4294967296))).getLastD (dJ (gY bw bf F W bd bs dv sd 4294967296))).status= .finished:=ϰ
def ahq:((Cq 9 (dJ (gY bw bf F W bd bs dv sd 4294967297))).getLastD (dJ (gY bw bf F W bd bs dv sd 4294967297))).status= .finished:=ϰ
def ahs:((Cq 9 (dJ (gZ3 bw bf F W bd bs dv sd))).getLastD (dJ (gZ3 bw bf F W bd bs dv sd))).status= .finished:=ϰ
def adA (a:Ϭ):I0 PP 87 (resume (Bh bw bf F W bd bs dv sd) (.int .u64 0)) a=some (pairs (Cq 87 (resume (Bh bw bf F W bd bs dv sd) (.int .u64 0))) a):=ϰ
def ahR:(Cq 87 (resume (Bh bw bf F W bd bs dv sd) (.int .u64 0))).getLastD (resume (Bh bw bf F W bd bs dv sd) (.int .u64 0))=gY bw bf F W bd bs dv sd 0:=ϰ
def Y9:∃n,QuitsD PP n 1 (resume (Bh bw bf F W bd bs dv sd) (.int .u64 0)):=⟨_,jc (adA bw bf F W bd bs dv sd) (by rw[ahR];exact uq (aa6 bw bf F W bd bs dv sd) (jc (m:=0) (ae9 bw bf F W bd bs dv sd) ⟨aht bw bf F W bd bs dv sd,rfl⟩))⟩
def ady (a:Ϭ):I0 PP 87 (resume (Bh bw bf F W bd bs dv sd) (.int .u64 4294967296)) a=some (pairs (Cq 87 (resume (Bh bw bf F W bd bs dv sd) (.int .u64 4294967296))) a):=ϰ
def ahP:(Cq 87 (resume (Bh bw bf F W bd bs dv sd) (.int .u64 4294967296))).getLastD (resume (Bh bw bf F W bd bs dv sd) (.int .u64 4294967296))=gY bw bf F W bd bs dv sd 4294967296:=ϰ
def Y7:∃n,QuitsD PP n 1 (resume (Bh bw bf F W bd bs dv sd) (.int .u64 4294967296)):=⟨_,jc (ady bw bf F W bd bs dv sd) (by rw[ahP];exact uq (aa4 bw bf F W bd bs dv sd) (jc (m:=0) (ae7 bw bf F W bd bs dv sd) ⟨ahr bw bf F W bd bs dv sd,rfl⟩))⟩
def adx (a:Ϭ):I0 PP 87 (resume (Bh bw bf F W bd bs dv sd) (.int .u64 4294967297)) a=some (pairs (Cq 87 (resume (Bh bw bf F W bd bs dv sd) (.int .u64 4294967297))) a):=ϰ
def ahO:(Cq 87 (resume (Bh bw bf F W bd bs dv sd) (.int .u64 4294967297))).getLastD (resume (Bh bw bf F W bd bs dv sd) (.int .u64 4294967297))=gY bw bf F W bd bs dv sd 4294967297:=ϰ
def Y6:∃n,QuitsD PP n 1 (resume (Bh bw bf F W bd bs dv sd) (.int .u64 4294967297)):=⟨_,jc (adx bw bf F W bd bs dv sd) (by rw[ahO];exact uq (aa3 bw bf F W bd bs dv sd) (jc (m:=0) (ae6 bw bf F W bd bs dv sd) ⟨ahq bw bf F W bd bs dv sd,rfl⟩))⟩
def adz (a:Ϭ):I0 PP 17 (resume (WD bw bf F W bd bs dv sd) U) a=some (pairs (Cq 17 (resume (WD bw bf F W bd bs dv sd) U)) a):=ϰ
def ahQ:(Cq 17 (resume (WD bw bf F W bd bs dv sd) U)).getLastD (resume (WD bw bf F W bd bs dv sd) U)=gZ3 bw bf F W bd bs dv sd:=ϰ
def Y8:∃n,QuitsD PP n 1 (resume (WD bw bf F W bd bs dv sd) U):=⟨_,jc (adz bw bf F W bd bs dv sd) (by rw[ahQ];exact uq (aa1 bw bf F W bd bs dv sd) (jc (m:=0) (ae8 bw bf F W bd bs dv sd) ⟨ahs bw bf F W bd bs dv sd,rfl⟩))⟩
end
def W9:Ext PP 176 Tryz.f176:=⟨func176,ϰ,ϰ,ϰ⟩
def ab0:Extern.find Tryz.f176=some (λ_=>pure (.bool false)):=ϰ
def N5:Ext PP 213 Tryz.f213:=⟨func213,ϰ,ϰ,ϰ⟩
def QM:Extern.find Tryz.f213=some (Extern.Atomic.update (Op.intArith .add) .u64 true):=ϰ
def W8:Ext PP 203 Tryz.f203:=⟨func203,ϰ,ϰ,ϰ⟩
def abW:Extern.find Tryz.f203=some (Extern.Atomic.loadT (.int .u64)):=ϰ
def ajP:Ext PP 214 Tryz.f214:=⟨func214,ϰ,ϰ,ϰ⟩
def amp:Extern.find Tryz.f214=some Extern.Atomic.storeT:=ϰ
def VZ:Ext PP 200 Tryz.f200:=⟨func200,ϰ,ϰ,ϰ⟩
def ahy:Extern.find Tryz.f200=some Extern.Sync.semrelease:=ϰ
section
variable {Δ:Type}{X:Cx Δ}{r:bB}{k n:Nat}{γ:Gh Δ}{w:Ω}{bw bf F bd bs:Nat}{dv:Φ}{sd:Int}
variable (hm:x6 r=false)(R:Room X γ)
include hm R
theorem ah9:LW X r γ k (at_ .d1 n) (Bh bw bf F X.Wg bd bs dv sd) w:=by
 refine jH λx w1 u A=>dM (bk (KA ..)) ϛ ϛ ϛ ϛ (λs _ f g=>?_) (λs b f _=>?_)
 .exfalso
  rcases f.2.2.1 with h|h|h|h|h|h<;>simp[mv,h,KKi] at g
 rw[hm];have c:=tU (P:=PP) (main:=false) (w:=w1) (ad:=wA X) N5 .u64 QM (KA bw bf F X.Wg bd bs dv sd) b.Nv (b.RY 0);have a:=b.setWg R.ne (IntKind.u64.wrap (s.wg+18446744069414584320));have d:=ConcM.Eff.set (w:=w1) (Mu:=X.Fd) (Wg:=X.Wg) (wA X) (.int .u64 (IntKind.u64.wrap (s.wg+18446744069414584320))) (.inr rfl)
 have i:∀{q:Lo×Sh},q∈mv (at_ .d1 n) s->q.1.pc= .bad->∃q∈mv (at_ .d1 n) s,q.1.pc≠.bad->∃g' w' es,stepG PP false (Bh bw bf F X.Wg bd bs dv sd) w1= .go g' w' es/\ShAt X w' q.2/\ConcM.Eff X.Fd X.Wg w1 w'/\EvStop X (at_ .d1 n) q.1 es/\
   (if q.1.pc= .quit then ∃n,QuitsD PP n 1 g' else aG PP false (gX X (fS q.1.pc) γ.ro) (eK (KX X PP x r) q.1 γ) γ.own g' w'):=λm hb=>⟨_,m,λh=>absurd hb h⟩
 rcases f.2.2.1 with h|h|h|h|h|h
 .exact i (q:=(at_ .bad n,s)) (by simp[mv,h,KKi]) rfl
 .exact i (q:=(at_ .bad n,s)) (by simp[mv,h,KKi]) rfl
 .have e:IntKind.u64.wrap (s.wg+18446744069414584320)=0:=by rw[h];decide
  rw[e] at c a d;refine⟨(at_ .quit n,{s with wg:=0}),by simp[mv,h,KKi],λ_=>⟨_,_,_,c,a,d,qQ (okW R.ne) rfl,?_⟩⟩;rw[φ rfl];exact Y9 ..
 .have e:IntKind.u64.wrap (s.wg+18446744069414584320)=1:=by rw[h];decide
  rw[e] at c a d;refine⟨(at_ .d2 n,{s with wg:=1}),by simp[mv,h,KKi],λ_=>⟨_,_,_,c,a,d,qQ (okW R.ne) rfl,?_⟩⟩;rw[ζ ϛ]
  refine aF (aa5 ..) (jH (T:=at_ .d2 n) λk2 w2 p z=>dM (bk (Qg ..)) ϛ ϛ ϛ ϛ (λs _ f g=>?_) (λs b f _=>?_))
  .exfalso
   by_cases h1:s.wg=1<;>simp[mv,h1] at g
  rw[hm]
  by_cases h1:¬s.wg=1
  .exact⟨(at_ .bad n,s),by simp[mv,h1],λh=>absurd rfl h⟩
  have h1:s.wg=1:=ϕ4.1 h1;have c:=s9 (P:=PP) (main:=false) (w:=w2) (ad:=wA X) W8 .u64 abW (Qg bw bf F X.Wg bd bs dv sd) b.Nv;rw[h1] at c;refine⟨(at_ .d3 n,s),by simp[mv,h1],λ_=>⟨_,_,_,c,b,.refl _,Gu (okW R.ne) rfl,?_⟩⟩;rw[ζ ϛ]
  refine aF (UI ..) (jH (T:=at_ .d3 n) λk3 l t y=>dM (bk (Qf ..)) ϛ ϛ ϛ ϛ (λs _ f g=>?_) (λs b f _=>?_))
  .exfalso
   by_cases h1:s.wg=1<;>simp[mv,h1] at g
  rw[hm]
  by_cases h1:¬s.wg=1
  .exact⟨(at_ .bad n,s),by simp[mv,h1],λh=>absurd rfl h⟩
  have h1:s.wg=1:=ϕ4.1 h1;have c:=EE (P:=PP) (main:=false) (w:=l) (ad:=wA X) ajP amp (Qf bw bf F X.Wg bd bs dv sd) b.Nv (b.RY 0);have a:=b.setWg R.ne 0;have d:=ConcM.Eff.set (w:=l) (Mu:=X.Fd) (Wg:=X.Wg) (wA X) (.int .u64 0) (.inr rfl);refine⟨(at_ .d4 n,{s with wg:=0}),by simp[mv,h1],λ_=>⟨_,_,_,c,a,d,amv (okW R.ne) rfl,?_⟩⟩;rw[ζ ϛ]
  refine aF (aa2 ..) (jH (T:=at_ .d4 n) λk4 j o B=>dM (bk (DU ..)) ϛ ϛ ϛ (λ_=>Er VZ (DU ..)) (λs _ f g=>by simp[mv] at g) (λs b f _=>?_));rw[hm];have v:IntKind.u32.wrap (s.ws+1)=s.ws+1:=by
   rcases f.2.2.2 with h|h<;>rw[h]<;>decide
  have c:=EH (P:=PP) (main:=false) (w:=j) (ad:=NP X) VZ ahy (DU bw bf F X.Wg bd bs dv sd) b.cWs (b.RY 1);rw[v] at c;have a:=b.setWs R.ne (s.ws+1);have d:=ConcM.Eff.set (w:=j) (Mu:=X.Fd) (Wg:=X.Wg) (NP X) (.int .u32 (s.ws+1)) (.inr rfl);refine⟨(at_ .quit n,{s with ws:=s.ws+1}),by simp[mv],λ_=>⟨_,_,_,c,a,d,DZ (afl R.ne) rfl,?_⟩⟩;rw[φ rfl]
  exact Y8 ..
 .have e:IntKind.u64.wrap (s.wg+18446744069414584320)=4294967296:=by rw[h];decide
  rw[e] at c a d;refine⟨(at_ .quit n,{s with wg:=KKi}),by simp[mv,h,KKi],λ_=>⟨_,_,_,c,a,d,qQ (okW R.ne) rfl,?_⟩⟩;rw[φ rfl];exact Y7 ..
 .have e:IntKind.u64.wrap (s.wg+18446744069414584320)=4294967297:=by rw[h];decide
  rw[e] at c a d;refine⟨(at_ .quit n,{s with wg:=KKi+1}),by simp[mv,h,KKi],λ_=>⟨_,_,_,c,a,d,qQ (okW R.ne) rfl,?_⟩⟩;rw[φ rfl];exact Y6 ..
theorem Ni (a:γ.mine=X.fin r):LW X r γ k (at_ .out n) (gX3 bw bf F X.Wg bd bs dv sd) w:=by
 refine jH λk' w₁ g hr=>?_
 refine⟨(bk (I2 ..)).1,(bk (I2 ..)).2,ϛ,ϛ,λs c h=>⟨by simp[mv],λd hd _=>?_⟩⟩;refine⟨(at_ .wk n,s),by simp[mv],λ_=>⟨λ_=>a,resume (gX3 bw bf F X.Wg bd bs dv sd) U,w₁,#[sK (.releaseMerge (wA X))],?_,c,.refl _,by simp[EvStop,kb],?_⟩⟩
 .rw[hm]
  exact iJ xRm .releaseMerge fRm (I2 ..)
 .unfold After
  rw[ζ ϛ,hm];have b:LW X r γ k' (at_ .wk n) (resume (gX3 bw bf F X.Wg bd bs dv sd) U) w₁:=by
   refine aF (aa9 ..) (yB hm R (T':=at_ .d1 n) (m:= .disable) K3 ϛ MS (UK ..) (by simp[mv]) (by simp[EvStop,kb]) ϛ ϛ ϛ ϛ ϛ ϛ λk2 w2 e f=>?_);exact aF (aa8 ..) (uw hm R W9 ab0 (UJ ..) (aF (aa7 ..) (ah9 hm R)))
  exact b
end
section
variable {Δ:Type}{X:Cx Δ}{r:bB}{k n:Nat}{γ:Gh Δ}{w:Ω}{bw bf bd bs:Nat}{dv:Φ}{sd:Int}
def N7 (hm:x6 r=false)(R:Room X γ)(live:∃s,ShAt X w s)(hb:γ.ro bw)(c:w.cell? ⟨bw,0,none⟩=some (pb X.Wg))(a:γ.mine=X.fin r):LW X r γ k (at_ .out n) (gX0 bw bf X.Fd bd bs dv sd) w:=by
 refine aF (abf ..) (ph rfl (abd ..) (λw=>ϰ) (λw=>ϰ) (.inr hb) c ?_);refine aF (abe ..) (tn (abc ..) (ag8 dv) (ag9 dv) (ag7 dv) (λw₁ hr=>?_) (aF (abb ..) (Ni hm R a)));have⟨s,b⟩:=hr.live live;exact⟨_,b.Nv⟩
def Sg {T:Lo}(d:fS T.pc=false)(f:γ.ro bf)(hd:γ.ro bd)(e:γ.ro bs)(b:w.cell? ⟨bf,0,none⟩=some (sM X.Fd bd bs))(c:w.cell? ⟨bd,0,none⟩=some dv)(a:w.cell? ⟨bs,0,none⟩=some (.int .i64 sd))(go:LW X r γ k T (gK0 X.Fd dv sd (fW bw bf X.Fd bd bs dv sd) (tW bw bf X.Fd bd bs dv sd)) w):LW X r γ k T (gW0 bw bf) w:=by
 refine aF (abm ..) (ph d (abk ..) (λw=>ϰ) (λw=>ϰ) (.inr f) b ?_);refine aF (abl ..) (ph d (abi ..) (λw=>ϰ) (λw=>ϰ) (.inr hd) c ?_);refine aF (abj ..) (ph d (abg ..) (λw=>ϰ) (λw=>ϰ) (.inr e) a ?_)
 exact aF (abh ..) go
end
def RT {α:Type}(s:Sem α)(w:Ω)(x:α)(w':Ω)(ev:Ϝ):Prop:=∀es,s.runT PP w es=(.ok x w',es++ev)
section
variable {α β:Type}{s:Sem α}{f:α->Sem β}{w w1 w2:Ω}{x:α}{y:β}{e1 e2:Array Event}
def RT.bind' (h:RT s w x w1 e1)(k:RT (f x) w1 y w2 e2):RT (s.bind f) w y w2 (e1++e2):=λes=>by
 rw[Sem.runT_bind',h es];dsimp only;rw[k,Array.append_assoc]
def RT.bind (h:RT s w x w1 e1)(k:RT (f x) w1 y w2 e2):RT (s>>=f) w y w2 (e1++e2):=h.bind' k
def RT.aT (h:RT s w x w1 #[])(k:RT (f x) w1 y w2 e2):RT (s>>=f) w y w2 e2:=by
 have:=h.bind k
 rwa [ϐ9] at this
def RT.fI (h:RT s w x w1 e1)(k:RT (f x) w1 y w2 #[]):RT (s>>=f) w y w2 e1:=by
 have:=h.bind k
 rwa [ϐ8] at this
def RT.pure (x:α):RT (Pure.pure x:Sem α) w x w #[]:=λes=>by show(Result.ok x w,es)=_;rw[ϐ8]
def RT.run (h:RT s w x w1 e1):s.run PP w= .ok x w1:=by rw[<-Sem.runT_fst PP s w #[],h #[]]
def RT.ev (h:RT s w x w1 e1):s.events PP w #[]=e1:=by
 show(s.runT PP w #[]).2=e1;rw[h #[]];simp
end
def iO {w:Ω}:RT program w PP w #[]:=λes=>by show(Result.ok PP w,es)=_;rw[ϐ8]
def uj {w:Ω}{t:η}{i:TypeInfo}(h:PP.info? t=some i):RT (typeInfo t) w i w #[]:=iO.aT (by rw[h];exact .pure i)
def iM {w:Ω}{t:η}{d:TypeDesc}(h:PP.underlying t=some d):RT (underlying t) w d w #[]:=iO.aT (by rw[h];exact .pure d)
def rv {w:Ω}{t:η}{n:Nat}(h:(PP.info? t).map (·.size)=some n):RT (Go.sizeOf t) w n w #[]:=by
 have⟨i,h1,h2⟩:=χ.1 h;exact(uj h1).aT (h2▸.pure _)
def yh {w:Ω}{t:η}{z:Φ}(h:(PP.info? t).bind (·.zero)=some z):RT (zeroValue t) w z w #[]:=by
 have⟨i,h1,h2⟩:=ϔ1.1 h;exact(uj h1).aT (by rw[h2];exact .pure _)
def iP {w:Ω}{t:η}{b:Bool}(h:(PP.underlying t).map (λd=>match d with|.struct _|.array _ _=>true|_=>false)=some b):RT (isAgg t) w b w #[]:=by
 have⟨d,h1,h2⟩:=χ.1 h;refine(iM h1).aT ?_;cases d<;>simp only at h2⊢<;>subst h2<;>exact .pure _
def jb {w:Ω}{r:Nat}{o:Obj}(h:w.heap[r]? =some o)(hc:∀c t f,o≠.cells c t f:=by simp):RT (getObj r) w o w #[⟨.obj r,false,o.isChan⟩]:=λes=>by
 unfold getObj;simp only[Sem.runT,h];cases o<;>first|(exact absurd rfl (hc ..))|simp
def ky {w:Ω}{r:Nat}{o a:Obj}(h:w.heap[r]? =some a)(hc:∀c t f,a≠.cells c t f:=by simp):RT (setObj r o) w () {w with heap:=w.heap.setIfInBounds r o} #[⟨.obj r,true,o.isChan⟩]:=λes=>by
 show(match w.heap[r]? with
  |some (.cells ..)=>_
  |some _=>_
  |none=>_)=_
 rw[h];cases a<;>first|(exact absurd rfl (hc _ _ _))|(show(Result.ok _ _,es.push _)=_;simp)
def qr {w:Ω}(o:Obj):RT (newObj o) w w.heap.size {w with heap:=w.heap.push o} #[]:=λes=>by show(Result.ok _ _,es)=_;rw[ϐ8]
def kP {w:Ω}{a:Addr}{v:Φ}(h:w.cell? a=some v):RT (load a) w v w #[⟨.cell a,false,false⟩]:=λes=>by
 unfold load;simp only[Sem.runT,h];simp;rfl
def OX {w:Ω}{a:Addr}{u v:Φ}(h:w.cell? a=some u)(b:w.frozen? a=false)(hv:mN v=true):RT (store a v) w () (w.setCell a v) #[⟨.cell a,true,false⟩]:=λes=>by
 show(Sem.store .plain a v (.pure ())).runT PP w es=_;rw[wZ hv,h];simp only[b];show(Result.ok _ _,es.push _)=_;simp;rfl
structure BA (b:Nat)(o:Obj)(w w':Ω):Prop where
 tape:w'.tape=w.tape
 output:w'.output=w.output
 os:w'.os=w.os
 size:w'.heap.size=w.heap.size
 at_:w'.heap[b]? =some o
 rest:∀c,c≠b->w'.heap[c]? =w.heap[c]?
def oI {w:Ω}{b:Nat}{o d:Obj}(h:w.heap[b]? =some d):BA b o w {w with heap:=w.heap.setIfInBounds b o}:=by
 have a:=(Ψ.1 h).1;exact⟨rfl,rfl,rfl,ϛ,by simp[a],λc hc=>by simp[ab1 hc.symm]⟩
def Oc {w:Ω}{b i:Nat}{cs:ϐ}{t:η}{f:Nat×Nat}{v:Φ}(h:w.heap[b]? =some (.cells cs t f)):BA b (.cells (cs.setIfInBounds i v) t f) w (w.setCell ⟨b,i,none⟩ v):=
 ⟨rfl,rfl,rfl,by simp[World.setCell],by rw[setCell_eq_setRow w b i cs t f v h,setRow_heap w b cs _ t f h],λc hc=>(aside_setCell w ⟨b,i,none⟩ v).block c hc⟩
def BA.trans {b:Nat}{o a:Obj}{w w1 w2:Ω}(h:BA b o w w1)(k:BA b a w1 w2):BA b a w w2:=
 ⟨k.tape.trans h.tape,k.output.trans h.output,k.os.trans h.os,k.size.trans h.size,k.at_,λc hc=>(k.rest c hc).trans (h.rest c hc)⟩
def cell_of {w:Ω}{b i:Nat}{cs:ϐ}{t:η}{f:Nat×Nat}{v:Φ}(h:w.heap[b]? =some (.cells cs t f))(a:cs[i]? =some v):w.cell? ⟨b,i,none⟩=some v:=by simp[World.cell?,h,a]
def Sw {w:Ω}{b i:Nat}{cs:ϐ}{t:η}(h:w.heap[b]? =some (.cells cs t (0,0))):w.frozen? ⟨b,i,none⟩=false:=by simp[World.frozen?,h]
def AF (b off i:Nat):Addr.add ⟨b,off,none⟩ i=⟨b,off+i,none⟩:=by
 unfold Addr.add
 by_cases h:i=0
 .subst h;rfl
 .rw[ζ h]
def lJ {w:Ω}{b:Nat}{cs:ϐ}{t:η}{f:Nat×Nat}(h:w.heap[b]? =some (.cells cs t f))(off:Nat):∀(n i:Nat)(acc:ϐ),off+i+n<=cs.size->
  ∃ev,RT (loadCellsFrom ⟨b,off,none⟩ i n acc) w (acc++cs.extract (off+i) (off+i+n)) w ev/\∀e∈ev,∃a:Addr,e=⟨.cell a,false,false⟩/\a.block=b
 |0,i,acc,_=>⟨#[],by
   have e:acc++cs.extract (off+i) (off+i+0)=acc:=by simp;omega
   rw[e];exact RT.pure (w:=w) acc,ϛ⟩
 |n+1,i,acc,hn=>by
  have d:off+i<cs.size:=ϖ
  have⟨ev,h1,h2⟩:=lJ h off n (i+1) (acc.push cs[off+i]) ϖ;refine⟨#[⟨.cell ⟨b,off+i,none⟩,false,false⟩]++ev,?_,?_⟩
  .have e:acc++cs.extract (off+i) (off+i+(n+1))=acc.push cs[off+i]++cs.extract (off+(i+1)) (off+(i+1)+n):=by
    apply Array.ext'
    simp[ϕ8];rw[show off+(i+1)=off+i+1 by omega,ae5 (by simpa using d)];simp
   have e2:loadCellsFrom ⟨b,off,none⟩ i (n+1) acc=(load (Addr.add ⟨b,off,none⟩ i)>>=λv=>loadCellsFrom ⟨b,off,none⟩ (i+1) n (acc.push v)):=by rw[loadCellsFrom]
   rw[e,e2,AF];exact(kP (w:=w) (a:=⟨b,off+i,none⟩) (cell_of h (τ d))).bind (f:=λv=>loadCellsFrom ⟨b,off,none⟩ (i+1) n (acc.push v)) h1
  .intro e c
   rcases ai4.1 c with c|c
   .simp at c
    subst c;exact⟨_,rfl,rfl⟩
   .exact h2 e c
def mg (cs:ϐ):List Φ->Nat->Array Φ
 |[],_=>cs
 |v::vs,i=>mg (cs.setIfInBounds i v) vs (i+1)
def nE {b:Nat}{t:η}(off:Nat):∀(c:ϡ)(i:Nat){w:Ω}{cs:ϐ},w.heap[b]? =some (.cells cs t (0,0))->off+i+c.length<=cs.size->(∀v∈c,mN v=true)->
  ∃w' ev,RT (storeCells ⟨b,off,none⟩ c i) w () w' ev/\BA b (.cells (mg cs c (off+i)) t (0,0)) w w'/\∀e∈ev,∃a:Addr,e=⟨.cell a,true,false⟩/\a.block=b
 |[],i,w,cs,h,_,_=>⟨w,#[],by simpa [storeCells] using RT.pure (w:=w) (),⟨rfl,rfl,rfl,rfl,h,λ_ _=>rfl⟩,ϛ⟩
 |v::c,i,w,cs,h,hn,hv=>by
  simp only[ϳ] at hn;have g:off+i<cs.size:=ϖ
  have u:=Oc (i:=off+i) (v:=v) h;have⟨w',ev,h1,h2,j⟩:=nE off c (i+1) u.at_ (by simp;omega) λx k=>hv x (by simp[k])
  have e2:storeCells ⟨b,off,none⟩ (v::c) i=(store (Addr.add ⟨b,off,none⟩ i) v>>=λ_=>storeCells ⟨b,off,none⟩ c (i+1)):=by rw[storeCells]
  rw[e2,AF];refine⟨w',#[⟨.cell ⟨b,off+i,none⟩,true,false⟩]++ev,(OX (w:=w) (a:=⟨b,off+i,none⟩) (cell_of h (τ g)) (Sw h) (hv v ϛ)).bind (f:=λ_=>storeCells ⟨b,off,none⟩ c (i+1)) h1,u.trans h2,λe d=>?_⟩;rcases ai4.1 d with d|d
  .simp at d
   subst d;exact⟨_,rfl,rfl⟩
  .exact j e d
def EvB (b:Nat)(e:Event):Prop:=e.sync=false/\mP b e.loc
def j5 {b:Nat}{a:Addr}{x:Bool}(h:a.block=b):EvB b ⟨.cell a,x,false⟩:=⟨rfl,.inl ⟨a,rfl,h⟩⟩
def eO {b:Nat}{x:Bool}:EvB b ⟨.obj b,x,false⟩:=⟨rfl,.inr rfl⟩
section
variable {w:Ω}{b:Nat}{t:η}
def kY {cs:ϐ}{u:η}{f:Nat×Nat}{off n:Nat}(h:w.heap[b]? =some (.cells cs u f))(ha:(PP.underlying t).map (λd=>match d with|.struct _|.array _ _=>true|_=>false)=some true)(c:(PP.info? t).map (·.size)=some n)(i:off+n<=cs.size):
  ∃ev,RT (lE.load t (.pointer (some ⟨b,off,none⟩))).sem w (.value (.agg (cs.extract off (off+n)))) w ev/\∀e∈ev,EvB b e/\e.write=false:=by
 have⟨ev,h1,h2⟩:=lJ h off n 0 #[] ϖ;refine⟨ev,RT.fI (x:= .agg (cs.extract off (off+n))) ?_ (.pure _),λe g=>?_⟩
 .show RT (do if<-isAgg t then Pure.pure (.agg (<-loadCells ⟨b,off,none⟩ (<-Go.sizeOf t))) else load ⟨b,off,none⟩) w _ w ev
  refine(iP ha).aT ?_;simp only[if_true];refine(rv c).aT ?_;refine RT.fI ?_ (.pure _);simpa [loadCells] using h1
 .obtain⟨a,rfl,hb⟩:=h2 e g
  exact⟨j5 hb,rfl⟩
def iN {cs:ϐ}{u:η}{off:Nat}{v:Φ}(h:w.heap[b]? =some (.cells cs u (0,0)))(f:(PP.info? t).map (·.size)=some v.cells.size)(c:off+v.cells.size<=cs.size)(h1:∀x∈v.cells.toList,mN x=true):
  ∃w' ev,RT (lE.store t (.pointer (some ⟨b,off,none⟩)) v).sem w .skip w' ev/\BA b (.cells (mg cs v.cells.toList off) u (0,0)) w w'/\∀e∈ev,EvB b e:=by
 have⟨w',ev,h2,g,d⟩:=nE off v.cells.toList 0 h (by simpa using c) h1;refine⟨w',ev,RT.fI (x:=()) ?_ (.pure _),g,λe i=>?_⟩
 .show RT (do
   if v.cells.size≠(<-Go.sizeOf t) then stuck "storeVar: the value has not the size of the variable"
   storeCells ⟨b,off,none⟩ v.cells.toList) w _ w' ev
  refine(rv f).aT ?_;simp only[ne_eq,not_true,if_false];exact RT.aT (.pure _) h2
 .obtain⟨a,rfl,hb⟩:=d e i
  exact j5 hb
def zi (t:η)(v:Φ):RT (lE.box t v).sem w (.value (.pointer (some ⟨w.heap.size,0,none⟩))) {w with heap:=w.heap.push (.cells v.cells t (0,0))} #[]:=
 RT.aT (x:= .pointer (some ⟨w.heap.size,0,none⟩)) (RT.aT (x:=⟨w.heap.size,0,none⟩) (RT.aT (qr _) (.pure _)) (.pure _)) (.pure _)
def n6 {z:Φ}(h:(PP.info? t).bind (·.zero)=some z):RT (lE.alloc t).sem w (.value (.pointer (some ⟨w.heap.size,0,none⟩))) {w with heap:=w.heap.push (.cells z.cells t (0,0))} #[]:=
 RT.aT (x:= .pointer (some ⟨w.heap.size,0,none⟩)) ((yh h).aT (RT.aT (x:=⟨w.heap.size,0,none⟩) (RT.aT (qr _) (.pure _)) (.pure _))) (.pure _)
def Ij (t:η):RT (lE.makeMap t).sem w (.value (.map (some w.heap.size))) {w with heap:=w.heap.push (.map #[] 0)} #[]:=
 RT.aT (x:= .map (some w.heap.size)) (RT.aT (qr _) (.pure _)) (.pure _)
end
open Go.MapKept in
structure dS (es:Array ai3)(c:Nat)(f:Ξ->Option Φ):Prop where
 stamped:Stamped es c
 keys:∀e∈es.toList,IsKey .string e.key
 has:∀s v,f s=some v↔∃e∈es.toList,e.key= .string s/\e.val=v
section
open Go.MapKept
variable {w:Ω}{m:Nat}{t kt vt:η}{es:Array ai3}{c:Nat}{f:Ξ->Option Φ}{s:Ξ}{z v:Φ}
def jK {k:Φ}(h:IsKey .string k):∃s,k= .string s:=by cases k<;>simp_all [IsKey]
def dS.uniq (h:dS es c f){x y:ai3}(l:x∈es.toList)(k:y∈es.toList)(g:x.key=y.key):x=y:=by
 have b:=((stamped_iff es c).1 h.stamped).2.2;rw[ϑ3] at b;obtain⟨i,e,rfl⟩:=ϐ7.1 l;obtain⟨j,d,rfl⟩:=ϐ7.1 k;rcases ϓ6 i j with a|rfl|a
 .exact absurd g (b i j e d a)
 .rfl
 .exact absurd g.symm (b j i d e a)
def dS.empty (c:Nat):dS #[] c λ_=>none:=⟨stamped_empty c,ϛ,ϛ⟩
def xd {w:Ω}{e:Bool}{n:Nat}{kt:η}{s:Ξ}(a:PP.underlying kt=some .string):RT (Instr.checkKey e (n+1) kt (.string s)) w () w #[]:=
 (iM a).aT (.pure _)
def zg (b:PP.underlying kt=some .string)(h:dS es c f):
  (RT (Instr.findKey kt (.string s) es.toList) w none w #[]/\f s=none/\∀e∈es.toList,e.key≠.string s)\/∃j e,es[j]? =some e/\RT (Instr.findKey kt (.string s) es.toList) w (some (j,e.val)) w #[]/\e.key= .string s/\f s=some e.val:=by
 rcases findNow_spec (d:= .string) (k:= .string s) trivial es.toList 0 h.keys with⟨h1,h2⟩|⟨j,e,h1,h2,a⟩
 .refine .inl ⟨(iM b).aT (by rw[h1];exact .pure _),?_,h2⟩
  cases g:f s with
  |none=>rfl
  |some v=>
   have⟨e,i,a,_⟩:=(h.has s v).1 g;exact absurd a (h2 e i)
 .have hm:e∈es.toList:=ai9 h2
  exact .inr ⟨j,e,by simpa using h2,(iM b).aT (by rw[h1,ϓ9];exact .pure _),a,(h.has s e.val).2 ⟨e,hm,a,rfl⟩⟩
def ry (d:PP.underlying t=some (.map kt vt))(a:PP.underlying kt=some .string)(b:(PP.info? vt).bind (·.zero)=some z)(h:w.heap[m]? =some (.map es c))(hm:dS es c f):
  RT (lE.lookup t (.map (some m)) (.string s) false).sem w (.value ((f s).getD z)) w #[⟨.obj m,false,false⟩]:=by
 refine RT.fI (x:=(f s).getD z) ((iM d).aT ?_) (.pure _);refine RT.fI (x:= .map es c) (jb h) ?_;refine RT.aT (x:=es) (.pure _) ?_;refine RT.aT (xd a) ?_;rcases zg (w:=w) (s:=s) a hm with⟨h1,h2,_⟩|⟨j,e,_,h1,_,h2⟩
 .rw[h2]
  exact RT.aT h1 ((yh b).aT (RT.aT (x:=(z,false)) (.pure _) (.pure _)))
 .rw[h2]
  exact RT.aT h1 (RT.aT (x:=(e.val,true)) (.pure _) (.pure _))
def su (L:PP.underlying t=some (.map kt vt))(J:PP.underlying kt=some .string)(h:w.heap[m]? =some (.map es c))(hm:dS es c f):
  ∃u I w' ev,RT (lE.mapUpdate t (.map (some m)) (.string s) v).sem w .skip w' ev/\BA m (.map u I) w w'/\(∀e∈ev,EvB m e)/\u.size<=es.size+1/\dS u I λs'=>if s'=s then some v else f s':=by
 have B:∀{w':Ω}{ev:Ϝ},RT (do
   match<-Instr.findKey kt (.string s) es.toList with
   |some (i,_)=>do
    let key <-Instr.keyThatStays (((es[i]?).map (·.key)).getD (.string s)) (.string s)
    setObj m (.map (es.modify i λe=>{e with key,val:=v}) c)
   |none=>setObj m (.map (es.push {key:= .string s,val:=v,born:=c}) (c+1))) w () w' ev->RT (lE.mapUpdate t (.map (some m)) (.string s) v).sem w .skip w' (#[⟨.obj m,false,false⟩]++ev):=by
  intro w' ev h2;refine RT.fI (x:=()) ((iM L).aT ?_) (.pure _);refine RT.bind (x:= .map es c) (jb h) ?_;exact RT.aT (xd J) h2
 rcases zg (w:=w) (s:=s) J hm with⟨h1,h2,h3⟩|⟨j,e,hj,h1,h2,h3⟩
 .refine⟨es.push {key:= .string s,val:=v,born:=c},c+1,_,_,B (RT.aT h1 (ky h)),oI h,?_,ϛ,stamped_push hm.stamped h3,?_,?_⟩
  .intro e D
   simp at D;rcases D with rfl|rfl
   .exact eO
   .exact⟨rfl,.inr rfl⟩
  .intro x a
   simp only[Array.toList_push,ϐ1,ae1] at a;rcases a with a|rfl
   .exact hm.keys x a
   .trivial
  .intro s' K
   by_cases p:s'=s
   .subst p
    simp only[if_true];constructor
    .intro q
     have q:=ac2 q;subst q;exact⟨{key:= .string s',val:=v,born:=c},ϛ,rfl,rfl⟩
    .rintro⟨x,a,h5,h6⟩
     simp only[Array.toList_push,ϐ1,ae1] at a;rcases a with a|rfl
     .exact absurd h5 (h3 x a)
     .rw[<-h6]
   .rw[ζ p,hm.has]
    constructor
    .rintro⟨x,a,h5,h6⟩
     exact⟨x,by simp[a],h5,h6⟩
    .rintro⟨x,a,h5,h6⟩
     simp only[Array.toList_push,ϐ1,ae1] at a;rcases a with a|rfl
     .exact⟨x,a,h5,h6⟩
     .exact absurd (by simpa using h5.symm) p
 .have F:RT (Instr.keyThatStays (((es[j]?).map (·.key)).getD (.string s)) (.string s)) w (.string s) w #[]:=by
   rw[hj];simp only[ξ,ϕ9,h2];unfold Instr.keyThatStays;rw[φ (sameBits_self (d:= .string) (k:= .string s) trivial 10000)];exact .pure _
  have o:∀z,es[j]? =some z->({z with key:= .string s,val:=v}:ai3).key=z.key:=λz l=>by rw[hj] at l;cases l;exact h2.symm
  have H:e∈es.toList:=by
   have:es.toList[j]? =some e:=by simpa using hj
   exact ai9 this
  refine⟨es.modify j λe=>{e with key:= .string s,val:=v},c,_,_,B (RT.aT h1 (RT.aT F (ky h))),oI h,?_,ϛ,stamped_modify hm.stamped _ _ (λ_ _=>rfl) (λz _ l=>o z l),isKey_modify hm.keys _ _ o,?_⟩
  .intro e D
   simp at D;rcases D with rfl|rfl
   .exact eO
   .exact⟨rfl,.inr rfl⟩
  .have E:∀x:ai3,x∈(es.modify j λe=>{e with key:= .string s,val:=v}).toList↔(∃i,i≠j/\es[i]? =some x)\/x={e with key:= .string s,val:=v}:=by
    intro x;rw[List.mem_iff_getElem?];simp only[al1,al6];constructor
    .rintro⟨i,A⟩
     by_cases b:j=i
     .subst b
      simp[hj] at A;exact .inr A.symm
     .simp[b] at A
      exact .inl ⟨i,λq=>b q.symm,A⟩
    .rintro(⟨i,h5,h6⟩|rfl)
     .have hne:¬j=i:=λq=>h5 q.symm
      exact⟨i,by rw[ζ hne];exact h6⟩
     .exact⟨j,by rw[φ rfl,hj];rfl⟩
   have others:∀i x,i≠j->es[i]? =some x->x.key≠.string s:=by
    intro i x b a C;have G:=((stamped_iff es c).1 hm.stamped).2.2;rw[ϑ3] at G;have g:=Ψ.1 a;have n:=Ψ.1 hj;rcases Nat.lt_or_gt_of_ne b with r|r
    .have:=G i j (by simpa using g.1) (by simpa using n.1) r
     simp only[Array.getElem_toList] at this;rw[g.2,n.2] at this;exact this (C.trans h2.symm)
    .have:=G j i (by simpa using n.1) (by simpa using g.1) r
     simp only[Array.getElem_toList] at this;rw[g.2,n.2] at this;exact this (h2.trans C.symm)
   intro s' K
   by_cases p:s'=s
   .subst p
    simp only[if_true];constructor
    .intro q
     have q:=ac2 q;subst q;exact⟨{e with key:= .string s',val:=v},(E _).2 (.inr rfl),rfl,rfl⟩
    .rintro⟨x,a,h5,h6⟩
     rcases(E x).1 a with⟨i,h7,h8⟩|rfl
     .exact absurd h5 (others i x h7 h8)
     .rw[<-h6]
   .rw[ζ p,hm.has]
    constructor
    .rintro⟨x,a,h5,h6⟩
     have⟨i,A⟩:=List.mem_iff_getElem?.1 a;have y:es[i]? =some x:=by simpa using A
     refine⟨x,(E x).2 (.inl ⟨i,λq=>?_,y⟩),h5,h6⟩;subst q;rw[hj] at y;cases y;rw[h2] at h5;exact p (by simpa using h5.symm)
    .rintro⟨x,a,h5,h6⟩
     rcases(E x).1 a with⟨i,h7,h8⟩|rfl
     .have:es.toList[i]? =some x:=by simpa using h8
      exact⟨x,ai9 this,h5,h6⟩
     .exact absurd (by simpa using h5.symm) p
def Dg (d:PP.underlying t=some (.map kt vt))(j:PP.underlying kt=some .string)(h:w.heap[m]? =some (.map es c))(hm:dS es c f):
  ∃a b w' ev,RT (lE.mapUpdate t (.map (some m)) (.string s) v).sem w .skip w' ev/\BA m (.map a b) w w'/\(∀e∈ev,EvB m e)/\dS a b λs'=>if s'=s then some v else f s':=
 let⟨a,b,w',ev,h1,h2,i,_,g⟩:=su d j h hm
 ⟨a,b,w',ev,h1,h2,i,g⟩
def ze (a:PP.underlying t=some (.map kt vt))(h:w.heap[m]? =some (.map es c)):
  RT (lE.range t (.map (some m))).sem w (.value (.pointer (some ⟨w.heap.size,0,none⟩))) {w with heap:=w.heap.push (.mapIter (some m) c #[] c)} #[⟨.obj m,false,false⟩]:=by
 refine RT.fI (x:= .pointer (some ⟨w.heap.size,0,none⟩)) ((iM a).aT ?_) (.pure _);refine RT.fI (x:= .map es c) (jb h) ?_;refine RT.aT (x:= .mapIter (some m) c #[] c) (.pure _) ?_;exact RT.aT (qr _) (.pure _)
def rz {q:Question}:∃n w',RT (choose q) w n w' #[]/\w'.tape=w.tape/\w'.output=w.output/\w'.os=w.os/\w'.heap=w.heap/\((q.forced=true/\n=0)\/∃x,n=q.cut x):=by
 by_cases a:q.forced=true
 .refine⟨0,w,λes=>?_,rfl,rfl,rfl,rfl,.inl ⟨a,rfl⟩⟩
  unfold choose;simp only[Sem.runT,a,if_true];simp
 .refine⟨q.cut (w.tape w.drawn q),{w with drawn:=w.drawn+1},λes=>?_,rfl,rfl,rfl,rfl,.inr ⟨_,rfl⟩⟩
  unfold choose;simp only[Sem.runT,a];simp
def leftOf (es:Ϧ)(seen:Ϫ):Array ai3:=es.filter λe=>!seen.contains e.born
def PS {seen:Ϫ}(hm:dS es c f):(leftOf es seen).filter (λe=>decide (e.born<c))=leftOf es seen/\(leftOf es seen).filter (λe=>decide (e.born>=c))=#[]:=by
 have a:∀e∈leftOf es seen,e.born<c:=λe b=>hm.stamped.1 e (by
  have:=(Array.mem_filter.1 b).1;simpa using this)
 constructor
 .rw[Array.filter_eq_self]
  exactλe b=>by simpa using a e b
 .rw[Array.filter_eq_empty_iff]
  exactλe b=>by simpa using a e b
def JX {it:Nat}{seen:Ϫ}{ty:η}(r:w.heap[it]? =some (.mapIter (some m) c seen c))(h:w.heap[m]? =some (.map es c))(hm:dS es c f):
  (leftOf es seen=#[]/\∃w' ev,RT (lE.next (.pointer (some ⟨it,0,none⟩)) false ty).sem w (.value (.tuple #[.bool false])) w' ev/\w'.tape=w.tape/\w'.output=w.output/\w'.os=w.os/\w'.heap=w.heap/\∀e∈ev,(EvB it e\/EvB m e)/\e.write=false)\/
  ∃e∈leftOf es seen,∃w' ev,RT (lE.next (.pointer (some ⟨it,0,none⟩)) false ty).sem w (.value (.tuple #[.bool true,e.key,e.val])) w' ev/\BA it (.mapIter (some m) c (seen.push e.born) c) w w'/\∀e∈ev,EvB it e\/(EvB m e/\e.write=false):=by
 have⟨l1,l2⟩:=PS (seen:=seen) hm;have g:(!seen.isEmpty&&!es.isEmpty&&es.all λe=>decide (e.born>=c))=false:=by
  by_cases d:es.isEmpty=true
  .simp[d]
  .have:∃e,e∈es:=by
    cases j:es.toList with
    |nil=>exact absurd (by simpa using j) d
    |cons x l=>exact⟨x,by
      have:x∈es.toList:=by rw[j];simp
      simpa using this⟩
   have⟨x,D⟩:=this;have E:=hm.stamped.1 x (by simpa using D);have:(es.all λe=>decide (e.born>=c))=false:=by
    cases k:es.all λe=>decide (e.born>=c) with
    |false=>rfl
    |true=>
     have:=(af8.1 k) x D;have:c<=x.born:=by simpa using this
     omega
   rw[this];simp
 have p:∀{x:Φ}{w':Ω}{ev:Ϝ},RT (do
   match(((if(leftOf es seen).isEmpty then #[none] else #[])++(leftOf es seen++#[]).map some)[<-choose (.mapNext ((if(leftOf es seen).isEmpty then #[none] else #[])++(leftOf es seen++#[]).map some).size)]? :Option (Option ai3)) with
   |some (some e)=>
    setObj it (.mapIter (some m) c (seen.push e.born) c)
    Pure.pure (.tuple #[.bool true,e.key,e.val])
   |some none=>Pure.pure (.tuple #[.bool false])
   |none=>stuck "Next: no such candidate") w x w' ev->RT (lE.next (.pointer (some ⟨it,0,none⟩)) false ty).sem w (.value x) w' (#[⟨.obj it,false,false⟩]++(#[⟨.obj m,false,false⟩]++ev)):=by
  intro x w' ev h2;refine RT.fI (x:=x) ?_ (.pure _);refine RT.bind (x:= .mapIter (some m) c seen c) (jb r) ?_;refine RT.bind (x:= .map es c) (jb h) ?_;show RT (if(!seen.isEmpty&&!es.isEmpty&&es.all λe=>decide (e.born>=c))=true then _ else _) _ _ _ _;rw[g];simp only[ν,if_false]
  have e1:(es.filter λe=>!seen.contains e.born)=leftOf es seen:=rfl;rw[e1,l1,l2];exact h2
 by_cases y:leftOf es seen=#[]
 .left
  refine⟨y,?_⟩;have⟨n,w',c1,c2,B,v,i,A⟩:=rz (w:=w) (q:= .mapNext 1);have s:n=0:=by
   rcases A with⟨_,e⟩|⟨x,e⟩
   .exact e
   .rw[e];simp[Question.cut,Nat.mod_one]
  subst s;refine⟨w',_,p (ev:=#[]) ?_,c2,B,v,i,?_⟩
  .have hc:((if(leftOf es seen).isEmpty then #[none] else #[])++(leftOf es seen++#[]).map some:Array (Option ai3))=#[none]:=by rw[y];simp
   rw[hc];exact RT.aT (x:=0) c1 (.pure _)
  .intro e d
   simp at d;rcases d with rfl|rfl
   .exact⟨.inl eO,rfl⟩
   .exact⟨.inr eO,rfl⟩
 .right
  have a:0<(leftOf es seen).size:=Nat.pos_of_ne_zero λe=>y (Array.eq_empty_of_size_eq_zero e)
  have z:(leftOf es seen).isEmpty=false:=by simpa [Array.isEmpty] using Nat.pos_iff_ne_zero.1 a
  have t:((if(leftOf es seen).isEmpty then #[none] else #[])++(leftOf es seen++#[]).map some:Array (Option ai3))=(leftOf es seen).map some:=by simp[z]
  have⟨n,w1,c1,c2,B,v,i,A⟩:=rz (w:=w) (q:= .mapNext (leftOf es seen).size);have s:n<(leftOf es seen).size:=by
   rcases A with⟨_,e⟩|⟨x,e⟩
   .omega
   .rw[e];exact Nat.mod_lt _ a
  have C:w1.heap[it]? =some (.mapIter (some m) c seen c):=by rw[i];exact r
  have u:=oI (o:= .mapIter (some m) c (seen.push (leftOf es seen)[n].born) c) C;refine⟨(leftOf es seen)[n],ϓ7 s,_,_,p (ev:=#[⟨.obj it,true,false⟩]) ?_,⟨u.tape.trans c2,u.output.trans B,u.os.trans v,u.size.trans (by rw[i]),u.at_,λb hb=>(u.rest b hb).trans (by rw[i])⟩,?_⟩
  .rw[t]
   simp only[Array.size_map];refine RT.aT c1 ?_;have:((leftOf es seen).map some)[n]? =some (some (leftOf es seen)[n]):=by simp[s]
   rw[this];exact RT.fI (ky C) (.pure _)
  .intro e d
   simp at d;rcases d with rfl|rfl|rfl
   .exact .inl eO
   .exact .inr ⟨eO,rfl⟩
   .exact .inl eO
def zh {it:Nat}{seen:Ϫ}{e:ai3}(g:w.heap[it]? =some (.mapIter (some m) c (seen.push e.born) c))(h:w.heap[m]? =some (.map es c))(hm:dS es c f)(o:e∈es.toList):
  RT (lE.entry (.pointer (some ⟨it,0,none⟩))).sem w (.value (.tuple #[e.key,e.val])) w (#[⟨.obj it,false,false⟩]++#[⟨.obj m,false,false⟩]):=by
 refine RT.fI (x:= .tuple #[e.key,e.val]) ?_ (.pure _);refine RT.bind (x:= .mapIter (some m) c (seen.push e.born) c) (jb g) ?_;have hb:(seen.push e.born).back? =some e.born:=ϛ
 have b:es.find? (λx=>x.born==e.born)=some e:=by
  cases b:es.find? (λx=>x.born==e.born) with
  |none=>
   rw[Array.find?_eq_none] at b;exact absurd ϛ (b e (by simpa using o))
  |some x=>
   have p:=Array.mem_of_find?_eq_some b;have d:x.born=e.born:=by simpa using Array.find?_some b
   have k:=hm.stamped.2.1;rw[List.Nodup,ϑ8,ϑ3] at k;obtain⟨i,n,rfl⟩:=ϐ7.1 (show x∈es.toList by simpa using p);obtain⟨j,l,rfl⟩:=ϐ7.1 o;rcases ϓ6 i j with a|rfl|a
   .exact absurd d (k i j n l a)
   .rfl
   .exact absurd d.symm (k j i l n a)
 dsimp only;rw[hb];refine RT.fI (x:= .map es c) (jb h) ?_;show RT (if(c !=c)=true then _ else _) _ _ _ _;simp only[bne_self_eq_false,ν,if_false];rw[b];exact .pure _
end
def abM {α β:Type}(a b:α)(c:β)(f:α->β->Sem (ForInStep β)):forIn (#[a,b]:Array α) c f=(do
  match<-f a c with
  |.done x=>Pure.pure x
  |.yield x=>match<-f b x with
   |.done x=>Pure.pure x
   |.yield x=>Pure.pure x):=by
 rfl
abbrev TH:η:=161
def se (i:Nat):Field:=match PP.underlying TH with|some (.struct fs)=>fs.getD i default|_=>default
def akk:PP.underlying TH=some (.struct #[se 0,se 1]):=ϰ
def hv (b:Bool)(s:Ξ):Φ:= .agg #[.bool b,.string s]
def JW {w:Ω}{t:η}{cs:ϐ}{off:Nat}{v:Φ}(ha:(PP.underlying t).map (λd=>match d with|.struct _|.array _ _=>true|_=>false)=some false)(h:cs[off]? =some v):RT (part t cs off) w v w #[]:=by
 refine(iP ha).aT ?_;simp only[ν,if_false];rw[h];exact .pure _
def B4 {w:Ω}(n:Nat)(b1 b2:Bool)(s1 s2:Ξ):RT (Op.equalIn (n+2) TH (hv b1 s1) (hv b2 s2)) w (b1==b2&&s1==s2) w #[]:=by
 have f0:se 0={name:=(se 0).name,type:=4,offset:=0,embedded:=(se 0).embedded,tag:=(se 0).tag,pkgPath:=(se 0).pkgPath,byteOffset:=(se 0).byteOffset}:=ϰ
 have n0:((se 0).name== "_")=false:=ϰ
 have n1:((se 1).name== "_")=false:=ϰ
 have t0:(se 0).type=4:=ϰ
 have f:(se 1).type=9:=ϰ
 have h:(se 0).offset=0:=ϰ
 have g:(se 1).offset=1:=ϰ
 have a:RT (Op.equalIn (n+1) 4 (.bool b1) (.bool b2)) w (b1==b2) w #[]:=(iM (d:= .bool) ϰ).aT (.pure _);have e1:RT (Op.equalIn (n+1) 9 (.string s1) (.string s2)) w (s1==s2) w #[]:=(iM (d:= .string) ϰ).aT (.pure _);refine(iM akk).aT ?_;refine iO.aT ?_;have c:PP.stoodInHeld TH=false:=ϰ
 show RT (if PP.stoodInHeld TH=true then _ else _) _ _ _ _;rw[c];simp only[ν,if_false];rw[abM];have m0:(se 0).name≠ "_":=by simpa using n0
 have m1:(se 1).name≠ "_":=by simpa using n1
 simp only[φ m0,φ m1,t0,f,h,g];have p0:∀(b:Bool)(s:Ξ),RT (part 4 #[.bool b,.string s] 0) w (.bool b) w #[]:=λb s=>JW ϰ rfl
 have p1:∀(b:Bool)(s:Ξ),RT (part 9 #[.bool b,.string s] 1) w (.string s) w #[]:=λb s=>JW ϰ rfl
 cases hb:b1==b2 with
 |false=>
  rw[hb] at a;exact RT.aT (x:=(some false,())) (RT.aT (x:=ForInStep.done (some false,())) ((p0 _ _).aT ((p0 _ _).aT (a.aT (.pure _)))) (.pure _)) (.pure _)
 |true=>
  rw[hb] at a;cases e:s1==s2 with
  |false=>
   rw[e] at e1;exact RT.aT (x:=(some false,())) (RT.aT (x:=ForInStep.yield (none,())) ((p0 _ _).aT ((p0 _ _).aT (a.aT (.pure _)))) (RT.aT (x:=ForInStep.done (some false,())) ((p1 _ _).aT ((p1 _ _).aT (e1.aT (.pure _)))) (.pure _))) (.pure _)
  |true=>
   rw[e] at e1;exact RT.aT (x:=(none,())) (RT.aT (x:=ForInStep.yield (none,())) ((p0 _ _).aT ((p0 _ _).aT (a.aT (.pure _)))) (RT.aT (x:=ForInStep.yield (none,())) ((p1 _ _).aT ((p1 _ _).aT (e1.aT (.pure _)))) (.pure _))) (.pure _)
def JY {w:Ω}(b1 b2:Bool)(s1 s2:Ξ):RT (lE.bin .neq TH (hv b1 s1) (hv b2 s2)).sem w (.value (.bool (!(b1==b2&&s1==s2)))) w #[]:=by
 have hg:PP.eqGuardType PP.depth TH=false:=ϰ
 refine RT.aT (x:= .bool (!(b1==b2&&s1==s2))) (RT.aT (x:=()) (w1:=w) ?_ ?_) (.pure _)
 .unfold eqGuard
  simp only[hv];refine iO.aT (iO.aT ?_);rw[hg];exact .pure _
 .exact RT.aT (B4 9998 b1 b2 s1 s2) (.pure _)
section
variable {Δ:Type}{X:Cx Δ}{ro own:Nat->Prop}{Stop:(Nat->Prop)->Θ->Ω->Prop}{v:lE}{g:Θ}{w:Ω}{main:Bool}
def ib {x:Φ}{w':Ω}{ev:Ϝ}(h:aY g=some v)(hr:RT v.sem w (.value x) w' ev):∃es,stepG PP main g w= .go (resume g x) w' es/\∀e∈es,e∈ev:=by
 have⟨es,e1,e2⟩:=oJ (P:=PP) (main:=main) h hr.run;exact⟨es,e1,λe a=>hr.ev▸e2 e a⟩
def EG {w':Ω}{ev:Ϝ}(h:aY g=some v)(hr:RT v.sem w .skip w' ev):∃es,stepG PP main g w= .go (resume g ϗ) w' es/\∀e∈es,e∈ev:=by
 have⟨es,e1,e2⟩:=step_skip (P:=PP) (main:=main) h hr.run;exact⟨es,e1,λe a=>hr.ev▸e2 e a⟩
def tG {b n a:Nat}{e:Event}(hb:own b\/(ro b/\e.write=false))(h:EvB b e):EvX X ro own n a e:= .inl ⟨b,hb.imp id λh=> .inr h,h.2⟩
def dK {x:Φ}(h:aY g=some v)(hr:∀w₁,RX X ro own w w₁->∃w' ev,RT v.sem w₁ (.value x) w' ev/\w'.tape=w₁.tape/\w'.output=w₁.output/\w'.os=w₁.os/\w'.heap=w₁.heap/\∀e∈ev,∃b,EvB b e/\(own b\/(ro b/\e.write=false)))(k:∀w',RX X ro own w w'->aG PP main (gX X false ro) Stop own (resume g x) w'):aG PP main (gX X false ro) Stop own g w:=by
 refine aG.step (dy h).1 λw₁ h1=>?_
 have⟨w',ev,r,f,i,d,a,j⟩:=hr w₁ h1;have⟨es,e1,e2⟩:=ib (main:=main) h r;have c:(gX X false ro).up own w₁ w'=own:=by
  funext b
  exact propext ⟨λh=>h.elim id λz=>by rw[a] at z;omega,.inl⟩
 refine⟨_,w',es,e1,⟨f,i,by rw[a];exact ι _,by rw[d];exact .refl _,λb _ _=>by rw[a],λe n=>?_,λh=>absurd h ϛ⟩,?_⟩
 .have⟨b,h2,l⟩:=j e (e2 e n)
  exact tG l h2
 .rw[c]
  exact k w' (h1.trans X ⟨f,i,by rw[a];exact ι _,by rw[d];exact .refl _,λb _ _=>by rw[a],λ⟨s,m⟩=>⟨s,by rw[ShAt,a];exact m⟩⟩)
def jf {o:Obj}{f:Ϟ}(h:aY g=some v)(hr:∀w₁,RX X ro own w w₁->∃ev,RT v.sem w₁ (.value (f w₁.heap.size)) {w₁ with heap:=w₁.heap.push o} ev/\∀e∈ev,∃b,EvB b e/\(own b\/(ro b/\e.write=false)))(k:∀w' B,RX X ro own w w'->w.heap.size<=B->w'.heap[B]? =some o->aG PP main (gX X false ro) Stop (λb=>own b\/b=B) (resume g (f B)) w'):aG PP main (gX X false ro) Stop own g w:=by
 refine aG.step (dy h).1 λw₁ h1=>?_
 have⟨ev,r,i⟩:=hr w₁ h1;have⟨es,e1,e2⟩:=ib (main:=main) h r;have d:(gX X false ro).up own w₁ {w₁ with heap:=w₁.heap.push o}=λb=>own b\/b=w₁.heap.size:=by
  funext b
  show(own b\/(w₁.heap.size<=b/\b<(w₁.heap.push o).size))=_;rw[Array.size_push];exact propext ⟨λh=>h.imp id λz=>ϖ,λh=>h.imp id λz=>ϖ⟩
 have a:∀b,b<w₁.heap.size->(w₁.heap.push o)[b]? =w₁.heap[b]? :=λb hb=>by rw[Array.getElem?_push];rw[ζ ϖ]
 refine⟨_,_,es,e1,⟨rfl,rfl,ϛ,.refl _,λb hb _=>a b hb,λe l=>?_,λh=>absurd h ϛ⟩,?_⟩
 .have⟨b,h2,j⟩:=i e (e2 e l)
  exact tG j h2
 .rw[d]
  refine k _ _ (h1.trans X ⟨rfl,rfl,ϛ,.refl _,λb hb _=>a b hb,λ⟨s,c⟩=>⟨s,?_,?_⟩⟩) h1.size ϛ
  .rw[<-c.1];exact a _ (Ψ.1 c.1).1
  .rw[<-c.2];exact a _ (Ψ.1 c.2).1
def kD {b:Nat}{A:Obj->Φ->Prop}(hb:own b)(m:b≠X.Fd/\b≠X.Wg)(h:aY g=some v)(hr:∀w₁,RX X ro own w w₁->∃x o w' ev,(RT v.sem w₁ (.value x) w' ev\/(RT v.sem w₁ .skip w' ev/\x=ϗ))/\BA b o w₁ w'/\A o x/\∀e∈ev,∃c,EvB c e/\(own c\/(ro c/\e.write=false)))(k:∀w' o x,(∀c,c<w.heap.size->c≠b->own c\/ro c->w'.heap[c]? =w.heap[c]?)->w'.heap[b]? =some o->A o x->RX X ro (λc=>own c/\c≠b) w w'->aG PP main (gX X false ro) Stop own (resume g x) w')(j:¬ro b):aG PP main (gX X false ro) Stop own g w:=by
 refine aG.step (dy h).1 λw₁ h1=>?_
 have⟨x,o,w',ev,r,u,a,p⟩:=hr w₁ h1;have i:∃es,stepG PP main g w₁= .go (resume g x) w' es/\∀e∈es,e∈ev:=by
  rcases r with r|⟨r,rfl⟩
  .exact ib (main:=main) h r
  .exact EG (main:=main) h r
 have⟨es,e1,e2⟩:=i;have f:(gX X false ro).up own w₁ w'=own:=by
  funext c
  exact propext ⟨λh=>h.elim id λz=>by rw[u.size] at z;omega,.inl⟩
 refine⟨_,w',es,e1,⟨u.tape,u.output,ai8 u.size.symm,by rw[u.os];exact .refl _,λc _ hc=>u.rest c λe=>hc (e▸hb),λe t=>?_,λh=>absurd h ϛ⟩,?_⟩
 .have⟨c,h2,q⟩:=p e (e2 e t)
  exact tG q h2
 .rw[f]
  refine k w' o x (λc hc hne d=>(u.rest c hne).trans (h1.keep c hc d)) u.at_ a ?_;refine⟨u.tape.trans h1.tape,u.output.trans h1.output,ac7 h1.size (ai8 u.size.symm),by rw[u.os];exact h1.os,λc hc d=>?_,λl=>?_⟩
  .have hne:c≠b:=λe=>d.elim (λh=>h.2 e) λh=>j (e▸h)
   exact(u.rest c hne).trans (h1.keep c hc (d.imp (·.1) id))
  .have⟨s,n⟩:=h1.live l
   exact⟨s,(u.rest _ m.1.symm).trans n.1,(u.rest _ m.2.symm).trans n.2⟩
end
abbrev TM:η:=153
abbrev NK:η:=164
section
variable (F M B7 B8:Nat)(side:Nat)(path:Ξ)(hb:Bool)(hc:Ξ)(x:Φ)(fr:κ)(cs:List κ)
def gP0:Θ:=Qk 167 #[pt F,.string path,.int .i64 (side:Int),hv hb hc] 31 fr cs
def gP1:Θ:=O (gP0 F side path hb hc fr cs)
def abD:az PP false (gP0 F side path hb hc fr cs) (gP1 F side path hb hc fr cs):=aP λa=>ϰ
def UN:aY (gP1 F side path hb hc fr cs)=some (.box TH (hv hb hc)):=ϰ
def fP:κ:=(On 7 (resume (gP1 F side path hb hc fr cs) (pb B7))).callers.head?.getD default
def abC:az PP false (resume (gP1 F side path hb hc fr cs) (pb B7)) (gL0 F (fP F B7 side path hb hc fr cs) (fr::cs)):=aS 7 (cj PP false 7 (resume (gP1 F side path hb hc fr cs) (pb B7))) λa=>ϰ
def gP3:Θ:=da (fP F B7 side path hb hc fr cs) (fr::cs) U
def gP4:Θ:=O (gP3 F B7 side path hb hc fr cs)
def abB:az PP false (gP3 F B7 side path hb hc fr cs) (gP4 F B7 side path hb hc fr cs):=aP λa=>ϰ
def abz:aY (gP4 F B7 side path hb hc fr cs)=some (.load TM (.pointer (some ⟨F,2,none⟩))):=ϰ
def gP5:Θ:=O (resume (gP4 F B7 side path hb hc fr cs) (.map (some M)))
def abA:az PP false (resume (gP4 F B7 side path hb hc fr cs) (.map (some M))) (gP5 F M B7 side path hb hc fr cs):=aP λa=>ϰ
def abx:aY (gP5 F M B7 side path hb hc fr cs)=some (.lookup TM (.map (some M)) (.string path) false):=ϰ
def gP6:Θ:=O (resume (gP5 F M B7 side path hb hc fr cs) x)
def aby:az PP false (resume (gP5 F M B7 side path hb hc fr cs) x) (gP6 F M B7 side path hb hc x fr cs):=aP λa=>ϰ
def abw:aY (gP6 F M B7 side path hb hc x fr cs)=some (.alloc NK):=ϰ
def gP7:Θ:=O (resume (gP6 F M B7 side path hb hc x fr cs) (pb B8))
def abv:az PP false (resume (gP6 F M B7 side path hb hc x fr cs) (pb B8)) (gP7 F M B7 B8 side path hb hc x fr cs):=aP λa=>ϰ
def abt:aY (gP7 F M B7 B8 side path hb hc x fr cs)=some (.store NK (pb B8) x):=ϰ
def gP8:Θ:=O (resume (gP7 F M B7 B8 side path hb hc x fr cs) ϗ)
def abu:az PP false (resume (gP7 F M B7 B8 side path hb hc x fr cs) ϗ) (gP8 F M B7 B8 side path hb hc x fr cs):=aP λa=>ϰ
def abq:aY (gP8 F M B7 B8 side path hb hc x fr cs)=some (.indexAddr 159 (pb B8) (.int .i64 (side:Int))):=ϰ
def gP9:Θ:=O (resume (gP8 F M B7 B8 side path hb hc x fr cs) (.pointer (some ⟨B8,side,none⟩)))
def abr:az PP false (resume (gP8 F M B7 B8 side path hb hc x fr cs) (.pointer (some ⟨B8,side,none⟩))) (gP9 F M B7 B8 side path hb hc x fr cs):=aP λa=>ϰ
def abo:aY (gP9 F M B7 B8 side path hb hc x fr cs)=some (.store 4 (.pointer (some ⟨B8,side,none⟩)) (.bool true)):=ϰ
def UX:Θ:=O (resume (gP9 F M B7 B8 side path hb hc x fr cs) ϗ)
def abp:az PP false (resume (gP9 F M B7 B8 side path hb hc x fr cs) ϗ) (UX F M B7 B8 side path hb hc x fr cs):=aP λa=>ϰ
def UV:aY (UX F M B7 B8 side path hb hc x fr cs)=some (.load TH (pb B7)):=ϰ
def UU:Θ:=O (resume (UX F M B7 B8 side path hb hc x fr cs) (hv hb hc))
def UW:az PP false (resume (UX F M B7 B8 side path hb hc x fr cs) (hv hb hc)) (UU F M B7 B8 side path hb hc x fr cs):=aP λa=>ϰ
def US:aY (UU F M B7 B8 side path hb hc x fr cs)=some (.indexAddr 162 (.pointer (some ⟨B8,2,none⟩)) (.int .i64 (side:Int))):=ϰ
def UR:Θ:=O (resume (UU F M B7 B8 side path hb hc x fr cs) (.pointer (some ⟨B8,2+2*side,none⟩)))
def UT:az PP false (resume (UU F M B7 B8 side path hb hc x fr cs) (.pointer (some ⟨B8,2+2*side,none⟩))) (UR F M B7 B8 side path hb hc x fr cs):=aP λa=>ϰ
def UP:aY (UR F M B7 B8 side path hb hc x fr cs)=some (.store TH (.pointer (some ⟨B8,2+2*side,none⟩)) (hv hb hc)):=ϰ
def Qi:Θ:=O (resume (UR F M B7 B8 side path hb hc x fr cs) ϗ)
def UQ:az PP false (resume (UR F M B7 B8 side path hb hc x fr cs) ϗ) (Qi F M B7 B8 side path hb hc x fr cs):=aP λa=>ϰ
def tmP:Array Φ:=(Qi F M B7 B8 side path hb hc x fr cs).frame.tmps
def pW:Array Oper:=match(Qi 0 0 0 0 0 default false default ϗ default []).frame.todo with|.code (.region _ ops _)::_=>ops|_=>#[]
def idP:Nat:=match(Qi 0 0 0 0 0 default false default ϗ default []).frame.todo with|.code (.region id ..)::_=>id|_=>0
def pk (F:Nat)(tm:ϐ)(l:ϑ)(fr:κ)(cs:ϙ):Θ:=G ((base 167).at ⟨tm,[dcall 202 #[pt F]]⟩ [.inRegion pW l]) (fr::cs)
def UO:Qi F M B7 B8 side path hb hc x fr cs=G ((base 167).at ⟨tmP F M B7 B8 side path hb hc x fr cs,[dcall 202 #[pt F]]⟩ [.code (.region idP pW true)]) (fr::cs):=ϰ
def Oi:(tmP F M B7 B8 side path hb hc x fr cs).size=35:=ϰ
def ad0:(tmP F M B7 B8 side path hb hc x fr cs)[0]? =some (pt F):=ϰ
def adZ:(tmP F M B7 B8 side path hb hc x fr cs)[1]? =some (.string path):=ϰ
def adY:(tmP F M B7 B8 side path hb hc x fr cs)[8]? =some (pb B8):=ϰ
end
section
variable (F:Nat)(y:Nat->Φ)(l:List Nat)(fr:κ)(cs:List κ)
def Ez (y:Ϟ):Array Φ:=#[y 0,y 1,y 2,y 3,y 4,y 5,y 6,y 7,y 8,y 9,y 10,y 11,y 12,y 13,y 14,y 15,y 16,y 17,y 18,y 19,y 20,y 21,y 22,y 23,y 24,y 25,y 26,y 27,y 28,y 29,y 30,y 31,y 32,y 33,y 34]
def ru (tm:ϐ)(h:tm.size=35):tm=Ez λi=>tm.getD i ϗ:=by
 have e:tm=((range 35).map λi=>tm.getD i ϗ).toArray:=by
  apply Array.ext
  .simp[h]
  .intro i h1 h2
   simp[ac6,h1]
 exact e.trans ϰ
def EL (tm:ϐ)(h:tm.size=35):tm=#[tm.getD 0 ϗ,tm.getD 1 ϗ,tm.getD 2 ϗ,tm.getD 3 ϗ,tm.getD 4 ϗ,tm.getD 5 ϗ,tm.getD 6 ϗ,tm.getD 7 ϗ,tm.getD 8 ϗ,tm.getD 9 ϗ,tm.getD 10 ϗ,tm.getD 11 ϗ,tm.getD 12 ϗ,tm.getD 13 ϗ,tm.getD 14 ϗ,tm.getD 15 ϗ,tm.getD 16 ϗ,tm.getD 17 ϗ,tm.getD 18 ϗ,tm.getD 19 ϗ,tm.getD 20 ϗ,tm.getD 21 ϗ,tm.getD 22 ϗ,tm.getD 23 ϗ,tm.getD 24 ϗ,tm.getD 25 ϗ,tm.getD 26 ϗ,tm.getD 27 ϗ,tm.getD 28 ϗ,tm.getD 29 ϗ,tm.getD 30 ϗ,tm.getD 31 ϗ,tm.getD 32 ϗ,tm.getD 33 ϗ,tm.getD 34 ϗ]:=ru tm h
def afi:az PP false (pk F (Ez y) (0::l) fr cs) (pk F ((Ez y).setIfInBounds 29 (y 0)) l fr cs):=aS 1 1 λa=>ϰ
def afh:az PP false (pk F (#[y 0,y 1,y 2,y 3,y 4,y 5,y 6,y 7,y 8,y 9,y 10,y 11,y 12,y 13,y 14,y 15,y 16,y 17,y 18,y 19,y 20,y 21,y 22,y 23,y 24,y 25,y 26,y 27,y 28,pt F,y 30,y 31,y 32,y 33,y 34]) (1::l) fr cs) (pk F ((#[y 0,y 1,y 2,y 3,y 4,y 5,y 6,y 7,y 8,y 9,y 10,y 11,y 12,y 13,y 14,y 15,y 16,y 17,y 18,y 19,y 20,y 21,y 22,y 23,y 24,y 25,y 26,y 27,y 28,pt F,y 30,y 31,y 32,y 33,y 34]:Array Φ).setIfInBounds 30 (pt F)) l fr cs):=aS 1 1 λa=>ϰ
def afg:az PP false (pk F (#[y 0,y 1,y 2,y 3,y 4,y 5,y 6,y 7,y 8,y 9,y 10,y 11,y 12,y 13,y 14,y 15,y 16,y 17,y 18,y 19,y 20,y 21,y 22,y 23,y 24,y 25,y 26,y 27,y 28,y 29,pt F,y 31,y 32,y 33,y 34]) (2::l) fr cs) (pk F ((#[y 0,y 1,y 2,y 3,y 4,y 5,y 6,y 7,y 8,y 9,y 10,y 11,y 12,y 13,y 14,y 15,y 16,y 17,y 18,y 19,y 20,y 21,y 22,y 23,y 24,y 25,y 26,y 27,y 28,y 29,pt F,y 31,y 32,y 33,y 34]:Array Φ).setIfInBounds 31 (.pointer (some ⟨F,2,none⟩))) l fr cs):=aS 1 1 λa=>ϰ
def aff:aY (pk F (Ez y) (3::l) fr cs)=some (.load TM (y 31)):=ϰ
def Zs (v:Φ):resume (pk F (Ez y) (3::l) fr cs) v=pk F ((Ez y).setIfInBounds 32 v) l fr cs:=ϰ
def afe:az PP false (pk F (Ez y) (4::l) fr cs) (pk F ((Ez y).setIfInBounds 33 (y 1)) l fr cs):=aS 1 1 λa=>ϰ
def afd:aY (pk F (Ez y) (5::l) fr cs)=some (.load NK (y 8)):=ϰ
def Zr (v:Φ):resume (pk F (Ez y) (5::l) fr cs) v=pk F ((Ez y).setIfInBounds 34 v) l fr cs:=ϰ
def afc:aY (pk F (Ez y) (6::l) fr cs)=some (.mapUpdate TM (y 32) (y 33) (y 34)):=ϰ
def Zq:resume (pk F (Ez y) (6::l) fr cs) ϗ=pk F (Ez y) l fr cs:=ϰ
def pfP (tm:ϐ):κ:=(base 167).at ⟨tm,[]⟩ []
def UM (tm:ϐ):az PP false (pk F tm [] fr cs) (gU0 F (pfP tm) (fr::cs)):=aS 3 (cj PP false 3 (pk F tm [] fr cs)) λa=>ϰ
def Pj (tm:ϐ):az PP false (G {pfP tm with mode:= .returning} (fr::cs)) (da fr cs U):=aS 1 1 λa=>ϰ
def bits (n:Nat):Array Bool:=#[n%2==1,n/2%2==1,n/4%2==1,n/8%2==1,n/16%2==1,n/32%2==1,n/64%2==1]
def needs:Nat->List Nat
 |1=>[0]|2=>[1]|3=>[2]|6=>[3,4,5]|_=>[]
def vh (b:ϭ):Bool:=(range 7).all λi=>!b.getD i false||(needs i).all λj=>b.getD j false
def Mc:pW.size=7:=ϰ
def YY:((range 128).all λn=>(ready .any pW (bits n)).all λi=>decide (i<7)&&!(bits n).getD i true&&(needs i).all λj=>(bits n).getD j false)=true:=ϰ
def Tj:((range 128).all λn=>!(ready .any pW (bits n)).isEmpty||!vh (bits n)||(bits n).all id)=true:=ϰ
def cntF (n:Nat):Nat:=((range 7).filter λi=>!(bits n).getD i true).length
def Ti:((range 128).all λn=>(ready .any pW (bits n)).all λi=>(bits n).setIfInBounds i true==bits (n+2^i)&&decide (cntF (n+2^i)+1=cntF n)&&decide (n+2^i<128)&&
  (!vh (bits n)||vh (bits (n+2^i)))&&(i !=6||!vh (bits n)||cntF n==1)&&(i==6||(bits (n+2^i)).getD 6 true==(bits n).getD 6 true))=true:=ϰ
end
def RT.of0 {α:Type}{s:Sem α}{w w':Ω}{x:α}(h:∀es,s.runT PP w es=(.ok x w',es)):RT s w x w' #[]:=λes=>by rw[h,ϐ8]
def YV {w:Ω}(B:Nat):∀side:Nat,side<2->RT (lE.indexAddr 159 (pb B) (.int .i64 (side:Int))).sem w (.value (.pointer (some ⟨B,side,none⟩))) w #[]
 |0,_=> .of0 λes=>ϰ
 |1,_=> .of0 λes=>ϰ
def YU {w:Ω}(B:Nat):∀side:Nat,side<2->RT (lE.indexAddr 162 (.pointer (some ⟨B,2,none⟩)) (.int .i64 (side:Int))).sem w (.value (.pointer (some ⟨B,2+2*side,none⟩))) w #[]
 |0,_=> .of0 λes=>ϰ
 |1,_=> .of0 λes=>ϰ
def Of:PP.underlying TM=some (.map 9 NK):=ϰ
def Og:PP.underlying 9=some .string:=ϰ
def zF:Φ:= .agg #[.bool false,.bool false,.bool false,.string ⟨#[]⟩,.bool false,.string ⟨#[]⟩]
def N0:(PP.info? NK).bind (·.zero)=some zF:=ϰ
def Qe (b:Region.Mode)(ops:Ϙ)(c t:Nat)(a:ϭ)(d:t%(ready b ops a).length<(ready b ops a).length):
  Region.linearise.go b ops (c+1) t a []=(ready b ops a)[t%(ready b ops a).length]::
   Region.linearise.go b ops c (t/(ready b ops a).length) (a.setIfInBounds ((ready b ops a)[t%(ready b ops a).length]) true) []:=by
 simp only[Region.linearise.go]
 change (match(ready b ops a)[t%(ready b ops a).length]? with
  |some i=>Region.linearise.go b ops c (t/(ready b ops a).length) (a.setIfInBounds i true) [i]
  |none=>[].reverse)=_
 rw[List.getElem?_eq_getElem d];simp only;rw[Go.linearise_go_acc,List.reverse_singleton,List.singleton_append]
structure Kept (n:Nat)(F M:Nat)(path:Ξ)(fc:Array Φ)(B8:Nat)(tm:Array Φ):Prop where
 size:tm.size=35
 s0:tm[0]? =some (pt F)
 s1:tm[1]? =some (.string path)
 s8:tm[8]? =some (pb B8)
 r0:(bits n).getD 0 false=true->tm[29]? =some (pt F)
 r1:(bits n).getD 1 false=true->tm[30]? =some (pt F)
 r2:(bits n).getD 2 false=true->tm[31]? =some (.pointer (some ⟨F,2,none⟩))
 r3:(bits n).getD 3 false=true->tm[32]? =some (.map (some M))
 r4:(bits n).getD 4 false=true->tm[33]? =some (.string path)
 r5:(bits n).getD 5 false=true->tm[34]? =some (.agg fc)
section
variable {F M B8:Nat}{path:Ξ}{fc:Array Φ}{tm:Array Φ}{n i:Nat}
def Kept.set (h:Kept n F M path fc B8 tm)(hb:(bits n).setIfInBounds i true=bits (n+2^i))(d:i<6){v:Φ}(hv:v=match i with|0=>pt F|1=>pt F|2=> .pointer (some ⟨F,2,none⟩)|3=> .map (some M)|4=> .string path|_=> .agg fc):Kept (n+2^i) F M path fc B8 (tm.setIfInBounds (29+i) v):=by
 have c:=h.size;have at_:∀j,j≠29+i->(tm.setIfInBounds (29+i) v)[j]? =tm[j]? :=λj a=>by rw[ab1 a.symm]
 have self:(tm.setIfInBounds (29+i) v)[29+i]? =some v:=by rw[ae3 ϖ]
 have b:∀j,(bits (n+2^i)).getD j false=true->j=i\/(bits n).getD j false=true:=by
  intro j a
  by_cases e:j=i
  .exact .inl e
  .right
   rw[<-hb,ac6,ab1 (λq=>e q.symm),<-ac6] at a;exact a
 refine⟨by simp[c],by rw[at_ 0 ϖ];exact h.s0,by rw[at_ 1 ϖ];exact h.s1,by rw[at_ 8 ϖ];exact h.s8,?_,?_,?_,?_,?_,?_⟩<;>intro a<;>rcases b _ a with e|e
 .subst e;subst hv;exact self
 .by_cases q:i=0
  .subst q;subst hv;exact self
  .rw[at_ 29 ϖ];exact h.r0 e
 .subst e;subst hv;exact self
 .by_cases q:i=1
  .subst q;subst hv;exact self
  .rw[at_ 30 ϖ];exact h.r1 e
 .subst e;subst hv;exact self
 .by_cases q:i=2
  .subst q;subst hv;exact self
  .rw[at_ 31 ϖ];exact h.r2 e
 .subst e;subst hv;exact self
 .by_cases q:i=3
  .subst q;subst hv;exact self
  .rw[at_ 32 ϖ];exact h.r3 e
 .subst e;subst hv;exact self
 .by_cases q:i=4
  .subst q;subst hv;exact self
  .rw[at_ 33 ϖ];exact h.r4 e
 .subst e;subst hv;exact self
 .by_cases q:i=5
  .subst q;subst hv;exact self
  .rw[at_ 34 ϖ];exact h.r5 e
end
def Cs {Δ:Type}{X:Cx Δ}{ro own:ϒ}{Stop:(Nat->Prop)->Θ->Ω->Prop}{w:Ω}{g:Θ}{v:Φ}(h:aY g=some (.load TM v))(hv:v= .pointer (some ⟨X.Fd,2,none⟩))(live:∃s,ShAt X w s)(k:∀w2,RX X ro own w w2->aG PP false (gX X false ro) Stop own (resume g (.map (some X.M))) w2):aG PP false (gX X false ro) Stop own g w:=by
 subst hv;refine aG.step (dy h).1 λw1 h1=>?_
 have⟨s,a⟩:=h1.live live;have hc:w1.cell? ⟨X.Fd,2,none⟩=some (.map (some X.M)):=by simp[World.cell?,a.1]
 have r:RT (lE.load TM (.pointer (some ⟨X.Fd,2,none⟩))).sem w1 (.value (.map (some X.M))) w1 #[⟨.cell ⟨X.Fd,2,none⟩,false,false⟩]:=by
  refine RT.fI (x:= .map (some X.M)) ?_ (.pure _);show RT (do if<-isAgg TM then Pure.pure (.agg (<-loadCells ⟨X.Fd,2,none⟩ (<-Go.sizeOf TM))) else load ⟨X.Fd,2,none⟩) _ _ _ _;refine(iP (b:=false) ϰ).aT ?_;simp only[ν,if_false];exact kP hc
 have⟨es,e1,e2⟩:=ib (main:=false) h r;refine⟨_,w1,es,e1,⟨rfl,rfl,ι _,.refl _,λ_ _ _=>rfl,λe c=>?_,λh=>absurd h ϛ⟩,?_⟩
 .have:=e2 e c
  simp at this;subst this;exact .inr (.inl ⟨rfl,rfl,rfl⟩)
 .have e:=(k7 (X:=X) false ro own w1).2
  rw[e];exact k w1 h1
section
variable {Δ:Type}{X:Cx Δ}{ro own:Nat->Prop}{Stop:(Nat->Prop)->Θ->Ω->Prop}{w:Ω}{M B8:Nat}{path:Ξ}{fc:Array Φ}{fr:κ}{cs:List κ}{es:Array ai3}{c:Nat}{f:Ξ->Option Φ}
variable (hXM:X.M=M)(hne:M≠X.Fd/\M≠X.Wg)(zV:own M)(Ks:own B8)(Ut:¬ro M)(hm:dS es c f)(hfc:fc.size=6)
structure Mid (X:Cx Δ)(ro own:Nat->Prop)(M B8:Nat)(fc:Array Φ)(es:Array ai3)(c:Nat)(w w1:Ω):Prop where
 r:RX X ro own w w1
 live:∃s,ShAt X w1 s
 at8:w1.heap[B8]? =some (.cells fc NK (0,0))
 atM:w1.heap[M]? =some (.map es c)
include zV Ks
theorem Mid.rely {w1 w2:Ω}(h:Mid X ro own M B8 fc es c w w1)(h2:RX X ro own w1 w2):Mid X ro own M B8 fc es c w w2:=
 ⟨h.r.trans X h2,h2.live h.live,(h2.keep B8 (Ψ.1 h.at8).1 (.inl Ks)).trans h.at8,(h2.keep M (Ψ.1 h.atM).1 (.inl zV)).trans h.atM⟩
variable {n:Nat}{tm:Array Φ}{L:List Nat}{w1:Ω}(hK:Kept n X.Fd M path fc B8 tm)(hA:Mid X ro own M B8 fc es c w w1)
include hK hA
theorem ZV (a:(bits n).setIfInBounds 0 true=bits (n+2^0))(e:∀{d:ϐ}{w2:Ω},Mid X ro own M B8 fc es c w w2->Kept (n+2^0) X.Fd M path fc B8 d->aG PP false (gX X false ro) Stop own (pk X.Fd d L fr cs) w2):
  aG PP false (gX X false ro) Stop own (pk X.Fd tm (0::L) fr cs) w1:=by
 have b:=ru tm hK.size;rw[b];refine aF (afi ..) ?_;rw[<-b,cJ hK.s0];exact e hA (hK.set a (by decide) rfl)
theorem ZU (a:(bits n).setIfInBounds 1 true=bits (n+2^1))(f:(bits n).getD 0 false=true)(g:∀{e:ϐ}{w2:Ω},Mid X ro own M B8 fc es c w w2->Kept (n+2^1) X.Fd M path fc B8 e->aG PP false (gX X false ro) Stop own (pk X.Fd e L fr cs) w2):
  aG PP false (gX X false ro) Stop own (pk X.Fd tm (1::L) fr cs) w1:=by
 have d:=EL tm hK.size;have b:=cJ (hK.r0 f);rw[b] at d;have h:=afh X.Fd (λi=>tm.getD i ϗ) L fr cs;dsimp only at h;rw[<-d] at h;refine aF h ?_;exact g hA (hK.set a (by decide) rfl)
theorem ZT (a:(bits n).setIfInBounds 2 true=bits (n+2^2))(d1:(bits n).getD 1 false=true)(f:∀{e:ϐ}{w2:Ω},Mid X ro own M B8 fc es c w w2->Kept (n+2^2) X.Fd M path fc B8 e->aG PP false (gX X false ro) Stop own (pk X.Fd e L fr cs) w2):
  aG PP false (gX X false ro) Stop own (pk X.Fd tm (2::L) fr cs) w1:=by
 have d:=EL tm hK.size;have b:=cJ (hK.r1 d1);rw[b] at d;have h:=afg X.Fd (λi=>tm.getD i ϗ) L fr cs;dsimp only at h;rw[<-d] at h;refine aF h ?_;exact f hA (hK.set a (by decide) rfl)
include hXM in
theorem ZS (a:(bits n).setIfInBounds 3 true=bits (n+2^3))(d2:(bits n).getD 2 false=true)(f:∀{e:ϐ}{w2:Ω},Mid X ro own M B8 fc es c w w2->Kept (n+2^3) X.Fd M path fc B8 e->aG PP false (gX X false ro) Stop own (pk X.Fd e L fr cs) w2):
  aG PP false (gX X false ro) Stop own (pk X.Fd tm (3::L) fr cs) w1:=by
 have d:=ru tm hK.size;have b:=cJ (hK.r2 d2);rw[d];refine Cs (X:=X) (aff ..) b hA.live λw2 h2=>?_
 rw[Zs,<-d,hXM];exact f (hA.rely zV Ks h2) (hK.set a (by decide) rfl)
theorem ZR (a:(bits n).setIfInBounds 4 true=bits (n+2^4))(e:∀{d:ϐ}{w2:Ω},Mid X ro own M B8 fc es c w w2->Kept (n+2^4) X.Fd M path fc B8 d->aG PP false (gX X false ro) Stop own (pk X.Fd d L fr cs) w2):
  aG PP false (gX X false ro) Stop own (pk X.Fd tm (4::L) fr cs) w1:=by
 have b:=ru tm hK.size;rw[b];refine aF (afe ..) ?_;rw[<-b,cJ hK.s1];exact e hA (hK.set a (by decide) rfl)
include hfc in
theorem ZQ (a:(bits n).setIfInBounds 5 true=bits (n+2^5))(g:∀{d:ϐ}{w2:Ω},Mid X ro own M B8 fc es c w w2->Kept (n+2^5) X.Fd M path fc B8 d->aG PP false (gX X false ro) Stop own (pk X.Fd d L fr cs) w2):
  aG PP false (gX X false ro) Stop own (pk X.Fd tm (5::L) fr cs) w1:=by
 have b:=ru tm hK.size;rw[b];have h:=cJ hK.s8;have hv:aY (pk X.Fd (Ez λi=>tm.getD i ϗ) (5::L) fr cs)=some (.load NK (.pointer (some ⟨B8,0,none⟩))):=by
  rw[afd,h];rfl
 refine dK hv (x:= .agg fc) (λw2 h2=>?_) λw2 h2=>?_
 .have⟨ev,f,r2⟩:=kY (t:=NK) (off:=0) (n:=6) (hA.rely zV Ks h2).at8 ϰ ϰ ϖ
  have e:fc.extract 0 (0+6)=fc:=by rw[show 0+6=fc.size by omega];simp
  rw[e] at f;exact⟨w2,ev,f,rfl,rfl,rfl,rfl,λe j=>⟨B8,(r2 e j).1,.inl Ks⟩⟩
 .rw[Zr,<-b]
  exact g (hA.rely zV Ks h2) (hK.set a (by decide) rfl)
include hne Ut hm in
theorem ZP (m:(bits n).getD 3 false=true)(C:(bits n).getD 4 false=true)(z:(bits n).getD 5 false=true)
  (k:∀g w' a d,g.size=35->w'.heap[M]? =some (.map a d)->dS a d (λs=>if s=path then some (.agg fc) else f s)->RX X ro (λc=>own c/\c≠M) w w'->aG PP false (gX X false ro) Stop own (pk X.Fd g [] fr cs) w'):
  aG PP false (gX X false ro) Stop own (pk X.Fd tm (6::[]) fr cs) w1:=by
 have B:=ru tm hK.size;rw[B];have h:=cJ (hK.r3 m);have l:=cJ (hK.r4 C);have j:=cJ (hK.r5 z);have hv:aY (pk X.Fd (Ez λi=>tm.getD i ϗ) (6::[]) fr cs)=some (.mapUpdate TM (.map (some M)) (.string path) (.agg fc)):=by
  rw[afc,h,l,j]
 refine kD (A:=λo x=>x=ϗ/\∃a d,o= .map a d/\dS a d λs=>if s=path then some (.agg fc) else f s) zV hne hv (λw2 h2=>?_) (λw2 o x h2 y q r=>?_) Ut
 .have⟨a,d,w',ev,p,r2,r3,r4⟩:=Dg (t:=TM) (v:= .agg fc) (s:=path) Of Og (hA.rely zV Ks h2).atM hm
  exact⟨ϗ,_,w',ev,.inr ⟨p,rfl⟩,r2,⟨rfl,a,d,rfl,r4⟩,λe D=>⟨M,r3 e D,.inl zV⟩⟩
 .obtain⟨rfl,a,d,rfl,E⟩:=q
  rw[Zq];have hr:=hA.r;exact k _ w2 a d (by simp[Ez]) y E (RX.trans X (b:=w1) ⟨hr.tape,hr.output,hr.size,hr.os,λb hb u=>hr.keep b hb (u.imp (·.1) id),hr.live⟩ r)
omit hK hA
include hXM hne Ut hm hfc
theorem II (k:∀q w' v O,q.size=35->w'.heap[M]? =some (.map v O)->dS v O (λs=>if s=path then some (.agg fc) else f s)->RX X ro (λc=>own c/\c≠M) w w'->aG PP false (gX X false ro) Stop own (pk X.Fd q [] fr cs) w')(b:Nat):∀(t n:Nat)(tm:ϐ)(w1:Ω),Mid X ro own M B8 fc es c w w1->n<128->vh (bits n)=true->(bits n).getD 6 true=false->cntF n=b->Kept n X.Fd M path fc B8 tm->
   aG PP false (gX X false ro) Stop own (pk X.Fd tm (Region.linearise.go .any pW b t (bits n) []) fr cs) w1:=by
 induction b with
 |zero=>
  intro t n tm w1 _ D m C hc _;exfalso;have:(6:Nat)∈(range 7).filter λi=>!(bits n).getD i true:=ad2.2 ⟨ϛ,by rw[C];rfl⟩
  unfold cntF at hc;rw[ϔ4] at hc;rw[hc] at this;cases this
 |succ b T=>
  intro t n tm w1 hA D m C hc hK;have N:=ad6.1 YY n (ae2.2 D);have l:=ad6.1 Tj n (ae2.2 D);have B:=ad6.1 Ti n (ae2.2 D);have y:ready .any pW (bits n)≠[]:=by
   intro e;rw[e,m] at l;simp only[List.isEmpty_nil,Bool.not_true,Bool.false_or] at l;have:(bits n)[6]? =some true:=by
    have Q:(bits n).size=7:=rfl;have:=af8.1 l ((bits n)[6]'(by rw[Q];decide)) (ϓ7 _);rw[τ (by rw[Q];decide)];exact congrArg some this
   rw[ac6,this] at C;cases C
  have r:0<(ready .any pW (bits n)).length:=List.length_pos_iff.2 y;have u:=Nat.mod_lt t r;have x:=Qe .any pW b t (bits n) u;rw[x];generalize R:(ready .any pW (bits n))[t%(ready .any pW (bits n)).length]=i;have A:i∈ready .any pW (bits n):=R▸ai2 u;have q1:=ad6.1 N i A
  have P:=ad6.1 B i A;simp only[ε,decide_eq_true_eq,Ϲ,ϓ5,ai7,bne_iff_ne] at q1 P;have⟨⟨U,S⟩,K⟩:=q1;obtain⟨⟨⟨⟨⟨d,L⟩,z⟩,o⟩,I⟩,H⟩:=P;have o:=o.resolve_left (by rw[m];simp);have h:∀j,j∈needs i->(bits n).getD j false=true:=ad6.1 K
  have p:i≠6->∀{G:ϐ}{w2:Ω},Mid X ro own M B8 fc es c w w2->Kept (n+2^i) X.Fd M path fc B8 G->
    aG PP false (gX X false ro) Stop own (pk X.Fd G (Region.linearise.go .any pW b (t/(ready .any pW (bits n)).length) ((bits n).setIfInBounds i true) []) fr cs) w2:=λE {G w2} a g=>by
   rw[d];exact T _ _ _ _ a z o ((H.resolve_left E).trans C) ϖ g
  clear R x N l B;have J:i=0\/i=1\/i=2\/i=3\/i=4\/i=5\/i=6:=ϖ
  rcases J with rfl|rfl|rfl|rfl|rfl|rfl|rfl
  .exact ZV zV Ks hK hA d (p (by decide))
  .exact ZU zV Ks hK hA d (h 0 (by simp[needs])) (p (by decide))
  .exact ZT zV Ks hK hA d (h 1 (by simp[needs])) (p (by decide))
  .exact ZS hXM zV Ks hK hA d (h 2 (by simp[needs])) (p (by decide))
  .exact ZR zV Ks hK hA d (p (by decide))
  .exact ZQ zV Ks hfc hK hA d (p (by decide))
  .have F:b=0:=by
    have:=(I.resolve_left (by simp[m]));omega
   subst F;exact ZP hne zV Ks Ut hm hK hA (h 3 (by simp[needs])) (h 4 (by simp[needs])) (h 5 (by simp[needs])) k
end
abbrev jO:=Ξ->Option (Bool×Ξ)
def cg (a b:Option (Bool×Ξ)):Array Φ:=
 #[.bool a.isSome,.bool b.isSome,.bool (a.getD (false,⟨#[]⟩)).1,.string (a.getD (false,⟨#[]⟩)).2,.bool (b.getD (false,⟨#[]⟩)).1,.string (b.getD (false,⟨#[]⟩)).2]
def comb (a b:Option (Bool×Ξ)):Option Φ:=if a.isSome||b.isSome then some (.agg (cg a b)) else none
def An (a b:Option (Bool×Ξ)):(comb a b).getD zF= .agg (cg a b):=by
 cases a<;>cases b<;>rfl
def Jd (a b:jO)(o:Obj):Prop:=∃es c f,o= .map es c/\dS es c f/\∀s,f s=comb (a s) (b s)
def bK:bB->Nat
 |.b=>1
 |_=>0
def jJ (m:jO)(path:Ξ)(h:Bool×Ξ):jO:=λs=>if s=path then some h else m s
def CE (r:bB)(mine other:Option (Bool×Ξ)):Array Φ:=match r with
 |.a=>cg mine other
 |_=>cg other mine
def abO (r:bB)(hr:r= .a\/r= .b)(mine other:Option (Bool×Ξ))(hb:Bool)(hc:Ξ):
  mg (mg (CE r mine other) [.bool true] (bK r)) [.bool hb,.string hc] (2+2*bK r)=CE r (some (hb,hc)) other:=by
 rcases hr with rfl|rfl<;>rfl
def wX:∀(l:ϡ)(cs:ϐ)(i:Nat),(mg cs l i).size=cs.size
 |[],_,_=>rfl
 |v::l,cs,i=>by unfold mg;rw[wX l];simp
def qO (r:bB)(a b:Option (Bool×Ξ)):(CE r a b).size=6:=by cases r<;>rfl
def U0 (r:bB)(a b:Option (Bool×Ξ)):∀x∈(Value.agg (CE r a b)).cells.toList,mN x=true:=by
 have:(Value.agg (CE r a b)).cells=CE r a b:=rfl;rw[this];cases r<;>simp[CE,cg,mN]
def UZ (r:bB)(a b:Option (Bool×Ξ)):mg zF.cells (Value.agg (CE r a b)).cells.toList 0=CE r a b:=by
 cases r<;>rfl
def aaq:(PP.info? NK).map (·.size)=some 6:=ϰ
def af6:(PP.info? 4).map (·.size)=some 1:=ϰ
def Kn:(PP.info? TH).map (·.size)=some 2:=ϰ
def aic:(PP.underlying TH).map (λd=>match d with|.struct _|.array _ _=>true|_=>false)=some true:=ϰ
def Hw {P:ω}{main:Bool}{b:κ}{a:Act}{id:Nat}{ops:Ϙ}{k:ϕ}{cs:ϙ}{w w':Ω}{t:Nat}(h:(choose (.order b.fn id)).run P w= .ok t w'):
  stepG P main (G (b.at a (.code (.region id ops true)::k)) cs) w= .go (G (b.at a (.inRegion ops (Region.schedule (P.follows .mixedOrders) ops t)::k)) cs) w' #[]:=by
 first
  |(simp[stepG,stepG.exec,G,Frame.at,h];done)
  |(simp[stepG,stepG.exec,G,Frame.at];simp at h;rw[h])
def LL {ops:Ϙ}{a:Bool}(hm:a=true)(t:Nat):Region.schedule a ops t=Region.linearise.go .any ops ops.size t (Array.replicate ops.size false) []:=by
 unfold Region.schedule Region.linearise;rw[hm];rfl
def ah3:Array.replicate 7 false=bits 0:=by rfl
def IJ {Δ:Type}{X:Cx Δ}{ro own:ϒ}{Stop:(Nat->Prop)->Θ->Ω->Prop}{w:Ω}{fr:κ}{cs:ϙ}{tm:ϐ}{F:Nat}(k:∀w' t,RX X ro own w w'->aG PP false (gX X false ro) Stop own (pk F tm (Region.linearise.go .any pW 7 t (bits 0) []) fr cs) w'):
  aG PP false (gX X false ro) Stop own (G ((base 167).at ⟨tm,[dcall 202 #[pt F]]⟩ [.code (.region idP pW true)]) (fr::cs)) w:=by
 refine aG.step rfl λw1 h1=>?_
 have⟨t,w',c1,c2,i,g,c,_⟩:=rz (w:=w1) (q:= .order 167 idP);have d:=c1.run;have hm:PP.follows .mixedOrders=true:=ϰ
 have e:=Hw (main:=false) (b:=base 167) (a:=⟨tm,[dcall 202 #[pt F]]⟩) (ops:=pW) (k:=[]) (cs:=fr::cs) d;rw[LL hm,Mc,ah3] at e;have f:(gX X false ro).up own w1 w'=own:=by
  funext b
  exact propext ⟨λh=>h.elim id λz=>by rw[c] at z;omega,.inl⟩
 refine⟨_,w',#[],e,⟨c2,i,by rw[c];exact ι _,by rw[g];exact .refl _,λb _ _=>by rw[c],ϛ,λh=>absurd h ϛ⟩,?_⟩;rw[f];exact k w' t (h1.trans X ⟨c2,i,by rw[c];exact ι _,by rw[g];exact .refl _,λb _ _=>by rw[c],λ⟨s,e⟩=>⟨s,by rw[ShAt,c];exact e⟩⟩)
def RX.sub {Δ:Type}{X:Cx Δ}{ro own own':ϒ}{w w':Ω}(h:RX X ro own w w')(a:∀b,own' b->own b):RX X ro own' w w':=
 ⟨h.tape,h.output,h.size,h.os,λb hb c=>h.keep b hb (c.imp (a b) id),h.live⟩
def bm {Δ:Type}{X:Cx Δ}{ro own:ϒ}{w w':Ω}{b:Nat}{o:Obj}(h:RX X ro own w w')(hb:own b\/ro b)(a:w.heap[b]? =some o):w'.heap[b]? =some o:=
 (h.keep b (Ψ.1 a).1 hb).trans a
def lt_of_some {w:Ω}{b:Nat}{o:Obj}(a:w.heap[b]? =some o):b<w.heap.size:=(Ψ.1 a).1
section
variable {X:Cx jO}{r:bB}{γ:Gh jO}{w:Ω}{n:Nat}{path:Ξ}{hb:Bool}{hc:Ξ}{fr:κ}{cs:List κ}
structure BB (X:Cx jO)(r:bB)(γ:Gh jO):Prop where
 dat:X.Dat=Jd
 role:r= .a\/r= .b
 room:Room X γ
 om:¬γ.own X.M
 rm:¬γ.ro X.M
 mf:X.M≠X.Fd
 mw:X.M≠X.Wg
def BB.worker (h:BB X r γ):x6 r=false:=by rcases h.role with rfl|rfl<;>rfl
def BB.amx (h:BB X r γ){mine other:jO}{o:Obj}(d:Ef X r mine other o):∃es c f,o= .map es c/\dS es c f/\∀s,(f s).getD zF= .agg (CE r (mine s) (other s))/\(f s=none↔mine s=none/\other s=none):=by
 have hd:=h.dat;have e:∀a b:Option (Bool×Ξ),comb a b=none↔a=none/\b=none:=λa b=>by cases a<;>cases b<;>simp[comb]
 rcases h.role with rfl|rfl
 .have d:X.Dat mine other o:=d
  rw[hd] at d;have⟨es,c,f,h1,h2,g⟩:=d;exact⟨es,c,f,h1,h2,λs=>⟨by rw[g,An];rfl,by rw[g];exact e ..⟩⟩
 .have d:X.Dat other mine o:=d
  rw[hd] at d;have⟨es,c,f,h1,h2,g⟩:=d;exact⟨es,c,f,h1,h2,λs=>⟨by rw[g,An];rfl,by rw[g,e];exact and_comm⟩⟩
def BB.put (h:BB X r γ){mine other:jO}{o:Obj}{es a:Ϧ}{c g:Nat}{f:Ξ->Option Φ}(b:Ef X r mine other o)(l:o= .map es c)(hm:dS es c f)(d:dS a g λs=>if s=path then some (.agg (CE r (some (hb,hc)) (other path))) else f s):Ef X r (jJ mine path (hb,hc)) other (.map a g):=by
 have hd:=h.dat;rcases h.role with rfl|rfl
 .have b:X.Dat mine other o:=b
  show X.Dat (jJ mine path (hb,hc)) other _;rw[hd] at b⊢;have⟨es1,c1,j,h1,h2,k⟩:=b;rw[l] at h1;cases h1;refine⟨a,g,_,rfl,d,λs=>?_⟩;have i:f s=j s:=Option.ext λv=>(hm.has s v).trans (h2.has s v).symm
  by_cases e:s=path
  .subst e;simp[jJ,comb,CE]
  .simp only[ζ e,jJ];rw[i,k]
 .have b:X.Dat other mine o:=b
  show X.Dat other (jJ mine path (hb,hc)) _;rw[hd] at b⊢;have⟨es1,c1,j,h1,h2,k⟩:=b;rw[l] at h1;cases h1;refine⟨a,g,_,rfl,d,λs=>?_⟩;have i:f s=j s:=Option.ext λv=>(hm.has s v).trans (h2.has s v).symm
  by_cases e:s=path
  .subst e;simp[jJ,comb,CE]
  .simp only[ζ e,jJ];rw[i,k]
def Ze (g:BB X r γ)(l:∀b,γ.own b\/γ.ro b->b<w.heap.size)(live:∃s,ShAt X w s){B7:Nat}(u:γ.own B7)(w7:w.heap[B7]? =some (.cells #[.bool hb,.string hc] TH (0,0)))(R:∀k w' own' d,(∀b,γ.own b->own' b)->(∀b,own' b->γ.own b\/w.heap.size<=b)->(∀b,own' b->b<w'.heap.size)->RR X γ w w'->LW X r {γ with own:=own',mine:=jJ γ.mine path (hb,hc),other:=d} k (at_ .out n) (da fr cs U) w'):
  Taken X r γ n (fP X.Fd B7 (bK r) path hb hc fr cs) (fr::cs) w:=by
 intro k w1 d o C ho hD;have hm:=g.worker;obtain⟨es,c,f,rfl,j,hf⟩:=g.amx hD;have Cr:=C.live live;have an:=bm C (.inl u) w7;have a5:B7≠X.M:=λe=>g.om (e▸u)
 refine aF (abB X.Fd B7 (bK r) path hb hc fr cs) (Cs (abz _ _ _ _ _ _ _ _) rfl Cr λw2 h2=>?_);refine aF (abA _ _ _ _ _ _ _ _ _) ?_;have J:=bm h2 (.inl (.inr rfl)) ho;refine dK (abx _ _ _ _ _ _ _ _ _) (x:= .agg (CE r (γ.mine path) (d path))) (λw3 B=>?_) λw3 B=>?_
 .have E:=bm B (.inl (.inr rfl)) J
  have:=ry (t:=TM) (s:=path) Of Og N0 E j;rw[(hf path).1] at this;exact⟨w3,_,this,rfl,rfl,rfl,rfl,λe y=>⟨X.M,by simp at y;subst y;exact eO,.inl (.inr rfl)⟩⟩
 have E:=bm B (.inl (.inr rfl)) J;refine aF (aby _ _ _ _ _ _ _ _ _ _) ?_;refine jf (f:=λb=>pb b) (abw _ _ _ _ _ _ _ _ _ _) (λw4 M=>⟨#[],n6 N0,ϛ⟩) λw4 B8 M Q W=>?_
 refine aF (abv _ _ _ B8 _ _ _ _ _ _ _) ?_;have Z:=bm M (.inl (.inr rfl)) E;have P:=bm M (.inl (.inl u)) (bm B (.inl (.inl u)) (bm h2 (.inl (.inl u)) an));have aa:=(h2.trans X B).trans X M;have Wv:=aa.live Cr;have av:w.heap.size<=B8:=ac7 C.size (ac7 (h2.trans X B).size Q);have a4:X.M<w1.heap.size:=lt_of_some ho
 have a0:=(h2.trans X B).size;have D:B8≠X.M:=λe=>ϖ
 have S:B8≠B7:=λe=>by have:=lt_of_some w7;omega
 have⟨s1,ag⟩:=Cr;have z:B8≠X.Fd/\B8≠X.Wg:=⟨λe=>by have:=lt_of_some ag.1;omega,λe=>by have:=lt_of_some ag.2;omega⟩
 have K:¬γ.ro B8:=λe=>by have:=l B8 (.inr e);omega
 have aq:∀b,γ.own b->b≠B8:=λb e q=>by have:=l b (.inl e);omega
 have p:∀b,γ.own b->((γ.own b\/b=X.M)\/b=B8):=λb e=> .inl (.inl e)
 have F:(λb=>(γ.own b\/b=X.M)\/b=B8) X.M:= .inl (.inr rfl);have i:(λb=>(γ.own b\/b=X.M)\/b=B8) B8:= .inr rfl;have H4:RX X γ.ro γ.own w w4:=C.trans X ((h2.sub λb e=> .inl e).trans X ((B.sub λb e=> .inl e).trans X (M.sub λb e=> .inl e)));clear h2 B M aa J E Q a0
 have Xm:∀{w' T:Ω},RX X γ.ro (λb=>((γ.own b\/b=X.M)\/b=B8)/\b≠B8) w' T->RX X γ.ro γ.own w' T:=λh=>h.sub λb e=>⟨p b e,aq b e⟩
 refine kD (b:=B8) (A:=λo x=>x=ϗ/\o= .cells (CE r (γ.mine path) (d path)) NK (0,0)) i z (abt _ _ _ _ _ _ _ _ _ _ _) (λw5 H=>?_) (λw5 o x _ V ha H=>?_) K
 .have e8:=bm H (.inl i) W
  have⟨w',ev,I,r2,r3⟩:=iN (t:=NK) (off:=0) (v:= .agg (CE r (γ.mine path) (d path))) e8 (by
   have:(Value.agg (CE r (γ.mine path) (d path))).cells.size=6:=qO _ _ _;rw[this];exact aaq) (by
   have:(Value.agg (CE r (γ.mine path) (d path))).cells.size=6:=qO _ _ _;rw[this];simp[zF,Value.cells]) (U0 _ _ _)
  rw[UZ] at r2;exact⟨ϗ,_,w',ev,.inr ⟨I,rfl⟩,r2,⟨rfl,rfl⟩,λe y=>⟨B8,r3 e y,.inl i⟩⟩
 obtain⟨rfl,rfl⟩:=ha;have M5:=bm H (.inl ⟨F,D.symm⟩) Z;have am:=bm H (.inl ⟨p B7 u,S.symm⟩) P;have Wu:=H.live Wv;have H5:=H4.trans X (Xm H);refine aF (abu _ _ _ _ _ _ _ _ _ _ _) ?_;have m:bK r<2:=by rcases g.role with rfl|rfl<;>decide
 refine dK (abq _ _ _ _ _ _ _ _ _ _ _) (x:= .pointer (some ⟨B8,bK r,none⟩)) (λw6 G=>⟨w6,#[],YV B8 _ m,rfl,rfl,rfl,rfl,ϛ⟩) λw6 G=>?_
 have ab:=bm G (.inl i) V;have M6:=bm G (.inl F) M5;have ac:=bm G (.inl (p B7 u)) am;have Wt:=G.live Wu;have H6:=H5.trans X (G.sub p);clear H G M5 am Wu H5 V W Z P Wv H4;refine aF (abr _ _ _ _ _ _ _ _ _ _ _) ?_
 refine kD (b:=B8) (A:=λo x=>x=ϗ/\o= .cells (mg (CE r (γ.mine path) (d path)) [.bool true] (bK r)) NK (0,0)) i z (abo _ _ _ _ _ _ _ _ _ _ _) (λar a=>?_) (λar o x _ ae ha a=>?_) K
 .have e8:=bm a (.inl i) ab
  have⟨w',ev,I,r2,r3⟩:=iN (t:=4) (off:=bK r) (v:= .bool true) e8 af6 (by
   rw[qO];show bK r+1<=6;omega) (by simp[Value.cells,mN])
  exact⟨ϗ,_,w',ev,.inr ⟨I,rfl⟩,r2,⟨rfl,rfl⟩,λe y=>⟨B8,r3 e y,.inl i⟩⟩
 obtain⟨rfl,rfl⟩:=ha;have M7:=bm a (.inl ⟨F,D.symm⟩) M6;have ad:=bm a (.inl ⟨p B7 u,S.symm⟩) ac;have Ws:=a.live Wt;have H7:=H6.trans X (Xm a);refine aF (abp _ _ _ _ _ _ _ _ _ _ _) ?_;refine dK (UV _ _ _ _ _ _ _ _ _ _ _) (x:=hv hb hc) (λw8 L=>?_) λw8 L=>?_
 .have⟨ev,I,r2⟩:=kY (t:=TH) (off:=0) (n:=2) (bm L (.inl (p B7 u)) ad) aic Kn ϛ
  exact⟨w8,ev,I,rfl,rfl,rfl,rfl,λe y=>⟨B7,(r2 e y).1,.inl (p B7 u)⟩⟩
 have Y:=bm L (.inl i) ae;have M8:=bm L (.inl F) M7;have Wr:=L.live Ws;have H8:=H7.trans X (L.sub p);refine aF (UW _ _ _ _ _ _ _ _ _ _ _) ?_;refine dK (US _ _ _ _ _ _ _ _ _ _ _) (x:= .pointer (some ⟨B8,2+2*bK r,none⟩)) (λw9 N=>⟨w9,#[],YU B8 _ m,rfl,rfl,rfl,rfl,ϛ⟩) λw9 N=>?_
 have aR:=bm N (.inl i) Y;have M9:=bm N (.inl F) M8;have aB:=N.live Wr;have H9:=H8.trans X (N.sub p);clear a L N M6 M7 M8 ac ad Wt Ws Wr H6 H7 H8 ab ae Y;refine aF (UT _ _ _ _ _ _ _ _ _ _ _) ?_
 refine kD (b:=B8) (A:=λo x=>x=ϗ/\o= .cells (CE r (some (hb,hc)) (d path)) NK (0,0)) i z (UP _ _ _ _ _ _ _ _ _ _ _) (λwA hA=>?_) (λwA o x _ aL ha hA=>?_) K
 .have e8:=bm hA (.inl i) aR
  have⟨w',ev,I,r2,r3⟩:=iN (t:=TH) (off:=2+2*bK r) (v:=hv hb hc) e8 Kn (by
   rw[wX,qO];show 2+2*bK r+2<=6;omega) (by simp[hv,Value.cells,mN])
  have e:(hv hb hc).cells.toList=[.bool hb,.string hc]:=rfl;rw[e,abO r g.role] at r2;exact⟨ϗ,_,w',ev,.inr ⟨I,rfl⟩,r2,⟨rfl,rfl⟩,λe y=>⟨B8,r3 e y,.inl i⟩⟩
 obtain⟨rfl,rfl⟩:=ha;have MA:=bm hA (.inl ⟨F,D.symm⟩) M9;have aw:=hA.live aB;have HA:=H9.trans X (Xm hA);refine aF (UQ _ _ _ _ _ _ _ _ _ _ _) ?_;rw[UO];refine IJ λwB t hB=>?_
 have O:=bm hB (.inl i) aL;have MB:=bm hB (.inl F) MA;have Wq:=hB.live aw;have HB:=HA.trans X (hB.sub p);refine II (w:=wB) rfl ⟨g.mf,g.mw⟩ F i g.rm j (qO _ _ _) (λa3 wC a2 c' _ ao a1 hC=>?_) 7 t 0 _ wB ⟨RX.refl X _ _ _,Wq,O,MB⟩ (by decide) (by decide) (by decide) (by decide)
  ⟨Oi _ _ _ _ _ _ _ _ _ _ _,ad0 _ _ _ _ _ _ _ _ _ _ _,adZ _ _ _ _ _ _ _ _ _ _ _,adY _ _ _ _ _ _ _ _ _ _ _,λh=>absurd h (by decide),λh=>absurd h (by decide),λh=>absurd h (by decide),λh=>absurd h (by decide),λh=>absurd h (by decide),λh=>absurd h (by decide)⟩
 have HC:RX X γ.ro γ.own w wC:=HB.trans X (hC.sub λb e=>⟨p b e,λq=>g.om (q▸e)⟩);refine aF (UM _ _ _ _) ?_;have eo:(λb=>(γ.own b\/b=X.M)\/b=B8)=λb=>(γ.own b\/b=B8)\/b=X.M:=by
  funext b
  exact propext ⟨λh=>h.elim (λh=>h.elim (λh=> .inl (.inl h)) .inr) λh=> .inl (.inr h),λh=>h.elim (λh=>h.elim (λh=> .inl (.inl h)) .inr) λh=> .inl (.inr h)⟩
 rw[eo];have R2:Room X {γ with own:=λb=>γ.own b\/b=B8}:=⟨g.room.ne,λb h=>by
  rcases h with(h|rfl)|h
  .exact g.room.off b (.inl h)
  .exact z
  .exact g.room.off b (.inr h)⟩
 exact Ev (γ:={γ with own:=λb=>γ.own b\/b=B8}) (c:=jJ γ.mine path (hb,hc)) (d:=d) hm R2 (λh=>h.elim g.om λe=>D e.symm) (hC.live Wq) ⟨_,ao,g.put hD rfl j a1⟩ λk' wD ak=>
  aF (Pj _ _ _) (R k' wD (λb=>γ.own b\/b=B8) d (λb h=> .inl h) (λb h=>Or.imp id (λe:b=B8=>by rw[e];exact av) h) (λb h=>by
   have s1:=HC.size;have s2:=hC.size;have s3:=ak.size;rcases h with h|rfl
   .have:=l b (.inl h);omega
   .have:=lt_of_some O;omega) (HC.trans X (ak.sub λb h=> .inl h)))
def Fu (a:BB X r γ)(c:∀b,γ.own b\/γ.ro b->b<w.heap.size)(q:X.M<w.heap.size)(live:∃s,ShAt X w s)(i:∀k w' own' d,(∀b,γ.own b->own' b)->(∀b,own' b->γ.own b\/w.heap.size<=b)->(∀b,own' b->b<w'.heap.size)->RR X γ w w'->LW X r {γ with own:=own',mine:=jJ γ.mine path (hb,hc),other:=d} k (at_ .out n) (da fr cs U) w')(k:Nat):
  LW X r γ k (at_ .out (n+1)) (gP0 X.Fd (bK r) path hb hc fr cs) w:=by
 refine aF (abD _ _ _ _ _ _ _) (jf (f:=λb=>pb b) (UN _ _ _ _ _ _ _) (λw1 h1=>⟨#[],zi _ _,ϛ⟩) λw1 B7 h1 v j=>?_);refine aF (abC _ _ _ _ _ _ _ _) ?_;have⟨s1,g⟩:=live;have u:B7≠X.Fd/\B7≠X.Wg:=⟨λe=>by have:=lt_of_some g.1;omega,λe=>by have:=lt_of_some g.2;omega⟩
 have S1:BB X r {γ with own:=λb=>γ.own b\/b=B7}:=⟨a.dat,a.role,⟨a.room.ne,λb h=>by
  rcases h with(h|rfl)|h
  .exact a.room.off b (.inl h)
  .exact u
  .exact a.room.off b (.inr h)⟩,λh=>h.elim a.om λe=>ϖ,a.rm,a.mf,a.mw⟩
 have l:=lt_of_some j;have m:∀b,(γ.own b\/b=B7)\/γ.ro b->b<w1.heap.size:=λb h=>by
  have:=h1.size;rcases h with(h|rfl)|h
  .have:=c b (.inl h);omega
  .exact l
  .have:=c b (.inr h);omega
 have o:=h1.live ⟨s1,g⟩;refine Mo (γ:={γ with own:=λb=>γ.own b\/b=B7}) a.worker S1.room o (Ze S1 m o (.inr rfl) j λk w' own' d t y x p=>?_);exact i k w' own' d (λb h=>t b (.inl h)) (λb h=>by
  rcases y b h with(h|rfl)|h
  .exact .inl h
  .exact .inr v
  .exact .inr (ac7 h1.size h)) x (h1.trans X (RX.sub p λb h=> .inl h))
end
abbrev TC:η:=251
section
variable (F:Nat)(dv:Φ)(side:Nat)(m1 m2:Φ)(fr:κ)(cs:List κ)
def gC0 (dv:Φ)(set:Int)(fr:κ)(cs:ϙ):Θ:=Qk 166 #[dv,.int .i64 set] 28 fr cs
def fK1:κ:=(On 5 (gK0 F dv (side:Int) fr cs)).callers.head?.getD default
def abI:az PP false (gK0 F dv (side:Int) fr cs) (gC0 dv (side:Int) (fK1 F dv side fr cs) (fr::cs)):=aS 5 (cj PP false 5 (gK0 F dv (side:Int) fr cs)) λa=>ϰ
def fK2:κ:=(On 2 (da (fK1 F dv side fr cs) (fr::cs) m1)).callers.head?.getD default
def abH:az PP false (da (fK1 F dv side fr cs) (fr::cs) m1) (gC0 dv 2 (fK2 F dv side m1 fr cs) (fr::cs)):=aS 2 (cj PP false 2 (da (fK1 F dv side fr cs) (fr::cs) m1)) λa=>ϰ
def gK3:Θ:=O (da (fK2 F dv side m1 fr cs) (fr::cs) m2)
def abG:az PP false (da (fK2 F dv side m1 fr cs) (fr::cs) m2) (gK3 F dv side m1 m2 fr cs):=aP λa=>ϰ
def abE:aY (gK3 F dv side m1 m2 fr cs)=some (.range TC m1):=ϰ
end
def Xl:List Item:=(O (resume (gK3 0 default 0 ϗ ϗ default []) (pb 0))).frame.todo
def gL1 (tm:ϐ)(fr:κ)(cs:ϙ):Θ:=G ((base 132).at ⟨tm,[]⟩ Xl) (fr::cs)
section
variable (F:Nat)(dv:Φ)(side M1 M2 it:Nat)(path s s2:Ξ)(b2:Bool)(B9:Nat)(fr:κ)(cs:List κ)(y:Nat->Φ)
def ad5:Array Φ:=#[pt F,dv,.int .i64 (side:Int),y 3,y 4,y 5,.map (some M1),.map (some M2),y 8,y 9,y 10,y 11,y 12,y 13,y 14,y 15,y 16,pb it,y 18,y 19,y 20,y 21,y 22,y 23,y 24,y 25,y 26,y 27,y 28,y 29,y 30,y 31,y 32,y 33,y 34,y 35,y 36,y 37,y 38,y 39,y 40,y 41,y 42,y 43,y 44,y 45,y 46,y 47,y 48]
def ad3:Array Φ:=#[pt F,dv,.int .i64 (side:Int),y 3,y 4,y 5,.map (some M1),.map (some M2),y 8,y 9,y 10,y 11,y 12,y 13,y 14,y 15,y 16,y 17,y 18,y 19,y 20,y 21,y 22,y 23,y 24,y 25,y 26,y 27,y 28,y 29,y 30,y 31,y 32,y 33,pb it,y 35,y 36,y 37,y 38,y 39,y 40,y 41,y 42,y 43,y 44,y 45,y 46,y 47,y 48]
structure VP (F:Nat)(dv:Φ)(side M1 M2 it:Nat)(tm:Array Φ):Prop where
 size:tm.size=49
 s0:tm[0]? =some (pt F)
 s1:tm[1]? =some (dv)
 s2:tm[2]? =some (.int .i64 (side:Int))
 s6:tm[6]? =some (.map (some M1))
 s7:tm[7]? =some (.map (some M2))
 s17:tm[17]? =some (pb it)
structure HL2 (F:Nat)(dv:Φ)(side M1 M2 it:Nat)(tm:Array Φ):Prop where
 size:tm.size=49
 s0:tm[0]? =some (pt F)
 s1:tm[1]? =some (dv)
 s2:tm[2]? =some (.int .i64 (side:Int))
 s6:tm[6]? =some (.map (some M1))
 s7:tm[7]? =some (.map (some M2))
 s34:tm[34]? =some (pb it)
def JN (tm:ϐ)(h:tm.size=49):tm=#[tm.getD 0 ϗ,tm.getD 1 ϗ,tm.getD 2 ϗ,tm.getD 3 ϗ,tm.getD 4 ϗ,tm.getD 5 ϗ,tm.getD 6 ϗ,tm.getD 7 ϗ,tm.getD 8 ϗ,tm.getD 9 ϗ,tm.getD 10 ϗ,tm.getD 11 ϗ,tm.getD 12 ϗ,tm.getD 13 ϗ,tm.getD 14 ϗ,tm.getD 15 ϗ,tm.getD 16 ϗ,tm.getD 17 ϗ,tm.getD 18 ϗ,tm.getD 19 ϗ,tm.getD 20 ϗ,tm.getD 21 ϗ,tm.getD 22 ϗ,tm.getD 23 ϗ,tm.getD 24 ϗ,tm.getD 25 ϗ,tm.getD 26 ϗ,tm.getD 27 ϗ,tm.getD 28 ϗ,tm.getD 29 ϗ,tm.getD 30 ϗ,tm.getD 31 ϗ,tm.getD 32 ϗ,tm.getD 33 ϗ,tm.getD 34 ϗ,tm.getD 35 ϗ,tm.getD 36 ϗ,tm.getD 37 ϗ,tm.getD 38 ϗ,tm.getD 39 ϗ,tm.getD 40 ϗ,tm.getD 41 ϗ,tm.getD 42 ϗ,tm.getD 43 ϗ,tm.getD 44 ϗ,tm.getD 45 ϗ,tm.getD 46 ϗ,tm.getD 47 ϗ,tm.getD 48 ϗ]:=by
 have e:tm=((range 49).map λi=>tm.getD i ϗ).toArray:=by
  apply Array.ext
  .simp[h]
  .intro i h1 h2
   simp[ac6,h1]
 exact e.trans ϰ
def VP.eq {F:Nat}{dv:Φ}{side M1 M2 it:Nat}{tm:ϐ}(h:VP F dv side M1 M2 it tm):tm=ad5 F dv side M1 M2 it λi=>tm.getD i ϗ:=by
 have h1:=JN tm h.size;rw[cJ h.s0,cJ h.s1,cJ h.s2,cJ h.s6,cJ h.s7,cJ h.s17] at h1;exact h1
def HL2.eq {F:Nat}{dv:Φ}{side M1 M2 it:Nat}{tm:ϐ}(h:HL2 F dv side M1 M2 it tm):tm=ad3 F dv side M1 M2 it λi=>tm.getD i ϗ:=by
 have h1:=JN tm h.size;rw[cJ h.s0,cJ h.s1,cJ h.s2,cJ h.s6,cJ h.s7,cJ h.s34] at h1;exact h1
def abF (a:Φ)(h1:a= .map (some M1)):∃tm,VP F dv side M1 M2 it tm/\az PP false (resume (gK3 F dv side a (.map (some M2)) fr cs) (pb it)) (gL1 tm fr cs):=by
 subst h1;exact⟨(O (resume (gK3 F dv side (.map (some M1)) (.map (some M2)) fr cs) (pb it))).frame.tmps,⟨ϰ,ϰ,ϰ,ϰ,ϰ,ϰ,ϰ⟩,aS 200 (cj PP false 200 (resume (gK3 F dv side (.map (some M1)) (.map (some M2)) fr cs) (pb it))) λb=>ϰ⟩
abbrev l1:Θ:=gL1 (ad5 F dv side M1 M2 it y) fr cs
def nxT (g:Θ):η:=match aY g with|some (.next _ _ t)=>t|_=>0
def afV:aY (l1 F dv side M1 M2 it fr cs y)=some (.next (pb it) false (nxT (l1 0 default 0 0 0 0 default [] λ_=>ϗ))):=ϰ
def l1o:Θ:=O (resume (l1 F dv side M1 M2 it fr cs y) (.tuple #[.bool false]))
def Ui:az PP false (resume (l1 F dv side M1 M2 it fr cs y) (.tuple #[.bool false])) (l1o F dv side M1 M2 it fr cs y):=aP λa=>ϰ
def Z4:aY (l1o F dv side M1 M2 it fr cs y)=some (.range TC (.map (some M2))):=ϰ
def l1a:Θ:=O (resume (l1 F dv side M1 M2 it fr cs y) (.tuple #[.bool true,.string path,hv true s]))
def Uj:az PP false (resume (l1 F dv side M1 M2 it fr cs y) (.tuple #[.bool true,.string path,hv true s])) (l1a F dv side M1 M2 it path s fr cs y):=aP λa=>ϰ
def aak:aY (l1a F dv side M1 M2 it path s fr cs y)=some (.entry (pb it)):=ϰ
def l1b:Θ:=O (resume (l1a F dv side M1 M2 it path s fr cs y) (.tuple #[.string path,hv true s]))
def aaj:az PP false (resume (l1a F dv side M1 M2 it path s fr cs y) (.tuple #[.string path,hv true s])) (l1b F dv side M1 M2 it path s fr cs y):=aP λa=>ϰ
def aai:aY (l1b F dv side M1 M2 it path s fr cs y)=some (.alloc TH):=ϰ
def l1c:Θ:=O (resume (l1b F dv side M1 M2 it path s fr cs y) (pb B9))
def aah:az PP false (resume (l1b F dv side M1 M2 it path s fr cs y) (pb B9)) (l1c F dv side M1 M2 it path s B9 fr cs y):=aP λa=>ϰ
def aaf:aY (l1c F dv side M1 M2 it path s B9 fr cs y)=some (.store TH (pb B9) (hv true s)):=ϰ
def l1d:Θ:=O (resume (l1c F dv side M1 M2 it path s B9 fr cs y) ϗ)
def aag:az PP false (resume (l1c F dv side M1 M2 it path s B9 fr cs y) ϗ) (l1d F dv side M1 M2 it path s B9 fr cs y):=aP λa=>ϰ
def aad:aY (l1d F dv side M1 M2 it path s B9 fr cs y)=some (.load TH (pb B9)):=ϰ
def l1e:Θ:=O (resume (l1d F dv side M1 M2 it path s B9 fr cs y) (hv true s))
def aae:az PP false (resume (l1d F dv side M1 M2 it path s B9 fr cs y) (hv true s)) (l1e F dv side M1 M2 it path s B9 fr cs y):=aP λa=>ϰ
def aab:aY (l1e F dv side M1 M2 it path s B9 fr cs y)=some (.lookup TC (.map (some M2)) (.string path) false):=ϰ
def l1f:Θ:=O (resume (l1e F dv side M1 M2 it path s B9 fr cs y) (hv b2 s2))
def aac:az PP false (resume (l1e F dv side M1 M2 it path s B9 fr cs y) (hv b2 s2)) (l1f F dv side M1 M2 it path s s2 b2 B9 fr cs y):=aP λa=>ϰ
def Z9:aY (l1f F dv side M1 M2 it path s s2 b2 B9 fr cs y)=some (.bin .neq TH (hv true s) (hv b2 s2)):=ϰ
def Z8:∃tm,VP F dv side M1 M2 it tm/\az PP false (resume (l1f F dv side M1 M2 it path s s2 b2 B9 fr cs y) (.bool false)) (gL1 tm fr cs):=⟨(O (resume (l1f F dv side M1 M2 it path s s2 b2 B9 fr cs y) (.bool false))).frame.tmps,⟨ϰ,ϰ,ϰ,ϰ,ϰ,ϰ,ϰ⟩,aS 200 (cj PP false 200 (resume (l1f F dv side M1 M2 it path s s2 b2 B9 fr cs y) (.bool false))) λa=>ϰ⟩
def l1g:Θ:=O (resume (l1f F dv side M1 M2 it path s s2 b2 B9 fr cs y) (.bool true))
def Uh:az PP false (resume (l1f F dv side M1 M2 it path s s2 b2 B9 fr cs y) (.bool true)) (l1g F dv side M1 M2 it path s s2 b2 B9 fr cs y):=aP λa=>ϰ
def Z6:aY (l1g F dv side M1 M2 it path s s2 b2 B9 fr cs y)=some (.load TH (pb B9)):=ϰ
def l1F:κ:=(On 1 (resume (l1g F dv side M1 M2 it path s s2 b2 B9 fr cs y) (hv true s))).callers.head?.getD default
def Z7:az PP false (resume (l1g F dv side M1 M2 it path s s2 b2 B9 fr cs y) (hv true s)) (gP0 F side path true s (l1F F dv side M1 M2 it path s s2 b2 B9 fr cs y) (fr::cs)):=aS 1 (cj PP false 1 (resume (l1g F dv side M1 M2 it path s s2 b2 B9 fr cs y) (hv true s))) λa=>ϰ
def aal:∃tm,VP F dv side M1 M2 it tm/\az PP false (da (l1F F dv side M1 M2 it path s s2 b2 B9 fr cs y) (fr::cs) U) (gL1 tm fr cs):=⟨(O (da (l1F F dv side M1 M2 it path s s2 b2 B9 fr cs y) (fr::cs) U)).frame.tmps,⟨ϰ,ϰ,ϰ,ϰ,ϰ,ϰ,ϰ⟩,aS 200 (cj PP false 200 (da (l1F F dv side M1 M2 it path s s2 b2 B9 fr cs y) (fr::cs) U)) λa=>ϰ⟩
end
def Xk:List Item:=(O (resume (l1o 0 default 0 0 0 0 default [] λ_=>ϗ) (pb 0))).frame.todo
def gL2 (tm:ϐ)(fr:κ)(cs:ϙ):Θ:=G ((base 132).at ⟨tm,[]⟩ Xk) (fr::cs)
section
variable (F:Nat)(dv:Φ)(side M1 M2 it it2:Nat)(path s s2:Ξ)(b2:Bool)(B9:Nat)(fr:κ)(cs:List κ)(y:Nat->Φ)
def Z5:∃tm,HL2 F dv side M1 M2 it2 tm/\az PP false (resume (l1o F dv side M1 M2 it fr cs y) (pb it2)) (gL2 tm fr cs):=⟨(O (resume (l1o F dv side M1 M2 it fr cs y) (pb it2))).frame.tmps,⟨ϰ,ϰ,ϰ,ϰ,ϰ,ϰ,ϰ⟩,aS 200 (cj PP false 200 (resume (l1o F dv side M1 M2 it fr cs y) (pb it2))) λa=>ϰ⟩
abbrev l2:Θ:=gL2 (ad3 F dv side M1 M2 it y) fr cs
def afT:aY (l2 F dv side M1 M2 it fr cs y)=some (.next (pb it) false (nxT (l2 0 default 0 0 0 0 default [] λ_=>ϗ))):=ϰ
def Uf:az PP false (resume (l2 F dv side M1 M2 it fr cs y) (.tuple #[.bool false])) (da fr cs U):=aS 7 (cj PP false 7 (resume (l2 F dv side M1 M2 it fr cs y) (.tuple #[.bool false]))) λa=>ϰ
def l2a:Θ:=O (resume (l2 F dv side M1 M2 it fr cs y) (.tuple #[.bool true,.string path,hv true s]))
def Ug:az PP false (resume (l2 F dv side M1 M2 it fr cs y) (.tuple #[.bool true,.string path,hv true s])) (l2a F dv side M1 M2 it path s fr cs y):=aP λa=>ϰ
def Z2:aY (l2a F dv side M1 M2 it path s fr cs y)=some (.entry (pb it)):=ϰ
def Z0:Θ:=O (resume (l2a F dv side M1 M2 it path s fr cs y) (.tuple #[.string path,hv true s]))
def Z1:az PP false (resume (l2a F dv side M1 M2 it path s fr cs y) (.tuple #[.string path,hv true s])) (Z0 F dv side M1 M2 it path s fr cs y):=aP λa=>ϰ
def ZZ:aY (Z0 F dv side M1 M2 it path s fr cs y)=some (.lookup TC (.map (some M1)) (.string path) false):=ϰ
def Ue:∃tm,HL2 F dv side M1 M2 it tm/\az PP false (resume (Z0 F dv side M1 M2 it path s fr cs y) (hv true s2)) (gL2 tm fr cs):=⟨(O (resume (Z0 F dv side M1 M2 it path s fr cs y) (hv true s2))).frame.tmps,⟨ϰ,ϰ,ϰ,ϰ,ϰ,ϰ,ϰ⟩,aS 200 (cj PP false 200 (resume (Z0 F dv side M1 M2 it path s fr cs y) (hv true s2))) λa=>ϰ⟩
def l2c:Θ:=O (resume (Z0 F dv side M1 M2 it path s fr cs y) (hv false s2))
def ZY:az PP false (resume (Z0 F dv side M1 M2 it path s fr cs y) (hv false s2)) (l2c F dv side M1 M2 it path s s2 fr cs y):=aP λa=>ϰ
def ZX:aY (l2c F dv side M1 M2 it path s s2 fr cs y)=some (.build TH #[]):=ϰ
def l2F:κ:=(On 1 (resume (l2c F dv side M1 M2 it path s s2 fr cs y) (hv false ⟨#[]⟩))).callers.head?.getD default
def ZW:az PP false (resume (l2c F dv side M1 M2 it path s s2 fr cs y) (hv false ⟨#[]⟩)) (gP0 F side path false ⟨#[]⟩ (l2F F dv side M1 M2 it path s s2 fr cs y) (fr::cs)):=aS 1 (cj PP false 1 (resume (l2c F dv side M1 M2 it path s s2 fr cs y) (hv false ⟨#[]⟩))) λa=>ϰ
def Z3:∃tm,HL2 F dv side M1 M2 it tm/\az PP false (da (l2F F dv side M1 M2 it path s s2 fr cs y) (fr::cs) U) (gL2 tm fr cs):=⟨(O (da (l2F F dv side M1 M2 it path s s2 fr cs y) (fr::cs) U)).frame.tmps,⟨ϰ,ϰ,ϰ,ϰ,ϰ,ϰ,ϰ⟩,aS 200 (cj PP false 200 (da (l2F F dv side M1 M2 it path s s2 fr cs y) (fr::cs) U)) λa=>ϰ⟩
end
section
variable {X:Cx jO}{r:bB}{γ:Gh jO}{w w':Ω}
structure Now (X:Cx jO)(r:bB)(γ:Gh jO)(w:Ω):Prop where
 spot:BB X r γ
 low:∀b,γ.own b\/γ.ro b->b<w.heap.size
 ml:X.M<w.heap.size
 live:∃s,ShAt X w s
def Now.rely (h:Now X r γ w)(hr:RR X γ w w'):Now X r γ w':=
 ⟨h.spot,λb hb=>ψ (h.low b hb) hr.size,ψ h.ml hr.size,hr.live h.live⟩
def Now.grow (h:Now X r γ w)(hr:RR X γ w w'){own':ϒ}{m d:jO}(h1:∀b,own' b->γ.own b\/w.heap.size<=b)(h2:∀b,own' b->b<w'.heap.size):Now X r {γ with own:=own',mine:=m,other:=d} w':=by
 have⟨s,a⟩:=h.live;have e:=lt_of_some a.1;have c:=lt_of_some a.2;have f:=h.ml;refine⟨⟨h.spot.dat,h.spot.role,⟨h.spot.room.ne,λb hb=>?_⟩,λhb=>?_,h.spot.rm,h.spot.mf,h.spot.mw⟩,λb hb=>?_,ψ h.ml hr.size,hr.live h.live⟩
 .rcases hb with hb|hb
  .rcases h1 b hb with hb|hb
   .exact h.spot.room.off b (.inl hb)
   .exact⟨ϖ,ϖ⟩
  .exact h.spot.room.off b (.inr hb)
 .rcases h1 _ hb with hb|hb
  .exact h.spot.om hb
  .omega
 .rcases hb with hb|hb
  .exact h2 b hb
  .exact ψ (h.low b (.inr hb)) hr.size
end
def zN {Δ:Type}{X:Cx Δ}{ro own:ϒ}{Stop:(Nat->Prop)->Θ->Ω->Prop}{w:Ω}{g:Θ}{it m c:Nat}{seen:Ϫ}{es:Ϧ}{f:Ξ->Option Φ}{ty:η}(h:aY g=some (.next (pb it) false ty))(i:own it)(n:own m)(v:it≠X.Fd/\it≠X.Wg)(p:¬ro it)(r:w.heap[it]? =some (.mapIter (some m) c seen c))(k:w.heap[m]? =some (.map es c))(hm:dS es c f)(over:leftOf es seen=#[]->∀w',RX X ro own w w'->aG PP false (gX X false ro) Stop own (resume g (.tuple #[.bool false])) w')(more:∀e∈leftOf es seen,∀w',RX X ro (λb=>own b/\b≠it) w w'->w'.heap[it]? =some (.mapIter (some m) c (seen.push e.born) c)->aG PP false (gX X false ro) Stop own (resume g (.tuple #[.bool true,e.key,e.val])) w'):
  aG PP false (gX X false ro) Stop own g w:=by
 refine aG.step (dy h).1 λw1 h1=>?_
 rcases JX (w:=w1) (ty:=ty) (bm h1 (.inl i) r) (bm h1 (.inl n) k) hm with⟨hl,w',ev,rt,a1,a2,a3,a4,a5⟩|⟨e,he,w',ev,rt,u,a5⟩
 .have⟨d,e1,e2⟩:=ib (main:=false) h rt
  have a:(gX X false ro).up own w1 w'=own:=by
   funext b
   exact propext ⟨λh=>h.elim id λz=>by rw[a4] at z;omega,.inl⟩
  refine⟨_,w',d,e1,⟨a1,a2,by rw[a4];exact ι _,by rw[a3];exact .refl _,λb _ _=>by rw[a4],λx o=>?_,λh=>absurd h ϛ⟩,?_⟩
  .rcases(a5 x (e2 x o)).1 with q|q
   .exact tG (.inl i) q
   .exact tG (.inl n) q
  .rw[a]
   exact over hl w' (h1.trans X ⟨a1,a2,by rw[a4];exact ι _,by rw[a3];exact .refl _,λb _ _=>by rw[a4],λ⟨s,j⟩=>⟨s,by rw[ShAt,a4];exact j⟩⟩)
 .have⟨d,e1,e2⟩:=ib (main:=false) h rt
  have a:(gX X false ro).up own w1 w'=own:=by
   funext b
   exact propext ⟨λh=>h.elim id λz=>by rw[u.size] at z;omega,.inl⟩
  refine⟨_,w',d,e1,⟨u.tape,u.output,ai8 u.size.symm,by rw[u.os];exact .refl _,λb _ hb=>u.rest b λq=>hb (q▸i),λx o=>?_,λh=>absurd h ϛ⟩,?_⟩
  .rcases a5 x (e2 x o) with q|q
   .exact tG (.inl i) q
   .exact tG (.inl n) q.1
  .rw[a]
   refine more e he w' ?_ u.at_;refine⟨u.tape.trans h1.tape,u.output.trans h1.output,ac7 h1.size (ai8 u.size.symm),by rw[u.os];exact h1.os,λb hb t=>?_,λl=>?_⟩
   .have hne:b≠it:=λq=>t.elim (λh=>h.2 q) λh=>p (q▸h)
    exact(u.rest b hne).trans (h1.keep b hb (t.imp (·.1) id))
   .have⟨s,j⟩:=h1.live l
    exact⟨s,(u.rest _ v.1.symm).trans j.1,(u.rest _ v.2.symm).trans j.2⟩
section
variable (gN gA:Ξ->Option Ξ)
open Classical in
def k9:jO:=λs=>if gN s=gA s then none else some (match gN s with|some c=>(true,c)|none=>(false,⟨#[]⟩))
def NO (V:Ξ->Prop)(mine:jO):Prop:=∀s,(∃c,gN s=some c/\gA s≠some c/\V s/\mine s=some (true,c))\/((gN s=none\/gA s=gN s\/¬V s)/\mine s=none)
def Sc (V:Ξ->Prop)(mine:jO):Prop:=∀s,(∃c,gN s=some c/\gA s≠some c/\mine s=some (true,c))\/(gN s=none/\gA s≠none/\V s/\mine s=some (false,⟨#[]⟩))\/((gA s=gN s\/(gN s=none/\¬V s))/\mine s=none)
variable {gN gA}{V V':Ξ->Prop}{mine:jO}{path:Ξ}{c:Ξ}
def NO.start:NO gN gA (λ_=>False) λ_=>none:=λ_=> .inr ⟨.inr (.inr id),rfl⟩
def NO.put (h:NO gN gA V mine)(f:∀s,V' s↔V s\/s=path)(h1:gN path=some c)(h2:gA path≠some c):NO gN gA V' (jJ mine path (true,c)):=λs=>by
 by_cases d:s=path
 .subst d
  exact .inl ⟨c,h1,h2,(f s).2 (.inr rfl),by simp[jJ]⟩
 .have e:jJ mine path (true,c) s=mine s:=by simp[jJ,d]
  rw[e];have hv:V' s↔V s:=(f s).trans ⟨λh=>h.resolve_right d,.inl⟩;rcases h s with⟨x,a1,a2,a3,a4⟩|⟨a1,a2⟩
  .exact .inl ⟨x,a1,a2,hv.2 a3,a4⟩
  .exact .inr ⟨a1.imp id λa=>a.imp id λa b=>a (hv.1 b),a2⟩
def NO.skip (h:NO gN gA V mine)(d:∀s,V' s↔V s\/s=path)(h1:gA path=gN path):NO gN gA V' mine:=λs=>by
 rcases h s with⟨x,a1,a2,a3,a4⟩|⟨a1,a2⟩
 .exact .inl ⟨x,a1,a2,(d s).2 (.inl a3),a4⟩
 .refine .inr ⟨?_,a2⟩
  by_cases c:s=path
  .subst c;exact .inr (.inl h1)
  .exact a1.imp id λa=>a.imp id λa b=>a (((d s).1 b).resolve_right c)
def NO.done (h:NO gN gA V mine)(b:∀s,gN s≠none->V s):Sc gN gA (λ_=>False) mine:=λs=>by
 rcases h s with⟨x,a,a2,a3,a4⟩|⟨a,a2⟩
 .exact .inl ⟨x,a,a2,a4⟩
 .refine .inr (.inr ⟨?_,a2⟩)
  rcases a with a|a|a
  .exact .inr ⟨a,id⟩
  .exact .inl a
  .exact .inr ⟨ac9 λq=>a (b s q),id⟩
def Sc.put (h:Sc gN gA V mine)(g:∀s,V' s↔V s\/s=path)(h1:gN path=none)(h2:gA path≠none):Sc gN gA V' (jJ mine path (false,⟨#[]⟩)):=λs=>by
 by_cases c:s=path
 .subst c
  exact .inr (.inl ⟨h1,h2,(g s).2 (.inr rfl),by simp[jJ]⟩)
 .have e:jJ mine path (false,⟨#[]⟩) s=mine s:=by simp[jJ,c]
  rw[e];have hv:V' s↔V s:=(g s).trans ⟨λh=>h.resolve_right c,.inl⟩;rcases h s with a|⟨f,d,j,i⟩|⟨f,d⟩
  .exact .inl a
  .exact .inr (.inl ⟨f,d,hv.2 j,i⟩)
  .exact .inr (.inr ⟨f.imp id λa=>⟨a.1,λb=>a.2 (hv.1 b)⟩,d⟩)
def Sc.skip (h:Sc gN gA V mine)(e:∀s,V' s↔V s\/s=path)(h1:gN path≠none):Sc gN gA V' mine:=λs=>by
 rcases h s with a|⟨d,c,g,f⟩|⟨d,c⟩
 .exact .inl a
 .exact .inr (.inl ⟨d,c,(e s).2 (.inl g),f⟩)
 .refine .inr (.inr ⟨d.imp id λa=>⟨a.1,λb=>?_⟩,c⟩)
  rcases(e s).1 b with b|b
  .exact a.2 b
  .subst b;exact h1 a.1
def Sc.done (h:Sc gN gA V mine)(c:∀s,gA s≠none->V s):mine=k9 gN gA:=by
 funext s
 unfold k9;rcases h s with⟨x,a,a2,a4⟩|⟨a,a2,b,a4⟩|⟨a,a2⟩
 .rw[ζ (by rw[a];exactλq=>a2 q.symm),a,a4]
 .rw[ζ (by rw[a];exactλq=>a2 q.symm),a,a4]
 .by_cases q:gN s=gA s
  .rw[φ q,a2]
  .exfalso
   rcases a with a|⟨a,b⟩
   .exact q a.symm
   .exact b (c s λz=>q (a.trans z.symm))
end
section
open Go.MapKept
variable {es:Array ai3}{c:Nat}{f:Ξ->Option Φ}{seen:Array Nat}{e:ai3}{path:Ξ}
def Ed (es:Ϧ)(seen:Ϫ)(s:Ξ):Prop:=∃e∈es.toList,e.key= .string s/\e.born∈seen
def dS.NC (h:dS es c f){x y:ai3}(l:x∈es.toList)(k:y∈es.toList)(g:x.born=y.born):x=y:=by
 have b:=h.stamped.2.1;rw[List.Nodup,ϑ8,ϑ3] at b;obtain⟨i,e,rfl⟩:=ϐ7.1 l;obtain⟨j,d,rfl⟩:=ϐ7.1 k;rcases ϓ6 i j with a|rfl|a
 .exact absurd g (b i j e d a)
 .rfl
 .exact absurd g.symm (b j i d e a)
def yJ (h:dS es c f)(b:e∈es.toList)(a:e.key= .string path)(s:Ξ):Ed es (seen.push e.born) s↔Ed es seen s\/s=path:=by
 constructor
 .rintro⟨x,hx,h1,h2⟩
  rcases Array.mem_push.1 h2 with h2|h2
  .exact .inl ⟨x,hx,h1,h2⟩
  .have:=h.NC hx b h2
   subst this;rw[a] at h1;exact .inr (by simpa using h1.symm)
 .rintro(⟨x,hx,h1,h2⟩|rfl)
  .exact⟨x,hx,h1,Array.mem_push.2 (.inl h2)⟩
  .exact⟨e,b,a,Array.mem_push.2 (.inr rfl)⟩
def CT (s:Ξ):¬Ed es #[] s:=λ⟨_,_,_,h⟩=>by simp at h
def CU (h:dS es c f)(d:leftOf es seen=#[]){s:Ξ}(b:f s≠none):Ed es seen s:=by
 have⟨v,hv⟩:=Option.ne_none_iff_exists'.1 b;have⟨x,a,h1,_⟩:=(h.has s v).1 hv;refine⟨x,a,h1,?_⟩;refine ac9 λq=>?_
 have:x∈leftOf es seen:=Array.mem_filter.2 ⟨by simpa using a,by simpa using q⟩;rw[d] at this;simp at this
def zM (a:e∈leftOf es seen):e∈es.toList:=by simpa using(Array.mem_filter.1 a).1
def v7 (a:e∈leftOf es seen):(leftOf es (seen.push e.born)).size<(leftOf es seen).size:=by
 have h1:(leftOf es (seen.push e.born)).toList=(leftOf es seen).toList.filter λx=>!(x.born==e.born):=by
  unfold leftOf;rw[Array.toList_filter,Array.toList_filter,List.filter_filter]
  congr 1
  funext x
  rw[Array.contains_push];cases seen.contains x.born<;>cases (x.born==e.born)<;>rfl
 rw[<-af9,<-af9,h1];refine List.length_filter_lt_length_iff_exists.2 ⟨e,by simpa using a,ϛ⟩
end
section
variable {X:Cx jO}{r:bB}{ro O0:Nat->Prop}{w0:Ω}{gN gA:Ξ->Option Ξ}{es1 es2:Array ai3}{c1 c2 M1 M2:Nat}{fr:κ}{cs:List κ}{dv:Φ}
def xB (g:Ξ->Option Ξ):Ξ->Option Φ:=λs=>(g s).map (hv true)
structure Two (X:Cx jO)(r:bB)(ro O0:Nat->Prop)(w0:Ω)(gN gA:Ξ->Option Ξ)(es1 es2:Array ai3)(c1 c2 M1 M2:Nat)(γ:Gh jO)(w:Ω):Prop where
 now:Now X r γ w
 roe:γ.ro=ro
 own:∀b,O0 b->γ.own b
 old:∀b,γ.own b->O0 b\/w0.heap.size<=b
 hr:RX X ro O0 w0 w
 o1:γ.own M1
 o2:γ.own M2
 w1:w.heap[M1]? =some (.map es1 c1)
 w2:w.heap[M2]? =some (.map es2 c2)
 i1:dS es1 c1 (xB gN)
 i2:dS es2 c2 (xB gA)
variable {γ:Gh jO}{w w':Ω}
def Two.rely (h:Two X r ro O0 w0 gN gA es1 es2 c1 c2 M1 M2 γ w)(hr:RX X γ.ro γ.own w w'):Two X r ro O0 w0 gN gA es1 es2 c1 c2 M1 M2 γ w':=
 ⟨h.now.rely hr,h.roe,h.own,h.old,h.hr.trans X (by rw[h.roe] at hr;exact hr.sub h.own),h.o1,h.o2,bm hr (.inl h.o1) h.w1,bm hr (.inl h.o2) h.w2,h.i1,h.i2⟩
def Two.grow (h:Two X r ro O0 w0 gN gA es1 es2 c1 c2 M1 M2 γ w)(hr:RX X γ.ro γ.own w w'){own':ϒ}{m d:jO}(h0:∀b,γ.own b->own' b)(h1:∀b,own' b->γ.own b\/w.heap.size<=b)(h2:∀b,own' b->b<w'.heap.size):
  Two X r ro O0 w0 gN gA es1 es2 c1 c2 M1 M2 {γ with own:=own',mine:=m,other:=d} w':=by
 have k:=h.rely hr;refine⟨h.now.grow hr h1 h2,h.roe,λb hb=>h0 b (h.own b hb),λb hb=>?_,k.hr,h0 _ h.o1,h0 _ h.o2,k.w1,k.w2,h.i1,h.i2⟩;rcases h1 b hb with hb|hb
 .exact h.old b hb
 .exact .inr (ac7 h.hr.size hb)
def Two.turn (h:Two X r ro O0 w0 gN gA es1 es2 c1 c2 M1 M2 γ w){it:Nat}(hr:RX X γ.ro (λb=>γ.own b/\b≠it) w w')(n1:it≠M1)(a:it≠M2)(n0:¬O0 it):Two X r ro O0 w0 gN gA es1 es2 c1 c2 M1 M2 γ w':=by
 have k:Now X r γ w':=⟨h.now.spot,λb hb=>ψ (h.now.low b hb) hr.size,ψ h.now.ml hr.size,hr.live h.now.live⟩
 exact⟨k,h.roe,h.own,h.old,h.hr.trans X (by rw[h.roe] at hr;exact hr.sub λb hb=>⟨h.own b hb,λq=>n0 (q▸hb)⟩),h.o1,h.o2,bm hr (.inl ⟨h.o1,n1.symm⟩) h.w1,bm hr (.inl ⟨h.o2,a.symm⟩) h.w2,h.i1,h.i2⟩
def Two.off (h:Two X r ro O0 w0 gN gA es1 es2 c1 c2 M1 M2 γ w){b:Nat}(hb:γ.own b):b≠X.Fd/\b≠X.Wg:=h.now.spot.room.off b (.inl hb)
def Done (X:Cx jO)(r:bB)(ro O0:ϒ)(w0:Ω)(a:jO)(fr:κ)(cs:ϙ):Prop:=
 ∀k w' (γ:Gh jO) n,Now X r γ w'->γ.ro=ro->(∀b,O0 b->γ.own b)->(∀b,γ.own b->O0 b\/w0.heap.size<=b)->RX X ro O0 w0 w'->γ.mine=a->LW X r γ k (at_ .out n) (da fr cs U) w'
def JL:PP.underlying TC=some (.map 9 TH):=ϰ
def NZ:(PP.info? TH).bind (·.zero)=some (hv false ⟨#[]⟩):=ϰ
def afI (hD:Done X r ro O0 w0 (k9 gN gA) fr cs)(L:Nat):∀(seen:Ϫ)(γ:Gh jO)(w:Ω)(tm:ϐ)(it n k:Nat),(leftOf es2 seen).size=L->L<=n->Two X r ro O0 w0 gN gA es1 es2 c1 c2 M1 M2 γ w->γ.own it->it≠M1->it≠M2->¬O0 it->¬γ.ro it->
  w.heap[it]? =some (.mapIter (some M2) c2 seen c2)->Sc gN gA (Ed es2 seen) γ.mine->HL2 X.Fd dv (bK r) M1 M2 it tm->LW X r γ k (at_ .out n) (gL2 tm fr cs) w:=by
 induction L using Nat.strongRecOn with
 |_ L S=>
 intro seen γ w tm it n k hL hn a c l H A F K I Z;have hm:=a.now.spot.worker;rw[Z.eq];refine zN (afT ..) c a.o2 (a.off c) F K a.w2 a.i2 (λY w1 h1=>?_) (λe U w1 h1 C=>?_)
 .refine aF (Uf ..) ?_
  have Q:=a.rely h1;refine hD k w1 γ n Q.now a.roe a.own a.old Q.hr (I.done λs J=>CU a.i2 Y (by simpa [xB] using J))
 .have b:=zM U
  have⟨path,z⟩:=jK (a.i2.keys e b);have u:=(a.i2.has path e.val).2 ⟨e,b,z,rfl⟩;have⟨s,J,p⟩:=χ.1 u;have j:=v7 U;have T:=λs=>yJ (seen:=seen) a.i2 b z s
  rw[z,<-p];have T1:=a.turn h1 l H A;clear h1;refine aF (Ug ..) ?_;refine dK (Z2 ..) (x:= .tuple #[.string path,hv true s]) (λw2 h2=>?_) λw2 h2=>?_
  .have:=zh (bm h2 (.inl c) C) (T1.rely h2).w2 a.i2 b
   rw[z,<-p] at this;exact⟨w2,_,this,rfl,rfl,rfl,rfl,λx v=>by
    simp at v;rcases v with rfl|rfl
    .exact⟨it,eO,.inl c⟩
    .exact⟨M2,eO,.inl a.o2⟩⟩
  have T2:=T1.rely h2;have f:=bm h2 (.inl c) C;refine aF (Z1 ..) ?_;refine dK (ZZ ..) (x:=(xB gN path).getD (hv false ⟨#[]⟩)) (λM q=>?_) λM q=>?_
  .exact⟨M,_,ry (t:=TC) JL Og NZ (T2.rely q).w1 a.i1,rfl,rfl,rfl,rfl,λx v=>by
    simp at v;subst v;exact⟨M1,eO,.inl a.o1⟩⟩
  have R:=T2.rely q;have g:=bm q (.inl c) f;clear h2 q C f T1 T2;have m:(leftOf es2 (seen.push e.born)).size<L:=hL▸j;have hA:gA path≠none:=by rw[J];simp
  cases y:gN path with
  |some s2=>
   have D:(xB gN path).getD (hv false ⟨#[]⟩)=hv true s2:=by simp[xB,y]
   rw[D];have⟨h,B,hg⟩:=Ue X.Fd dv (bK r) M1 M2 it path s s2 fr cs λi=>tm.getD i ϗ
   exact aF hg (S _ m (seen.push e.born) γ M h it n k rfl ϖ R c l H A F g (I.skip T (by rw[y];simp)) B)
  |none=>
   have D:(xB gN path).getD (hv false ⟨#[]⟩)=hv false ⟨#[]⟩:=by simp[xB,y]
   rw[D];refine aF (ZY ..) ?_;refine dK (ZX ..) (x:=hv false ⟨#[]⟩) (λO E=>⟨O,#[],.of0 λes=>ϰ,rfl,rfl,rfl,rfl,ϛ⟩) λO E=>?_
   have o:=R.rely E;have W:=bm E (.inl c) g;refine aF (ZW ..) ?_;obtain⟨G,rfl⟩:∃G,n=G+1:=⟨n-1,ϖ⟩
   refine Fu o.now.spot o.now.low o.now.ml o.now.live (λk' V own' d P a2 a4 N=>?_) k;have⟨h,B,hg⟩:=Z3 X.Fd dv (bK r) M1 M2 it path s ⟨#[]⟩ fr cs λi=>tm.getD i ϗ
   exact aF hg (S _ m (seen.push e.born) {γ with own:=own',mine:=jJ γ.mine path (false,⟨#[]⟩),other:=d} V h it G k' rfl ϖ (o.grow N P a2 a4) (P _ c) l H A F (bm N (.inl c) W) (I.put T y hA) B)
def Two.more (h:Two X r ro O0 w0 gN gA es1 es2 c1 c2 M1 M2 γ w){B:Nat}{o:Obj}(hr:RX X γ.ro γ.own w w')(a:w.heap.size<=B)(c:w'.heap[B]? =some o):Two X r ro O0 w0 gN gA es1 es2 c1 c2 M1 M2 {γ with own:=λb=>γ.own b\/b=B} w':=
 h.grow hr (m:=γ.mine) (d:=γ.other) (λb hb=> .inl hb) (λb hb=>Or.imp id (λe:b=B=>by rw[e];exact a) hb) (λb hb=>by
  rcases hb with hb|rfl
  .exact ψ (h.now.low b (.inl hb)) hr.size
  .exact lt_of_some c)
def Two.fresh (h:Two X r ro O0 w0 gN gA es1 es2 c1 c2 M1 M2 γ w){B:Nat}(b:w.heap.size<=B):B≠M1/\B≠M2/\¬γ.own B/\¬γ.ro B/\(B≠X.Fd/\B≠X.Wg)/\(w0.heap.size<=w.heap.size):=by
 have⟨s,a⟩:=h.now.live;exact⟨λe=>by have:=lt_of_some h.w1;omega,λe=>by have:=lt_of_some h.w2;omega,λe=>by have:=h.now.low B (.inl e);omega,λe=>by have:=h.now.low B (.inr e);omega,⟨λe=>by have:=lt_of_some a.1;omega,λe=>by have:=lt_of_some a.2;omega⟩,h.hr.size⟩
def afJ (WA:∀b,O0 b->b<w0.heap.size)(hD:Done X r ro O0 w0 (k9 gN gA) fr cs)(L:Nat):∀(seen:Ϫ)(γ:Gh jO)(w:Ω)(tm:ϐ)(it n k:Nat),(leftOf es1 seen).size=L->L+es2.size<=n->Two X r ro O0 w0 gN gA es1 es2 c1 c2 M1 M2 γ w->γ.own it->it≠M1->it≠M2->¬O0 it->¬γ.ro it->
  w.heap[it]? =some (.mapIter (some M1) c1 seen c1)->NO gN gA (Ed es1 seen) γ.mine->VP X.Fd dv (bK r) M1 M2 it tm->LW X r γ k (at_ .out n) (gL1 tm fr cs) w:=by
 induction L using Nat.strongRecOn with
 |_ L ih=>
 intro seen γ w tm it n k hL hn c g C Eh Zw PA ag hI hH;have hm:=c.now.spot.worker;rw[hH.eq];refine zN (afV _ _ _ _ _ _ _ _ _) g c.o1 (c.off g) PA ag c.w1 c.i1 (λhl w1 h1=>?_) (λe G w1 h1 Bf=>?_)
 .refine aF (Ui _ _ _ _ _ _ _ _ _) ?_
  have T1:=c.rely h1;refine jf (f:=λb=>pb b) (Z4 _ _ _ _ _ _ _ _ _) (λw2 h2=>⟨_,ze JL (T1.rely h2).w2,λx m=>by simp at m;subst m;exact⟨M2,eO,.inl c.o2⟩⟩) λw2 B h2 hB O=>?_
  have⟨f1,f2,f3,f4,f5,f6⟩:=T1.fresh hB;have T2:=T1.more h2 hB O;have⟨j,Y,hg⟩:=Z5 X.Fd dv (bK r) M1 M2 it B fr cs λi=>tm.getD i ϗ
  have ak:(leftOf es2 #[]).size=es2.size:=by
   have:leftOf es2 #[]=es2:=by unfold leftOf;rw[Array.filter_eq_self];simp
   rw[this]
  have e2:Ed es2 #[]=λ_=>False:=funext λs=>propext ⟨CT s,False.elim⟩
  exact aF hg (afI hD _ #[] {γ with own:=λb=>γ.own b\/b=B} w2 j B n k rfl (by rw[ak];omega) T2 (.inr rfl) f1 f2 (λq=>by have:=WA B q;omega) f4 O (by
   rw[e2];exact hI.done λs hs=>CU c.i1 hl (by simpa [xB] using hs)) Y)
 .have h:=zM G
  have⟨path,hk⟩:=jK (c.i1.keys e h);have S:=(c.i1.has path e.val).2 ⟨e,h,hk,rfl⟩;have⟨s,hs,M⟩:=χ.1 S;have F:=v7 G;have hV:=λs=>yJ (seen:=seen) c.i1 h hk s
  rw[hk,<-M];have T1:=c.turn h1 C Eh Zw;clear h1;refine aF (Uj _ _ _ _ _ _ _ _ _ _ _) ?_;refine dK (aak _ _ _ _ _ _ _ _ _ _ _) (x:= .tuple #[.string path,hv true s]) (λw2 h2=>?_) λw2 h2=>?_
  .have:=zh (bm h2 (.inl g) Bf) (T1.rely h2).w1 c.i1 h
   rw[hk,<-M] at this;exact⟨w2,_,this,rfl,rfl,rfl,rfl,λx m=>by
    simp at m;rcases m with rfl|rfl
    .exact⟨it,eO,.inl g⟩
    .exact⟨M1,eO,.inl c.o1⟩⟩
  have T2:=T1.rely h2;have z:=bm h2 (.inl g) Bf;refine aF (aaj _ _ _ _ _ _ _ _ _ _ _) ?_;refine jf (f:=λb=>pb b) (aai _ _ _ _ _ _ _ _ _ _ _) (λw3 h3=>⟨#[],n6 NZ,ϛ⟩) λw3 B9 h3 U D=>?_
  have⟨f1,f2,f3,f4,f5,f6⟩:=T2.fresh U;have ac:B9≠it:=λq=>f3 (q▸g)
  have T3:=T2.more h3 U D;have y:w3.heap[it]? =_:=bm h3 (.inl g) z;have am:=T2.hr.size;clear h2 h3 Bf z T1 T2;have u:(λb=>γ.own b\/b=B9) B9:= .inr rfl;refine aF (aah _ _ _ _ _ _ _ _ B9 _ _ _) ?_
  refine kD (b:=B9) (A:=λo x=>x=ϗ/\o= .cells #[.bool true,.string s] TH (0,0)) u f5 (aaf _ _ _ _ _ _ _ _ _ _ _ _) (λw4 K=>?_) (λw4 o x _ E ha K=>?_) f4
  .have⟨w',ev,r1,r2,r3⟩:=iN (t:=TH) (off:=0) (v:=hv true s) (bm K (.inl u) D) Kn (by simp[hv,Value.cells]) (by simp[hv,Value.cells,mN])
   exact⟨ϗ,_,w',ev,.inr ⟨r1,rfl⟩,r2,⟨rfl,rfl⟩,λe G=>⟨B9,r3 e G,.inl u⟩⟩
  obtain⟨rfl,rfl⟩:=ha;have T4:=T3.turn K f1 f2 (λq=>by have:=WA B9 q;omega);have Uw:=bm K (.inl ⟨.inl g,ac.symm⟩) y;clear K T3 y D;refine aF (aag _ _ _ _ _ _ _ _ _ _ _ _) ?_
  have ld:∀{w5 l:Ω},w5.heap[B9]? =some (.cells #[.bool true,.string s] TH (0,0))->RX X γ.ro (λb=>γ.own b\/b=B9) w5 l->∃w' ev,RT (lE.load TH (pb B9)).sem l (.value (hv true s)) w' ev/\w'.tape=l.tape/\w'.output=l.output/\w'.os=l.os/\w'.heap=l.heap/\∀e∈ev,∃b,EvB b e/\((γ.own b\/b=B9)\/(γ.ro b/\e.write=false)):=by
   intro w5 l a b;have⟨ev,r1,r2⟩:=kY (t:=TH) (off:=0) (n:=2) (bm b (.inl u) a) aic Kn ϛ;exact⟨l,ev,r1,rfl,rfl,rfl,rfl,λe G=>⟨B9,(r2 e G).1,.inl u⟩⟩
  refine dK (aad _ _ _ _ _ _ _ _ _ _ _ _) (x:=hv true s) (λw5 I=>ld E I) λw5 I=>?_
  have T5:=T4.rely I;have V:=bm I (.inl (.inl g)) Uw;have P:=bm I (.inl u) E;clear I T4 Uw E;refine aF (aae _ _ _ _ _ _ _ _ _ _ _ _) ?_;have m:∃b2 s2,(xB gA path).getD (hv false ⟨#[]⟩)=hv b2 s2/\((true==b2&&s==s2)=true↔gA path=some s):=by
   cases hA:gA path with
   |none=>exact⟨false,⟨#[]⟩,by simp[xB,hA],ϛ⟩
   |some s2=>exact⟨true,s2,by simp[xB,hA],by
     simp only[beq_self_eq_true,ϕ5,Go.MapKept.bytes_beq,af5];exact eq_comm⟩
  have⟨b2,s2,ab,Z⟩:=m;refine dK (aab _ _ _ _ _ _ _ _ _ _ _ _) (x:=hv b2 s2) (λl H=>?_) λl H=>?_
  .have:=ry (t:=TC) (s:=path) JL Og NZ (T5.rely H).w2 c.i2
   rw[ab] at this;exact⟨l,_,this,rfl,rfl,rfl,rfl,λx m=>by
    simp at m;subst m;exact⟨M2,eO,.inl (.inl c.o2)⟩⟩
  have T6:=T5.rely H;have W:=bm H (.inl (.inl g)) V;have T:=bm H (.inl u) P;clear H T5 V P;refine aF (aac _ _ _ _ _ _ _ _ _ _ _ _ _ _) ?_;refine dK (Z9 _ _ _ _ _ _ _ _ _ _ _ _ _ _) (x:= .bool (!(true==b2&&s==s2))) (λw7 J=>⟨w7,#[],JY _ _ _ _,rfl,rfl,rfl,rfl,ϛ⟩) λw7 J=>?_
  have T7:=T6.rely J;have aa:=bm J (.inl (.inl g)) W;have ae:=bm J (.inl u) T;clear J T6 W T;have N:(leftOf es1 (seen.push e.born)).size<L:=hL▸F
  by_cases p:(true==b2&&s==s2)=true
  .rw[p]
   have⟨j,Y,hg⟩:=Z8 X.Fd dv (bK r) M1 M2 it path s s2 b2 B9 fr cs λi=>tm.getD i ϗ
   exact aF hg (ih _ N (seen.push e.born) {γ with own:=λb=>γ.own b\/b=B9} w7 j it n k rfl ϖ T7 (.inl g) C Eh Zw PA aa (hI.skip hV (by rw[Z.1 p,hs])) Y)
  .have Q:(true==b2&&s==s2)=false:=by simpa using p
   rw[Q];refine aF (Uh _ _ _ _ _ _ _ _ _ _ _ _ _ _) ?_;refine dK (Z6 _ _ _ _ _ _ _ _ _ _ _ _ _ _) (x:=hv true s) (λw8 h8=>ld ae h8) λw8 h8=>?_
   have R:=T7.rely h8;have ad:=bm h8 (.inl (.inl g)) aa;refine aF (Z7 _ _ _ _ _ _ _ _ _ _ _ _ _ _) ?_;obtain⟨n',rfl⟩:∃n',n=n'+1:=⟨n-1,ϖ⟩
   refine Fu (γ:={γ with own:=λb=>γ.own b\/b=B9}) R.now.spot R.now.low R.now.ml R.now.live (λk' w9 own' d a1 a2 a4 a3=>?_) k;have⟨j,Y,hg⟩:=aal X.Fd dv (bK r) M1 M2 it path s s2 b2 B9 fr cs λi=>tm.getD i ϗ
   exact aF hg (ih _ N (seen.push e.born) {γ with own:=own',mine:=jJ γ.mine path (true,s),other:=d} w9 j it n' k' rfl ϖ (R.grow a3 a1 a2 a4) (a1 _ (.inl g)) C Eh Zw PA (bm a3 (.inl (.inl g)) ad) (hI.put hV hs λq=>p (Z.2 q)) Y)
end
end aI
end
section
open Go.RowKit Go.Lib
def sP (set:Int)(fs:List dl):Ξ->Option Ξ:=fs.foldl (λg f=>if(f.set:Int)=set then λs=>if s=aD f.path then some (aD f.content) else g s else g) λ_=>none
def Qj (set:Int)(fs:List dl)(k:Nat)(a:k<fs.length):sP set (fs.take (k+1))=if(fs[k].set:Int)=set then λs=>if s=aD fs[k].path then some (aD fs[k].content) else sP set (fs.take k) s else sP set (fs.take k):=by
 unfold sP;rw[ac4 a,ϕ3];rfl
def Ur (g:Ξ->Option Ξ)(p c:Ξ):aI.xB (λs=>if s=p then some c else g s)=λs=>if s=p then some (aI.hv true c) else aI.xB g s:=by
 funext s
 unfold aI.xB
 by_cases h:s=p
 .simp[h]
 .simp[h]
def Xb:prog.underlying 251=some (.map 9 161):=ϰ
def akl:prog.underlying 9=some .string:=ϰ
section
variable {P:ω}{ops:Array Oper}{Q:Exit->Act->Ω->Prop}{o:Oper}{rest:List Oper}{a:Act}{w:Ω}
def CY {t:η}(_:o.op= .makeMap t none)(h:aj (wpList P ops Q (o::rest) a w)):wpList P ops Q (o::rest) a w:=h
def yQ {t:η}{x y z:ab7}(_:o.op= .mapUpdate t x y z)(h:aj (wpList P ops Q (o::rest) a w)):wpList P ops Q (o::rest) a w:=h
end
def Hl {P:ω}{ops:Ϙ}{Q:ϔ}{a:Act}{w:Ω}{rest:ϧ}{o:Oper}(hg:o.guard=none)(t:η)(c:o.op= .makeMap t none)(h:∀w' b,w.heap.size<=b->aQ [] w w'->w'.heap[b]? =some (.map #[] 0)->wpList P ops Q rest (a.put o.dst (.map (some b))) w'):wpList P ops Q (o::rest) a w:=by
 refine cT hg (.map (some w.heap.size)) (w.alloc (.map #[] 0)) (by unfold execOp;rw[c];rfl) (h _ _ (ι _) (aQ.alloc ..) ?_);show(w.heap.push _)[w.heap.size]? =_;simp
def aQ.upd {m:Nat}{o:Obj}{w w':Ω}(h:aI.BA m o w w'):aQ [m] w w':=⟨h.os,h.tape,h.output,by rw[h.size];exact ι _,λk _ a=>h.rest k (by simpa using a)⟩
theorem CQ {ops:Ϙ}{Q:ϔ}{a:Act}{w:Ω}{rest:ϧ}{o:Oper}(hg:o.guard=none)(x y z:ab7)(j:o.op= .mapUpdate 251 x y z){m:Nat}{p:Ξ}{v:Φ}(l:a.eval x= .map (some m))(n:a.eval y= .string p)(g:a.eval z=v){es:Ϧ}{c:Nat}{f:Ξ->Option Φ}(hm:w.heap[m]? =some (.map es c))(e:aI.dS es c f)(h:∀w' b d,aQ [m] w w'->w'.heap[m]? =some (.map b d)->aI.dS b d (λs=>if s=p then some v else f s)->b.size<=es.size+1->wpList prog ops Q rest (a.put o.dst undef) w'):wpList prog ops Q (o::rest) a w:=by
 obtain⟨b,d,w',ev,h1,h2,_,k,i⟩:=aI.su (v:=v) Xb akl hm e;refine yd hg w' ?_ (h w' b d (aQ.upd h2) h2.at_ i k);have:=h1.run;unfold execOp;rw[j];dsimp only;rw[l,n,g];exact this
def Am (set:Int)(x:DS)(n:Nat)(w:Ω)(e:Ending)(w':Ω):Prop:=∃m es c,e= .returned (.map (some m))/\w.heap.size<=m/\w'.heap[m]? =some (.map es c)/\aI.dS es c (aI.xB (sP set (aO x n)))/\es.size<=54/\aQ [] w w'
def Bq {D:Ϥ}{d n:Nat}{x:DS}(R:Sa D d n x)(set:Int)(w:Ω)(h:D w):
  ∃cd,Tryz.f166.body=some cd/\cd.wp prog (bodyPost prog Tryz.f166 (Am set x n w)) {tmps:=#[.pointer (some ⟨d,0,none⟩),.int .i64 set]++Array.replicate (Tryz.f166.ntmps-(#[.pointer (some ⟨d,0,none⟩),.int .i64 set]:Array Φ).size) ϗ,defers:=[]} w:=by
 refine⟨_,rfl,?_⟩;simp only[ntmps166,ab3,ϳ,List.length_nil,Nat.reduceAdd,Nat.reduceSub,Array.replicate_succ,
   Array.replicate_zero,List.push_toArray,List.append_toArray,ϓ8,ϒ3]
 have ae:(aO x n).length<=54:=by unfold aO;rw[ah1];exact fy x n
 have V:Hid (∀f∈aO x n,f.set<256):=λf L=>by
  unfold aO at L;rw[ad1] at L;obtain⟨i,_,rfl⟩:=L;exact vS _
 go_wp2_with (with_reducible refine CY rfl ?_);refine Hl rfl 251 rfl ?_;intro w1 m l1 S E;go_wp2_with fail;have h1:=R.new h S ϛ;refine(RD R w1 h1).mono ?_;rintro e w2 ⟨v,rfl,hv,f2⟩;have r2:w2.heap[m]? =some (.map #[] 0):=by rw[f2.block m (Ψ.1 E).1 ϛ];exact E
 have K:=S.trans f2;have ac:m<w1.heap.size:=(Ψ.1 E).1;have xB:∀k∈[m],v.ownBlock≠some k:=λk F e=>by
  simp only[ae1] at F;subst F;have:=(hv.lt _ e).1;omega
 clear S f2 E h1;generalize q:aO x n=fs at*;have HF:Hid (aO x n=fs):=q;clear q;have⟨ad,cap,N⟩:=ce hv;subst N;have xB:Hid (∀k∈[m],(Value.slice ad fs.length cap).ownBlock≠some k):=xB;have ml:m<w2.heap.size:=(Ψ.1 r2).1;go_wp2_with fail
 go_loopw [12] (λc wr=>∃(k:Nat)(es:Ϧ)(o:Nat),c= .int .i64 k/\k<=fs.length/\aQ [m] w2 wr/\wr.heap[m]? =some (.map es o)/\Hid (aI.dS es o (aI.xB (sP set (fs.take k)))/\es.size<=k)) (λc _=>fs.length-(intOf c).toNat)
 case atStart=>exact⟨0,#[],0,rfl,ϖ,aQ.refl ..,r2,aI.dS.empty 0,ϛ⟩
 case round=>
  obtain⟨k,es,o,rfl,F,z,B,j⟩:=hrel;clear r2;have u:=z.owns hv xB.out
  by_cases l:k<fs.length
  .obtain⟨g,O,rfl,hg,ab,_,I,r⟩:=eT u
   have b:((O.toList.drop (k*3)).take 3)=cg fs[k].set fs[k].path fs[k].content:=by
    rw[cx r _ _,uT fs k l]
   have G:=Qj set fs k l;have W:=V.out fs[k] (ai2 l);generalize fs[k]=f at b G W;have Y:Hid (sP set (fs.take (k+1))=if(f.set:Int)=set then λs=>if s=aD f.path then some (aD f.content) else sP set (fs.take k) s else sP set (fs.take k)):=G;clear G I r
   go_wp2_with (with_reducible first|refine au 107 rfl ?_|refine aA rfl ?_|refine ai 107 rfl ?_);refine bZ rfl 107 _ rfl g (k*3) rfl kZ 3 eZ _ _ hg (cg f.set f.path f.content) b rfl ?_;clear b hg;go_wp2_with (with_reducible first|refine aA rfl ?_|refine ai 107 rfl ?_)
   refine bj rfl 107 rfl yE lP ?_;intro w4 p X H r5;have P:p≠m:=by have:=z.size;omega
   have a:w4.heap[m]? =some (.map es o):=by rw[H.block m (Ψ.1 B).1 ϛ];exact B
   go_wp2_with (with_reducible first|refine aA rfl ?_|refine ai 107 rfl ?_);refine bQ rfl 107 _ _ rfl _ 0 rfl _ rfl 3 eZ ?_ ?_ _ _ r5 ?_ ?_
   .rfl
   .simp[cg,Value.oneCell']
   .decide
   intro y Q U;rw[bL _ _ (by rfl)] at U;have C:Row y p (cg f.set f.path f.content).toArray 107:=U;have A:y.heap[m]? =some (.map es o):=by rw[Q.block m (Ψ.1 a).1 (by simpa using P.symm)];exact a
   have t:=H.trans Q (by simpa using X);have Z:=z.trans t;have c0:y.cell? ⟨p,0,none⟩=some (.int .i64 f.set):=by rw[C.cell];rfl
   have c1:y.cell? ⟨p,1,none⟩=some (.string (aD f.path)):=by rw[C.cell];rfl
   have c2:y.cell? ⟨p,2,none⟩=some (.string (aD f.content)):=by rw[C.cell];rfl
   clear U r5 H Q t z X u B a C;go_wp2_with (with_reducible refine yQ rfl ?_)
   .refine CQ rfl _ _ _ rfl rfl rfl rfl A j.out.1 ?_
    intro w6 M c6 f6 T J aa;have Bi:=Z.trans f6;go_wp2_with fail;refine⟨⟨k+1,M,c6,ϛ,ϖ,Bi,T,?_,?_⟩,by simp[intOf];omega⟩
    .rw[Y.out,φ (by simpa using(‹((f.set:Int)==set)=true›)),Ur]
     exact J
    .have:=j.out.2;omega
   .refine⟨⟨k+1,es,o,ϛ,ϖ,Z,A,?_,?_⟩,by simp[intOf];omega⟩
    .rw[Y.out,ζ (by simpa using(‹((f.set:Int)==set)=false›))]
     exact j.out.1
    .have:=j.out.2;omega
  .obtain rfl:k=fs.length:=ϖ
   go_wp2;go_ret;exact⟨m,es,o,rfl,l1,B,by rw[HF.out];rw[List.take_length] at j;exact j.out.1,by have:=j.out.2;omega,(K.trans z (by simp;omega)).mono⟩
end
section
open Go.Conc
open Go.ConcM (OsLater)
namespace aI
section
variable {X:Cx jO}{r:bB}{ro:Nat->Prop}{gN gA:Ξ->Option Ξ}{dv:Φ}{K:Nat}{Rd:Ω->Prop}
def Cont (X:Cx jO)(r:bB)(ro:ϒ)(Rd:Ϥ)(dv:Φ)(set:Int)(g:Ξ->Option Ξ)(K:Nat):Prop:=
 ∀(γ:Gh jO)(k:Nat)(T:Lo)(w:Ω)(fr:κ)(cs:ϙ),fS T.pc=false->Now X r γ w->γ.ro=ro->Rd w->
  (∀w' m es c (own':ϒ),(∀b,γ.own b->own' b)->(∀b,own' b->γ.own b\/w.heap.size<=b)->(∀b,own' b->b<w'.heap.size)->RX X γ.ro γ.own w w'->own' m->¬γ.own m->w'.heap[m]? =some (.map es c)->dS es c (xB g)->es.size<=K->
   LW X r {γ with own:=own'} k T (da fr cs (.map (some m))) w')->LW X r γ k T (gC0 dv set fr cs) w
def Mm (t:∀w w' own,Rd w->RX X ro own w w'->Rd w')(h1:Cont X r ro Rd dv (bK r:Int) gN K)(h2:Cont X r ro Rd dv 2 gA K){γ:Gh jO}{w:Ω}{fr:κ}{cs:ϙ}{n k:Nat}(V:2*K<=n)(g:Now X r γ w)(a:γ.ro=ro)(G:Rd w)(h0:γ.mine=λ_=>none)(S:Done X r ro γ.own w (k9 gN gA) fr cs):LW X r γ k (at_ .out n) (gK0 X.Fd dv (bK r:Int) fr cs) w:=by
 refine aF (abI ..) (h1 γ k _ w _ _ rfl g a G λw1 M1 es1 c1 z C F J h i U v M s1=>?_);have T1:Now X r {γ with own:=z} w1:=g.grow h (m:=γ.mine) (d:=γ.other) F J;have N:Rd w1:=t w w1 γ.own G (a▸h);refine aF (abH ..) (h2 {γ with own:=z} k _ w1 _ _ rfl T1 a N λw2 M2 es2 c2 u b1 b2 Q b4 o2 I l i2 s2=>?_)
 have T2:Now X r {γ with own:=u} w2:=T1.grow b4 (m:=γ.mine) (d:=γ.other) b2 Q;have O:RX X ro γ.own w w2:=by
  have o:RX X ro γ.own w w1:=a▸h;have A:RX X ro z w1 w2:=a▸b4;exact o.trans X (A.sub C)
 have c:Two X r ro γ.own w gN gA es1 es2 c1 c2 M1 M2 {γ with own:=u} w2:=by
  refine⟨T2,a,λb hb=>b1 b (C b hb),λb hb=>?_,O,b1 _ i,o2,bm b4 (.inl i) v,l,M,i2⟩;rcases b2 b hb with hb|hb
  .exact F b hb
  .exact .inr (ac7 h.size hb)
 refine aF (abG ..) ?_;refine jf (f:=λb=>pb b) (abE ..) (λH p=>⟨_,ze JL (c.rely p).w1,λx E=>by simp at E;subst E;exact⟨M1,eO,.inl (b1 _ i)⟩⟩) λH B p D e=>?_
 have⟨P,f2,Z,L,Y,W⟩:=c.fresh D;have R:=c.more p D e;have⟨j,T,hg⟩:=abF X.Fd dv (bK r) M1 M2 B fr cs (.map (some M1)) rfl;have y:leftOf es1 #[]=es1:=by unfold leftOf;rw[Array.filter_eq_self];simp
 have e1:Ed es1 #[]=λ_=>False:=funext λs=>propext ⟨CT s,False.elim⟩
 exact aF hg (afJ (λb hb=>g.low b (.inl hb)) S _ #[] {γ with own:=λb=>u b\/b=B} H j B n k rfl (by rw[y];omega) R (.inr rfl) P f2 (λq=>by have:=g.low B (.inl q);omega) L e (by
  rw[e1];show NO gN gA _ γ.mine;rw[h0];exact NO.start) T)
def wN (f:∀w w' own,Rd w->RX X ro own w w'->Rd w')(h1:Cont X r ro Rd dv (bK r:Int) gN K)(h2:Cont X r ro Rd dv 2 gA K){γ:Gh jO}{w:Ω}{n k bw bf bd bs:Nat}(l:2*K<=n)(h:Now X r γ w)(g:γ.ro=ro)(m:Rd w)(h0:γ.mine=λ_=>none)(b:X.fin r=k9 gN gA)(a:ro bw)(q:ro bf)(rd:ro bd)(u:ro bs)(i:w.cell? ⟨bw,0,none⟩=some (pb X.Wg))(p:w.cell? ⟨bf,0,none⟩=some (sM X.Fd bd bs))(o:w.cell? ⟨bd,0,none⟩=some dv)(cs:w.cell? ⟨bs,0,none⟩=some (.int .i64 (bK r:Int))):
  LW X r γ k (at_ .out n) (gW0 bw bf) w:=by
 subst g;refine Sg rfl q rd u p o cs (Mm f h1 h2 l h rfl m h0 λk' w' s x e t2 v y j t=>?_);have d:bw<w.heap.size:=h.low bw (.inr a);have c:w'.cell? ⟨bw,0,none⟩=some (pb X.Wg):=by
  unfold World.cell? at i⊢;rw[j.keep bw d (.inr a)];exact i
 exact N7 e.spot.worker e.spot.room e.live (t2▸a) c (t.trans b.symm)
end
end aI
end
end
end Go.Proofs.YtchcmhodnkgojaaGreat
