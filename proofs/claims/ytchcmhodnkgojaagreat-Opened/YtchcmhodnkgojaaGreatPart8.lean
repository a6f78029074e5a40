/- On the way to the last text; put together and shortened by program. -/
import Derived.Test.YtchcmhodnkgojaaGreatPart7
import Derived.MapKept
set_option linter.all false
set_option maxRecDepth 100000
set_option maxHeartbeats 8000000
namespace Go.Proofs.YtchcmhodnkgojaaGreat
noncomputable section
section
open Go.Conc
open Go.ConcM (OsLater)
namespace aG
section
variable (F:Nat)(fr:κ)(cs:List κ)(aN:Nat)(it v:Int)(y:Nat->Φ)
def h1:Ω:=gH F fr cs (Pm F aN false false it 1 y)
def b1:Ω:=O (h1 F fr cs aN it y)
theorem adE:au PP false (h1 F fr cs aN it y) (b1 F fr cs aN it y):=aK λws=>by kernel_rfl
theorem aeC:aF (b1 F fr cs aN it y)=some (221,#[.int .i64 it]):=by kernel_rfl
def c1:Ω:=O (resume (b1 F fr cs aN it y) (.bool false))
theorem aeD:au PP false (resume (b1 F fr cs aN it y) (.bool false)) (c1 F fr cs aN it y):=aK λws=>by kernel_rfl
def d1:Ω:=O (resume (b1 F fr cs aN it y) (.bool true))
theorem Zv:au PP false (resume (b1 F fr cs aN it y) (.bool true)) (d1 F fr cs aN it y):=aK λws=>by kernel_rfl
theorem aet:aF (d1 F fr cs aN it y)=some (222,#[]):=by kernel_rfl
def e1:Ω:=O (resume (d1 F fr cs aN it y) U)
theorem aes:au PP false (resume (d1 F fr cs aN it y) U) (e1 F fr cs aN it y):=aK λws=>by kernel_rfl
theorem aeq:aT (e1 F fr cs aN it y)=some (.load 21 (pt F)):=by kernel_rfl
theorem Zb:(PP.funcs[(e1 F fr cs aN it y).frame.fn]?).any (·.norace)=true:=by kernel_rfl
theorem aer:∃tm,HH F aN false false (IntKind.i64.wrap (it+1)) v tm/\au PP false (resume (e1 F fr cs aN it y) (.int .i32 v)) (gH F fr cs tm):=
 ⟨(On 4 (resume (e1 F fr cs aN it y) (.int .i32 v))).frame.tmps,⟨by kernel_rfl,by kernel_rfl,by kernel_rfl,by kernel_rfl,by kernel_rfl,by kernel_rfl,by kernel_rfl⟩,aR 4 (bT PP false 4 (resume (e1 F fr cs aN it y) (.int .i32 v))) λws=>by kernel_rfl⟩
theorem Zq:aF (c1 F fr cs aN it y)=some (217,#[pt F,.int .i32 1,.int .i32 9]):=by kernel_rfl
def m1:Ω:=O (resume (c1 F fr cs aN it y) (.bool false))
theorem Sm:au PP false (resume (c1 F fr cs aN it y) (.bool false)) (m1 F fr cs aN it y):=aK λws=>by kernel_rfl
theorem acs:aT (m1 F fr cs aN it y)=some (.load 21 (pt F)):=by kernel_rfl
theorem WS:(PP.funcs[(m1 F fr cs aN it y).frame.fn]?).any (·.norace)=true:=by kernel_rfl
theorem acu:∃tm,HH F aN false false it v tm/\au PP false (resume (m1 F fr cs aN it y) (.int .i32 v)) (gH F fr cs tm):=
 ⟨(On 4 (resume (m1 F fr cs aN it y) (.int .i32 v))).frame.tmps,⟨by kernel_rfl,by kernel_rfl,by kernel_rfl,by kernel_rfl,by kernel_rfl,by kernel_rfl,by kernel_rfl⟩,aR 4 (bT PP false 4 (resume (m1 F fr cs aN it y) (.int .i32 v))) λws=>by kernel_rfl⟩
def n1:Ω:=O (resume (c1 F fr cs 0 it y) (.bool true))
theorem So:au PP false (resume (c1 F fr cs 0 it y) (.bool true)) (n1 F fr cs it y):=aK λws=>by kernel_rfl
theorem QE:aF (n1 F fr cs it y)=some (224,#[]):=by kernel_rfl
def p1:Ω:=O (resume (n1 F fr cs it y) (.int .i64 (aN:Int)))
theorem aco:au PP false (resume (n1 F fr cs it y) (.int .i64 (aN:Int))) (p1 F fr cs aN it y):=aK λws=>by kernel_rfl
theorem Wr:aF (p1 F fr cs aN it y)=some (225,#[qv F,.bool false,.int .i64 2]):=by kernel_rfl
theorem abR:∃tm,HQ F aN false tm/\au PP false (resume (p1 F fr cs aN it y) U) (gQ F fr cs tm):=
 ⟨(On 1 (resume (p1 F fr cs aN it y) U)).frame.tmps,⟨by kernel_rfl,by kernel_rfl,by kernel_rfl,by kernel_rfl⟩,aR 1 (bT PP false 1 (resume (p1 F fr cs aN it y) U)) λws=>by kernel_rfl⟩
def q1:Ω:=O (resume (c1 F fr cs (aN+1) it y) (.bool true))
theorem Sn:au PP false (resume (c1 F fr cs (aN+1) it y) (.bool true)) (q1 F fr cs aN it y):=aK λws=>by kernel_rfl
theorem Wl:aF (q1 F fr cs aN it y)=some (225,#[qv F,.bool true,.int .i64 2]):=by kernel_rfl
theorem abN:∃tm,HQ F (aN+1) false tm/\au PP false (resume (q1 F fr cs aN it y) U) (gQ F fr cs tm):=
 ⟨(On 1 (resume (q1 F fr cs aN it y) U)).frame.tmps,⟨by kernel_rfl,by kernel_rfl,by kernel_rfl,by kernel_rfl⟩,aR 1 (bT PP false 1 (resume (q1 F fr cs aN it y) U)) λws=>by kernel_rfl⟩
end
section
variable (F:Nat)(fr:κ)(cs:List κ)(aN:Nat)(it v:Int)(y:Nat->Φ)
def h2:Ω:=gH F fr cs (Pm F aN false false it 2 y)
def b2:Ω:=O (h2 F fr cs aN it y)
theorem adD:au PP false (h2 F fr cs aN it y) (b2 F fr cs aN it y):=aK λws=>by kernel_rfl
abbrev c2:Ω:=b2 F fr cs aN it y
theorem Zp:aF (c2 F fr cs aN it y)=some (217,#[pt F,.int .i32 2,.int .i32 3]):=by kernel_rfl
def m2:Ω:=O (resume (c2 F fr cs aN it y) (.bool false))
theorem Sl:au PP false (resume (c2 F fr cs aN it y) (.bool false)) (m2 F fr cs aN it y):=aK λws=>by kernel_rfl
theorem acq:aT (m2 F fr cs aN it y)=some (.load 21 (pt F)):=by kernel_rfl
theorem WQ:(PP.funcs[(m2 F fr cs aN it y).frame.fn]?).any (·.norace)=true:=by kernel_rfl
theorem acr:∃tm,HH F aN false false it v tm/\au PP false (resume (m2 F fr cs aN it y) (.int .i32 v)) (gH F fr cs tm):=
 ⟨(On 4 (resume (m2 F fr cs aN it y) (.int .i32 v))).frame.tmps,⟨by kernel_rfl,by kernel_rfl,by kernel_rfl,by kernel_rfl,by kernel_rfl,by kernel_rfl,by kernel_rfl⟩,aR 4 (bT PP false 4 (resume (m2 F fr cs aN it y) (.int .i32 v))) λws=>by kernel_rfl⟩
theorem Zo:∃tm,HR F tm/\au PP false (resume (c2 F fr cs aN it y) (.bool true)) (gR F fr cs tm):=
 ⟨(On 11 (resume (c2 F fr cs aN it y) (.bool true))).frame.tmps,⟨by kernel_rfl,by kernel_rfl⟩,aR 11 (bT PP false 11 (resume (c2 F fr cs aN it y) (.bool true))) λws=>by kernel_rfl⟩
end
section
variable (F:Nat)(fr:κ)(cs:List κ)(aN:Nat)(it v:Int)(y:Nat->Φ)
def h2a:Ω:=gH F fr cs (Pm F aN false true it 2 y)
def b2a:Ω:=O (h2a F fr cs aN it y)
theorem X5:au PP false (h2a F fr cs aN it y) (b2a F fr cs aN it y):=aK λws=>by kernel_rfl
abbrev TT:Ω:=b2a F fr cs aN it y
theorem Sk:aF (TT F fr cs aN it y)=some (217,#[pt F,.int .i32 2,.int .i32 1]):=by kernel_rfl
def ZV:Ω:=O (resume (TT F fr cs aN it y) (.bool false))
theorem Ol:au PP false (resume (TT F fr cs aN it y) (.bool false)) (ZV F fr cs aN it y):=aK λws=>by kernel_rfl
theorem WO:aT (ZV F fr cs aN it y)=some (.load 21 (pt F)):=by kernel_rfl
theorem QO:(PP.funcs[(ZV F fr cs aN it y).frame.fn]?).any (·.norace)=true:=by kernel_rfl
theorem WP:∃tm,HH F aN false true it v tm/\au PP false (resume (ZV F fr cs aN it y) (.int .i32 v)) (gH F fr cs tm):=
 ⟨(On 4 (resume (ZV F fr cs aN it y) (.int .i32 v))).frame.tmps,⟨by kernel_rfl,by kernel_rfl,by kernel_rfl,by kernel_rfl,by kernel_rfl,by kernel_rfl,by kernel_rfl⟩,aR 4 (bT PP false 4 (resume (ZV F fr cs aN it y) (.int .i32 v))) λws=>by kernel_rfl⟩
theorem Sj:∃tm,HR F tm/\au PP false (resume (TT F fr cs aN it y) (.bool true)) (gR F fr cs tm):=
 ⟨(On 11 (resume (TT F fr cs aN it y) (.bool true))).frame.tmps,⟨by kernel_rfl,by kernel_rfl⟩,aR 11 (bT PP false 11 (resume (TT F fr cs aN it y) (.bool true))) λws=>by kernel_rfl⟩
end
section
variable (F:Nat)(fr:κ)(cs:List κ)(aN:Nat)(it v:Int)(y:Nat->Φ)
def adC:Ω:=gH F fr cs (Pm F aN true true it 2 y)
def aeB:Ω:=O (adC F fr cs aN it y)
theorem Ro:au PP false (adC F fr cs aN it y) (aeB F fr cs aN it y):=aK λws=>by kernel_rfl
abbrev Ek:Ω:=aeB F fr cs aN it y
theorem Oj:aF (Ek F fr cs aN it y)=some (217,#[pt F,.int .i32 2,.int .i32 1]):=by kernel_rfl
def Js:Ω:=O (resume (Ek F fr cs aN it y) (.bool false))
theorem Ks:au PP false (resume (Ek F fr cs aN it y) (.bool false)) (Js F fr cs aN it y):=aK λws=>by kernel_rfl
theorem QM:aT (Js F fr cs aN it y)=some (.load 21 (pt F)):=by kernel_rfl
theorem Mx:(PP.funcs[(Js F fr cs aN it y).frame.fn]?).any (·.norace)=true:=by kernel_rfl
theorem QN:∃tm,HH F aN true true it v tm/\au PP false (resume (Js F fr cs aN it y) (.int .i32 v)) (gH F fr cs tm):=
 ⟨(On 4 (resume (Js F fr cs aN it y) (.int .i32 v))).frame.tmps,⟨by kernel_rfl,by kernel_rfl,by kernel_rfl,by kernel_rfl,by kernel_rfl,by kernel_rfl,by kernel_rfl⟩,aR 4 (bT PP false 4 (resume (Js F fr cs aN it y) (.int .i32 v))) λws=>by kernel_rfl⟩
theorem Oi:∃tm,HR F tm/\au PP false (resume (Ek F fr cs aN it y) (.bool true)) (gR F fr cs tm):=
 ⟨(On 11 (resume (Ek F fr cs aN it y) (.bool true))).frame.tmps,⟨by kernel_rfl,by kernel_rfl⟩,aR 11 (bT PP false 11 (resume (Ek F fr cs aN it y) (.bool true))) λws=>by kernel_rfl⟩
end
section
variable (F:Nat)(fr:κ)(cs:List κ)(aN:Nat)(it v:Int)(y:Nat->Φ)
def h3a:Ω:=gH F fr cs (Pm F aN false true it 3 y)
def b3a:Ω:=O (h3a F fr cs aN it y)
theorem X4:au PP false (h3a F fr cs aN it y) (b3a F fr cs aN it y):=aK λws=>by kernel_rfl
theorem Zt:aF (b3a F fr cs aN it y)=some (221,#[.int .i64 it]):=by kernel_rfl
def O3:Ω:=O (resume (b3a F fr cs aN it y) (.bool false))
theorem Zu:au PP false (resume (b3a F fr cs aN it y) (.bool false)) (O3 F fr cs aN it y):=aK λws=>by kernel_rfl
def d3a:Ω:=O (resume (b3a F fr cs aN it y) (.bool true))
theorem Sw:au PP false (resume (b3a F fr cs aN it y) (.bool true)) (d3a F fr cs aN it y):=aK λws=>by kernel_rfl
theorem Ze:aF (d3a F fr cs aN it y)=some (222,#[]):=by kernel_rfl
def e3a:Ω:=O (resume (d3a F fr cs aN it y) U)
theorem Zd:au PP false (resume (d3a F fr cs aN it y) U) (e3a F fr cs aN it y):=aK λws=>by kernel_rfl
theorem Y9:aT (e3a F fr cs aN it y)=some (.load 21 (pt F)):=by kernel_rfl
theorem RZ:(PP.funcs[(e3a F fr cs aN it y).frame.fn]?).any (·.norace)=true:=by kernel_rfl
theorem Za:∃tm,HH F aN false true (IntKind.i64.wrap (it+1)) v tm/\au PP false (resume (e3a F fr cs aN it y) (.int .i32 v)) (gH F fr cs tm):=
 ⟨(On 4 (resume (e3a F fr cs aN it y) (.int .i32 v))).frame.tmps,⟨by kernel_rfl,by kernel_rfl,by kernel_rfl,by kernel_rfl,by kernel_rfl,by kernel_rfl,by kernel_rfl⟩,aR 4 (bT PP false 4 (resume (e3a F fr cs aN it y) (.int .i32 v))) λws=>by kernel_rfl⟩
theorem Si:aF (O3 F fr cs aN it y)=some (217,#[pt F,.int .i32 3,.int .i32 9]):=by kernel_rfl
def ZU:Ω:=O (resume (O3 F fr cs aN it y) (.bool false))
theorem Of:au PP false (resume (O3 F fr cs aN it y) (.bool false)) (ZU F fr cs aN it y):=aK λws=>by kernel_rfl
theorem WM:aT (ZU F fr cs aN it y)=some (.load 21 (pt F)):=by kernel_rfl
theorem QL:(PP.funcs[(ZU F fr cs aN it y).frame.fn]?).any (·.norace)=true:=by kernel_rfl
theorem WN:∃tm,HH F aN false true it v tm/\au PP false (resume (ZU F fr cs aN it y) (.int .i32 v)) (gH F fr cs tm):=
 ⟨(On 4 (resume (ZU F fr cs aN it y) (.int .i32 v))).frame.tmps,⟨by kernel_rfl,by kernel_rfl,by kernel_rfl,by kernel_rfl,by kernel_rfl,by kernel_rfl,by kernel_rfl⟩,aR 4 (bT PP false 4 (resume (ZU F fr cs aN it y) (.int .i32 v))) λws=>by kernel_rfl⟩
def n3a:Ω:=O (resume (O3 F fr cs 0 it y) (.bool true))
theorem Oh:au PP false (resume (O3 F fr cs 0 it y) (.bool true)) (n3a F fr cs it y):=aK λws=>by kernel_rfl
theorem Mo:aF (n3a F fr cs it y)=some (224,#[]):=by kernel_rfl
def p3a:Ω:=O (resume (n3a F fr cs it y) (.int .i64 (aN:Int)))
theorem WH:au PP false (resume (n3a F fr cs it y) (.int .i64 (aN:Int))) (p3a F fr cs aN it y):=aK λws=>by kernel_rfl
theorem Qk:aF (p3a F fr cs aN it y)=some (225,#[qv F,.bool false,.int .i64 2]):=by kernel_rfl
theorem Wq:∃tm,HQ F aN false tm/\au PP false (resume (p3a F fr cs aN it y) U) (gQ F fr cs tm):=
 ⟨(On 1 (resume (p3a F fr cs aN it y) U)).frame.tmps,⟨by kernel_rfl,by kernel_rfl,by kernel_rfl,by kernel_rfl⟩,aR 1 (bT PP false 1 (resume (p3a F fr cs aN it y) U)) λws=>by kernel_rfl⟩
def q3a:Ω:=O (resume (O3 F fr cs (aN+1) it y) (.bool true))
theorem Og:au PP false (resume (O3 F fr cs (aN+1) it y) (.bool true)) (q3a F fr cs aN it y):=aK λws=>by kernel_rfl
theorem Qd:aF (q3a F fr cs aN it y)=some (225,#[qv F,.bool true,.int .i64 2]):=by kernel_rfl
theorem Wk:∃tm,HQ F (aN+1) false tm/\au PP false (resume (q3a F fr cs aN it y) U) (gQ F fr cs tm):=
 ⟨(On 1 (resume (q3a F fr cs aN it y) U)).frame.tmps,⟨by kernel_rfl,by kernel_rfl,by kernel_rfl,by kernel_rfl⟩,aR 1 (bT PP false 1 (resume (q3a F fr cs aN it y) U)) λws=>by kernel_rfl⟩
end
section
variable (F:Nat)(fr:κ)(cs:List κ)(aN:Nat)(it v:Int)(y:Nat->Φ)
def adB:Ω:=gH F fr cs (Pm F aN true true it 3 y)
def Kx:Ω:=O (adB F fr cs aN it y)
theorem Rn:au PP false (adB F fr cs aN it y) (Kx F fr cs aN it y):=aK λws=>by kernel_rfl
theorem Su:aF (Kx F fr cs aN it y)=some (221,#[.int .i64 it]):=by kernel_rfl
def zl:Ω:=O (resume (Kx F fr cs aN it y) (.bool false))
theorem Sv:au PP false (resume (Kx F fr cs aN it y) (.bool false)) (zl F fr cs aN it y):=aK λws=>by kernel_rfl
def R8:Ω:=O (resume (Kx F fr cs aN it y) (.bool true))
theorem Ov:au PP false (resume (Kx F fr cs aN it y) (.bool true)) (R8 F fr cs aN it y):=aK λws=>by kernel_rfl
theorem R7:aF (R8 F fr cs aN it y)=some (222,#[]):=by kernel_rfl
def J9:Ω:=O (resume (R8 F fr cs aN it y) U)
theorem R6:au PP false (resume (R8 F fr cs aN it y) U) (J9 F fr cs aN it y):=aK λws=>by kernel_rfl
theorem RW:aT (J9 F fr cs aN it y)=some (.load 21 (pt F)):=by kernel_rfl
theorem NT:(PP.funcs[(J9 F fr cs aN it y).frame.fn]?).any (·.norace)=true:=by kernel_rfl
theorem RY:∃tm,HH F aN true true (IntKind.i64.wrap (it+1)) v tm/\au PP false (resume (J9 F fr cs aN it y) (.int .i32 v)) (gH F fr cs tm):=
 ⟨(On 4 (resume (J9 F fr cs aN it y) (.int .i32 v))).frame.tmps,⟨by kernel_rfl,by kernel_rfl,by kernel_rfl,by kernel_rfl,by kernel_rfl,by kernel_rfl,by kernel_rfl⟩,aR 4 (bT PP false 4 (resume (J9 F fr cs aN it y) (.int .i32 v))) λws=>by kernel_rfl⟩
theorem Oe:aF (zl F fr cs aN it y)=some (217,#[pt F,.int .i32 3,.int .i32 13]):=by kernel_rfl
def Jr:Ω:=O (resume (zl F fr cs aN it y) (.bool false))
theorem Kp:au PP false (resume (zl F fr cs aN it y) (.bool false)) (Jr F fr cs aN it y):=aK λws=>by kernel_rfl
theorem QJ:aT (Jr F fr cs aN it y)=some (.load 21 (pt F)):=by kernel_rfl
theorem Mw:(PP.funcs[(Jr F fr cs aN it y).frame.fn]?).any (·.norace)=true:=by kernel_rfl
theorem QK:∃tm,HH F aN true true it v tm/\au PP false (resume (Jr F fr cs aN it y) (.int .i32 v)) (gH F fr cs tm):=
 ⟨(On 4 (resume (Jr F fr cs aN it y) (.int .i32 v))).frame.tmps,⟨by kernel_rfl,by kernel_rfl,by kernel_rfl,by kernel_rfl,by kernel_rfl,by kernel_rfl,by kernel_rfl⟩,aR 4 (bT PP false 4 (resume (Jr F fr cs aN it y) (.int .i32 v))) λws=>by kernel_rfl⟩
def QD:Ω:=O (resume (zl F fr cs 0 it y) (.bool true))
theorem Kr:au PP false (resume (zl F fr cs 0 it y) (.bool true)) (QD F fr cs it y):=aK λws=>by kernel_rfl
theorem Jo:aF (QD F fr cs it y)=some (224,#[]):=by kernel_rfl
def L6:Ω:=O (resume (QD F fr cs it y) (.int .i64 (aN:Int)))
theorem QC:au PP false (resume (QD F fr cs it y) (.int .i64 (aN:Int))) (L6 F fr cs aN it y):=aK λws=>by kernel_rfl
theorem L5:aF (L6 F fr cs aN it y)=some (225,#[qv F,.bool false,.int .i64 2]):=by kernel_rfl
theorem Qj:∃tm,HQ F aN true tm/\au PP false (resume (L6 F fr cs aN it y) U) (gQ F fr cs tm):=
 ⟨(On 1 (resume (L6 F fr cs aN it y) U)).frame.tmps,⟨by kernel_rfl,by kernel_rfl,by kernel_rfl,by kernel_rfl⟩,aR 1 (bT PP false 1 (resume (L6 F fr cs aN it y) U)) λws=>by kernel_rfl⟩
def LO:Ω:=O (resume (zl F fr cs (aN+1) it y) (.bool true))
theorem Kq:au PP false (resume (zl F fr cs (aN+1) it y) (.bool true)) (LO F fr cs aN it y):=aK λws=>by kernel_rfl
theorem LN:aF (LO F fr cs aN it y)=some (225,#[qv F,.bool true,.int .i64 2]):=by kernel_rfl
theorem Qc:∃tm,HQ F (aN+1) true tm/\au PP false (resume (LO F fr cs aN it y) U) (gQ F fr cs tm):=
 ⟨(On 1 (resume (LO F fr cs aN it y) U)).frame.tmps,⟨by kernel_rfl,by kernel_rfl,by kernel_rfl,by kernel_rfl⟩,aR 1 (bT PP false 1 (resume (LO F fr cs aN it y) U)) λws=>by kernel_rfl⟩
end
section
variable (F:Nat)(fr:κ)(cs:List κ)(aN:Nat)(it v:Int)(y:Nat->Φ)
def h12:Ω:=gH F fr cs (Pm F aN false false it 12 y)
def b12:Ω:=O (h12 F fr cs aN it y)
theorem X6:au PP false (h12 F fr cs aN it y) (b12 F fr cs aN it y):=aK λws=>by kernel_rfl
abbrev c12:Ω:=b12 F fr cs aN it y
theorem Sp:aF (c12 F fr cs aN it y)=some (217,#[pt F,.int .i32 12,.int .i32 20]):=by kernel_rfl
def m12:Ω:=O (resume (c12 F fr cs aN it y) (.bool false))
theorem Om:au PP false (resume (c12 F fr cs aN it y) (.bool false)) (m12 F fr cs aN it y):=aK λws=>by kernel_rfl
theorem WT:aT (m12 F fr cs aN it y)=some (.load 21 (pt F)):=by kernel_rfl
theorem QP:(PP.funcs[(m12 F fr cs aN it y).frame.fn]?).any (·.norace)=true:=by kernel_rfl
theorem WU:∃tm,HH F aN false false it v tm/\au PP false (resume (m12 F fr cs aN it y) (.int .i32 v)) (gH F fr cs tm):=
 ⟨(On 4 (resume (m12 F fr cs aN it y) (.int .i32 v))).frame.tmps,⟨by kernel_rfl,by kernel_rfl,by kernel_rfl,by kernel_rfl,by kernel_rfl,by kernel_rfl,by kernel_rfl⟩,aR 4 (bT PP false 4 (resume (m12 F fr cs aN it y) (.int .i32 v))) λws=>by kernel_rfl⟩
def n12:Ω:=O (resume (c12 F fr cs 0 it y) (.bool true))
theorem Oq:au PP false (resume (c12 F fr cs 0 it y) (.bool true)) (n12 F fr cs it y):=aK λws=>by kernel_rfl
theorem Mp:aF (n12 F fr cs it y)=some (224,#[]):=by kernel_rfl
def p12:Ω:=O (resume (n12 F fr cs it y) (.int .i64 (aN:Int)))
theorem WI:au PP false (resume (n12 F fr cs it y) (.int .i64 (aN:Int))) (p12 F fr cs aN it y):=aK λws=>by kernel_rfl
theorem Ql:aF (p12 F fr cs aN it y)=some (225,#[qv F,.bool false,.int .i64 2]):=by kernel_rfl
theorem Ws:∃tm,HQ F aN false tm/\au PP false (resume (p12 F fr cs aN it y) U) (gQ F fr cs tm):=
 ⟨(On 1 (resume (p12 F fr cs aN it y) U)).frame.tmps,⟨by kernel_rfl,by kernel_rfl,by kernel_rfl,by kernel_rfl⟩,aR 1 (bT PP false 1 (resume (p12 F fr cs aN it y) U)) λws=>by kernel_rfl⟩
def q12:Ω:=O (resume (c12 F fr cs (aN+1) it y) (.bool true))
theorem Oo:au PP false (resume (c12 F fr cs (aN+1) it y) (.bool true)) (q12 F fr cs aN it y):=aK λws=>by kernel_rfl
theorem Qe:aF (q12 F fr cs aN it y)=some (225,#[qv F,.bool true,.int .i64 2]):=by kernel_rfl
theorem Wm:∃tm,HQ F (aN+1) false tm/\au PP false (resume (q12 F fr cs aN it y) U) (gQ F fr cs tm):=
 ⟨(On 1 (resume (q12 F fr cs aN it y) U)).frame.tmps,⟨by kernel_rfl,by kernel_rfl,by kernel_rfl,by kernel_rfl⟩,aR 1 (bT PP false 1 (resume (q12 F fr cs aN it y) U)) λws=>by kernel_rfl⟩
end
section
variable (F:Nat)(fr:κ)(cs:List κ)(aN:Nat)(it v:Int)(y:Nat->Φ)
def qF:Ω:=O (gQ F fr cs (OS F aN false y))
theorem abJ:au PP false (gQ F fr cs (OS F aN false y)) (qF F fr cs aN y):=aK λws=>by kernel_rfl
theorem Qb:aF (qF F fr cs aN y)=some (224,#[]):=by kernel_rfl
def late (m:Nat):Bool:=match((On 6 (resume (qF F fr cs aN y) (.int .i64 (m:Int)))).frame.tmps[3]? :Option Φ) with|some (.bool b)=>b|_=>false
theorem abI (m:Nat):∃tm,HQ F aN (late F fr cs aN y m) tm/\au PP false (resume (qF F fr cs aN y) (.int .i64 (m:Int))) (gN F fr cs tm):=
 ⟨(On 6 (resume (qF F fr cs aN y) (.int .i64 (m:Int)))).frame.tmps,⟨by kernel_rfl,by kernel_rfl,by kernel_rfl,by kernel_rfl⟩,aR 6 (bT PP false 6 (resume (qF F fr cs aN y) (.int .i64 (m:Int)))) λws=>by kernel_rfl⟩
theorem abH:∃tm,HQ F aN true tm/\au PP false (gQ F fr cs (OS F aN true y)) (gN F fr cs tm):=
 ⟨(On 11 (gQ F fr cs (OS F aN true y))).frame.tmps,⟨by kernel_rfl,by kernel_rfl,by kernel_rfl,by kernel_rfl⟩,aR 11 (bT PP false 11 (gQ F fr cs (OS F aN true y))) λws=>by kernel_rfl⟩
def f:Ω:=O (gN F fr cs (OS F aN false y))
theorem ain:au PP false (gN F fr cs (OS F aN false y)) (f F fr cs aN y):=aK λws=>by kernel_rfl
theorem aim:aT (f F fr cs aN y)=some (.load 21 (pt F)):=by kernel_rfl
theorem ad8:(PP.funcs[(f F fr cs aN y).frame.fn]?).any (·.norace)=true:=by kernel_rfl
theorem f_2:∃tm,HH F aN false true 0 2 tm/\au PP false (resume (f F fr cs aN y) (.int .i32 2)) (gH F fr cs tm):=
 ⟨(On 20 (resume (f F fr cs aN y) (.int .i32 2))).frame.tmps,⟨by kernel_rfl,by kernel_rfl,by kernel_rfl,by kernel_rfl,by kernel_rfl,by kernel_rfl,by kernel_rfl⟩,aR 20 (bT PP false 20 (resume (f F fr cs aN y) (.int .i32 2))) λws=>by kernel_rfl⟩
theorem f_3:∃tm,HH F aN false true 0 3 tm/\au PP false (resume (f F fr cs aN y) (.int .i32 3)) (gH F fr cs tm):=
 ⟨(On 20 (resume (f F fr cs aN y) (.int .i32 3))).frame.tmps,⟨by kernel_rfl,by kernel_rfl,by kernel_rfl,by kernel_rfl,by kernel_rfl,by kernel_rfl,by kernel_rfl⟩,aR 20 (bT PP false 20 (resume (f F fr cs aN y) (.int .i32 3))) λws=>by kernel_rfl⟩
def j12:Ω:=O (resume (f F fr cs aN y) (.int .i32 12))
theorem aip:au PP false (resume (f F fr cs aN y) (.int .i32 12)) (j12 F fr cs aN y):=aK λws=>by kernel_rfl
theorem Q3:aF (j12 F fr cs aN y)=some (219,#[pt F,.int .i32 (-11)]):=by kernel_rfl
theorem Xy:∃tm,HR F tm/\au PP false (resume (j12 F fr cs aN y) (.int .i32 v)) (gR F fr cs tm):=
 ⟨(On 2 (resume (j12 F fr cs aN y) (.int .i32 v))).frame.tmps,⟨by kernel_rfl,by kernel_rfl⟩,aR 2 (bT PP false 2 (resume (j12 F fr cs aN y) (.int .i32 v))) λws=>by kernel_rfl⟩
def j20:Ω:=O (resume (f F fr cs aN y) (.int .i32 20))
theorem aio:au PP false (resume (f F fr cs aN y) (.int .i32 20)) (j20 F fr cs aN y):=aK λws=>by kernel_rfl
theorem Q2:aF (j20 F fr cs aN y)=some (219,#[pt F,.int .i32 (-11)]):=by kernel_rfl
theorem Xx:∃tm,HR F tm/\au PP false (resume (j20 F fr cs aN y) (.int .i32 v)) (gR F fr cs tm):=
 ⟨(On 2 (resume (j20 F fr cs aN y) (.int .i32 v))).frame.tmps,⟨by kernel_rfl,by kernel_rfl⟩,aR 2 (bT PP false 2 (resume (j20 F fr cs aN y) (.int .i32 v))) λws=>by kernel_rfl⟩
def fs:Ω:=O (gN F fr cs (OS F aN true y))
theorem adZ:au PP false (gN F fr cs (OS F aN true y)) (fs F fr cs aN y):=aK λws=>by kernel_rfl
theorem adY:aT (fs F fr cs aN y)=some (.load 21 (pt F)):=by kernel_rfl
theorem YQ:(PP.funcs[(fs F fr cs aN y).frame.fn]?).any (·.norace)=true:=by kernel_rfl
theorem aig:∃tm,HH F aN true true 0 2 tm/\au PP false (resume (fs F fr cs aN y) (.int .i32 2)) (gH F fr cs tm):=
 ⟨(On 20 (resume (fs F fr cs aN y) (.int .i32 2))).frame.tmps,⟨by kernel_rfl,by kernel_rfl,by kernel_rfl,by kernel_rfl,by kernel_rfl,by kernel_rfl,by kernel_rfl⟩,aR 20 (bT PP false 20 (resume (fs F fr cs aN y) (.int .i32 2))) λws=>by kernel_rfl⟩
theorem aif:∃tm,HH F aN true true 0 3 tm/\au PP false (resume (fs F fr cs aN y) (.int .i32 3)) (gH F fr cs tm):=
 ⟨(On 20 (resume (fs F fr cs aN y) (.int .i32 3))).frame.tmps,⟨by kernel_rfl,by kernel_rfl,by kernel_rfl,by kernel_rfl,by kernel_rfl,by kernel_rfl,by kernel_rfl⟩,aR 20 (bT PP false 20 (resume (fs F fr cs aN y) (.int .i32 3))) λws=>by kernel_rfl⟩
def MK:Ω:=O (resume (fs F fr cs aN y) (.int .i32 12))
theorem ad1:au PP false (resume (fs F fr cs aN y) (.int .i32 12)) (MK F fr cs aN y):=aK λws=>by kernel_rfl
theorem MJ:aF (MK F fr cs aN y)=some (219,#[pt F,.int .i32 (-11)]):=by kernel_rfl
theorem Q1:∃tm,HR F tm/\au PP false (resume (MK F fr cs aN y) (.int .i32 v)) (gR F fr cs tm):=
 ⟨(On 2 (resume (MK F fr cs aN y) (.int .i32 v))).frame.tmps,⟨by kernel_rfl,by kernel_rfl⟩,aR 2 (bT PP false 2 (resume (MK F fr cs aN y) (.int .i32 v))) λws=>by kernel_rfl⟩
def MI:Ω:=O (resume (fs F fr cs aN y) (.int .i32 20))
theorem ad0:au PP false (resume (fs F fr cs aN y) (.int .i32 20)) (MI F fr cs aN y):=aK λws=>by kernel_rfl
theorem MH:aF (MI F fr cs aN y)=some (219,#[pt F,.int .i32 (-7)]):=by kernel_rfl
theorem Q0:∃tm,HR F tm/\au PP false (resume (MI F fr cs aN y) (.int .i32 v)) (gR F fr cs tm):=
 ⟨(On 2 (resume (MI F fr cs aN y) (.int .i32 v))).frame.tmps,⟨by kernel_rfl,by kernel_rfl⟩,aR 2 (bT PP false 2 (resume (MI F fr cs aN y) (.int .i32 v))) λws=>by kernel_rfl⟩
end
section
variable (F:Nat)(fr:κ)(cs:List κ)(aN:Nat)(it v:Int)(y:Nat->Φ)
def rE:Ω:=O (gR F fr cs (SW F y))
theorem abE:au PP false (gR F fr cs (SW F y)) (rE F fr cs y):=aK λws=>by kernel_rfl
theorem abD:aF (rE F fr cs y)=some (170,#[]):=by kernel_rfl
def rV:Ω:=O (resume (rE F fr cs y) U)
theorem abC:au PP false (resume (rE F fr cs y) U) (rV F fr cs y):=aK λws=>by kernel_rfl
theorem abB:aT (rV F fr cs y)=some (.conv (zh (rV 0 default [] λ_=>undef)) (Ai (rV 0 default [] λ_=>undef)) (pt F)):=by kernel_rfl
theorem agX:PP.underlying (zh (rV 0 default [] λ_=>undef))=some (.pointer (Ah (rV 0 default [] λ_=>undef))):=by kernel_rfl
theorem agY:PP.underlying (Ai (rV 0 default [] λ_=>undef))=some .unsafePointer:=by kernel_rfl
theorem agW:(PP.info? (Ah (rV 0 default [] λ_=>undef))).map (λi=>decide (i.size=0))=some false:=by kernel_rfl
def rA:Ω:=O (resume (rV F fr cs y) (pt F))
theorem abA:au PP false (resume (rV F fr cs y) (pt F)) (rA F fr cs y):=aK λws=>by kernel_rfl
theorem Wd:aF (rA F fr cs y)=some (171,#[pt F]):=by kernel_rfl
theorem abF:au PP false (resume (rA F fr cs y) U) (cG fr cs U):=aR 9 (bT PP false 9 (resume (rA F fr cs y) U)) λws=>by kernel_rfl
end
section
variable {Δ:Type}{X:Cx Δ}{r:bg}{k:Nat}{T T':Lo}{γ:Gh Δ}{g g':Ω}{w w':Θ}
theorem RX.dx {deaf:Bool}{ro own:Nat->Prop}{w w':Θ}(e:ConcM.Eff X.Fd X.Wg w w')(ht:∀b:Nat,w'.heap[b]? =w.heap[b]?):DX X deaf ro own w w' #[]:=
 ⟨e.tape,e.output,ah1 e.size.symm,e.os,λb _ _=>ht b,by simp,λ_=>rfl⟩
variable (hm:vo r=false)(R:Room X γ)
include hm R
theorem se {f:aa9}{fn:Func}(hX:Ext PP f fn){v:Φ}(he:Extern.find fn=some (λ_=>pure v)){args:Array Φ}(hc:aF g=some (f,args))(go:LW X r γ k T (resume g v) w):LW X r γ k T g w:=by
 refine aD.step (aV hc).1 λw₁ hr=>⟨_,w₁,#[],zD hX v he hc,(jO _ _ γ.own w₁).1,?_⟩
 have:=(jO (X:=X) (eQ T.pc) γ.ro γ.own w₁).2;rw[this];exact go.rely hr
theorem pT {args:Array Φ}(hc:aF g=some (224,args))(go:∀m w',RR X γ w w'->LW X r γ k T (resume g (.int .i64 ((m:Nat):Int))) w')(live:∃s,ShAt X w s):LW X r γ k T g w:=by
 refine aD.step (aV hc).1 λw₁ hr=>?_
 have ef:=ConcM.Eff.later (Mu:=X.Fd) (Wg:=X.Wg) w₁;obtain⟨s,hs⟩:=hr.live live;have hs':ShAt X w₁.later s:=⟨hs.1,hs.2⟩
 refine⟨_,w₁.later,#[],zE (P:=PP) (main:=false) (w:=w₁) SQ TK Ta hc,RX.dx ef λ_=>rfl,?_⟩;have e:(fq X (eQ T.pc) γ.ro).up γ.own w₁ w₁.later=γ.own:=by
  funext b
  exact propext ⟨λh=>h.elim id λz=>by have:w₁.later.heap.size=w₁.heap.size:=rfl;omega,.inl⟩
 rw[e];exact go _ _ (hr.trans X (R.rx ef hs'))
theorem uY (hpc:T.pc= .c2){old nw:Int}(ho:T.old=old)(hn:T.nw=nw)(hc:aF g=some (217,#[pt X.Fd,.int .i32 old,.int .i32 nw]))
  (hit:(old=0\/old=2)->∀k' w',k'<k->RR X γ w w'->LW X r γ k' (at_ .le T.n) (resume g (.bool true)) w')
  (slp:¬(old=0\/old=2)->∀k' w',k'<k->RR X γ w w'->LW X r γ k' {pc:= .s1,sv:=T.sv,n:=T.n} (resume g (.bool true)) w')
  (miss:∀k' w',k'<k->RR X γ w w'->LW X r γ k' {T with pc:= .r3,old:=0,nw:=0} (resume g (.bool false)) w'):LW X r γ k T g w:=by
 by_cases h02:old=0\/old=2
 .refine BC hm R (T1:=at_ .le T.n) (T2:={T with pc:= .r3,old:=0,nw:=0}) (.inl hpc) hc (λs e=>?_) (λs _ e=>?_) (by unfold i7;rw[hpc]) (by simp) (by unfold i7;rw[hpc]) (by simp) (hit h02) (λ_=>miss)
  .unfold mv
   rw[hpc];simp[ho,hn,e,h02]
  .refine⟨({T with pc:= .r3,old:=0,nw:=0},s),?_,.inr rfl⟩
   unfold mv;rw[hpc];simp[ho,e]
 .refine BC hm R (T1:={pc:= .s1,sv:=T.sv,n:=T.n}) (T2:={T with pc:= .r3,old:=0,nw:=0}) (.inl hpc) hc (λs e=>?_) (λs _ e=>?_) (by unfold i7;rw[hpc]) (by simp) (by unfold i7;rw[hpc]) (by simp) (slp h02) (λ_=>miss)
  .unfold mv
   rw[hpc];simp[ho,hn,e,h02]
  .refine⟨({T with pc:= .r3,old:=0,nw:=0},s),?_,.inr rfl⟩
   unfold mv;rw[hpc];simp[ho,e]
end
section
variable {Δ:Type}{X:Cx Δ}{r:bg}{γ:Gh Δ}{g:Ω}{w0 w:Θ}{n:Nat}{fr:κ}{cs:List κ}
def jB (X:Cx Δ)(r:bg)(γ:Gh Δ)(n:Nat)(fr:κ)(cs:List κ)(w0:Θ)(k:Nat):Prop:=
 ∀(aN:Nat) (tm:Array Φ) (w:Θ) (T:Lo),RR X γ w0 w->T.n=n->HH X.Fd aN T.sv T.aw T.it T.old tm->(hd T).pc≠.bad->LW X r γ k (hd T) (gH X.Fd fr cs tm) w
variable (hm:vo r=false)(R:Room X γ)(live:∃s,ShAt X w0 s)(tk:Taken X r γ n fr cs w0)
include hm R
theorem iv {k:Nat}{T:Lo}(ih:∀k',k'<k->jB X r γ n fr cs w0 k')(h0:RR X γ w0 w)(hpc:T.pc= .r0\/T.pc= .r1\/T.pc= .r3)(hn:T.n=n)(h00:T.pc= .r0->T.aw=false/\T.sv=false/\T.it=0){aN:Nat}{it':Int}
  (hit:it'=if T.pc= .r1 then IntKind.i64.wrap (T.it+1) else T.it) (hv:aT g=some (.load 21 (pt X.Fd))) (hq:(PP.funcs[g.frame.fn]?).any (·.norace)=true)
  (go:∀v,∃tm,HH X.Fd aN T.sv T.aw it' v tm/\au PP false (resume g (.int .i32 v)) (gH X.Fd fr cs tm)):LW X r γ k T g w:=by
 refine BB hm R (by rcases hpc with h|h|h<;>simp[h]) hv hq λs hf=>?_
 obtain⟨tm,hH,hg⟩:=go s.mu;have hne:∀T1:Lo,(hd T1).pc≠.quit:=λT1=>by rcases DJ T1 with h|h|h<;>rw[h]<;>simp
 rcases hpc with h|h|h
 .obtain⟨a1,a2,a3⟩:=h00 h
  refine⟨(hd {pc:= .r0,old:=s.mu,n:=T.n},s),by unfold mv;rw[h];simp,?_⟩
  by_cases hb:(hd {pc:= .r0,old:=s.mu,n:=T.n}).pc= .bad
  .exact .inl hb
  .refine .inr ⟨rfl,by unfold i7;rw[h],hne _,λk' w' hk hr=>aC hg (ih k' hk aN tm w' {pc:= .r0,old:=s.mu,n:=T.n} (h0.trans X hr) hn ?_ hb)⟩
   rw[ζ (by rw[h];simp)] at hit;rw[hit,a1,a2,a3] at hH;exact hH
 .refine⟨(hd {T with old:=s.mu,it:=IntKind.i64.wrap (T.it+1)},s),by unfold mv;rw[h];simp,?_⟩
  by_cases hb:(hd {T with old:=s.mu,it:=IntKind.i64.wrap (T.it+1)}).pc= .bad
  .exact .inl hb
  .refine .inr ⟨rfl,by unfold i7;rw[h],hne _,λk' w' hk hr=>aC hg (ih k' hk aN tm w' {T with old:=s.mu,it:=IntKind.i64.wrap (T.it+1)} (h0.trans X hr) hn ?_ hb)⟩
   rw[χ h] at hit;rw[hit] at hH;exact hH
 .refine⟨(hd {T with old:=s.mu},s),by unfold mv;rw[h];simp,?_⟩
  by_cases hb:(hd {T with old:=s.mu}).pc= .bad
  .exact .inl hb
  .refine .inr ⟨rfl,by unfold i7;rw[h],hne _,λk' w' hk hr=>aC hg (ih k' hk aN tm w' {T with old:=s.mu} (h0.trans X hr) hn ?_ hb)⟩
   rw[ζ (by rw[h];simp)] at hit;rw[hit] at hH;exact hH
include live tk
theorem Es {k:Nat}{tm:Array Φ}(h0:RR X γ w0 w)(h:HR X.Fd tm):LW X r γ k (at_ .le n) (gR X.Fd fr cs tm) w:=by
 rw[h.eq];exact aC (abE _ _ _ _) (Er hm R (abD _ _ _ _) (abC _ _ _ _) (abB _ _ _ _) agX agY agW (abA _ _ _ _) (Wd _ _ _ _) (abF _ _ _ _) (h0.live live) λk w1 d o hr=>tk k w1 d o (h0.trans X hr))
theorem TV {k:Nat}{T:Lo}(ih:∀k',k'<k->jB X r γ n fr cs w0 k'){tm:Array Φ}{aN:Nat}(h0:RR X γ w0 w)(h:HQ X.Fd aN T.sv tm)(hpc:T.pc= .r2)(hn:T.n=n)(hT:T.old=0/\T.nw=0/\T.aw=false/\T.it=0):
  LW X r γ k T (gN X.Fd fr cs tm) w:=by
 rw[h.eq];have hne:∀T1:Lo,(hd T1).pc≠.quit:=λT1=>by rcases DJ T1 with h|h|h<;>rw[h]<;>simp
 have add:∀{k1:Nat} {w1:Θ} {d:Int} {gg:Ω} {T1:Lo},RR X γ w0 w1->T1.n=n->T1.pc= .a1->T1.nw=d->(d=-11\/d=-7)->aF gg=some (219,#[pt X.Fd,.int .i32 d])->
   (∀v,∃tm,HR X.Fd tm/\au PP false (resume gg (.int .i32 v)) (gR X.Fd fr cs tm))->LW X r γ k1 T1 gg w1:=by
  intro k1 w1 d gg T1 h1 hn1 hp1 hd1 hdd hc hgo;refine Oz hm R (.inl hp1) hc λs hf=>?_
  by_cases hcase:(s.mu=12/\T1.nw=-11)\/(s.mu=20/\(T1.nw=-7\/T1.nw=-11))
  .refine⟨(at_ .le T1.n,{s with mu:=s.mu+T1.nw}),by unfold mv;rw[hp1];simp[hcase],.inr ⟨?_,by unfold i7;rw[hp1],by simp,λk' w' hk hr=>?_⟩⟩
   .have:IntKind.i32.wrap (s.mu+d)=s.mu+T1.nw:=by
     rw[hd1];rw[hd1] at hcase;rcases hcase with⟨a,b⟩|⟨a,b|b⟩<;>rw[a,b]<;>decide
    rw[this]
   .obtain⟨tm,hR,hg⟩:=hgo (IntKind.i32.wrap (s.mu+d))
    have:(at_ .le T1.n)=at_ .le n:=by rw[hn1]
    dsimp only;rw[this];exact aC hg (Es hm R live tk (h1.trans X hr) hR)
  .exact⟨(at_ .bad T1.n,s),by unfold mv;rw[hp1];simp[hcase],.inl rfl⟩
 obtain⟨pc,old,nw,aw,sv,it,n'⟩:=T;simp only at hpc hn hT;obtain⟨rfl,rfl,rfl,rfl⟩:=hT;subst hpc;subst hn;cases sv with
 |false=>
  refine aC (ain _ _ _ _ _) (BB hm R (by simp) (aim _ _ _ _ _) (ad8 _ _ _ _ _) λs hf=>?_)
  by_cases h23:s.mu=2\/s.mu=3
  .refine⟨(hd {pc:= .r2,old:=s.mu,aw:=true,it:=0,n:=n'},s),by simp[mv,h23],.inr ⟨rfl,rfl,hne _,λk' w' hk hr=>?_⟩⟩
   rcases h23 with e|e
   .rw[e]
    obtain⟨tm,hH,hg⟩:=f_2 X.Fd fr cs aN λi=>tm.getD i undef
    exact aC hg (ih k' hk aN tm w' {pc:= .r2,old:=2,aw:=true,it:=0,n:=n'} (h0.trans X hr) rfl hH (by simp[hd]))
   .rw[e]
    obtain⟨tm,hH,hg⟩:=f_3 X.Fd fr cs aN λi=>tm.getD i undef
    exact aC hg (ih k' hk aN tm w' {pc:= .r2,old:=3,aw:=true,it:=0,n:=n'} (h0.trans X hr) rfl hH (by simp[hd]))
  .by_cases h12:s.mu=12
   .refine⟨({pc:= .a1,nw:=-11,n:=n'},s),by simp[mv,h12],.inr ⟨rfl,rfl,by simp,λk' w' hk hr=>?_⟩⟩
    rw[h12];exact aC (aip _ _ _ _ _) (add (h0.trans X hr) rfl rfl rfl (.inl rfl) (Q3 _ _ _ _ _) λv=>Xy _ _ _ _ _ _)
   .by_cases h20:s.mu=20
    .refine⟨({pc:= .a1,nw:=-11,n:=n'},s),by simp[mv,h20],.inr ⟨rfl,rfl,by simp,λk' w' hk hr=>?_⟩⟩
     rw[h20];exact aC (aio _ _ _ _ _) (add (h0.trans X hr) rfl rfl rfl (.inl rfl) (Q2 _ _ _ _ _) λv=>Xx _ _ _ _ _ _)
    .exact⟨(at_ .bad n',s),by simp[mv,h23,h12,h20],.inl rfl⟩
 |true=>
  refine aC (adZ _ _ _ _ _) (BB hm R (by simp) (adY _ _ _ _ _) (YQ _ _ _ _ _) λs hf=>?_)
  by_cases h23:s.mu=2\/s.mu=3
  .refine⟨(hd {pc:= .r2,old:=s.mu,aw:=true,sv:=true,it:=0,n:=n'},s),by simp[mv,h23],.inr ⟨rfl,rfl,hne _,λk' w' hk hr=>?_⟩⟩
   rcases h23 with e|e
   .rw[e]
    obtain⟨tm,hH,hg⟩:=aig X.Fd fr cs aN λi=>tm.getD i undef
    exact aC hg (ih k' hk aN tm w' {pc:= .r2,old:=2,aw:=true,sv:=true,it:=0,n:=n'} (h0.trans X hr) rfl hH (by simp[hd]))
   .rw[e]
    obtain⟨tm,hH,hg⟩:=aif X.Fd fr cs aN λi=>tm.getD i undef
    exact aC hg (ih k' hk aN tm w' {pc:= .r2,old:=3,aw:=true,sv:=true,it:=0,n:=n'} (h0.trans X hr) rfl hH (by simp[hd]))
  .by_cases h12:s.mu=12
   .refine⟨({pc:= .a1,nw:=-11,n:=n'},s),by simp[mv,h12],.inr ⟨rfl,rfl,by simp,λk' w' hk hr=>?_⟩⟩
    rw[h12];exact aC (ad1 _ _ _ _ _) (add (h0.trans X hr) rfl rfl rfl (.inl rfl) (MJ _ _ _ _ _) λv=>Q1 _ _ _ _ _ _)
   .by_cases h20:s.mu=20
    .refine⟨({pc:= .a1,nw:=-7,n:=n'},s),by simp[mv,h20],.inr ⟨rfl,rfl,by simp,λk' w' hk hr=>?_⟩⟩
     rw[h20];exact aC (ad0 _ _ _ _ _) (add (h0.trans X hr) rfl rfl rfl (.inr rfl) (MH _ _ _ _ _) λv=>Q0 _ _ _ _ _ _)
    .exact⟨(at_ .bad n',s),by simp[mv,h23,h12,h20],.inl rfl⟩
theorem aeF {k:Nat}{T:Lo}(ih:∀k',k'<k->jB X r γ n fr cs w0 k'){tm:Array Φ}{aN:Nat}(h0:RR X γ w0 w)(h:HQ X.Fd aN T.sv tm)(hn:T.n=n)(hT:T.pc=(if T.sv then .r2 else .t2)/\T.old=0/\T.nw=0/\T.aw=false/\T.it=0):
  LW X r γ k T (gQ X.Fd fr cs tm) w:=by
 rw[h.eq];obtain⟨pc,old,nw,aw,sv,it,n'⟩:=T;simp only at hT hn;obtain⟨hpc,rfl,rfl,rfl,rfl⟩:=hT;subst hn;cases sv with
 |true=>
  obtain rfl:pc= .r2:=by simpa using hpc
  obtain⟨tm',hQ,hg⟩:=abH X.Fd fr cs aN λi=>tm.getD i undef
  exact aC hg (TV hm R live tk ih h0 hQ rfl rfl ⟨rfl,rfl,rfl,rfl⟩)
 |false=>
  obtain rfl:pc= .t2:=by simpa using hpc
  refine aC (abJ _ _ _ _ _) (Oy hm R rfl (Qb _ _ _ _ _) (late X.Fd fr cs aN λi=>tm.getD i undef) λk' w' m hk hr=>?_);obtain⟨tm',hQ,hg⟩:=abI X.Fd fr cs aN (λi=>tm.getD i undef) m
  refine aC hg (TV hm R live tk (λk1 h1=>ih k1 (by omega)) (aN:=aN) (h0.trans X hr) (T:={pc:= .r2,sv:=if late X.Fd fr cs aN (λi=>tm.getD i undef) m then true else false,n:=n'}) ?_ rfl rfl ⟨rfl,rfl,rfl,rfl⟩);have e:(if late X.Fd fr cs aN (λi=>tm.getD i undef) m=true then true else false)=late X.Fd fr cs aN (λi=>tm.getD i undef) m:=by
   cases late X.Fd fr cs aN (λi=>tm.getD i undef) m<;>rfl
  simp only[e];exact hQ
theorem uX {k:Nat}{sv:Bool}(ih:∀k',k'<k->jB X r γ n fr cs w0 k'){aN:Nat}{u v:Φ}(h0:RR X γ w0 w)(hc:aF g=some (225,#[qv X.Fd,u,v]))
  (go:∃tm,HQ X.Fd aN sv tm/\au PP false (resume g U) (gQ X.Fd fr cs tm)):LW X r γ k {pc:= .s1,sv:=sv,n:=n} g w:=by
 refine Zw hm R rfl hc rfl λk' w' hk hr=>?_
 obtain⟨tm,hQ,hg⟩:=go;exact aC hg (aeF hm R live tk (λk1 h1=>ih k1 (by omega)) (h0.trans X hr) hQ rfl ⟨rfl,rfl,rfl,rfl,rfl⟩)
theorem XU {k:Nat}{tm:Array Φ}{aN:Nat}{it:Int}(ih:∀k',k'<k->jB X r γ n fr cs w0 k')(h0:RR X γ w0 w)(h:HH X.Fd aN false false it 0 tm):LW X r γ k {pc:= .c2,old:=0,nw:=1,aw:=false,sv:=false,it:=it,n:=n} (gH X.Fd fr cs tm) w:=by
 rw[h.eq];refine aC (adF _ _ _ _ _ _) ?_;refine uY hm R rfl rfl rfl (Zs _ _ _ _ _ _) (λ_ k2 w2 hk hr=>?_) (λh=>absurd (by simp) h) (λk2 w2 hk hr=>?_)
 .obtain⟨tm',hR,hg⟩:=Zr X.Fd fr cs aN it (λi=>tm.getD i undef)
  exact aC hg (Es hm R live tk (h0.trans X hr) hR)
 .exact aC (Sr _ _ _ _ _ _) (iv hm R (λk1 h1=>ih k1 (by omega)) (h0.trans X hr) (.inr (.inr rfl)) rfl (by simp) (it':=it) (by simp) (acv _ _ _ _ _ _) (WV _ _ _ _ _ _) λv=>acw _ _ _ _ _ v _)
theorem XT {k:Nat}{tm:Array Φ}{aN:Nat}{it:Int}(ih:∀k',k'<k->jB X r γ n fr cs w0 k')(h0:RR X γ w0 w)(h:HH X.Fd aN false false it 1 tm):LW X r γ k {pc:= .sq,old:=1,nw:=0,aw:=false,sv:=false,it:=it,n:=n} (gH X.Fd fr cs tm) w:=by
 rw[h.eq];refine aC (adE _ _ _ _ _ _) (BA hm R rfl rfl (aeC _ _ _ _ _ _) (λk1 w1 hk1 hr1=>?_) rfl (λk1 w1 hk1 hr1=>?_))
 .have e:cl {pc:= .sq,old:=1,nw:=0,aw:=false,sv:=false,it:=it,n:=n}={pc:= .c2,old:=1,nw:=9,aw:=false,sv:=false,it:=it,n:=n}:=rfl
  rw[e];have h0:=h0.trans X hr1;refine aC (aeD _ _ _ _ _ _) ?_;refine uY hm R rfl rfl rfl (Zq _ _ _ _ _ _) (λh=>absurd h (by simp)) (λ_ k2 w2 hk hr=>?_) (λk2 w2 hk hr=>?_)
  .have h0:=h0.trans X hr
   cases aN with
   |zero=>exact aC (So _ _ _ _ _) (pT hm R (QE _ _ _ _ _) (λm w3 hr3=>aC (aco X.Fd fr cs m it (λi=>tm.getD i undef)) (uX hm R live tk (λk1 h1=>ih k1 (by omega)) (h0.trans X hr3) (Wr _ _ _ _ _ _) (abR _ _ _ _ _ _))) (h0.live live))
   |succ aN=>exact aC (Sn _ _ _ _ _ _) (uX hm R live tk (λk1 h1=>ih k1 (by omega)) h0 (Wl _ _ _ _ _ _) (abN _ _ _ _ _ _))
  .exact aC (Sm _ _ _ _ _ _) (iv hm R (λk1 h1=>ih k1 (by omega)) (h0.trans X hr) (.inr (.inr rfl)) rfl (by simp) (it':=it) (by simp) (acs _ _ _ _ _ _) (WS _ _ _ _ _ _) λv=>acu _ _ _ _ _ v _)
 .exact aC (Zv _ _ _ _ _ _) (se hm R xDo fDo (aet _ _ _ _ _ _) (aC (aes _ _ _ _ _ _) (iv hm R (λk2 h2=>ih k2 (by omega)) (h0.trans X hr1) (.inr (.inl rfl)) rfl (by simp) (it':=IntKind.i64.wrap (it+1)) (by simp) (aeq _ _ _ _ _ _) (Zb _ _ _ _ _ _) λv=>aer _ _ _ _ _ v _)))
theorem Rc {k:Nat}{tm:Array Φ}{aN:Nat}{it:Int}(ih:∀k',k'<k->jB X r γ n fr cs w0 k')(h0:RR X γ w0 w)(h:HH X.Fd aN false true it 2 tm):LW X r γ k {pc:= .c2,old:=2,nw:=1,aw:=true,sv:=false,it:=it,n:=n} (gH X.Fd fr cs tm) w:=by
 rw[h.eq];refine aC (X5 _ _ _ _ _ _) ?_;refine uY hm R rfl rfl rfl (Sk _ _ _ _ _ _) (λ_ k2 w2 hk hr=>?_) (λh=>absurd (by simp) h) (λk2 w2 hk hr=>?_)
 .obtain⟨tm',hR,hg⟩:=Sj X.Fd fr cs aN it (λi=>tm.getD i undef)
  exact aC hg (Es hm R live tk (h0.trans X hr) hR)
 .exact aC (Ol _ _ _ _ _ _) (iv hm R (λk1 h1=>ih k1 (by omega)) (h0.trans X hr) (.inr (.inr rfl)) rfl (by simp) (it':=it) (by simp) (WO _ _ _ _ _ _) (QO _ _ _ _ _ _) λv=>WP _ _ _ _ _ v _)
theorem MV {k:Nat}{tm:Array Φ}{aN:Nat}{it:Int}(ih:∀k',k'<k->jB X r γ n fr cs w0 k')(h0:RR X γ w0 w)(h:HH X.Fd aN true true it 2 tm):LW X r γ k {pc:= .c2,old:=2,nw:=1,aw:=true,sv:=true,it:=it,n:=n} (gH X.Fd fr cs tm) w:=by
 rw[h.eq];refine aC (Ro _ _ _ _ _ _) ?_;refine uY hm R rfl rfl rfl (Oj _ _ _ _ _ _) (λ_ k2 w2 hk hr=>?_) (λh=>absurd (by simp) h) (λk2 w2 hk hr=>?_)
 .obtain⟨tm',hR,hg⟩:=Oi X.Fd fr cs aN it (λi=>tm.getD i undef)
  exact aC hg (Es hm R live tk (h0.trans X hr) hR)
 .exact aC (Ks _ _ _ _ _ _) (iv hm R (λk1 h1=>ih k1 (by omega)) (h0.trans X hr) (.inr (.inr rfl)) rfl (by simp) (it':=it) (by simp) (QM _ _ _ _ _ _) (Mx _ _ _ _ _ _) λv=>QN _ _ _ _ _ v _)
theorem XS {k:Nat}{tm:Array Φ}{aN:Nat}{it:Int}(ih:∀k',k'<k->jB X r γ n fr cs w0 k')(h0:RR X γ w0 w)(h:HH X.Fd aN false false it 2 tm):LW X r γ k {pc:= .c2,old:=2,nw:=3,aw:=false,sv:=false,it:=it,n:=n} (gH X.Fd fr cs tm) w:=by
 rw[h.eq];refine aC (adD _ _ _ _ _ _) ?_;refine uY hm R rfl rfl rfl (Zp _ _ _ _ _ _) (λ_ k2 w2 hk hr=>?_) (λh=>absurd (by simp) h) (λk2 w2 hk hr=>?_)
 .obtain⟨tm',hR,hg⟩:=Zo X.Fd fr cs aN it (λi=>tm.getD i undef)
  exact aC hg (Es hm R live tk (h0.trans X hr) hR)
 .exact aC (Sl _ _ _ _ _ _) (iv hm R (λk1 h1=>ih k1 (by omega)) (h0.trans X hr) (.inr (.inr rfl)) rfl (by simp) (it':=it) (by simp) (acq _ _ _ _ _ _) (WQ _ _ _ _ _ _) λv=>acr _ _ _ _ _ v _)
theorem Rb {k:Nat}{tm:Array Φ}{aN:Nat}{it:Int}(ih:∀k',k'<k->jB X r γ n fr cs w0 k')(h0:RR X γ w0 w)(h:HH X.Fd aN false true it 3 tm):LW X r γ k {pc:= .sq,old:=3,nw:=0,aw:=true,sv:=false,it:=it,n:=n} (gH X.Fd fr cs tm) w:=by
 rw[h.eq];refine aC (X4 _ _ _ _ _ _) (BA hm R rfl rfl (Zt _ _ _ _ _ _) (λk1 w1 hk1 hr1=>?_) rfl (λk1 w1 hk1 hr1=>?_))
 .have e:cl {pc:= .sq,old:=3,nw:=0,aw:=true,sv:=false,it:=it,n:=n}={pc:= .c2,old:=3,nw:=9,aw:=true,sv:=false,it:=it,n:=n}:=rfl
  rw[e];have h0:=h0.trans X hr1;refine aC (Zu _ _ _ _ _ _) ?_;refine uY hm R rfl rfl rfl (Si _ _ _ _ _ _) (λh=>absurd h (by simp)) (λ_ k2 w2 hk hr=>?_) (λk2 w2 hk hr=>?_)
  .have h0:=h0.trans X hr
   cases aN with
   |zero=>exact aC (Oh _ _ _ _ _) (pT hm R (Mo _ _ _ _ _) (λm w3 hr3=>aC (WH X.Fd fr cs m it (λi=>tm.getD i undef)) (uX hm R live tk (λk1 h1=>ih k1 (by omega)) (h0.trans X hr3) (Qk _ _ _ _ _ _) (Wq _ _ _ _ _ _))) (h0.live live))
   |succ aN=>exact aC (Og _ _ _ _ _ _) (uX hm R live tk (λk1 h1=>ih k1 (by omega)) h0 (Qd _ _ _ _ _ _) (Wk _ _ _ _ _ _))
  .exact aC (Of _ _ _ _ _ _) (iv hm R (λk1 h1=>ih k1 (by omega)) (h0.trans X hr) (.inr (.inr rfl)) rfl (by simp) (it':=it) (by simp) (WM _ _ _ _ _ _) (QL _ _ _ _ _ _) λv=>WN _ _ _ _ _ v _)
 .exact aC (Sw _ _ _ _ _ _) (se hm R xDo fDo (Ze _ _ _ _ _ _) (aC (Zd _ _ _ _ _ _) (iv hm R (λk2 h2=>ih k2 (by omega)) (h0.trans X hr1) (.inr (.inl rfl)) rfl (by simp) (it':=IntKind.i64.wrap (it+1)) (by simp) (Y9 _ _ _ _ _ _) (RZ _ _ _ _ _ _) λv=>Za _ _ _ _ _ v _)))
theorem MU {k:Nat}{tm:Array Φ}{aN:Nat}{it:Int}(ih:∀k',k'<k->jB X r γ n fr cs w0 k')(h0:RR X γ w0 w)(h:HH X.Fd aN true true it 3 tm):LW X r γ k {pc:= .sq,old:=3,nw:=0,aw:=true,sv:=true,it:=it,n:=n} (gH X.Fd fr cs tm) w:=by
 rw[h.eq];refine aC (Rn _ _ _ _ _ _) (BA hm R rfl rfl (Su _ _ _ _ _ _) (λk1 w1 hk1 hr1=>?_) rfl (λk1 w1 hk1 hr1=>?_))
 .have e:cl {pc:= .sq,old:=3,nw:=0,aw:=true,sv:=true,it:=it,n:=n}={pc:= .c2,old:=3,nw:=13,aw:=true,sv:=true,it:=it,n:=n}:=rfl
  rw[e];have h0:=h0.trans X hr1;refine aC (Sv _ _ _ _ _ _) ?_;refine uY hm R rfl rfl rfl (Oe _ _ _ _ _ _) (λh=>absurd h (by simp)) (λ_ k2 w2 hk hr=>?_) (λk2 w2 hk hr=>?_)
  .have h0:=h0.trans X hr
   cases aN with
   |zero=>exact aC (Kr _ _ _ _ _) (pT hm R (Jo _ _ _ _ _) (λm w3 hr3=>aC (QC X.Fd fr cs m it (λi=>tm.getD i undef)) (uX hm R live tk (λk1 h1=>ih k1 (by omega)) (h0.trans X hr3) (L5 _ _ _ _ _ _) (Qj _ _ _ _ _ _))) (h0.live live))
   |succ aN=>exact aC (Kq _ _ _ _ _ _) (uX hm R live tk (λk1 h1=>ih k1 (by omega)) h0 (LN _ _ _ _ _ _) (Qc _ _ _ _ _ _))
  .exact aC (Kp _ _ _ _ _ _) (iv hm R (λk1 h1=>ih k1 (by omega)) (h0.trans X hr) (.inr (.inr rfl)) rfl (by simp) (it':=it) (by simp) (QJ _ _ _ _ _ _) (Mw _ _ _ _ _ _) λv=>QK _ _ _ _ _ v _)
 .exact aC (Ov _ _ _ _ _ _) (se hm R xDo fDo (R7 _ _ _ _ _ _) (aC (R6 _ _ _ _ _ _) (iv hm R (λk2 h2=>ih k2 (by omega)) (h0.trans X hr1) (.inr (.inl rfl)) rfl (by simp) (it':=IntKind.i64.wrap (it+1)) (by simp) (RW _ _ _ _ _ _) (NT _ _ _ _ _ _) λv=>RY _ _ _ _ _ v _)))
theorem Re {k:Nat}{tm:Array Φ}{aN:Nat}{it:Int}(ih:∀k',k'<k->jB X r γ n fr cs w0 k')(h0:RR X γ w0 w)(h:HH X.Fd aN false false it 12 tm):LW X r γ k {pc:= .c2,old:=12,nw:=20,aw:=false,sv:=false,it:=it,n:=n} (gH X.Fd fr cs tm) w:=by
 rw[h.eq];refine aC (X6 _ _ _ _ _ _) ?_;refine uY hm R rfl rfl rfl (Sp _ _ _ _ _ _) (λh=>absurd h (by simp)) (λ_ k2 w2 hk hr=>?_) (λk2 w2 hk hr=>?_)
 .have h0:=h0.trans X hr
  cases aN with
  |zero=>exact aC (Oq _ _ _ _ _) (pT hm R (Mp _ _ _ _ _) (λm w3 hr3=>aC (WI X.Fd fr cs m it (λi=>tm.getD i undef)) (uX hm R live tk (λk1 h1=>ih k1 (by omega)) (h0.trans X hr3) (Ql _ _ _ _ _ _) (Ws _ _ _ _ _ _))) (h0.live live))
  |succ aN=>exact aC (Oo _ _ _ _ _ _) (uX hm R live tk (λk1 h1=>ih k1 (by omega)) h0 (Qe _ _ _ _ _ _) (Wm _ _ _ _ _ _))
 .exact aC (Om _ _ _ _ _ _) (iv hm R (λk1 h1=>ih k1 (by omega)) (h0.trans X hr) (.inr (.inr rfl)) rfl (by simp) (it':=it) (by simp) (WT _ _ _ _ _ _) (QP _ _ _ _ _ _) λv=>WU _ _ _ _ _ v _)
theorem heads:∀k,jB X r γ n fr cs w0 k:=by
 intro k
 induction k using Nat.strongRecOn with
 |_ k ih=>
 intro aN tm w T h0 hn hH hb;obtain⟨pc,old,nw,aw,sv,it,n'⟩:=T;simp only at hn hH;subst hn
 by_cases c0:old=0/\aw=false/\sv=false
 .obtain⟨rfl,rfl,rfl⟩:=c0
  exact XU hm R live tk ih h0 hH
 by_cases c1:old=1/\aw=false/\sv=false
 .obtain⟨rfl,rfl,rfl⟩:=c1
  exact XT hm R live tk ih h0 hH
 by_cases TT:old=2/\aw=true/\sv=false
 .obtain⟨rfl,rfl,rfl⟩:=TT
  exact Rc hm R live tk ih h0 hH
 by_cases Ek:old=2/\aw=true/\sv=true
 .obtain⟨rfl,rfl,rfl⟩:=Ek
  exact MV hm R live tk ih h0 hH
 by_cases c2:old=2/\aw=false/\sv=false
 .obtain⟨rfl,rfl,rfl⟩:=c2
  exact XS hm R live tk ih h0 hH
 by_cases O3:old=3/\aw=true/\sv=false
 .obtain⟨rfl,rfl,rfl⟩:=O3
  exact Rb hm R live tk ih h0 hH
 by_cases zl:old=3/\aw=true/\sv=true
 .obtain⟨rfl,rfl,rfl⟩:=zl
  exact MU hm R live tk ih h0 hH
 by_cases c12:old=12/\aw=false/\sv=false
 .obtain⟨rfl,rfl,rfl⟩:=c12
  exact Re hm R live tk ih h0 hH
 exfalso
 apply hb
 have nt:∀b:Bool,b=true\/b=false:=λb=>by cases b<;>simp
 rcases nt aw with rfl|rfl<;>rcases nt sv with rfl|rfl<;>simp_all [hd]
theorem Ju {k:Nat}(h0:RR X γ w0 w):LW X r γ k (at_ .r0 n) (Rs X.Fd fr cs) w:=
 iv hm R (λk' _=>heads hm R live tk k') h0 (.inl rfl) rfl (by simp) (it':=0) (by simp) (lS0 _ _ _) (ahk _ _ _) λv=>abG _ _ _ v
theorem fast {k:Nat}(h0:RR X γ w0 w):LW X r γ k (at_ .l0 n) (resume (YP X.Fd fr cs) U) w:=by
 refine aC ⟨200,_,ahm _ _ _⟩ ?_;refine BC hm R (T1:=at_ .le n) (T2:=at_ .r0 n) (.inr (.inl rfl)) (lC1 _ _ _) (λs e=>by simp[mv,e]) (λs _ e=>⟨(at_ .r0 n,s),by simp[mv,e],.inr rfl⟩) rfl (by simp) rfl (by simp) (λk' w' hk hr=>?_) (λ_ k' w' hk hr=>?_)
 .exact aC ⟨200,_,ahp _ _ _⟩ (Er hm R (lE1 _ _ _) ⟨200,_,ahl _ _ _⟩ (lV1 _ _ _) ahh ahi ahg ⟨200,_,ahj _ _ _⟩ (lA1 _ _ _) ⟨6,_,ahq _ _ _⟩ ((h0.trans X hr).live live) λk w1 d o hr1=>tk k w1 d o ((h0.trans X hr).trans X hr1))
 .exact aC ⟨200,_,aho _ _ _⟩ (Ju hm R live tk (h0.trans X hr))
theorem Jv {k:Nat}:LW X r γ k (at_ .out (n+1)) (gL0 X.Fd fr cs) w0:=by
 refine aC ⟨200,_,lL0 _ _ _⟩ (iD λk' w₁ hk hr=>?_);refine⟨(aV (lD1 _ _ _)).1,(aV (lD1 _ _ _)).2,by simp,by simp,λs hsh hf=>⟨by simp[mv],λd hd _=>?_⟩⟩;refine⟨(at_ .l0 n,s),by simp[mv],λ_=>⟨by simp,resume (YP X.Fd fr cs) U,w₁,#[qA .disable],?_,hsh,.refl _,by simp[EvStop,i7],?_⟩⟩
 .rw[hm]
  exact jh Ip .disable JU (lD1 _ _ _)
 .unfold After
  rw[ζ (by simp),hm];have:=fast hm R live tk (k:=k') hr;exact this
end
section
variable (F:Nat)(pf:κ)(cs:List κ)(v:Int)
def gU0:Ω:=G {(base 202).at ⟨#[pt F]++Array.replicate 5 undef,[]⟩ [.code (rq 202)] with kind:= .deferred} ({pf with mode:= .returning}::cs)
def uL:Ω:=O (gU0 F pf cs)
theorem aaJ:au PP false (gU0 F pf cs) (uL F pf cs):=⟨200,bT PP false 200 (gU0 F pf cs),λws=>by kernel_rfl⟩
theorem SV:aT (uL F pf cs)=some (.load 21 (pt F)):=by kernel_rfl
theorem agF:(PP.funcs[(uL F pf cs).frame.fn]?).any (·.norace)=true:=by kernel_rfl
def uV:Ω:=O (resume (uL F pf cs) (.int .i32 v))
theorem aaE:au PP false (resume (uL F pf cs) (.int .i32 v)) (uV F pf cs v):=⟨200,bT PP false 200 (resume (uL F pf cs) (.int .i32 v)),λws=>by kernel_rfl⟩
theorem aaB:aT (uV F pf cs v)=some (.conv (zh (uV 0 default [] 0)) (Ai (uV 0 default [] 0)) (pt F)):=by kernel_rfl
theorem agD:PP.underlying (zh (uV 0 default [] 0))=some (.pointer (Ah (uV 0 default [] 0))):=by kernel_rfl
theorem agE:PP.underlying (Ai (uV 0 default [] 0))=some .unsafePointer:=by kernel_rfl
theorem agC:(PP.info? (Ah (uV 0 default [] 0))).map (λi=>decide (i.size=0))=some false:=by kernel_rfl
def uR:Ω:=O (resume (uV F pf cs v) (pt F))
theorem aaA:au PP false (resume (uV F pf cs v) (pt F)) (uR F pf cs v):=⟨200,bT PP false 200 (resume (uV F pf cs v) (pt F)),λws=>by kernel_rfl⟩
theorem K4:aF (uR F pf cs v)=some (193,#[pt F]):=by kernel_rfl
def uD:Ω:=O (resume (uR F pf cs v) U)
theorem aaD:au PP false (resume (uR F pf cs v) U) (uD F pf cs v):=⟨200,bT PP false 200 (resume (uR F pf cs v) U),λws=>by kernel_rfl⟩
theorem Up:aF (uD F pf cs v)=some (168,#[]):=by kernel_rfl
def uA:Ω:=O (resume (uD F pf cs v) U)
theorem aaG:au PP false (resume (uD F pf cs v) U) (uA F pf cs v):=⟨200,bT PP false 200 (resume (uD F pf cs v) U),λws=>by kernel_rfl⟩
theorem Uq:aF (uA F pf cs v)=some (219,#[pt F,.int .i32 (-1)]):=by kernel_rfl
def uE (x:Int):Ω:=O (resume (uA F pf cs v) (.int .i32 x))
theorem agL:au PP false (resume (uA F pf cs v) (.int .i32 0)) (uE F pf cs v 0):=⟨200,bT PP false 200 (resume (uA F pf cs v) (.int .i32 0)),λws=>by kernel_rfl⟩
theorem agK:au PP false (resume (uA F pf cs v) (.int .i32 2)) (uE F pf cs v 2):=⟨200,bT PP false 200 (resume (uA F pf cs v) (.int .i32 2)),λws=>by kernel_rfl⟩
theorem agJ:au PP false (resume (uA F pf cs v) (.int .i32 8)) (uE F pf cs v 8):=⟨200,bT PP false 200 (resume (uA F pf cs v) (.int .i32 8)),λws=>by kernel_rfl⟩
theorem aaH:au PP false (resume (uA F pf cs v) (.int .i32 12)) (uE F pf cs v 12):=⟨200,bT PP false 200 (resume (uA F pf cs v) (.int .i32 12)),λws=>by kernel_rfl⟩
theorem agI:aF (uE F pf cs v 0)=some (170,#[]):=by kernel_rfl
theorem agH:aF (uE F pf cs v 2)=some (170,#[]):=by kernel_rfl
theorem agG:aF (uE F pf cs v 8)=some (217,#[pt F,.int .i32 8,.int .i32 2]):=by kernel_rfl
theorem aaF:aF (uE F pf cs v 12)=some (227,#[qv F,.bool true,.int .i64 2]):=by kernel_rfl
def uS:Ω:=O (resume (uE F pf cs v 8) (.bool true))
theorem aaI:au PP false (resume (uE F pf cs v 8) (.bool true)) (uS F pf cs v):=⟨200,bT PP false 200 (resume (uE F pf cs v 8) (.bool true)),λws=>by kernel_rfl⟩
theorem Uk:aF (uS F pf cs v)=some (227,#[qv F,.bool false,.int .i64 2]):=by kernel_rfl
def uF8:Ω:=O (resume (uS F pf cs v) U)
theorem aaC:au PP false (resume (uS F pf cs v) U) (uF8 F pf cs v):=⟨200,bT PP false 200 (resume (uS F pf cs v) U),λws=>by kernel_rfl⟩
theorem Um:aF (uF8 F pf cs v)=some (170,#[]):=by kernel_rfl
def Pj:Ω:=O (resume (uE F pf cs v 12) U)
theorem Ur:au PP false (resume (uE F pf cs v 12) U) (Pj F pf cs v):=⟨200,bT PP false 200 (resume (uE F pf cs v 12) U),λws=>by kernel_rfl⟩
theorem Pi:aF (Pj F pf cs v)=some (170,#[]):=by kernel_rfl
theorem Uo:au PP false (resume (uE F pf cs v 0) U) (G {pf with mode:= .returning} cs):=⟨6,bT PP false 6 (resume (uE F pf cs v 0) U),λws=>by kernel_rfl⟩
theorem Un:au PP false (resume (uE F pf cs v 2) U) (G {pf with mode:= .returning} cs):=⟨6,bT PP false 6 (resume (uE F pf cs v 2) U),λws=>by kernel_rfl⟩
theorem Ul:au PP false (resume (uF8 F pf cs v) U) (G {pf with mode:= .returning} cs):=⟨6,bT PP false 6 (resume (uF8 F pf cs v) U),λws=>by kernel_rfl⟩
theorem Ph:au PP false (resume (Pj F pf cs v) U) (G {pf with mode:= .returning} cs):=⟨6,bT PP false 6 (resume (Pj F pf cs v) U),λws=>by kernel_rfl⟩
end
theorem WY {Δ:Type}{X:Cx Δ}{g:Ω}{w:Θ}{s:Sh}(hv:aT g=some (.load 21 (pt X.Fd)))(hq:(PP.funcs[g.frame.fn]?).any (·.norace)=true)(hs:ShAt X w s):stepG PP false g w= .go (resume g (.int .i32 s.mu)) w #[]:=by
 refine Tn hv hs.Zn ?_ ?_ hq
 .intro w
  cases hcc:w.cell? ⟨X.Fd,0,none⟩ with
  |none=>simp[mA]
  |some x=>simp[go_sem,hcc,mA,pt]
 .intro w x hx
  simp[go_sem,hx,mA,pt]
section
variable {Δ:Type}{X:Cx Δ}{r:bg}{k n:Nat}{γ:Gh Δ}{w:Θ}{pf:κ}{cs:List κ}{c d:Δ}
theorem B5 (hm:vo r=false)(R:Room X γ)(hM:¬γ.own X.M)(live:∃s,ShAt X w s)(hD:∃o,w.heap[X.M]? =some o/\BK X r c d o)
  (back:∀k w',RR X γ w w'->LW X r {γ with mine:=c,other:=d} k (at_ .out n) (G {pf with mode:= .returning} cs) w'):
  aD PP false (fq X false γ.ro) (dR (In X PP k r) (at_ .ur n) {γ with own:=λb=>γ.own b\/b=X.M,other:=d}) (λb=>γ.own b\/b=X.M) (gU0 X.Fd pf cs) w:=by
 have sub:∀{w w':Θ},RX X γ.ro (λb=>γ.own b\/b=X.M) w w'->RR X γ w w':=λh=>⟨h.tape,h.output,h.size,h.os,λb hb ho=>h.keep b hb (ho.imp .inl id),h.live⟩
 have R':Room X {γ with mine:=c,other:=d}:=⟨R.ne,R.off⟩
 refine aC (aaJ _ _ _) (aD.step (cY (SV _ _ _)).1 λw₁ hr=>?_);obtain⟨s0,hs⟩:=hr.live live;refine⟨_,w₁,#[],WY (SV _ _ _) (agF _ _ _) hs,(jO _ _ _ w₁).1,?_⟩;have e0:=(jO (X:=X) false γ.ro (λb=>γ.own b\/b=X.M) w₁).2;rw[e0];refine aC (aaE _ _ _ _) (qV (aaB _ _ _ _) agD agE agC (λw₂ hr2=>?_) (aC (aaA _ _ _ _) ?_))
 .obtain⟨s,hs⟩:=(hr.trans X hr2).live live
  exact⟨_,hs.Zn⟩
 cases k with
 |zero=>exact aD.stop λw₂ hr2=>⟨c,λh=>absurd rfl h,trivial⟩
 |succ k=>
 refine aD.stop λw₂ hr2=>⟨c,λh=>absurd rfl h,?_⟩
 obtain⟨o,ho,hDo⟩:=hD;have hlt:=(Ψ.1 ho).1;have acZ:=hr.trans X hr2;have ho2:w₂.heap[X.M]? =some o:=(acZ.keep X.M hlt (.inl (.inr rfl))).trans ho;refine⟨(aV (K4 _ _ _ _)).1,(aV (K4 _ _ _ _)).2,by simp,λ_=>⟨o,ho2,hDo⟩,λs hsh hf=>⟨by simp[mv],λd' _ _=>?_⟩⟩
 refine⟨(at_ .ud n,s),by simp[mv],λ_=>⟨by simp,resume (uR X.Fd pf cs s0.mu) U,w₂,#[qA (.releaseMerge (mA X))],?_,hsh,.refl _,by simp[EvStop,i7],?_⟩⟩
 .rw[hm]
  exact fU xRm .releaseMerge fRm (K4 _ _ _ _)
 unfold After;rw[ζ (by simp),hm];have eo:iS X .ur (λb=>γ.own b\/b=X.M)=γ.own:=by
  funext b
  show((γ.own b\/b=X.M)/\b≠X.M)=γ.own b;exact propext ⟨λh=>h.1.resolve_right h.2,λh=>⟨.inl h,λe=>hM (e▸h)⟩⟩
 have key:LW X r {γ with mine:=c,other:=d} k (at_ .ud n) (uD X.Fd pf cs s0.mu) w₂:=?_
 .have:=aC (aaD X.Fd pf cs _) key
  rw[<-eo] at this;exact this
 have R12:RR X γ w w₂:=sub acZ;have fin:∀{k1:Nat} {w1:Θ} {g1:Ω},RR X γ w w1->aF g1=some (170,#[])->au PP false (resume g1 U) (G {pf with mode:= .returning} cs)->LW X r {γ with mine:=c,other:=d} k1 (at_ .ue n) g1 w1:=by
  intro k1 w1 g1 h1 hc hg;exact vR hm R' (T':=at_ .out n) (m:= .enable) ZK (by simp) fEn hc (by simp[mv]) (by simp[EvStop,i7]) (by simp) (by simp) (by simp) (by simp) (by simp) (by simp) λk' w' hk hr=>aC hg (back k' w' (h1.trans X hr))
 refine vR hm R' (T':=at_ .u0 n) (m:= .disable) Ip (by simp) JU (Up _ _ _ _) (by simp[mv]) (by simp[EvStop,i7]) (by simp) (by simp) (by simp) (by simp) (by simp) (by simp) λk1 w1 hk1 hr1=>?_
 refine aC (aaG _ _ _ _) (Oz hm R' (.inr rfl) (Uq _ _ _ _) λs hf=>?_)
 by_cases h1:s.mu=1
 .refine⟨(at_ .ue n,{s with mu:=0}),by simp[mv,h1],.inr ⟨by rw[h1];rfl,rfl,by simp,λk2 w2 hk2 hr2=>?_⟩⟩
  rw[h1];exact aC (agL _ _ _ _) (fin ((R12.trans X hr1).trans X hr2) (agI _ _ _ _) (Uo _ _ _ _))
 by_cases h3:s.mu=3
 .refine⟨(at_ .ue n,{s with mu:=2}),by simp[mv,h1,h3],.inr ⟨by rw[h3];rfl,rfl,by simp,λk2 w2 hk2 hr2=>?_⟩⟩
  rw[h3];exact aC (agK _ _ _ _) (fin ((R12.trans X hr1).trans X hr2) (agH _ _ _ _) (Un _ _ _ _))
 by_cases h9:s.mu=9
 .refine⟨({pc:= .uc,old:=8,nw:=2,n:=n},{s with mu:=8}),by simp[mv,h1,h3,h9],.inr ⟨by rw[h9];rfl,rfl,by simp,λk2 w2 hk2 hr2=>?_⟩⟩
  rw[h9];refine aC (agJ _ _ _ _) (BC hm R' (T1:=at_ .us n) (T2:=at_ .bad n) (.inr (.inr rfl)) (agG _ _ _ _) (λs e=>by simp[mv,e]) (λs _ e=>⟨(at_ .bad n,s),by simp[mv,e],.inl rfl⟩) rfl (by simp) rfl (by simp) (λk3 w3 hk3 hr3=>?_) (λh=>absurd rfl h));refine aC (aaI _ _ _ _) (Ow hm R' rfl (Uk _ _ _ _) rfl λk4 w4 hk4 hr4=>aC (aaC _ _ _ _) ?_)
  exact fin ((((R12.trans X hr1).trans X hr2).trans X hr3).trans X hr4) (Um _ _ _ _) (Ul _ _ _ _)
 by_cases h13:s.mu=13
 .refine⟨(at_ .us n,{s with mu:=12}),by simp[mv,h1,h3,h9,h13],.inr ⟨by rw[h13];rfl,rfl,by simp,λk2 w2 hk2 hr2=>?_⟩⟩
  rw[h13];refine aC (aaH _ _ _ _) (Ow hm R' rfl (aaF _ _ _ _) rfl λk4 w4 hk4 hr4=>aC (Ur _ _ _ _) ?_);exact fin (((R12.trans X hr1).trans X hr2).trans X hr4) (Pi _ _ _ _) (Ph _ _ _ _)
 .exact⟨(at_ .bad n,s),by simp[mv,h1,h3,h9,h13],.inl rfl⟩
end
section
variable {Δ:Type}{X:Cx Δ}{r:bg}{k n:Nat}{T:Lo}{γ:Gh Δ}{own:Nat->Prop}{g:Ω}{w:Θ}
theorem nu {deaf:Bool}(hd:deaf=false){ro:Nat->Prop}{Stop:(Nat->Prop)->Ω->Θ->Prop}{t:η}{a:Addr}{v:Φ}(h:aT g=some (.load t (.pointer (some a))))
  (ha:∀w,(isAgg t).run PP w= .ok false w) (hae:∀w,(isAgg t).events PP w #[]=#[]) (hb:own a.block\/ro a.block) (hc:w.cell? a=some v) (k:aD PP false (fq X deaf ro) Stop own (resume g v) w):aD PP false (fq X deaf ro) Stop own g w:=by
 subst hd;refine aD.step (cY h).1 λw₁ hr=>?_
 have hlt:a.block<w.heap.size:=by
  unfold World.cell? at hc;cases hh:w.heap[a.block]? with
  |none=>rw[hh] at hc;simp at hc
  |some o=>exact(Ψ.1 hh).1
 have hc1:w₁.cell? a=some v:=by
  unfold World.cell? at hc⊢;rw[hr.keep a.block hlt hb];exact hc
 obtain⟨es,e1,e2⟩:=mY (P:=PP) (main:=false) (w:=w₁) (w':=w₁) (x:=v) h (by simp[lu.sem,go_sem,ha,hc1]);refine⟨_,w₁,es,e1,⟨rfl,rfl,φ _,.refl _,λ_ _ _=>rfl,λe he=>?_,λh=>absurd h (by simp)⟩,?_⟩
 .have:=e2 e he
  simp[lu.sem,go_sem,ha,hae,hc1] at this;subst this;rcases hb with hb|hb
  .exact .inl ⟨a.block,.inl hb,.inl ⟨a,rfl,rfl⟩⟩
  .exact .inl ⟨a.block,.inr (.inr ⟨hb,rfl⟩),.inl ⟨a,rfl,rfl⟩⟩
 .have:=(jO (X:=X) false ro own w₁).2
  rw[this];exact k.rely hr
end
section
variable (bw bf F W bd bs:Nat)(dv:Φ)(sd:Int)
def pb (b:Nat):Φ:= .pointer (some ⟨b,0,none⟩)
def ldT (g:Ω):η:=match aT g with|some (.load t _)=>t|_=>0
def qB:Φ:= .func (.func 131) #[] #[pb F,pb bd,pb bs]
def Z6:Ω:=Go.Conc.born PP {target:= .fn (.func 163) #[pb bw,pb bf],args:=#[]}
def gW1:Ω:=O (Z6 bw bf)
theorem Yt:au PP false (Z6 bw bf) (gW1 bw bf):=aK λws=>by kernel_rfl
theorem Yr:aT (gW1 bw bf)=some (.load (ldT (gW1 0 0)) (.pointer (some ⟨bf,0,none⟩))):=by kernel_rfl
def gW2:Ω:=O (resume (gW1 bw bf) (qB F bd bs))
theorem Ys:au PP false (resume (gW1 bw bf) (qB F bd bs)) (gW2 bw bf F bd bs):=aK λws=>by kernel_rfl
theorem Yp:aT (gW2 bw bf F bd bs)=some (.load (ldT (gW2 0 0 0 0 0)) (.pointer (some ⟨bd,0,none⟩))):=by kernel_rfl
def Z5:Ω:=O (resume (gW2 bw bf F bd bs) dv)
theorem Yq:au PP false (resume (gW2 bw bf F bd bs) dv) (Z5 bw bf F bd bs dv):=aK λws=>by kernel_rfl
theorem Yn:aT (Z5 bw bf F bd bs dv)=some (.load (ldT (Z5 0 0 0 0 0 dv)) (.pointer (some ⟨bs,0,none⟩))):=by kernel_rfl
def cW:List κ:=(On 1 (resume (Z5 bw bf F bd bs dv) (.int .i64 sd))).callers
def fW:κ:=(cW bw bf F bd bs dv sd).head?.getD default
def tW:List κ:=(cW bw bf F bd bs dv sd).tail
def Z8 (fr:κ)(cs:List κ):Ω:=Nf 132 #[pb F,dv,.int .i64 sd] 46 fr cs
theorem Yo:au PP false (resume (Z5 bw bf F bd bs dv) (.int .i64 sd)) (Z8 F dv sd (fW bw bf F bd bs dv sd) (tW bw bf F bd bs dv sd)):=aR 1 (bT PP false 1 (resume (Z5 bw bf F bd bs dv) (.int .i64 sd))) λws=>by kernel_rfl
def gX0:Ω:=cG (fW bw bf F bd bs dv sd) (tW bw bf F bd bs dv sd) U
def gX1:Ω:=O (gX0 bw bf F bd bs dv sd)
theorem Ym:au PP false (gX0 bw bf F bd bs dv sd) (gX1 bw bf F bd bs dv sd):=aK λws=>by kernel_rfl
theorem Yk:aT (gX1 bw bf F bd bs dv sd)=some (.load (ldT (gX1 0 0 0 0 0 dv 0)) (.pointer (some ⟨bw,0,none⟩))):=by kernel_rfl
def O1:Ω:=O (resume (gX1 bw bf F bd bs dv sd) (pb W))
theorem Yl:au PP false (resume (gX1 bw bf F bd bs dv sd) (pb W)) (O1 bw bf F W bd bs dv sd):=aK λws=>by kernel_rfl
theorem Yj:aT (O1 bw bf F W bd bs dv sd)=some (.conv (zh (O1 0 0 0 0 0 0 dv 0)) (Ai (O1 0 0 0 0 0 0 dv 0)) (pb W)):=by kernel_rfl
theorem adJ:PP.underlying (zh (O1 0 0 0 0 0 0 dv 0))=some (.pointer (Ah (O1 0 0 0 0 0 0 dv 0))):=by kernel_rfl
theorem adK:PP.underlying (Ai (O1 0 0 0 0 0 0 dv 0))=some .unsafePointer:=by kernel_rfl
theorem adI:(PP.info? (Ah (O1 0 0 0 0 0 0 dv 0))).map (λi=>decide (i.size=0))=some false:=by kernel_rfl
def Yh:Ω:=O (resume (O1 bw bf F W bd bs dv sd) (pb W))
theorem Yi:au PP false (resume (O1 bw bf F W bd bs dv sd) (pb W)) (Yh bw bf F W bd bs dv sd):=aK λws=>by kernel_rfl
theorem FR:aF (Yh bw bf F W bd bs dv sd)=some (193,#[pb W]):=by kernel_rfl
def gX4:Ω:=O (resume (Yh bw bf F W bd bs dv sd) U)
theorem Yg:au PP false (resume (Yh bw bf F W bd bs dv sd) U) (gX4 bw bf F W bd bs dv sd):=aK λws=>by kernel_rfl
theorem Rr:aF (gX4 bw bf F W bd bs dv sd)=some (168,#[]):=by kernel_rfl
def gX5:Ω:=O (resume (gX4 bw bf F W bd bs dv sd) U)
theorem Yf:au PP false (resume (gX4 bw bf F W bd bs dv sd) U) (gX5 bw bf F W bd bs dv sd):=aK λws=>by kernel_rfl
theorem Rq:aF (gX5 bw bf F W bd bs dv sd)=some (176,#[]):=by kernel_rfl
def y9:Ω:=O (resume (gX5 bw bf F W bd bs dv sd) (.bool false))
theorem Ye:au PP false (resume (gX5 bw bf F W bd bs dv sd) (.bool false)) (y9 bw bf F W bd bs dv sd):=aK λws=>by kernel_rfl
end
section
variable (bw bf F W bd bs:Nat)(dv:Φ)(sd:Int)
theorem Hv:aF (y9 bw bf F W bd bs dv sd)=some (213,#[pb W,.int .u64 18446744069414584320]):=by kernel_rfl
def gY (n:Int):Ω:=O (resume (y9 bw bf F W bd bs dv sd) (.int .u64 n))
theorem Yc:au PP false (resume (y9 bw bf F W bd bs dv sd) (.int .u64 1)) (gY bw bf F W bd bs dv sd 1):=aK λws=>by kernel_rfl
theorem Yd:iu (gY bw bf F W bd bs dv sd 0)=some (170,#[]):=by kernel_rfl
theorem Yb:iu (gY bw bf F W bd bs dv sd 4294967296)=some (170,#[]):=by kernel_rfl
theorem Ya:iu (gY bw bf F W bd bs dv sd 4294967297)=some (170,#[]):=by kernel_rfl
theorem Na:aF (gY bw bf F W bd bs dv sd 1)=some (203,#[pb W]):=by kernel_rfl
def gZ1:Ω:=O (resume (gY bw bf F W bd bs dv sd 1) (.int .u64 1))
theorem Rp:au PP false (resume (gY bw bf F W bd bs dv sd 1) (.int .u64 1)) (gZ1 bw bf F W bd bs dv sd):=aK λws=>by kernel_rfl
theorem M4:aF (gZ1 bw bf F W bd bs dv sd)=some (214,#[pb W,.int .u64 0]):=by kernel_rfl
def TD:Ω:=O (resume (gZ1 bw bf F W bd bs dv sd) U)
theorem X9:au PP false (resume (gZ1 bw bf F W bd bs dv sd) U) (TD bw bf F W bd bs dv sd):=aK λws=>by kernel_rfl
theorem Bo:aF (TD bw bf F W bd bs dv sd)=some (200,#[qv W,.bool false,.int .i64 0]):=by kernel_rfl
def Z4:Ω:=O (resume (TD bw bf F W bd bs dv sd) U)
theorem X8:iu (Z4 bw bf F W bd bs dv sd)=some (170,#[]):=by kernel_rfl
end
def FP (P:ω):Nat->Ω->(Nat->Θ)->Option (List (Ω×Θ))
 |0,_,_=>some []
 |n+1,g,ws=>
  match g.status,stepG P false g (ws 0) with
  |.running,.go g' w' es=>if es.isEmpty then(match FP P n g' (λi=>ws (i+1)) with|some l=>some ((g',w')::l)|none=>none) else none
  |_,_=>none
def pairs:List Ω->(Nat->Θ)->List (Ω×Θ)
 |[],_=>[]
 |x::l,ws=>(x,ws 0)::pairs l (λi=>ws (i+1))
def zZ (n:Nat)(g:Ω):List Ω:=match FP PP n g (λ_=>default) with|some l=>l.map (·.1)|none=>[]
theorem gO {m d:Nat}:∀{n:Nat} {g:Ω} {L:List Ω},(∀ws,FP PP n g ws=some (pairs L ws))->QuitsD PP m d (L.getLastD g)->QuitsD PP (n+m) d g
 |0,g,L,h,q=>by
  have:=h λ_=>default
  simp only[FP,ae9] at this;cases L with
  |nil=>rw[Nat.zero_add];exact q
  |cons x l=>simp[pairs] at this
 |n+1,g,L,h,q=>by
  have key:∀w:Θ,g.status= .running/\∃x L',L=x::L'/\stepG PP false g w= .go x w #[]/\∀ws':Nat->Θ,FP PP n x ws'=some (pairs L' ws'):=by
   intro w;have h0:∀ws':Nat->Θ,g.status= .running/\∃x L',L=x::L'/\stepG PP false g w= .go x w #[]/\FP PP n x ws'=some (pairs L' ws'):=by
    intro ws';have:=h λi=>match i with|0=>w|i+1=>ws' i
    simp only[FP] at this;cases hs:g.status<;>rw[hs] at this<;>(try cases this;done)
    cases hst:stepG PP false g w<;>rw[hst] at this<;>simp only at this<;>(try cases this;done)
    rename_i g1 w' es;split at this
    .rename_i he
     have he:es=#[]:=by simpa using he
     subst he;split at this
     .rename_i l hx
      cases L with
      |nil=>simp[pairs] at this
      |cons x L'=>
       simp only[pairs,ae9,List.cons.injEq,af8] at this;obtain⟨⟨rfl,rfl⟩,rfl⟩:=this;exact⟨rfl,_,L',rfl,rfl,hx⟩
     .cases this
    .cases this
   obtain⟨hs,x,L',e1,e2,_⟩:=h0 λ_=>w
   refine⟨hs,x,L',e1,e2,λws'=>?_⟩;obtain⟨_,y,M',f1,f2,f3⟩:=h0 ws';rw[e1] at f1;cases f1;exact f3
  obtain⟨hs,x,L',e1,e2,e3⟩:=key default;rw[show n+1+m=n+m+1 by omega];refine QuitsD.ctl hs (λw=>?_) (gO (L:=L') e3 ?_)
  .obtain⟨_,y,M',f1,f2,_⟩:=key w
   rw[e1] at f1;cases f1;exact f2
  .rw[e1] at q
   cases L' with
   |nil=>exact q
   |cons z l=>exact q
theorem rZ {g:Ω}{n:Nat}(h:iu g=some (170,#[]))(q:QuitsD PP n 0 (dc g)):QuitsD PP (n+1) 1 g:=
 .said ⟨.mark .enable,false,true⟩ rfl (pz h).1 (λw=>ji ZK .enable (by simp) fEn h) q
section
variable (bw bf F W bd bs:Nat)(dv:Φ)(sd:Int)
theorem abW (ws:Nat->Θ):FP PP 9 (dc (gY bw bf F W bd bs dv sd 0)) ws=some (pairs (zZ 9 (dc (gY bw bf F W bd bs dv sd 0))) ws):=by kernel_rfl
theorem abU (ws:Nat->Θ):FP PP 9 (dc (gY bw bf F W bd bs dv sd 4294967296)) ws=some (pairs (zZ 9 (dc (gY bw bf F W bd bs dv sd 4294967296))) ws):=by kernel_rfl
theorem abT (ws:Nat->Θ):FP PP 9 (dc (gY bw bf F W bd bs dv sd 4294967297)) ws=some (pairs (zZ 9 (dc (gY bw bf F W bd bs dv sd 4294967297))) ws):=by kernel_rfl
theorem abV (ws:Nat->Θ):FP PP 9 (dc (Z4 bw bf F W bd bs dv sd)) ws=some (pairs (zZ 9 (dc (Z4 bw bf F W bd bs dv sd))) ws):=by kernel_rfl
theorem ad7:((zZ 9 (dc (gY bw bf F W bd bs dv sd 0))).getLastD (dc (gY bw bf F W bd bs dv sd 0))).status= .finished:=by kernel_rfl
theorem ad5:((zZ 9 (dc (gY bw bf F W bd bs dv sd 4294967296))).getLastD (dc (gY bw bf F W bd bs dv sd 4294967296))).status= .finished:=by kernel_rfl
theorem ad3:((zZ 9 (dc (gY bw bf F W bd bs dv sd 4294967297))).getLastD (dc (gY bw bf F W bd bs dv sd 4294967297))).status= .finished:=by kernel_rfl
theorem ad6:((zZ 9 (dc (Z4 bw bf F W bd bs dv sd))).getLastD (dc (Z4 bw bf F W bd bs dv sd))).status= .finished:=by kernel_rfl
theorem aav (ws:Nat->Θ):FP PP 87 (resume (y9 bw bf F W bd bs dv sd) (.int .u64 0)) ws=some (pairs (zZ 87 (resume (y9 bw bf F W bd bs dv sd) (.int .u64 0))) ws):=by kernel_rfl
theorem aep:(zZ 87 (resume (y9 bw bf F W bd bs dv sd) (.int .u64 0))).getLastD (resume (y9 bw bf F W bd bs dv sd) (.int .u64 0))=gY bw bf F W bd bs dv sd 0:=by kernel_rfl
theorem Wi:∃n,QuitsD PP n 1 (resume (y9 bw bf F W bd bs dv sd) (.int .u64 0)):=⟨_,gO (aav bw bf F W bd bs dv sd) (by rw[aep];exact rZ (Yd bw bf F W bd bs dv sd) (gO (m:=0) (abW bw bf F W bd bs dv sd) ⟨ad7 bw bf F W bd bs dv sd,rfl⟩))⟩
theorem aat (ws:Nat->Θ):FP PP 87 (resume (y9 bw bf F W bd bs dv sd) (.int .u64 4294967296)) ws=some (pairs (zZ 87 (resume (y9 bw bf F W bd bs dv sd) (.int .u64 4294967296))) ws):=by kernel_rfl
theorem aen:(zZ 87 (resume (y9 bw bf F W bd bs dv sd) (.int .u64 4294967296))).getLastD (resume (y9 bw bf F W bd bs dv sd) (.int .u64 4294967296))=gY bw bf F W bd bs dv sd 4294967296:=by kernel_rfl
theorem Wf:∃n,QuitsD PP n 1 (resume (y9 bw bf F W bd bs dv sd) (.int .u64 4294967296)):=⟨_,gO (aat bw bf F W bd bs dv sd) (by rw[aen];exact rZ (Yb bw bf F W bd bs dv sd) (gO (m:=0) (abU bw bf F W bd bs dv sd) ⟨ad5 bw bf F W bd bs dv sd,rfl⟩))⟩
theorem aas (ws:Nat->Θ):FP PP 87 (resume (y9 bw bf F W bd bs dv sd) (.int .u64 4294967297)) ws=some (pairs (zZ 87 (resume (y9 bw bf F W bd bs dv sd) (.int .u64 4294967297))) ws):=by kernel_rfl
theorem aem:(zZ 87 (resume (y9 bw bf F W bd bs dv sd) (.int .u64 4294967297))).getLastD (resume (y9 bw bf F W bd bs dv sd) (.int .u64 4294967297))=gY bw bf F W bd bs dv sd 4294967297:=by kernel_rfl
theorem We:∃n,QuitsD PP n 1 (resume (y9 bw bf F W bd bs dv sd) (.int .u64 4294967297)):=⟨_,gO (aas bw bf F W bd bs dv sd) (by rw[aem];exact rZ (Ya bw bf F W bd bs dv sd) (gO (m:=0) (abT bw bf F W bd bs dv sd) ⟨ad3 bw bf F W bd bs dv sd,rfl⟩))⟩
theorem aau (ws:Nat->Θ):FP PP 17 (resume (TD bw bf F W bd bs dv sd) U) ws=some (pairs (zZ 17 (resume (TD bw bf F W bd bs dv sd) U)) ws):=by kernel_rfl
theorem aeo:(zZ 17 (resume (TD bw bf F W bd bs dv sd) U)).getLastD (resume (TD bw bf F W bd bs dv sd) U)=Z4 bw bf F W bd bs dv sd:=by kernel_rfl
theorem Wh:∃n,QuitsD PP n 1 (resume (TD bw bf F W bd bs dv sd) U):=⟨_,gO (aau bw bf F W bd bs dv sd) (by rw[aeo];exact rZ (X8 bw bf F W bd bs dv sd) (gO (m:=0) (abV bw bf F W bd bs dv sd) ⟨ad6 bw bf F W bd bs dv sd,rfl⟩))⟩
end
theorem Ui:Ext PP 176 Tryz.f176:=⟨Tryz.func176,by kernel_rfl,by kernel_rfl,by kernel_rfl⟩
theorem Y5:Extern.find Tryz.f176=some (λ_=>pure (.bool false)):=by kernel_rfl
theorem KS:Ext PP 213 Tryz.f213:=⟨Tryz.func213,by kernel_rfl,by kernel_rfl,by kernel_rfl⟩
theorem NI:Extern.find Tryz.f213=some (Extern.Atomic.update (Op.intArith .add) .u64 true):=by kernel_rfl
theorem Uh:Ext PP 203 Tryz.f203:=⟨Tryz.func203,by kernel_rfl,by kernel_rfl,by kernel_rfl⟩
theorem Y1:Extern.find Tryz.f203=some (Extern.Atomic.loadT (.int .u64)):=by kernel_rfl
theorem ago:Ext PP 214 Tryz.f214:=⟨Tryz.func214,by kernel_rfl,by kernel_rfl,by kernel_rfl⟩
theorem aiq:Extern.find Tryz.f214=some Extern.Atomic.storeT:=by kernel_rfl
theorem SP:Ext PP 200 Tryz.f200:=⟨Tryz.func200,by kernel_rfl,by kernel_rfl,by kernel_rfl⟩
theorem aec:Extern.find Tryz.f200=some Extern.Sync.semrelease:=by kernel_rfl
section
variable {Δ:Type}{X:Cx Δ}{r:bg}{k n:Nat}{γ:Gh Δ}{w:Θ}{bw bf F bd bs:Nat}{dv:Φ}{sd:Int}
variable (hm:vo r=false)(R:Room X γ)
include hm R
theorem aeG:LW X r γ k (at_ .d1 n) (y9 bw bf F X.Wg bd bs dv sd) w:=by
 refine iD λk1 w1 hk1 hr1=>dg (aV (Hv _ _ _ _ _ _ _ _)) (by simp) (by simp) (by simp) (by simp) (λs _ hf hn=>?_) (λs hsh hf _=>?_)
 .exfalso
  rcases hf.2.2.1 with h|h|h|h|h|h<;>simp[mv,h,KKi] at hn
 rw[hm];have st:=rH (P:=PP) (main:=false) (w:=w1) (ad:=wA X) KS .u64 NI (Hv bw bf F X.Wg bd bs dv sd) hsh.Ko (hsh.OU 0);have hsh':=hsh.setWg R.ne (IntKind.u64.wrap (s.wg+18446744069414584320));have ef:=ConcM.Eff.set (w:=w1) (Mu:=X.Fd) (Wg:=X.Wg) (wA X) (.int .u64 (IntKind.u64.wrap (s.wg+18446744069414584320))) (.inr rfl)
 have bad:∀{q:Lo×Sh},q∈mv (at_ .d1 n) s->q.1.pc= .bad->∃q∈mv (at_ .d1 n) s,q.1.pc≠.bad->∃g' w' es,stepG PP false (y9 bw bf F X.Wg bd bs dv sd) w1= .go g' w' es/\ShAt X w' q.2/\ConcM.Eff X.Fd X.Wg w1 w'/\EvStop X (at_ .d1 n) q.1 es/\
   (if q.1.pc= .quit then ∃n,QuitsD PP n 1 g' else aD PP false (fq X (eQ q.1.pc) γ.ro) (dR (In X PP k1 r) q.1 γ) γ.own g' w'):=λhq hb=>⟨_,hq,λh=>absurd hb h⟩
 rcases hf.2.2.1 with h|h|h|h|h|h
 .exact bad (q:=(at_ .bad n,s)) (by simp[mv,h,KKi]) rfl
 .exact bad (q:=(at_ .bad n,s)) (by simp[mv,h,KKi]) rfl
 .have e:IntKind.u64.wrap (s.wg+18446744069414584320)=0:=by rw[h];decide
  rw[e] at st hsh' ef;refine⟨(at_ .quit n,{s with wg:=0}),by simp[mv,h,KKi],λ_=>⟨_,_,_,st,hsh',ef,pq (okW R.ne) rfl,?_⟩⟩;rw[χ rfl];exact Wi _ _ _ _ _ _ _ _
 .have e:IntKind.u64.wrap (s.wg+18446744069414584320)=1:=by rw[h];decide
  rw[e] at st hsh' ef;refine⟨(at_ .d2 n,{s with wg:=1}),by simp[mv,h,KKi],λ_=>⟨_,_,_,st,hsh',ef,pq (okW R.ne) rfl,?_⟩⟩;rw[ζ (by simp)]
  refine aC (Yc _ _ _ _ _ _ _ _) (iD (T:=at_ .d2 n) λk2 w2 hk2 hr2=>dg (aV (Na _ _ _ _ _ _ _ _)) (by simp) (by simp) (by simp) (by simp) (λs _ hf hn=>?_) (λs hsh hf _=>?_))
  .exfalso
   by_cases h1:s.wg=1<;>simp[mv,h1] at hn
  rw[hm]
  by_cases h1:¬s.wg=1
  .exact⟨(at_ .bad n,s),by simp[mv,h1],λh=>absurd rfl h⟩
  have h1:s.wg=1:=Decidable.not_not.1 h1;have st:=qN (P:=PP) (main:=false) (w:=w2) (ad:=wA X) Uh .u64 Y1 (Na bw bf F X.Wg bd bs dv sd) hsh.Ko;rw[h1] at st;refine⟨(at_ .d3 n,s),by simp[mv,h1],λ_=>⟨_,_,_,st,hsh,.refl _,D3 (okW R.ne) rfl,?_⟩⟩;rw[ζ (by simp)]
  refine aC (Rp _ _ _ _ _ _ _ _) (iD (T:=at_ .d3 n) λk3 w3 hk3 hr3=>dg (aV (M4 _ _ _ _ _ _ _ _)) (by simp) (by simp) (by simp) (by simp) (λs _ hf hn=>?_) (λs hsh hf _=>?_))
  .exfalso
   by_cases h1:s.wg=1<;>simp[mv,h1] at hn
  rw[hm]
  by_cases h1:¬s.wg=1
  .exact⟨(at_ .bad n,s),by simp[mv,h1],λh=>absurd rfl h⟩
  have h1:s.wg=1:=Decidable.not_not.1 h1;have st:=Cj (P:=PP) (main:=false) (w:=w3) (ad:=wA X) ago aiq (M4 bw bf F X.Wg bd bs dv sd) hsh.Ko (hsh.OU 0);have hsh':=hsh.setWg R.ne 0;have ef:=ConcM.Eff.set (w:=w3) (Mu:=X.Fd) (Wg:=X.Wg) (wA X) (.int .u64 0) (.inr rfl);refine⟨(at_ .d4 n,{s with wg:=0}),by simp[mv,h1],λ_=>⟨_,_,_,st,hsh',ef,aiw (okW R.ne) rfl,?_⟩⟩;rw[ζ (by simp)]
  refine aC (X9 _ _ _ _ _ _ _ _) (iD (T:=at_ .d4 n) λk4 w4 hk4 hr4=>dg (aV (Bo _ _ _ _ _ _ _ _)) (by simp) (by simp) (by simp) (λ_=>BX SP (Bo _ _ _ _ _ _ _ _)) (λs _ hf hn=>by simp[mv] at hn) (λs hsh hf _=>?_));rw[hm];have hw:IntKind.u32.wrap (s.ws+1)=s.ws+1:=by
   rcases hf.2.2.2 with h|h<;>rw[h]<;>decide
  have st:=Cm (P:=PP) (main:=false) (w:=w4) (ad:=KI X) SP aec (Bo bw bf F X.Wg bd bs dv sd) hsh.cWs (hsh.OU 1);rw[hw] at st;have hsh':=hsh.setWs R.ne (s.ws+1);have ef:=ConcM.Eff.set (w:=w4) (Mu:=X.Fd) (Wg:=X.Wg) (KI X) (.int .u32 (s.ws+1)) (.inr rfl);refine⟨(at_ .quit n,{s with ws:=s.ws+1}),by simp[mv],λ_=>⟨_,_,_,st,hsh',ef,Bu (ab9 R.ne) rfl,?_⟩⟩;rw[χ rfl]
  exact Wh _ _ _ _ _ _ _ _
 .have e:IntKind.u64.wrap (s.wg+18446744069414584320)=4294967296:=by rw[h];decide
  rw[e] at st hsh' ef;refine⟨(at_ .quit n,{s with wg:=KKi}),by simp[mv,h,KKi],λ_=>⟨_,_,_,st,hsh',ef,pq (okW R.ne) rfl,?_⟩⟩;rw[χ rfl];exact Wf _ _ _ _ _ _ _ _
 .have e:IntKind.u64.wrap (s.wg+18446744069414584320)=4294967297:=by rw[h];decide
  rw[e] at st hsh' ef;refine⟨(at_ .quit n,{s with wg:=KKi+1}),by simp[mv,h,KKi],λ_=>⟨_,_,_,st,hsh',ef,pq (okW R.ne) rfl,?_⟩⟩;rw[χ rfl];exact We _ _ _ _ _ _ _ _
theorem Ka (hfin:γ.mine=X.fin r):LW X r γ k (at_ .out n) (Yh bw bf F X.Wg bd bs dv sd) w:=by
 refine iD λk' w₁ hk hr=>?_
 refine⟨(aV (FR _ _ _ _ _ _ _ _)).1,(aV (FR _ _ _ _ _ _ _ _)).2,by simp,by simp,λs hsh hf=>⟨by simp[mv],λd hd _=>?_⟩⟩;refine⟨(at_ .wk n,s),by simp[mv],λ_=>⟨λ_=>hfin,resume (Yh bw bf F X.Wg bd bs dv sd) U,w₁,#[qA (.releaseMerge (wA X))],?_,hsh,.refl _,by simp[EvStop,i7],?_⟩⟩
 .rw[hm]
  exact fU xRm .releaseMerge fRm (FR _ _ _ _ _ _ _ _)
 .unfold After
  rw[ζ (by simp),hm];have key:LW X r γ k' (at_ .wk n) (resume (Yh bw bf F X.Wg bd bs dv sd) U) w₁:=by
   refine aC (Yg _ _ _ _ _ _ _ _) (vR hm R (T':=at_ .d1 n) (m:= .disable) Ip (by simp) JU (Rr _ _ _ _ _ _ _ _) (by simp[mv]) (by simp[EvStop,i7]) (by simp) (by simp) (by simp) (by simp) (by simp) (by simp) λk2 w2 hk2 hr2=>?_);exact aC (Yf _ _ _ _ _ _ _ _) (se hm R Ui Y5 (Rq _ _ _ _ _ _ _ _) (aC (Ye _ _ _ _ _ _ _ _) (aeG hm R)))
  exact key
end
section
variable {Δ:Type}{X:Cx Δ}{r:bg}{k n:Nat}{γ:Gh Δ}{w:Θ}{bw bf bd bs:Nat}{dv:Φ}{sd:Int}
theorem KU (hm:vo r=false)(R:Room X γ)(live:∃s,ShAt X w s)(hb:γ.ro bw)(hw:w.cell? ⟨bw,0,none⟩=some (pb X.Wg))(hfin:γ.mine=X.fin r):LW X r γ k (at_ .out n) (gX0 bw bf X.Fd bd bs dv sd) w:=by
 refine aC (Ym _ _ _ _ _ _ _) (nu rfl (Yk _ _ _ _ _ _ _) (λw=>by kernel_rfl) (λw=>by kernel_rfl) (.inr hb) hw ?_);refine aC (Yl _ _ _ _ _ _ _ _) (qV (Yj _ _ _ _ _ _ _ _) (adJ dv) (adK dv) (adI dv) (λw₁ hr=>?_) (aC (Yi _ _ _ _ _ _ _ _) (Ka hm R hfin)));obtain⟨s,hs⟩:=hr.live live;exact⟨_,hs.Ko⟩
theorem Pa {T:Lo}(hT:eQ T.pc=false)(hf:γ.ro bf)(hd:γ.ro bd)(hs:γ.ro bs)(hwf:w.cell? ⟨bf,0,none⟩=some (qB X.Fd bd bs))(hwd:w.cell? ⟨bd,0,none⟩=some dv)(hws:w.cell? ⟨bs,0,none⟩=some (.int .i64 sd))
  (go:LW X r γ k T (Z8 X.Fd dv sd (fW bw bf X.Fd bd bs dv sd) (tW bw bf X.Fd bd bs dv sd)) w):LW X r γ k T (Z6 bw bf) w:=by
 refine aC (Yt _ _) (nu hT (Yr _ _) (λw=>by kernel_rfl) (λw=>by kernel_rfl) (.inr hf) hwf ?_);refine aC (Ys _ _ _ _ _) (nu hT (Yp _ _ _ _ _) (λw=>by kernel_rfl) (λw=>by kernel_rfl) (.inr hd) hwd ?_);refine aC (Yq _ _ _ _ _ _) (nu hT (Yn _ _ _ _ _ _) (λw=>by kernel_rfl) (λw=>by kernel_rfl) (.inr hs) hws ?_)
 exact aC (Yo _ _ _ _ _ _ _) go
end
def RT {α:Type}(s:Sem α)(w:Θ)(x:α)(w':Θ)(ev:Array Event):Prop:=∀es,s.runT PP w es=(.ok x w',es++ev)
section
variable {α β:Type}{s:Sem α}{f:α->Sem β}{w w1 w2:Θ}{x:α}{y:β}{e1 e2:Array Event}
theorem RT.bind' (h:RT s w x w1 e1)(k:RT (f x) w1 y w2 e2):RT (s.bind f) w y w2 (e1++e2):=λes=>by
 rw[Sem.runT_bind',h es];dsimp only;rw[k,Array.append_assoc]
theorem RT.bind (h:RT s w x w1 e1)(k:RT (f x) w1 y w2 e2):RT (s>>=f) w y w2 (e1++e2):=h.bind' k
theorem RT.aS (h:RT s w x w1 #[])(k:RT (f x) w1 y w2 e2):RT (s>>=f) w y w2 e2:=by
 have:=h.bind k
 rwa [Array.empty_append] at this
theorem RT.eN (h:RT s w x w1 e1)(k:RT (f x) w1 y w2 #[]):RT (s>>=f) w y w2 e1:=by
 have:=h.bind k
 rwa [Array.append_empty] at this
theorem RT.pure (x:α):RT (Pure.pure x:Sem α) w x w #[]:=λes=>by show(Result.ok x w,es)=_;rw[Array.append_empty]
theorem RT.run (h:RT s w x w1 e1):s.run PP w= .ok x w1:=by rw[<-Sem.runT_fst PP s w #[],h #[]]
theorem RT.ev (h:RT s w x w1 e1):s.events PP w #[]=e1:=by
 show(s.runT PP w #[]).2=e1;rw[h #[]];simp
end
theorem gh {w:Θ}:RT program w PP w #[]:=λes=>by show(Result.ok PP w,es)=_;rw[Array.append_empty]
theorem rW {w:Θ}{t:η}{i:TypeInfo}(h:PP.info? t=some i):RT (typeInfo t) w i w #[]:=gh.aS (by rw[h];exact .pure i)
theorem fY {w:Θ}{t:η}{d:TypeDesc}(h:PP.underlying t=some d):RT (underlying t) w d w #[]:=gh.aS (by rw[h];exact .pure d)
theorem pM {w:Θ}{t:η}{n:Nat}(h:(PP.info? t).map (·.size)=some n):RT (Go.sizeOf t) w n w #[]:=by
 obtain⟨i,h1,h2⟩:=τ.1 h;exact(rW h1).aS (h2▸.pure _)
theorem vD {w:Θ}{t:η}{z:Φ}(h:(PP.info? t).bind (·.zero)=some z):RT (zeroValue t) w z w #[]:=by
 obtain⟨i,h1,h2⟩:=Option.bind_eq_some_iff.1 h;exact(rW h1).aS (by rw[h2];exact .pure _)
theorem ib {w:Θ}{t:η}{b:Bool}(h:(PP.underlying t).map (λd=>match d with|.struct _|.array _ _=>true|_=>false)=some b):RT (isAgg t) w b w #[]:=by
 obtain⟨d,h1,h2⟩:=τ.1 h;refine(fY h1).aS ?_;cases d<;>simp only at h2⊢<;>subst h2<;>exact .pure _
theorem gG {w:Θ}{r:Nat}{o:Obj}(h:w.heap[r]? =some o)(hc:∀c t f,o≠.cells c t f:=by simp):RT (getObj r) w o w #[⟨.obj r,false,o.isChan⟩]:=λes=>by
 unfold getObj;simp only[Sem.runT,h];cases o<;>first|(exact absurd rfl (hc _ _ _))|simp
theorem jl {w:Θ}{r:Nat}{o o':Obj}(h:w.heap[r]? =some o')(hc:∀c t f,o'≠.cells c t f:=by simp):RT (setObj r o) w () {w with heap:=w.heap.setIfInBounds r o} #[⟨.obj r,true,o.isChan⟩]:=λes=>by
 show(match w.heap[r]? with
  |some (.cells ..)=>_
  |some _=>_
  |none=>_)=_
 rw[h];cases o'<;>first|(exact absurd rfl (hc _ _ _))|(show(Result.ok _ _,es.push _)=_;simp)
theorem oN {w:Θ}(o:Obj):RT (newObj o) w w.heap.size {w with heap:=w.heap.push o} #[]:=λes=>by show(Result.ok _ _,es)=_;rw[Array.append_empty]
theorem kh {w:Θ}{a:Addr}{v:Φ}(h:w.cell? a=some v):RT (load a) w v w #[⟨.cell a,false,false⟩]:=λes=>by
 unfold load;simp only[Sem.runT,h];simp;rfl
theorem LD {w:Θ}{a:Addr}{u v:Φ}(h:w.cell? a=some u)(hz:w.frozen? a=false)(hv:lz v=true):RT (store a v) w () (w.setCell a v) #[⟨.cell a,true,false⟩]:=λes=>by
 show(Sem.store .plain a v (.pure ())).runT PP w es=_;rw[uk hv,h];simp only[hz];show(Result.ok _ _,es.push _)=_;simp;rfl
structure zq (b:Nat)(o:Obj)(w w':Θ):Prop where
 tape:w'.tape=w.tape
 output:w'.output=w.output
 os:w'.os=w.os
 size:w'.heap.size=w.heap.size
 at_:w'.heap[b]? =some o
 rest:∀c,c≠b->w'.heap[c]? =w.heap[c]?
theorem mW {w:Θ}{b:Nat}{o o':Obj}(h:w.heap[b]? =some o'):zq b o w {w with heap:=w.heap.setIfInBounds b o}:=by
 have hlt:=(Ψ.1 h).1;exact⟨rfl,rfl,rfl,by simp,by simp[hlt],λc hc=>by simp[aa6 hc.symm]⟩
theorem K1 {w:Θ}{b i:Nat}{cs:Array Φ}{t:η}{f:Nat×Nat}{v:Φ}(h:w.heap[b]? =some (.cells cs t f)):zq b (.cells (cs.setIfInBounds i v) t f) w (w.setCell ⟨b,i,none⟩ v):=
 ⟨rfl,rfl,rfl,by simp[World.setCell],by rw[setCell_eq_setRow w b i cs t f v h,setRow_heap w b cs _ t f h],λc hc=>(aside_setCell w ⟨b,i,none⟩ v).block c hc⟩
theorem zq.trans {b:Nat}{o o':Obj}{w w1 w2:Θ}(h:zq b o w w1)(k:zq b o' w1 w2):zq b o' w w2:=
 ⟨k.tape.trans h.tape,k.output.trans h.output,k.os.trans h.os,k.size.trans h.size,k.at_,λc hc=>(k.rest c hc).trans (h.rest c hc)⟩
theorem cell_of {w:Θ}{b i:Nat}{cs:Array Φ}{t:η}{f:Nat×Nat}{v:Φ}(h:w.heap[b]? =some (.cells cs t f))(hi:cs[i]? =some v):w.cell? ⟨b,i,none⟩=some v:=by simp[World.cell?,h,hi]
theorem Pn {w:Θ}{b i:Nat}{cs:Array Φ}{t:η}(h:w.heap[b]? =some (.cells cs t (0,0))):w.frozen? ⟨b,i,none⟩=false:=by simp[World.frozen?,h]
theorem yp (b off i:Nat):Addr.add ⟨b,off,none⟩ i=⟨b,off+i,none⟩:=by
 unfold Addr.add
 by_cases h:i=0
 .subst h;rfl
 .rw[ζ h]
theorem kg {w:Θ}{b:Nat}{cs:Array Φ}{t:η}{f:Nat×Nat}(h:w.heap[b]? =some (.cells cs t f))(off:Nat):∀(n i:Nat) (acc:Array Φ),off+i+n<=cs.size->
  ∃ev,RT (loadCellsFrom ⟨b,off,none⟩ i n acc) w (acc++cs.extract (off+i) (off+i+n)) w ev/\∀e∈ev,∃a:Addr,e=⟨.cell a,false,false⟩/\a.block=b
 |0,i,acc,_=>⟨#[],by
   have e:acc++cs.extract (off+i) (off+i+0)=acc:=by simp;omega
   rw[e];exact RT.pure (w:=w) acc,by simp⟩
 |n+1,i,acc,hn=>by
  have hlt:off+i<cs.size:=by omega
  obtain⟨ev,h1,h2⟩:=kg h off n (i+1) (acc.push cs[off+i]) (by omega);refine⟨#[⟨.cell ⟨b,off+i,none⟩,false,false⟩]++ev,?_,?_⟩
  .have e:acc++cs.extract (off+i) (off+i+(n+1))=acc.push cs[off+i]++cs.extract (off+(i+1)) (off+(i+1)+n):=by
    apply Array.ext'
    simp[List.extract_eq_drop_take];rw[show off+(i+1)=off+i+1 by omega,ae5 (by simpa using hlt)];simp
   have e2:loadCellsFrom ⟨b,off,none⟩ i (n+1) acc=(load (Addr.add ⟨b,off,none⟩ i)>>=λv=>loadCellsFrom ⟨b,off,none⟩ (i+1) n (acc.push v)):=by rw[loadCellsFrom]
   rw[e,e2,yp];exact(kh (w:=w) (a:=⟨b,off+i,none⟩) (cell_of h (ν hlt))).bind (f:=λv=>loadCellsFrom ⟨b,off,none⟩ (i+1) n (acc.push v)) h1
  .intro e he
   rcases af6.1 he with he|he
   .simp at he
    subst he;exact⟨_,rfl,rfl⟩
   .exact h2 e he
def kQ (cs:Array Φ):List Φ->Nat->Array Φ
 |[],_=>cs
 |v::vs,i=>kQ (cs.setIfInBounds i v) vs (i+1)
theorem mg {b:Nat}{t:η}(off:Nat):∀(vs:List Φ) (i:Nat) {w:Θ} {cs:Array Φ},w.heap[b]? =some (.cells cs t (0,0))->off+i+vs.length<=cs.size->(∀v∈vs,lz v=true)->
  ∃w' ev,RT (storeCells ⟨b,off,none⟩ vs i) w () w' ev/\zq b (.cells (kQ cs vs (off+i)) t (0,0)) w w'/\∀e∈ev,∃a:Addr,e=⟨.cell a,true,false⟩/\a.block=b
 |[],i,w,cs,h,_,_=>⟨w,#[],by simpa [storeCells] using RT.pure (w:=w) (),⟨rfl,rfl,rfl,rfl,h,λ_ _=>rfl⟩,by simp⟩
 |v::vs,i,w,cs,h,hn,hv=>by
  simp only[List.length_cons] at hn;have hlt:off+i<cs.size:=by omega
  have u:=K1 (i:=off+i) (v:=v) h;obtain⟨w',ev,h1,h2,h3⟩:=mg off vs (i+1) u.at_ (by simp;omega) λx hx=>hv x (by simp[hx])
  have e2:storeCells ⟨b,off,none⟩ (v::vs) i=(store (Addr.add ⟨b,off,none⟩ i) v>>=λ_=>storeCells ⟨b,off,none⟩ vs (i+1)):=by rw[storeCells]
  rw[e2,yp];refine⟨w',#[⟨.cell ⟨b,off+i,none⟩,true,false⟩]++ev,(LD (w:=w) (a:=⟨b,off+i,none⟩) (cell_of h (ν hlt)) (Pn h) (hv v (by simp))).bind (f:=λ_=>storeCells ⟨b,off,none⟩ vs (i+1)) h1,u.trans h2,λe he=>?_⟩;rcases af6.1 he with he|he
  .simp at he
   subst he;exact⟨_,rfl,rfl⟩
  .exact h3 e he
def EvB (b:Nat)(e:Event):Prop:=e.sync=false/\lX b e.loc
theorem iX {b:Nat}{a:Addr}{x:Bool}(h:a.block=b):EvB b ⟨.cell a,x,false⟩:=⟨rfl,.inl ⟨a,rfl,h⟩⟩
theorem dU {b:Nat}{x:Bool}:EvB b ⟨.obj b,x,false⟩:=⟨rfl,.inr rfl⟩
section
variable {w:Θ}{b:Nat}{t:η}
theorem jL {cs:Array Φ}{u:η}{f:Nat×Nat}{off n:Nat}(h:w.heap[b]? =some (.cells cs u f))(ha:(PP.underlying t).map (λd=>match d with|.struct _|.array _ _=>true|_=>false)=some true)(hn:(PP.info? t).map (·.size)=some n)(hle:off+n<=cs.size):
  ∃ev,RT (lu.load t (.pointer (some ⟨b,off,none⟩))).sem w (.value (.agg (cs.extract off (off+n)))) w ev/\∀e∈ev,EvB b e/\e.write=false:=by
 obtain⟨ev,h1,h2⟩:=kg h off n 0 #[] (by omega);refine⟨ev,RT.eN (x:= .agg (cs.extract off (off+n))) ?_ (.pure _),λe he=>?_⟩
 .show RT (do if<-isAgg t then Pure.pure (.agg (<-loadCells ⟨b,off,none⟩ (<-Go.sizeOf t))) else load ⟨b,off,none⟩) w _ w ev
  refine(ib ha).aS ?_;simp only[if_true];refine(pM hn).aS ?_;refine RT.eN ?_ (.pure _);simpa [loadCells] using h1
 .obtain⟨a,rfl,hb⟩:=h2 e he
  exact⟨iX hb,rfl⟩
theorem fZ {cs:Array Φ}{u:η}{off:Nat}{v:Φ}(h:w.heap[b]? =some (.cells cs u (0,0)))(hn:(PP.info? t).map (·.size)=some v.cells.size)(hle:off+v.cells.size<=cs.size)(h1:∀x∈v.cells.toList,lz x=true):
  ∃w' ev,RT (lu.store t (.pointer (some ⟨b,off,none⟩)) v).sem w .skip w' ev/\zq b (.cells (kQ cs v.cells.toList off) u (0,0)) w w'/\∀e∈ev,EvB b e:=by
 obtain⟨w',ev,h2,h3,h4⟩:=mg off v.cells.toList 0 h (by simpa using hle) h1;refine⟨w',ev,RT.eN (x:=()) ?_ (.pure _),h3,λe he=>?_⟩
 .show RT (do
   if v.cells.size≠(<-Go.sizeOf t) then stuck "storeVar: the value has not the size of the variable"
   storeCells ⟨b,off,none⟩ v.cells.toList) w _ w' ev
  refine(pM hn).aS ?_;simp only[ne_eq,not_true,if_false];exact RT.aS (.pure _) h2
 .obtain⟨a,rfl,hb⟩:=h4 e he
  exact iX hb
theorem wO (t:η)(v:Φ):RT (lu.box t v).sem w (.value (.pointer (some ⟨w.heap.size,0,none⟩))) {w with heap:=w.heap.push (.cells v.cells t (0,0))} #[]:=
 RT.aS (x:= .pointer (some ⟨w.heap.size,0,none⟩)) (RT.aS (x:=⟨w.heap.size,0,none⟩) (RT.aS (oN _) (.pure _)) (.pure _)) (.pure _)
theorem mH {z:Φ}(h:(PP.info? t).bind (·.zero)=some z):RT (lu.alloc t).sem w (.value (.pointer (some ⟨w.heap.size,0,none⟩))) {w with heap:=w.heap.push (.cells z.cells t (0,0))} #[]:=
 RT.aS (x:= .pointer (some ⟨w.heap.size,0,none⟩)) ((vD h).aS (RT.aS (x:=⟨w.heap.size,0,none⟩) (RT.aS (oN _) (.pure _)) (.pure _))) (.pure _)
theorem E2 (t:η):RT (lu.makeMap t).sem w (.value (.map (some w.heap.size))) {w with heap:=w.heap.push (.map #[] 0)} #[]:=
 RT.aS (x:= .map (some w.heap.size)) (RT.aS (oN _) (.pure _)) (.pure _)
end
open Go.MapKept in
structure dk (es:Array af5)(c:Nat)(f:Ξ->Option Φ):Prop where
 stamped:Stamped es c
 keys:∀e∈es.toList,IsKey .string e.key
 has:∀s v,f s=some v↔∃e∈es.toList,e.key= .string s/\e.val=v
section
open Go.MapKept
variable {w:Θ}{m:Nat}{t kt vt:η}{es:Array af5}{c:Nat}{f:Ξ->Option Φ}{s:Ξ}{z v:Φ}
theorem iG {k:Φ}(h:IsKey .string k):∃s,k= .string s:=by cases k<;>simp_all [IsKey]
theorem dk.uniq (h:dk es c f){x y:af5}(hx:x∈es.toList)(hy:y∈es.toList)(hk:x.key=y.key):x=y:=by
 have hp:=((stamped_iff es c).1 h.stamped).2.2;rw[List.pairwise_iff_getElem] at hp;obtain⟨i,hi,rfl⟩:=List.mem_iff_getElem.1 hx;obtain⟨j,hj,rfl⟩:=List.mem_iff_getElem.1 hy;rcases Nat.lt_trichotomy i j with hlt|rfl|hlt
 .exact absurd hk (hp i j hi hj hlt)
 .rfl
 .exact absurd hk.symm (hp j i hj hi hlt)
theorem dk.empty (c:Nat):dk #[] c λ_=>none:=⟨stamped_empty c,by simp,by simp⟩
theorem uo {w:Θ}{e:Bool}{n:Nat}{kt:η}{s:Ξ}(hk:PP.underlying kt=some .string):RT (Instr.checkKey e (n+1) kt (.string s)) w () w #[]:=
 (fY hk).aS (.pure _)
theorem wM (hk:PP.underlying kt=some .string)(h:dk es c f):
  (RT (Instr.findKey kt (.string s) es.toList) w none w #[]/\f s=none/\∀e∈es.toList,e.key≠.string s)\/∃j e,es[j]? =some e/\RT (Instr.findKey kt (.string s) es.toList) w (some (j,e.val)) w #[]/\e.key= .string s/\f s=some e.val:=by
 rcases findNow_spec (d:= .string) (k:= .string s) trivial es.toList 0 h.keys with⟨h1,h2⟩|⟨j,e,h1,h2,h3⟩
 .refine .inl ⟨(fY hk).aS (by rw[h1];exact .pure _),?_,h2⟩
  cases hf:f s with
  |none=>rfl
  |some v=>
   obtain⟨e,he,h3,_⟩:=(h.has s v).1 hf;exact absurd h3 (h2 e he)
 .have hm:e∈es.toList:=af7 h2
  exact .inr ⟨j,e,by simpa using h2,(fY hk).aS (by rw[h1,Nat.zero_add];exact .pure _),h3,(h.has s e.val).2 ⟨e,hm,h3,rfl⟩⟩
theorem pN (ht:PP.underlying t=some (.map kt vt))(hk:PP.underlying kt=some .string)(hz:(PP.info? vt).bind (·.zero)=some z)(h:w.heap[m]? =some (.map es c))(hm:dk es c f):
  RT (lu.lookup t (.map (some m)) (.string s) false).sem w (.value ((f s).getD z)) w #[⟨.obj m,false,false⟩]:=by
 refine RT.eN (x:=(f s).getD z) ((fY ht).aS ?_) (.pure _);refine RT.eN (x:= .map es c) (gG h) ?_;refine RT.aS (x:=es) (.pure _) ?_;refine RT.aS (uo hk) ?_;rcases wM (w:=w) (s:=s) hk hm with⟨h1,h2,_⟩|⟨j,e,_,h1,_,h2⟩
 .rw[h2]
  exact RT.aS h1 ((vD hz).aS (RT.aS (x:=(z,false)) (.pure _) (.pure _)))
 .rw[h2]
  exact RT.aS h1 (RT.aS (x:=(e.val,true)) (.pure _) (.pure _))
theorem qr (ht:PP.underlying t=some (.map kt vt))(hk:PP.underlying kt=some .string)(h:w.heap[m]? =some (.map es c))(hm:dk es c f):
  ∃es' c' w' ev,RT (lu.mapUpdate t (.map (some m)) (.string s) v).sem w .skip w' ev/\zq m (.map es' c') w w'/\(∀e∈ev,EvB m e)/\es'.size<=es.size+1/\dk es' c' λs'=>if s'=s then some v else f s':=by
 have pre:∀{w':Θ} {ev:Array Event},RT (do
   match<-Instr.findKey kt (.string s) es.toList with
   |some (i,_)=>do
    let key <-Instr.keyThatStays (((es[i]?).map (·.key)).getD (.string s)) (.string s)
    setObj m (.map (es.modify i λe=>{e with key,val:=v}) c)
   |none=>setObj m (.map (es.push {key:= .string s,val:=v,born:=c}) (c+1))) w () w' ev->RT (lu.mapUpdate t (.map (some m)) (.string s) v).sem w .skip w' (#[⟨.obj m,false,false⟩]++ev):=by
  intro w' ev h2;refine RT.eN (x:=()) ((fY ht).aS ?_) (.pure _);refine RT.bind (x:= .map es c) (gG h) ?_;exact RT.aS (uo hk) h2
 rcases wM (w:=w) (s:=s) hk hm with⟨h1,h2,h3⟩|⟨j,e,hj,h1,h2,h3⟩
 .refine⟨es.push {key:= .string s,val:=v,born:=c},c+1,_,_,pre (RT.aS h1 (jl h)),mW h,?_,by simp,stamped_push hm.stamped h3,?_,?_⟩
  .intro e he
   simp at he;rcases he with rfl|rfl
   .exact dU
   .exact⟨rfl,.inr rfl⟩
  .intro x hx
   simp only[Array.toList_push,ag8,ad2] at hx;rcases hx with hx|rfl
   .exact hm.keys x hx
   .trivial
  .intro s' v'
   by_cases hs:s'=s
   .subst hs
    simp only[if_true];constructor
    .intro q
     have q:=ae7 q;subst q;exact⟨{key:= .string s',val:=v,born:=c},by simp,rfl,rfl⟩
    .rintro⟨x,hx,h5,h6⟩
     simp only[Array.toList_push,ag8,ad2] at hx;rcases hx with hx|rfl
     .exact absurd h5 (h3 x hx)
     .rw[<-h6]
   .rw[ζ hs,hm.has]
    constructor
    .rintro⟨x,hx,h5,h6⟩
     exact⟨x,by simp[hx],h5,h6⟩
    .rintro⟨x,hx,h5,h6⟩
     simp only[Array.toList_push,ag8,ad2] at hx;rcases hx with hx|rfl
     .exact⟨x,hx,h5,h6⟩
     .exact absurd (by simpa using h5.symm) hs
 .have hk2:RT (Instr.keyThatStays (((es[j]?).map (·.key)).getD (.string s)) (.string s)) w (.string s) w #[]:=by
   rw[hj];simp only[ε,Option.getD_some,h2];unfold Instr.keyThatStays;rw[χ (sameBits_self (d:= .string) (k:= .string s) trivial 10000)];exact .pure _
  have hkey:∀e',es[j]? =some e'->({e' with key:= .string s,val:=v}:af5).key=e'.key:=λe' he'=>by rw[hj] at he';cases he';exact h2.symm
  have hmem:e∈es.toList:=by
   have:es.toList[j]? =some e:=by simpa using hj
   exact af7 this
  refine⟨es.modify j λe=>{e with key:= .string s,val:=v},c,_,_,pre (RT.aS h1 (RT.aS hk2 (jl h))),mW h,?_,by simp,stamped_modify hm.stamped _ _ (λ_ _=>rfl) (λe' _ he'=>hkey e' he'),isKey_modify hm.keys _ _ hkey,?_⟩
  .intro e he
   simp at he;rcases he with rfl|rfl
   .exact dU
   .exact⟨rfl,.inr rfl⟩
  .have QH:∀x:af5,x∈(es.modify j λe=>{e with key:= .string s,val:=v}).toList↔(∃i,i≠j/\es[i]? =some x)\/x={e with key:= .string s,val:=v}:=by
    intro x;rw[List.mem_iff_getElem?];simp only[ah9,ag3];constructor
    .rintro⟨i,hi⟩
     by_cases hij:j=i
     .subst hij
      simp[hj] at hi;exact .inr hi.symm
     .simp[hij] at hi
      exact .inl ⟨i,λq=>hij q.symm,hi⟩
    .rintro(⟨i,h5,h6⟩|rfl)
     .have hne:¬j=i:=λq=>h5 q.symm
      exact⟨i,by rw[ζ hne];exact h6⟩
     .exact⟨j,by rw[χ rfl,hj];rfl⟩
   have others:∀i x,i≠j->es[i]? =some x->x.key≠.string s:=by
    intro i x hij hx hxk;have hp:=((stamped_iff es c).1 hm.stamped).2.2;rw[List.pairwise_iff_getElem] at hp;have hxi:=Ψ.1 hx;have hei:=Ψ.1 hj;rcases Nat.lt_or_gt_of_ne hij with hlt|hlt
    .have:=hp i j (by simpa using hxi.1) (by simpa using hei.1) hlt
     simp only[Array.getElem_toList] at this;rw[hxi.2,hei.2] at this;exact this (hxk.trans h2.symm)
    .have:=hp j i (by simpa using hei.1) (by simpa using hxi.1) hlt
     simp only[Array.getElem_toList] at this;rw[hxi.2,hei.2] at this;exact this (h2.trans hxk.symm)
   intro s' v'
   by_cases hs:s'=s
   .subst hs
    simp only[if_true];constructor
    .intro q
     have q:=ae7 q;subst q;exact⟨{e with key:= .string s',val:=v},(QH _).2 (.inr rfl),rfl,rfl⟩
    .rintro⟨x,hx,h5,h6⟩
     rcases(QH x).1 hx with⟨i,h7,h8⟩|rfl
     .exact absurd h5 (others i x h7 h8)
     .rw[<-h6]
   .rw[ζ hs,hm.has]
    constructor
    .rintro⟨x,hx,h5,h6⟩
     obtain⟨i,hi⟩:=List.mem_iff_getElem?.1 hx;have hi':es[i]? =some x:=by simpa using hi
     refine⟨x,(QH x).2 (.inl ⟨i,λq=>?_,hi'⟩),h5,h6⟩;subst q;rw[hj] at hi';cases hi';rw[h2] at h5;exact hs (by simpa using h5.symm)
    .rintro⟨x,hx,h5,h6⟩
     rcases(QH x).1 hx with⟨i,h7,h8⟩|rfl
     .have:es.toList[i]? =some x:=by simpa using h8
      exact⟨x,af7 this,h5,h6⟩
     .exact absurd (by simpa using h5.symm) hs
theorem AP (ht:PP.underlying t=some (.map kt vt))(hk:PP.underlying kt=some .string)(h:w.heap[m]? =some (.map es c))(hm:dk es c f):
  ∃es' c' w' ev,RT (lu.mapUpdate t (.map (some m)) (.string s) v).sem w .skip w' ev/\zq m (.map es' c') w w'/\(∀e∈ev,EvB m e)/\dk es' c' λs'=>if s'=s then some v else f s':=
 let⟨es',c',w',ev,h1,h2,h3,_,h4⟩:=qr ht hk h hm
 ⟨es',c',w',ev,h1,h2,h3,h4⟩
theorem wK (ht:PP.underlying t=some (.map kt vt))(h:w.heap[m]? =some (.map es c)):
  RT (lu.range t (.map (some m))).sem w (.value (.pointer (some ⟨w.heap.size,0,none⟩))) {w with heap:=w.heap.push (.mapIter (some m) c #[] c)} #[⟨.obj m,false,false⟩]:=by
 refine RT.eN (x:= .pointer (some ⟨w.heap.size,0,none⟩)) ((fY ht).aS ?_) (.pure _);refine RT.eN (x:= .map es c) (gG h) ?_;refine RT.aS (x:= .mapIter (some m) c #[] c) (.pure _) ?_;exact RT.aS (oN _) (.pure _)
theorem pO {q:Question}:∃n w',RT (choose q) w n w' #[]/\w'.tape=w.tape/\w'.output=w.output/\w'.os=w.os/\w'.heap=w.heap/\((q.forced=true/\n=0)\/∃x,n=q.cut x):=by
 by_cases hq:q.forced=true
 .refine⟨0,w,λes=>?_,rfl,rfl,rfl,rfl,.inl ⟨hq,rfl⟩⟩
  unfold choose;simp only[Sem.runT,hq,if_true];simp
 .refine⟨q.cut (w.tape w.drawn q),{w with drawn:=w.drawn+1},λes=>?_,rfl,rfl,rfl,rfl,.inr ⟨_,rfl⟩⟩
  unfold choose;simp only[Sem.runT,hq];simp
def leftOf (es:Array af5)(seen:Array Nat):Array af5:=es.filter λe=>!seen.contains e.born
theorem ME {seen:Array Nat}(hm:dk es c f):(leftOf es seen).filter (λe=>decide (e.born<c))=leftOf es seen/\(leftOf es seen).filter (λe=>decide (e.born>=c))=#[]:=by
 have hlow:∀e∈leftOf es seen,e.born<c:=λe he=>hm.stamped.1 e (by
  have:=(Array.mem_filter.1 he).1;simpa using this)
 constructor
 .rw[Array.filter_eq_self]
  exactλe he=>by simpa using hlow e he
 .rw[Array.filter_eq_empty_iff]
  exactλe he=>by simpa using hlow e he
theorem GX {it:Nat}{seen:Array Nat}{ty:η}(hit:w.heap[it]? =some (.mapIter (some m) c seen c))(h:w.heap[m]? =some (.map es c))(hm:dk es c f):
  (leftOf es seen=#[]/\∃w' ev,RT (lu.next (.pointer (some ⟨it,0,none⟩)) false ty).sem w (.value (.tuple #[.bool false])) w' ev/\w'.tape=w.tape/\w'.output=w.output/\w'.os=w.os/\w'.heap=w.heap/\∀e∈ev,(EvB it e\/EvB m e)/\e.write=false)\/
  ∃e∈leftOf es seen,∃w' ev,RT (lu.next (.pointer (some ⟨it,0,none⟩)) false ty).sem w (.value (.tuple #[.bool true,e.key,e.val])) w' ev/\zq it (.mapIter (some m) c (seen.push e.born) c) w w'/\∀e∈ev,EvB it e\/(EvB m e/\e.write=false):=by
 obtain⟨l1,l2⟩:=ME (seen:=seen) hm;have hcond:(!seen.isEmpty&&!es.isEmpty&&es.all λe=>decide (e.born>=c))=false:=by
  by_cases he:es.isEmpty=true
  .simp[he]
  .have:∃e,e∈es:=by
    cases hes:es.toList with
    |nil=>exact absurd (by simpa using hes) he
    |cons x l=>exact⟨x,by
      have:x∈es.toList:=by rw[hes];simp
      simpa using this⟩
   obtain⟨x,hx⟩:=this;have hlt:=hm.stamped.1 x (by simpa using hx);have:(es.all λe=>decide (e.born>=c))=false:=by
    cases hall:es.all λe=>decide (e.born>=c) with
    |false=>rfl
    |true=>
     have:=(af0.1 hall) x hx;have:c<=x.born:=by simpa using this
     omega
   rw[this];simp
 have pre:∀{x:Φ} {w':Θ} {ev:Array Event},RT (do
   match(((if(leftOf es seen).isEmpty then #[none] else #[])++(leftOf es seen++#[]).map some)[<-choose (.mapNext ((if(leftOf es seen).isEmpty then #[none] else #[])++(leftOf es seen++#[]).map some).size)]? :Option (Option af5)) with
   |some (some e)=>
    setObj it (.mapIter (some m) c (seen.push e.born) c)
    Pure.pure (.tuple #[.bool true,e.key,e.val])
   |some none=>Pure.pure (.tuple #[.bool false])
   |none=>stuck "Next: no such candidate") w x w' ev->RT (lu.next (.pointer (some ⟨it,0,none⟩)) false ty).sem w (.value x) w' (#[⟨.obj it,false,false⟩]++(#[⟨.obj m,false,false⟩]++ev)):=by
  intro x w' ev h2;refine RT.eN (x:=x) ?_ (.pure _);refine RT.bind (x:= .mapIter (some m) c seen c) (gG hit) ?_;refine RT.bind (x:= .map es c) (gG h) ?_;show RT (if(!seen.isEmpty&&!es.isEmpty&&es.all λe=>decide (e.born>=c))=true then _ else _) _ _ _ _;rw[hcond];simp only[ι,if_false]
  have e1:(es.filter λe=>!seen.contains e.born)=leftOf es seen:=rfl;rw[e1,l1,l2];exact h2
 by_cases hl:leftOf es seen=#[]
 .left
  refine⟨hl,?_⟩;obtain⟨n,w',c1,c2,c3,c4,c5,c6⟩:=pO (w:=w) (q:= .mapNext 1);have hn:n=0:=by
   rcases c6 with⟨_,e⟩|⟨x,e⟩
   .exact e
   .rw[e];simp[Question.cut,Nat.mod_one]
  subst hn;refine⟨w',_,pre (ev:=#[]) ?_,c2,c3,c4,c5,?_⟩
  .have hc:((if(leftOf es seen).isEmpty then #[none] else #[])++(leftOf es seen++#[]).map some:Array (Option af5))=#[none]:=by rw[hl];simp
   rw[hc];exact RT.aS (x:=0) c1 (.pure _)
  .intro e he
   simp at he;rcases he with rfl|rfl
   .exact⟨.inl dU,rfl⟩
   .exact⟨.inr dU,rfl⟩
 .right
  have hpos:0<(leftOf es seen).size:=Nat.pos_of_ne_zero λe=>hl (Array.eq_empty_of_size_eq_zero e)
  have hem:(leftOf es seen).isEmpty=false:=by simpa [Array.isEmpty] using Nat.pos_iff_ne_zero.1 hpos
  have adr:((if(leftOf es seen).isEmpty then #[none] else #[])++(leftOf es seen++#[]).map some:Array (Option af5))=(leftOf es seen).map some:=by simp[hem]
  obtain⟨n,w1,c1,c2,c3,c4,c5,c6⟩:=pO (w:=w) (q:= .mapNext (leftOf es seen).size);have hn:n<(leftOf es seen).size:=by
   rcases c6 with⟨_,e⟩|⟨x,e⟩
   .omega
   .rw[e];exact Nat.mod_lt _ hpos
  have y7:w1.heap[it]? =some (.mapIter (some m) c seen c):=by rw[c5];exact hit
  have u:=mW (o:= .mapIter (some m) c (seen.push (leftOf es seen)[n].born) c) y7;refine⟨(leftOf es seen)[n],Array.getElem_mem hn,_,_,pre (ev:=#[⟨.obj it,true,false⟩]) ?_,⟨u.tape.trans c2,u.output.trans c3,u.os.trans c4,u.size.trans (by rw[c5]),u.at_,λb hb=>(u.rest b hb).trans (by rw[c5])⟩,?_⟩
  .rw[adr]
   simp only[Array.size_map];refine RT.aS c1 ?_;have:((leftOf es seen).map some)[n]? =some (some (leftOf es seen)[n]):=by simp[hn]
   rw[this];exact RT.eN (jl y7) (.pure _)
  .intro e he
   simp at he;rcases he with rfl|rfl|rfl
   .exact .inl dU
   .exact .inr ⟨dU,rfl⟩
   .exact .inl dU
theorem wN {it:Nat}{seen:Array Nat}{e:af5}(hit:w.heap[it]? =some (.mapIter (some m) c (seen.push e.born) c))(h:w.heap[m]? =some (.map es c))(hm:dk es c f)(he:e∈es.toList):
  RT (lu.entry (.pointer (some ⟨it,0,none⟩))).sem w (.value (.tuple #[e.key,e.val])) w (#[⟨.obj it,false,false⟩]++#[⟨.obj m,false,false⟩]):=by
 refine RT.eN (x:= .tuple #[e.key,e.val]) ?_ (.pure _);refine RT.bind (x:= .mapIter (some m) c (seen.push e.born) c) (gG hit) ?_;have hb:(seen.push e.born).back? =some e.born:=by simp
 have hf:es.find? (λx=>x.born==e.born)=some e:=by
  cases hf:es.find? (λx=>x.born==e.born) with
  |none=>
   rw[Array.find?_eq_none] at hf;exact absurd (by simp) (hf e (by simpa using he))
  |some x=>
   have hx:=Array.mem_of_find?_eq_some hf;have hb2:x.born=e.born:=by simpa using Array.find?_some hf
   have hp:=hm.stamped.2.1;rw[List.Nodup,List.pairwise_map,List.pairwise_iff_getElem] at hp;obtain⟨i,hi,rfl⟩:=List.mem_iff_getElem.1 (show x∈es.toList by simpa using hx);obtain⟨j,hj,rfl⟩:=List.mem_iff_getElem.1 he;rcases Nat.lt_trichotomy i j with hlt|rfl|hlt
   .exact absurd hb2 (hp i j hi hj hlt)
   .rfl
   .exact absurd hb2.symm (hp j i hj hi hlt)
 dsimp only;rw[hb];refine RT.eN (x:= .map es c) (gG h) ?_;show RT (if(c !=c)=true then _ else _) _ _ _ _;simp only[bne_self_eq_false,ι,if_false];rw[hf];exact .pure _
end
theorem YR {α β:Type}(a b:α)(ini:β)(f:α->β->Sem (ForInStep β)):forIn (#[a,b]:Array α) ini f=(do
  match<-f a ini with
  |.done x=>Pure.pure x
  |.yield x=>match<-f b x with
   |.done x=>Pure.pure x
   |.yield x=>Pure.pure x):=by
 rfl
abbrev TH:η:=161
def qi (i:Nat):Field:=match PP.underlying TH with|some (.struct fs)=>fs.getD i default|_=>default
theorem agA:PP.underlying TH=some (.struct #[qi 0,qi 1]):=by kernel_rfl
def hv (b:Bool)(s:Ξ):Φ:= .agg #[.bool b,.string s]
theorem GW {w:Θ}{t:η}{cs:Array Φ}{off:Nat}{v:Φ}(ha:(PP.underlying t).map (λd=>match d with|.struct _|.array _ _=>true|_=>false)=some false)(h:cs[off]? =some v):RT (part t cs off) w v w #[]:=by
 refine(ib ha).aS ?_;simp only[ι,if_false];rw[h];exact .pure _
theorem zO {w:Θ}(n:Nat)(b1 b2:Bool)(s1 s2:Ξ):RT (Op.equalIn (n+2) TH (hv b1 s1) (hv b2 s2)) w (b1==b2&&s1==s2) w #[]:=by
 have f0:qi 0={name:=(qi 0).name,type:=4,offset:=0,embedded:=(qi 0).embedded,tag:=(qi 0).tag,pkgPath:=(qi 0).pkgPath,byteOffset:=(qi 0).byteOffset}:=by kernel_rfl
 have n0:((qi 0).name== "_")=false:=by kernel_rfl
 have n1:((qi 1).name== "_")=false:=by kernel_rfl
 have t0:(qi 0).type=4:=by kernel_rfl
 have t1:(qi 1).type=9:=by kernel_rfl
 have o0:(qi 0).offset=0:=by kernel_rfl
 have o1:(qi 1).offset=1:=by kernel_rfl
 have e0:RT (Op.equalIn (n+1) 4 (.bool b1) (.bool b2)) w (b1==b2) w #[]:=(fY (d:= .bool) (by kernel_rfl)).aS (.pure _);have e1:RT (Op.equalIn (n+1) 9 (.string s1) (.string s2)) w (s1==s2) w #[]:=(fY (d:= .string) (by kernel_rfl)).aS (.pure _);refine(fY agA).aS ?_;refine gh.aS ?_;have hst:PP.stoodInHeld TH=false:=by kernel_rfl
 show RT (if PP.stoodInHeld TH=true then _ else _) _ _ _ _;rw[hst];simp only[ι,if_false];rw[YR];have m0:(qi 0).name≠ "_":=by simpa using n0
 have m1:(qi 1).name≠ "_":=by simpa using n1
 simp only[χ m0,χ m1,t0,t1,o0,o1];have p0:∀(b:Bool) (s:Ξ),RT (part 4 #[.bool b,.string s] 0) w (.bool b) w #[]:=λb s=>GW (by kernel_rfl) rfl
 have p1:∀(b:Bool) (s:Ξ),RT (part 9 #[.bool b,.string s] 1) w (.string s) w #[]:=λb s=>GW (by kernel_rfl) rfl
 cases hb:b1==b2 with
 |false=>
  rw[hb] at e0;exact RT.aS (x:=(some false,())) (RT.aS (x:=ForInStep.done (some false,())) ((p0 _ _).aS ((p0 _ _).aS (e0.aS (.pure _)))) (.pure _)) (.pure _)
 |true=>
  rw[hb] at e0;cases hs:s1==s2 with
  |false=>
   rw[hs] at e1;exact RT.aS (x:=(some false,())) (RT.aS (x:=ForInStep.yield (none,())) ((p0 _ _).aS ((p0 _ _).aS (e0.aS (.pure _)))) (RT.aS (x:=ForInStep.done (some false,())) ((p1 _ _).aS ((p1 _ _).aS (e1.aS (.pure _)))) (.pure _))) (.pure _)
  |true=>
   rw[hs] at e1;exact RT.aS (x:=(none,())) (RT.aS (x:=ForInStep.yield (none,())) ((p0 _ _).aS ((p0 _ _).aS (e0.aS (.pure _)))) (RT.aS (x:=ForInStep.yield (none,())) ((p1 _ _).aS ((p1 _ _).aS (e1.aS (.pure _)))) (.pure _))) (.pure _)
theorem GY {w:Θ}(b1 b2:Bool)(s1 s2:Ξ):RT (lu.bin .neq TH (hv b1 s1) (hv b2 s2)).sem w (.value (.bool (!(b1==b2&&s1==s2)))) w #[]:=by
 have hg:PP.eqGuardType PP.depth TH=false:=by kernel_rfl
 refine RT.aS (x:= .bool (!(b1==b2&&s1==s2))) (RT.aS (x:=()) (w1:=w) ?_ ?_) (.pure _)
 .unfold eqGuard
  simp only[hv];refine gh.aS (gh.aS ?_);rw[hg];exact .pure _
 .exact RT.aS (zO 9998 b1 b2 s1 s2) (.pure _)
section
variable {Δ:Type}{X:Cx Δ}{ro own:Nat->Prop}{Stop:(Nat->Prop)->Ω->Θ->Prop}{v:lu}{g:Ω}{w:Θ}{main:Bool}
theorem fA {x:Φ}{w':Θ}{ev:Array Event}(h:aT g=some v)(hr:RT v.sem w (.value x) w' ev):∃es,stepG PP main g w= .go (resume g x) w' es/\∀e∈es,e∈ev:=by
 obtain⟨es,e1,e2⟩:=mY (P:=PP) (main:=main) h hr.run;exact⟨es,e1,λe he=>hr.ev▸e2 e he⟩
theorem Cl {w':Θ}{ev:Array Event}(h:aT g=some v)(hr:RT v.sem w .skip w' ev):∃es,stepG PP main g w= .go (resume g undef) w' es/\∀e∈es,e∈ev:=by
 obtain⟨es,e1,e2⟩:=step_skip (P:=PP) (main:=main) h hr.run;exact⟨es,e1,λe he=>hr.ev▸e2 e he⟩
theorem ri {b n n':Nat}{e:Event}(hb:own b\/(ro b/\e.write=false))(h:EvB b e):EvX X ro own n n' e:= .inl ⟨b,hb.imp id λh=> .inr h,h.2⟩
theorem de {x:Φ}(h:aT g=some v)(hr:∀w₁,RX X ro own w w₁->∃w' ev,RT v.sem w₁ (.value x) w' ev/\w'.tape=w₁.tape/\w'.output=w₁.output/\w'.os=w₁.os/\w'.heap=w₁.heap/\∀e∈ev,∃b,EvB b e/\(own b\/(ro b/\e.write=false)))
  (k:∀w',RX X ro own w w'->aD PP main (fq X false ro) Stop own (resume g x) w'):aD PP main (fq X false ro) Stop own g w:=by
 refine aD.step (cY h).1 λw₁ h1=>?_
 obtain⟨w',ev,r,a1,a2,a3,a4,a5⟩:=hr w₁ h1;obtain⟨es,e1,e2⟩:=fA (main:=main) h r;have hup:(fq X false ro).up own w₁ w'=own:=by
  funext b
  exact propext ⟨λh=>h.elim id λz=>by rw[a4] at z;omega,.inl⟩
 refine⟨_,w',es,e1,⟨a1,a2,by rw[a4];exact φ _,by rw[a3];exact .refl _,λb _ _=>by rw[a4],λe he=>?_,λh=>absurd h (by simp)⟩,?_⟩
 .obtain⟨b,h2,h3⟩:=a5 e (e2 e he)
  exact ri h3 h2
 .rw[hup]
  exact k w' (h1.trans X ⟨a1,a2,by rw[a4];exact φ _,by rw[a3];exact .refl _,λb _ _=>by rw[a4],λ⟨s,hs⟩=>⟨s,by rw[ShAt,a4];exact hs⟩⟩)
theorem gS {o:Obj}{f:Nat->Φ}(h:aT g=some v)(hr:∀w₁,RX X ro own w w₁->∃ev,RT v.sem w₁ (.value (f w₁.heap.size)) {w₁ with heap:=w₁.heap.push o} ev/\∀e∈ev,∃b,EvB b e/\(own b\/(ro b/\e.write=false)))
  (k:∀w' B,RX X ro own w w'->w.heap.size<=B->w'.heap[B]? =some o->aD PP main (fq X false ro) Stop (λb=>own b\/b=B) (resume g (f B)) w'):aD PP main (fq X false ro) Stop own g w:=by
 refine aD.step (cY h).1 λw₁ h1=>?_
 obtain⟨ev,r,a5⟩:=hr w₁ h1;obtain⟨es,e1,e2⟩:=fA (main:=main) h r;have hup:(fq X false ro).up own w₁ {w₁ with heap:=w₁.heap.push o}=λb=>own b\/b=w₁.heap.size:=by
  funext b
  show(own b\/(w₁.heap.size<=b/\b<(w₁.heap.push o).size))=_;rw[Array.size_push];exact propext ⟨λh=>h.imp id λz=>by omega,λh=>h.imp id λz=>by omega⟩
 have old:∀b,b<w₁.heap.size->(w₁.heap.push o)[b]? =w₁.heap[b]? :=λb hb=>by rw[Array.getElem?_push];rw[ζ (by omega)]
 refine⟨_,_,es,e1,⟨rfl,rfl,by simp,.refl _,λb hb _=>old b hb,λe he=>?_,λh=>absurd h (by simp)⟩,?_⟩
 .obtain⟨b,h2,h3⟩:=a5 e (e2 e he)
  exact ri h3 h2
 .rw[hup]
  refine k _ _ (h1.trans X ⟨rfl,rfl,by simp,.refl _,λb hb _=>old b hb,λ⟨s,hs⟩=>⟨s,?_,?_⟩⟩) h1.size (by simp)
  .rw[<-hs.1];exact old _ (Ψ.1 hs.1).1
  .rw[<-hs.2];exact old _ (Ψ.1 hs.2).1
theorem jt {b:Nat}{A:Obj->Φ->Prop}(hb:own b)(hX:b≠X.Fd/\b≠X.Wg)(h:aT g=some v)
  (hr:∀w₁,RX X ro own w w₁->∃x o w' ev,(RT v.sem w₁ (.value x) w' ev\/(RT v.sem w₁ .skip w' ev/\x=undef))/\zq b o w₁ w'/\A o x/\∀e∈ev,∃c,EvB c e/\(own c\/(ro c/\e.write=false)))
  (k:∀w' o x,(∀c,c<w.heap.size->c≠b->own c\/ro c->w'.heap[c]? =w.heap[c]?)->w'.heap[b]? =some o->A o x->RX X ro (λc=>own c/\c≠b) w w'->aD PP main (fq X false ro) Stop own (resume g x) w') (hro:¬ro b):aD PP main (fq X false ro) Stop own g w:=by
 refine aD.step (cY h).1 λw₁ h1=>?_
 obtain⟨x,o,w',ev,r,u,a,a5⟩:=hr w₁ h1;have hst:∃es,stepG PP main g w₁= .go (resume g x) w' es/\∀e∈es,e∈ev:=by
  rcases r with r|⟨r,rfl⟩
  .exact fA (main:=main) h r
  .exact Cl (main:=main) h r
 obtain⟨es,e1,e2⟩:=hst;have hup:(fq X false ro).up own w₁ w'=own:=by
  funext c
  exact propext ⟨λh=>h.elim id λz=>by rw[u.size] at z;omega,.inl⟩
 refine⟨_,w',es,e1,⟨u.tape,u.output,ah1 u.size.symm,by rw[u.os];exact .refl _,λc _ hc=>u.rest c λe=>hc (e▸hb),λe he=>?_,λh=>absurd h (by simp)⟩,?_⟩
 .obtain⟨c,h2,h3⟩:=a5 e (e2 e he)
  exact ri h3 h2
 .rw[hup]
  refine k w' o x (λc hc hne ho=>(u.rest c hne).trans (h1.keep c hc ho)) u.at_ a ?_;refine⟨u.tape.trans h1.tape,u.output.trans h1.output,ae3 h1.size (ah1 u.size.symm),by rw[u.os];exact h1.os,λc hc ho=>?_,λl=>?_⟩
  .have hne:c≠b:=λe=>ho.elim (λh=>h.2 e) λh=>hro (e▸h)
   exact(u.rest c hne).trans (h1.keep c hc (ho.imp (·.1) id))
  .obtain⟨s,hs⟩:=h1.live l
   exact⟨s,(u.rest _ hX.1.symm).trans hs.1,(u.rest _ hX.2.symm).trans hs.2⟩
end
abbrev TM:η:=153
abbrev KC:η:=164
section
variable (F M B7 B8:Nat)(side:Nat)(path:Ξ)(hb:Bool)(hc:Ξ)(x:Φ)(fr:κ)(cs:List κ)
def gP0:Ω:=Nf 167 #[pt F,.string path,.int .i64 (side:Int),hv hb hc] 31 fr cs
def gP1:Ω:=O (gP0 F side path hb hc fr cs)
theorem YJ:au PP false (gP0 F side path hb hc fr cs) (gP1 F side path hb hc fr cs):=aK λws=>by kernel_rfl
theorem Ru:aT (gP1 F side path hb hc fr cs)=some (.box TH (hv hb hc)):=by kernel_rfl
def fP:κ:=(On 7 (resume (gP1 F side path hb hc fr cs) (pb B7))).callers.head?.getD default
theorem YI:au PP false (resume (gP1 F side path hb hc fr cs) (pb B7)) (gL0 F (fP F B7 side path hb hc fr cs) (fr::cs)):=aR 7 (bT PP false 7 (resume (gP1 F side path hb hc fr cs) (pb B7))) λws=>by kernel_rfl
def gP3:Ω:=cG (fP F B7 side path hb hc fr cs) (fr::cs) U
def gP4:Ω:=O (gP3 F B7 side path hb hc fr cs)
theorem YH:au PP false (gP3 F B7 side path hb hc fr cs) (gP4 F B7 side path hb hc fr cs):=aK λws=>by kernel_rfl
theorem YF:aT (gP4 F B7 side path hb hc fr cs)=some (.load TM (.pointer (some ⟨F,2,none⟩))):=by kernel_rfl
def gP5:Ω:=O (resume (gP4 F B7 side path hb hc fr cs) (.map (some M)))
theorem YG:au PP false (resume (gP4 F B7 side path hb hc fr cs) (.map (some M))) (gP5 F M B7 side path hb hc fr cs):=aK λws=>by kernel_rfl
theorem YD:aT (gP5 F M B7 side path hb hc fr cs)=some (.lookup TM (.map (some M)) (.string path) false):=by kernel_rfl
def gP6:Ω:=O (resume (gP5 F M B7 side path hb hc fr cs) x)
theorem YE:au PP false (resume (gP5 F M B7 side path hb hc fr cs) x) (gP6 F M B7 side path hb hc x fr cs):=aK λws=>by kernel_rfl
theorem YC:aT (gP6 F M B7 side path hb hc x fr cs)=some (.alloc KC):=by kernel_rfl
def gP7:Ω:=O (resume (gP6 F M B7 side path hb hc x fr cs) (pb B8))
theorem YB:au PP false (resume (gP6 F M B7 side path hb hc x fr cs) (pb B8)) (gP7 F M B7 B8 side path hb hc x fr cs):=aK λws=>by kernel_rfl
theorem Yz:aT (gP7 F M B7 B8 side path hb hc x fr cs)=some (.store KC (pb B8) x):=by kernel_rfl
def gP8:Ω:=O (resume (gP7 F M B7 B8 side path hb hc x fr cs) undef)
theorem YA:au PP false (resume (gP7 F M B7 B8 side path hb hc x fr cs) undef) (gP8 F M B7 B8 side path hb hc x fr cs):=aK λws=>by kernel_rfl
theorem Yx:aT (gP8 F M B7 B8 side path hb hc x fr cs)=some (.indexAddr 159 (pb B8) (.int .i64 (side:Int))):=by kernel_rfl
def gP9:Ω:=O (resume (gP8 F M B7 B8 side path hb hc x fr cs) (.pointer (some ⟨B8,side,none⟩)))
theorem Yy:au PP false (resume (gP8 F M B7 B8 side path hb hc x fr cs) (.pointer (some ⟨B8,side,none⟩))) (gP9 F M B7 B8 side path hb hc x fr cs):=aK λws=>by kernel_rfl
theorem Yv:aT (gP9 F M B7 B8 side path hb hc x fr cs)=some (.store 4 (.pointer (some ⟨B8,side,none⟩)) (.bool true)):=by kernel_rfl
def RG:Ω:=O (resume (gP9 F M B7 B8 side path hb hc x fr cs) undef)
theorem Yw:au PP false (resume (gP9 F M B7 B8 side path hb hc x fr cs) undef) (RG F M B7 B8 side path hb hc x fr cs):=aK λws=>by kernel_rfl
theorem RE:aT (RG F M B7 B8 side path hb hc x fr cs)=some (.load TH (pb B7)):=by kernel_rfl
def RD:Ω:=O (resume (RG F M B7 B8 side path hb hc x fr cs) (hv hb hc))
theorem RF:au PP false (resume (RG F M B7 B8 side path hb hc x fr cs) (hv hb hc)) (RD F M B7 B8 side path hb hc x fr cs):=aK λws=>by kernel_rfl
theorem Rz:aT (RD F M B7 B8 side path hb hc x fr cs)=some (.indexAddr 162 (.pointer (some ⟨B8,2,none⟩)) (.int .i64 (side:Int))):=by kernel_rfl
def Ry:Ω:=O (resume (RD F M B7 B8 side path hb hc x fr cs) (.pointer (some ⟨B8,2+2*side,none⟩)))
theorem RB:au PP false (resume (RD F M B7 B8 side path hb hc x fr cs) (.pointer (some ⟨B8,2+2*side,none⟩))) (Ry F M B7 B8 side path hb hc x fr cs):=aK λws=>by kernel_rfl
theorem Rw:aT (Ry F M B7 B8 side path hb hc x fr cs)=some (.store TH (.pointer (some ⟨B8,2+2*side,none⟩)) (hv hb hc)):=by kernel_rfl
def Nc:Ω:=O (resume (Ry F M B7 B8 side path hb hc x fr cs) undef)
theorem Rx:au PP false (resume (Ry F M B7 B8 side path hb hc x fr cs) undef) (Nc F M B7 B8 side path hb hc x fr cs):=aK λws=>by kernel_rfl
def tmP:Array Φ:=(Nc F M B7 B8 side path hb hc x fr cs).frame.tmps
def og:Array Oper:=match(Nc 0 0 0 0 0 default false default undef default []).frame.todo with|.code (.region _ ops _)::_=>ops|_=>#[]
def idP:Nat:=match(Nc 0 0 0 0 0 default false default undef default []).frame.todo with|.code (.region id _ _)::_=>id|_=>0
def nz (F:Nat)(tm:Array Φ)(l:List Nat)(fr:κ)(cs:List κ):Ω:=G ((base 167).at ⟨tm,[dcall 202 #[pt F]]⟩ [.inRegion og l]) (fr::cs)
theorem Rv:Nc F M B7 B8 side path hb hc x fr cs=G ((base 167).at ⟨tmP F M B7 B8 side path hb hc x fr cs,[dcall 202 #[pt F]]⟩ [.code (.region idP og true)]) (fr::cs):=by kernel_rfl
theorem K5:(tmP F M B7 B8 side path hb hc x fr cs).size=35:=by kernel_rfl
theorem aaT:(tmP F M B7 B8 side path hb hc x fr cs)[0]? =some (pt F):=by kernel_rfl
theorem aaS:(tmP F M B7 B8 side path hb hc x fr cs)[1]? =some (.string path):=by kernel_rfl
theorem aaR:(tmP F M B7 B8 side path hb hc x fr cs)[8]? =some (pb B8):=by kernel_rfl
end
section
variable (F:Nat)(y:Nat->Φ)(l:List Nat)(fr:κ)(cs:List κ)
def Cc (y:Nat->Φ):Array Φ:=#[y 0,y 1,y 2,y 3,y 4,y 5,y 6,y 7,y 8,y 9,y 10,y 11,y 12,y 13,y 14,y 15,y 16,y 17,y 18,y 19,y 20,y 21,y 22,y 23,y 24,y 25,y 26,y 27,y 28,y 29,y 30,y 31,y 32,y 33,y 34]
theorem pL (tm:Array Φ)(h:tm.size=35):tm=Cc λi=>tm.getD i undef:=by
 have e:tm=((List.range 35).map λi=>tm.getD i undef).toArray:=by
  apply Array.ext
  .simp[h]
  .intro i h1 h2
   simp[ac3,h1]
 exact e.trans (by kernel_rfl)
theorem Cr (tm:Array Φ)(h:tm.size=35):tm=#[tm.getD 0 undef,tm.getD 1 undef,tm.getD 2 undef,tm.getD 3 undef,tm.getD 4 undef,tm.getD 5 undef,tm.getD 6 undef,tm.getD 7 undef,tm.getD 8 undef,tm.getD 9 undef,tm.getD 10 undef,tm.getD 11 undef,tm.getD 12 undef,tm.getD 13 undef,tm.getD 14 undef,tm.getD 15 undef,tm.getD 16 undef,tm.getD 17 undef,tm.getD 18 undef,tm.getD 19 undef,tm.getD 20 undef,tm.getD 21 undef,tm.getD 22 undef,tm.getD 23 undef,tm.getD 24 undef,tm.getD 25 undef,tm.getD 26 undef,tm.getD 27 undef,tm.getD 28 undef,tm.getD 29 undef,tm.getD 30 undef,tm.getD 31 undef,tm.getD 32 undef,tm.getD 33 undef,tm.getD 34 undef]:=pL tm h
theorem ab5:au PP false (nz F (Cc y) (0::l) fr cs) (nz F ((Cc y).setIfInBounds 29 (y 0)) l fr cs):=aR 1 1 λws=>by kernel_rfl
theorem ab4:au PP false (nz F (#[y 0,y 1,y 2,y 3,y 4,y 5,y 6,y 7,y 8,y 9,y 10,y 11,y 12,y 13,y 14,y 15,y 16,y 17,y 18,y 19,y 20,y 21,y 22,y 23,y 24,y 25,y 26,y 27,y 28,pt F,y 30,y 31,y 32,y 33,y 34]) (1::l) fr cs) (nz F ((#[y 0,y 1,y 2,y 3,y 4,y 5,y 6,y 7,y 8,y 9,y 10,y 11,y 12,y 13,y 14,y 15,y 16,y 17,y 18,y 19,y 20,y 21,y 22,y 23,y 24,y 25,y 26,y 27,y 28,pt F,y 30,y 31,y 32,y 33,y 34]:Array Φ).setIfInBounds 30 (pt F)) l fr cs):=aR 1 1 λws=>by kernel_rfl
theorem ab3:au PP false (nz F (#[y 0,y 1,y 2,y 3,y 4,y 5,y 6,y 7,y 8,y 9,y 10,y 11,y 12,y 13,y 14,y 15,y 16,y 17,y 18,y 19,y 20,y 21,y 22,y 23,y 24,y 25,y 26,y 27,y 28,y 29,pt F,y 31,y 32,y 33,y 34]) (2::l) fr cs) (nz F ((#[y 0,y 1,y 2,y 3,y 4,y 5,y 6,y 7,y 8,y 9,y 10,y 11,y 12,y 13,y 14,y 15,y 16,y 17,y 18,y 19,y 20,y 21,y 22,y 23,y 24,y 25,y 26,y 27,y 28,y 29,pt F,y 31,y 32,y 33,y 34]:Array Φ).setIfInBounds 31 (.pointer (some ⟨F,2,none⟩))) l fr cs):=aR 1 1 λws=>by kernel_rfl
theorem ab2:aT (nz F (Cc y) (3::l) fr cs)=some (.load TM (y 31)):=by kernel_rfl
theorem WC (v:Φ):resume (nz F (Cc y) (3::l) fr cs) v=nz F ((Cc y).setIfInBounds 32 v) l fr cs:=by kernel_rfl
theorem ab1:au PP false (nz F (Cc y) (4::l) fr cs) (nz F ((Cc y).setIfInBounds 33 (y 1)) l fr cs):=aR 1 1 λws=>by kernel_rfl
theorem ab0:aT (nz F (Cc y) (5::l) fr cs)=some (.load KC (y 8)):=by kernel_rfl
theorem WB (v:Φ):resume (nz F (Cc y) (5::l) fr cs) v=nz F ((Cc y).setIfInBounds 34 v) l fr cs:=by kernel_rfl
theorem abZ:aT (nz F (Cc y) (6::l) fr cs)=some (.mapUpdate TM (y 32) (y 33) (y 34)):=by kernel_rfl
theorem WA:resume (nz F (Cc y) (6::l) fr cs) undef=nz F (Cc y) l fr cs:=by kernel_rfl
def pfP (tm:Array Φ):κ:=(base 167).at ⟨tm,[]⟩ []
theorem Rt (tm:Array Φ):au PP false (nz F tm [] fr cs) (gU0 F (pfP tm) (fr::cs)):=aR 3 (bT PP false 3 (nz F tm [] fr cs)) λws=>by kernel_rfl
theorem L0 (tm:Array Φ):au PP false (G {pfP tm with mode:= .returning} (fr::cs)) (cG fr cs U):=aR 1 1 λws=>by kernel_rfl
def bits (n:Nat):Array Bool:=#[n%2==1,n/2%2==1,n/4%2==1,n/8%2==1,n/16%2==1,n/32%2==1,n/64%2==1]
def needs:Nat->List Nat
 |1=>[0]|2=>[1]|3=>[2]|6=>[3,4,5]|_=>[]
def sQ (b:Array Bool):Bool:=(List.range 7).all λi=>!b.getD i false||(needs i).all λj=>b.getD j false
theorem Jj:og.size=7:=by kernel_rfl
theorem Wa:((List.range 128).all λn=>(Region.ready .any og (bits n)).all λi=>decide (i<7)&&!(bits n).getD i true&&(needs i).all λj=>(bits n).getD j false)=true:=by kernel_rfl
theorem P9:((List.range 128).all λn=>!(Region.ready .any og (bits n)).isEmpty||!sQ (bits n)||(bits n).all id)=true:=by kernel_rfl
def cntF (n:Nat):Nat:=((List.range 7).filter λi=>!(bits n).getD i true).length
theorem P8:((List.range 128).all λn=>(Region.ready .any og (bits n)).all λi=>(bits n).setIfInBounds i true==bits (n+2^i)&&decide (cntF (n+2^i)+1=cntF n)&&decide (n+2^i<128)&&
  (!sQ (bits n)||sQ (bits (n+2^i)))&&(i !=6||!sQ (bits n)||cntF n==1)&&(i==6||(bits (n+2^i)).getD 6 true==(bits n).getD 6 true))=true:=by kernel_rfl
end
theorem RT.of0 {α:Type}{s:Sem α}{w w':Θ}{x:α}(h:∀es,s.runT PP w es=(.ok x w',es)):RT s w x w' #[]:=λes=>by rw[h,Array.append_empty]
theorem V6 {w:Θ}(B:Nat):∀side:Nat,side<2->RT (lu.indexAddr 159 (pb B) (.int .i64 (side:Int))).sem w (.value (.pointer (some ⟨B,side,none⟩))) w #[]
 |0,_=> .of0 λes=>by kernel_rfl
 |1,_=> .of0 λes=>by kernel_rfl
theorem V5 {w:Θ}(B:Nat):∀side:Nat,side<2->RT (lu.indexAddr 162 (.pointer (some ⟨B,2,none⟩)) (.int .i64 (side:Int))).sem w (.value (.pointer (some ⟨B,2+2*side,none⟩))) w #[]
 |0,_=> .of0 λes=>by kernel_rfl
 |1,_=> .of0 λes=>by kernel_rfl
theorem K2:PP.underlying TM=some (.map 9 KC):=by kernel_rfl
theorem K3:PP.underlying 9=some .string:=by kernel_rfl
def zF:Φ:= .agg #[.bool false,.bool false,.bool false,.string ⟨#[]⟩,.bool false,.string ⟨#[]⟩]
theorem KQ:(PP.info? KC).bind (·.zero)=some zF:=by kernel_rfl
theorem MZ (md:Region.Mode)(ops:Array Oper)(fuel t:Nat)(listed:Array Bool)(hlt:t%(Region.ready md ops listed).length<(Region.ready md ops listed).length):
  Region.linearise.go md ops (fuel+1) t listed []=(Region.ready md ops listed)[t%(Region.ready md ops listed).length]::
   Region.linearise.go md ops fuel (t/(Region.ready md ops listed).length) (listed.setIfInBounds ((Region.ready md ops listed)[t%(Region.ready md ops listed).length]) true) []:=by
 simp only[Region.linearise.go]
 change (match(Region.ready md ops listed)[t%(Region.ready md ops listed).length]? with
  |some i=>Region.linearise.go md ops fuel (t/(Region.ready md ops listed).length) (listed.setIfInBounds i true) [i]
  |none=>[].reverse)=_
 rw[List.getElem?_eq_getElem hlt];simp only;rw[Go.linearise_go_acc,List.reverse_singleton,List.singleton_append]
structure Kept (n:Nat)(F M:Nat)(path:Ξ)(fc:Array Φ)(B8:Nat)(tm:Array Φ):Prop where
 size:tm.size=35
 s0:tm[0]? =some (pt F)
 s1:tm[1]? =some (.string path)
 s8:tm[8]? =some (pb B8)
 r0:(bits n).getD 0 false=true->tm[29]? =some (pt F)
 r1:(bits n).getD 1 false=true->tm[30]? =some (pt F)
 r2:(bits n).getD 2 false=true->tm[31]? =some (.pointer (some ⟨F,2,none⟩))
 r3:(bits n).getD 3 false=true->tm[32]? =some (.map (some M))
 r4:(bits n).getD 4 false=true->tm[33]? =some (.string path)
 r5:(bits n).getD 5 false=true->tm[34]? =some (.agg fc)
section
variable {F M B8:Nat}{path:Ξ}{fc:Array Φ}{tm:Array Φ}{n i:Nat}
theorem Kept.set (h:Kept n F M path fc B8 tm)(hb:(bits n).setIfInBounds i true=bits (n+2^i))(hi:i<6){v:Φ}
  (hv:v=match i with|0=>pt F|1=>pt F|2=> .pointer (some ⟨F,2,none⟩)|3=> .map (some M)|4=> .string path|_=> .agg fc):Kept (n+2^i) F M path fc B8 (tm.setIfInBounds (29+i) v):=by
 have hs:=h.size;have at_:∀j,j≠29+i->(tm.setIfInBounds (29+i) v)[j]? =tm[j]? :=λj hj=>by rw[aa6 hj.symm]
 have self:(tm.setIfInBounds (29+i) v)[29+i]? =some v:=by rw[ae4 (by omega)]
 have bt:∀j,(bits (n+2^i)).getD j false=true->j=i\/(bits n).getD j false=true:=by
  intro j hj
  by_cases e:j=i
  .exact .inl e
  .right
   rw[<-hb,ac3,aa6 (λq=>e q.symm),<-ac3] at hj;exact hj
 refine⟨by simp[hs],by rw[at_ 0 (by omega)];exact h.s0,by rw[at_ 1 (by omega)];exact h.s1,by rw[at_ 8 (by omega)];exact h.s8,?_,?_,?_,?_,?_,?_⟩<;>intro hj<;>rcases bt _ hj with e|e
 .subst e;subst hv;exact self
 .by_cases q:i=0
  .subst q;subst hv;exact self
  .rw[at_ 29 (by omega)];exact h.r0 e
 .subst e;subst hv;exact self
 .by_cases q:i=1
  .subst q;subst hv;exact self
  .rw[at_ 30 (by omega)];exact h.r1 e
 .subst e;subst hv;exact self
 .by_cases q:i=2
  .subst q;subst hv;exact self
  .rw[at_ 31 (by omega)];exact h.r2 e
 .subst e;subst hv;exact self
 .by_cases q:i=3
  .subst q;subst hv;exact self
  .rw[at_ 32 (by omega)];exact h.r3 e
 .subst e;subst hv;exact self
 .by_cases q:i=4
  .subst q;subst hv;exact self
  .rw[at_ 33 (by omega)];exact h.r4 e
 .subst e;subst hv;exact self
 .by_cases q:i=5
  .subst q;subst hv;exact self
  .rw[at_ 34 (by omega)];exact h.r5 e
end
theorem z4 {Δ:Type}{X:Cx Δ}{ro own:Nat->Prop}{Stop:(Nat->Prop)->Ω->Θ->Prop}{w:Θ}{g:Ω}{v:Φ}(h:aT g=some (.load TM v))(hv:v= .pointer (some ⟨X.Fd,2,none⟩))(live:∃s,ShAt X w s)
  (k:∀w2,RX X ro own w w2->aD PP false (fq X false ro) Stop own (resume g (.map (some X.M))) w2):aD PP false (fq X false ro) Stop own g w:=by
 subst hv;refine aD.step (cY h).1 λw1 h1=>?_
 obtain⟨s,hs⟩:=h1.live live;have hc:w1.cell? ⟨X.Fd,2,none⟩=some (.map (some X.M)):=by simp[World.cell?,hs.1]
 have r:RT (lu.load TM (.pointer (some ⟨X.Fd,2,none⟩))).sem w1 (.value (.map (some X.M))) w1 #[⟨.cell ⟨X.Fd,2,none⟩,false,false⟩]:=by
  refine RT.eN (x:= .map (some X.M)) ?_ (.pure _);show RT (do if<-isAgg TM then Pure.pure (.agg (<-loadCells ⟨X.Fd,2,none⟩ (<-Go.sizeOf TM))) else load ⟨X.Fd,2,none⟩) _ _ _ _;refine(ib (b:=false) (by kernel_rfl)).aS ?_;simp only[ι,if_false];exact kh hc
 obtain⟨es,e1,e2⟩:=fA (main:=false) h r;refine⟨_,w1,es,e1,⟨rfl,rfl,φ _,.refl _,λ_ _ _=>rfl,λe he=>?_,λh=>absurd h (by simp)⟩,?_⟩
 .have:=e2 e he
  simp at this;subst this;exact .inr (.inl ⟨rfl,rfl,rfl⟩)
 .have e:=(jO (X:=X) false ro own w1).2
  rw[e];exact k w1 h1
section
variable {Δ:Type}{X:Cx Δ}{ro own:Nat->Prop}{Stop:(Nat->Prop)->Ω->Θ->Prop}{w:Θ}{M B8:Nat}{path:Ξ}{fc:Array Φ}{fr:κ}{cs:List κ}{es:Array af5}{c:Nat}{f:Ξ->Option Φ}
variable (hXM:X.M=M)(hne:M≠X.Fd/\M≠X.Wg)(xD:own M)(Ho:own B8)(Q7:¬ro M)(hm:dk es c f)(hfc:fc.size=6)
structure Mid (X:Cx Δ)(ro own:Nat->Prop)(M B8:Nat)(fc:Array Φ)(es:Array af5)(c:Nat)(w w1:Θ):Prop where
 r:RX X ro own w w1
 live:∃s,ShAt X w1 s
 at8:w1.heap[B8]? =some (.cells fc KC (0,0))
 atM:w1.heap[M]? =some (.map es c)
include xD Ho
theorem Mid.rely {w1 w2:Θ}(h:Mid X ro own M B8 fc es c w w1)(h2:RX X ro own w1 w2):Mid X ro own M B8 fc es c w w2:=
 ⟨h.r.trans X h2,h2.live h.live,(h2.keep B8 (Ψ.1 h.at8).1 (.inl Ho)).trans h.at8,(h2.keep M (Ψ.1 h.atM).1 (.inl xD)).trans h.atM⟩
variable {n:Nat}{tm:Array Φ}{L:List Nat}{w1:Θ}(hK:Kept n X.Fd M path fc B8 tm)(hA:Mid X ro own M B8 fc es c w w1)
include hK hA
theorem W6 (hset:(bits n).setIfInBounds 0 true=bits (n+2^0))(IH:∀{yG:Array Φ} {w2:Θ},Mid X ro own M B8 fc es c w w2->Kept (n+2^0) X.Fd M path fc B8 yG->aD PP false (fq X false ro) Stop own (nz X.Fd yG L fr cs) w2):
  aD PP false (fq X false ro) Stop own (nz X.Fd tm (0::L) fr cs) w1:=by
 have hy:=pL tm hK.size;rw[hy];refine aC (ab5 _ _ _ _ _) ?_;rw[<-hy,cq hK.s0];exact IH hA (hK.set hset (by decide) rfl)
theorem W5 (hset:(bits n).setIfInBounds 1 true=bits (n+2^1))(d0:(bits n).getD 0 false=true)(IH:∀{yG:Array Φ} {w2:Θ},Mid X ro own M B8 fc es c w w2->Kept (n+2^1) X.Fd M path fc B8 yG->aD PP false (fq X false ro) Stop own (nz X.Fd yG L fr cs) w2):
  aD PP false (fq X false ro) Stop own (nz X.Fd tm (1::L) fr cs) w1:=by
 have hy:=Cr tm hK.size;have e29:=cq (hK.r0 d0);rw[e29] at hy;have h:=ab4 X.Fd (λi=>tm.getD i undef) L fr cs;dsimp only at h;rw[<-hy] at h;refine aC h ?_;exact IH hA (hK.set hset (by decide) rfl)
theorem W4 (hset:(bits n).setIfInBounds 2 true=bits (n+2^2))(d1:(bits n).getD 1 false=true)(IH:∀{yG:Array Φ} {w2:Θ},Mid X ro own M B8 fc es c w w2->Kept (n+2^2) X.Fd M path fc B8 yG->aD PP false (fq X false ro) Stop own (nz X.Fd yG L fr cs) w2):
  aD PP false (fq X false ro) Stop own (nz X.Fd tm (2::L) fr cs) w1:=by
 have hy:=Cr tm hK.size;have e30:=cq (hK.r1 d1);rw[e30] at hy;have h:=ab3 X.Fd (λi=>tm.getD i undef) L fr cs;dsimp only at h;rw[<-hy] at h;refine aC h ?_;exact IH hA (hK.set hset (by decide) rfl)
include hXM in
theorem W3 (hset:(bits n).setIfInBounds 3 true=bits (n+2^3))(d2:(bits n).getD 2 false=true)(IH:∀{yG:Array Φ} {w2:Θ},Mid X ro own M B8 fc es c w w2->Kept (n+2^3) X.Fd M path fc B8 yG->aD PP false (fq X false ro) Stop own (nz X.Fd yG L fr cs) w2):
  aD PP false (fq X false ro) Stop own (nz X.Fd tm (3::L) fr cs) w1:=by
 have hy:=pL tm hK.size;have e31:=cq (hK.r2 d2);rw[hy];refine z4 (X:=X) (ab2 _ _ _ _ _) e31 hA.live λw2 h2=>?_
 rw[WC,<-hy,hXM];exact IH (hA.rely xD Ho h2) (hK.set hset (by decide) rfl)
theorem W2 (hset:(bits n).setIfInBounds 4 true=bits (n+2^4))(IH:∀{yG:Array Φ} {w2:Θ},Mid X ro own M B8 fc es c w w2->Kept (n+2^4) X.Fd M path fc B8 yG->aD PP false (fq X false ro) Stop own (nz X.Fd yG L fr cs) w2):
  aD PP false (fq X false ro) Stop own (nz X.Fd tm (4::L) fr cs) w1:=by
 have hy:=pL tm hK.size;rw[hy];refine aC (ab1 _ _ _ _ _) ?_;rw[<-hy,cq hK.s1];exact IH hA (hK.set hset (by decide) rfl)
include hfc in
theorem W1 (hset:(bits n).setIfInBounds 5 true=bits (n+2^5))(IH:∀{yG:Array Φ} {w2:Θ},Mid X ro own M B8 fc es c w w2->Kept (n+2^5) X.Fd M path fc B8 yG->aD PP false (fq X false ro) Stop own (nz X.Fd yG L fr cs) w2):
  aD PP false (fq X false ro) Stop own (nz X.Fd tm (5::L) fr cs) w1:=by
 have hy:=pL tm hK.size;rw[hy];have e8:=cq hK.s8;have hv:aT (nz X.Fd (Cc λi=>tm.getD i undef) (5::L) fr cs)=some (.load KC (.pointer (some ⟨B8,0,none⟩))):=by
  rw[ab0,e8];rfl
 refine de hv (x:= .agg fc) (λw2 h2=>?_) λw2 h2=>?_
 .obtain⟨ev,r1,r2⟩:=jL (t:=KC) (off:=0) (n:=6) (hA.rely xD Ho h2).at8 (by kernel_rfl) (by kernel_rfl) (by omega)
  have e:fc.extract 0 (0+6)=fc:=by rw[show 0+6=fc.size by omega];simp
  rw[e] at r1;exact⟨w2,ev,r1,rfl,rfl,rfl,rfl,λe he=>⟨B8,(r2 e he).1,.inl Ho⟩⟩
 .rw[WB,<-hy]
  exact IH (hA.rely xD Ho h2) (hK.set hset (by decide) rfl)
include hne Q7 hm in
theorem W0 (d3:(bits n).getD 3 false=true)(d4:(bits n).getD 4 false=true)(d5:(bits n).getD 5 false=true)
  (k:∀tm' w' es' c',tm'.size=35->w'.heap[M]? =some (.map es' c')->dk es' c' (λs=>if s=path then some (.agg fc) else f s)->RX X ro (λc=>own c/\c≠M) w w'->aD PP false (fq X false ro) Stop own (nz X.Fd tm' [] fr cs) w'):
  aD PP false (fq X false ro) Stop own (nz X.Fd tm (6::[]) fr cs) w1:=by
 have hy:=pL tm hK.size;rw[hy];have e32:=cq (hK.r3 d3);have e33:=cq (hK.r4 d4);have e34:=cq (hK.r5 d5);have hv:aT (nz X.Fd (Cc λi=>tm.getD i undef) (6::[]) fr cs)=some (.mapUpdate TM (.map (some M)) (.string path) (.agg fc)):=by
  rw[abZ,e32,e33,e34]
 refine jt (A:=λo x=>x=undef/\∃es' c',o= .map es' c'/\dk es' c' λs=>if s=path then some (.agg fc) else f s) xD hne hv (λw2 h2=>?_) (λw2 o x h2 h3 h4 h5=>?_) Q7
 .obtain⟨es',c',w',ev,r1,r2,r3,r4⟩:=AP (t:=TM) (v:= .agg fc) (s:=path) K2 K3 (hA.rely xD Ho h2).atM hm
  exact⟨undef,_,w',ev,.inr ⟨r1,rfl⟩,r2,⟨rfl,es',c',rfl,r4⟩,λe he=>⟨M,r3 e he,.inl xD⟩⟩
 .obtain⟨rfl,es',c',rfl,h6⟩:=h4
  rw[WA];have hr:=hA.r;exact k _ w2 es' c' (by simp[Cc]) h3 h6 (RX.trans X (b:=w1) ⟨hr.tape,hr.output,hr.size,hr.os,λb hb ho=>hr.keep b hb (ho.imp (·.1) id),hr.live⟩ h5)
omit hK hA
include hXM hne Q7 hm hfc
theorem Fw (k:∀tm' w' es' c',tm'.size=35->w'.heap[M]? =some (.map es' c')->dk es' c' (λs=>if s=path then some (.agg fc) else f s)->RX X ro (λc=>own c/\c≠M) w w'->aD PP false (fq X false ro) Stop own (nz X.Fd tm' [] fr cs) w')
  (fuel:Nat):∀(t n:Nat) (tm:Array Φ) (w1:Θ),Mid X ro own M B8 fc es c w w1->n<128->sQ (bits n)=true->(bits n).getD 6 true=false->cntF n=fuel->Kept n X.Fd M path fc B8 tm->
   aD PP false (fq X false ro) Stop own (nz X.Fd tm (Region.linearise.go .any og fuel t (bits n) []) fr cs) w1:=by
 induction fuel with
 |zero=>
  intro t n tm w1 _ hn hcl h6 hc _;exfalso;have:(6:Nat)∈(List.range 7).filter λi=>!(bits n).getD i true:=af9.2 ⟨by simp,by rw[h6];rfl⟩
  unfold cntF at hc;rw[List.length_eq_zero_iff] at hc;rw[hc] at this;cases this
 |succ fuel ih=>
  intro t n tm w1 hA hn hcl h6 hc hK;have r7:=ae6.1 Wa n (af3.2 hn);have r7n:=ae6.1 P9 n (af3.2 hn);have r7s:=ae6.1 P8 n (af3.2 hn);have hnil:Region.ready .any og (bits n)≠[]:=by
   intro e;rw[e,hcl] at r7n;simp only[List.isEmpty_nil,Bool.not_true,Bool.false_or] at r7n;have:(bits n)[6]? =some true:=by
    have hs:(bits n).size=7:=rfl;have:=af0.1 r7n ((bits n)[6]'(by rw[hs];decide)) (Array.getElem_mem _);rw[ν (by rw[hs];decide)];exact congrArg some this
   rw[ac3,this] at h6;cases h6
  have hlen:0<(Region.ready .any og (bits n)).length:=List.length_pos_iff.2 hnil;have hlt:=Nat.mod_lt t hlen;have hgo:=MZ .any og fuel t (bits n) hlt;rw[hgo];generalize hi:(Region.ready .any og (bits n))[t%(Region.ready .any og (bits n)).length]=i;have him:i∈Region.ready .any og (bits n):=hi▸af4 hlt;have q1:=ae6.1 r7 i him
  have q2:=ae6.1 r7s i him;simp only[ξ,ai1,ag9,Bool.not_eq_true',ai0,bne_iff_ne] at q1 q2;obtain⟨⟨hi7,hif⟩,ac5⟩:=q1;obtain⟨⟨⟨⟨⟨hset,hcnt⟩,hlt2⟩,XW⟩,h6c⟩,h6k⟩:=q2;have XW:=XW.resolve_left (by rw[hcl];simp);have dep:∀j,j∈needs i->(bits n).getD j false=true:=ae6.1 ac5
  have IH:i≠6->∀{yG:Array Φ} {w2:Θ},Mid X ro own M B8 fc es c w w2->Kept (n+2^i) X.Fd M path fc B8 yG->
    aD PP false (fq X false ro) Stop own (nz X.Fd yG (Region.linearise.go .any og fuel (t/(Region.ready .any og (bits n)).length) ((bits n).setIfInBounds i true) []) fr cs) w2:=λhi6 {yG w2} a g=>by
   rw[hset];exact ih _ _ _ _ a hlt2 XW ((h6k.resolve_left hi6).trans h6) (by omega) g
  clear hi hgo r7 r7n r7s;have Zl:i=0\/i=1\/i=2\/i=3\/i=4\/i=5\/i=6:=by omega
  rcases Zl with rfl|rfl|rfl|rfl|rfl|rfl|rfl
  .exact W6 xD Ho hK hA hset (IH (by decide))
  .exact W5 xD Ho hK hA hset (dep 0 (by simp[needs])) (IH (by decide))
  .exact W4 xD Ho hK hA hset (dep 1 (by simp[needs])) (IH (by decide))
  .exact W3 hXM xD Ho hK hA hset (dep 2 (by simp[needs])) (IH (by decide))
  .exact W2 xD Ho hK hA hset (IH (by decide))
  .exact W1 xD Ho hfc hK hA hset (IH (by decide))
  .have hf0:fuel=0:=by
    have:=(h6c.resolve_left (by simp[hcl]));omega
   subst hf0;exact W0 hne xD Ho Q7 hm hK hA (dep 3 (by simp[needs])) (dep 4 (by simp[needs])) (dep 5 (by simp[needs])) k
end
abbrev iJ:=Ξ->Option (Bool×Ξ)
def bR (a b:Option (Bool×Ξ)):Array Φ:=
 #[.bool a.isSome,.bool b.isSome,.bool (a.getD (false,⟨#[]⟩)).1,.string (a.getD (false,⟨#[]⟩)).2,.bool (b.getD (false,⟨#[]⟩)).1,.string (b.getD (false,⟨#[]⟩)).2]
def comb (a b:Option (Bool×Ξ)):Option Φ:=if a.isSome||b.isSome then some (.agg (bR a b)) else none
theorem x9 (a b:Option (Bool×Ξ)):(comb a b).getD zF= .agg (bR a b):=by
 cases a<;>cases b<;>rfl
def Ga (a b:iJ)(o:Obj):Prop:=∃es c f,o= .map es c/\dk es c f/\∀s,f s=comb (a s) (b s)
def cg:bg->Nat
 |.b=>1
 |_=>0
def iF (m:iJ)(path:Ξ)(h:Bool×Ξ):iJ:=λs=>if s=path then some h else m s
def Ad (r:bg)(mine other:Option (Bool×Ξ)):Array Φ:=match r with
 |.a=>bR mine other
 |_=>bR other mine
theorem YT (r:bg)(hr:r= .a\/r= .b)(mine other:Option (Bool×Ξ))(hb:Bool)(hc:Ξ):
  kQ (kQ (Ad r mine other) [.bool true] (cg r)) [.bool hb,.string hc] (2+2*cg r)=Ad r (some (hb,hc)) other:=by
 rcases hr with rfl|rfl<;>rfl
theorem ui:∀(l:List Φ) (cs:Array Φ) (i:Nat),(kQ cs l i).size=cs.size
 |[],_,_=>rfl
 |v::l,cs,i=>by unfold kQ;rw[ui l];simp
theorem pp (r:bg)(a b:Option (Bool×Ξ)):(Ad r a b).size=6:=by cases r<;>rfl
theorem RK (r:bg)(a b:Option (Bool×Ξ)):∀x∈(Value.agg (Ad r a b)).cells.toList,lz x=true:=by
 have:(Value.agg (Ad r a b)).cells=Ad r a b:=rfl;rw[this];cases r<;>simp[Ad,bR,lz]
theorem RJ (r:bg)(a b:Option (Bool×Ξ)):kQ zF.cells (Value.agg (Ad r a b)).cells.toList 0=Ad r a b:=by
 cases r<;>rfl
theorem XB:(PP.info? KC).map (·.size)=some 6:=by kernel_rfl
theorem acO:(PP.info? 4).map (·.size)=some 1:=by kernel_rfl
theorem Hh:(PP.info? TH).map (·.size)=some 2:=by kernel_rfl
theorem aeJ:(PP.underlying TH).map (λd=>match d with|.struct _|.array _ _=>true|_=>false)=some true:=by kernel_rfl
theorem EM {P:ω}{main:Bool}{b:κ}{a:Act}{id:Nat}{ops:Array Oper}{k:List Item}{cs:List κ}{w w':Θ}{t:Nat}(h:(choose (.order b.fn id)).run P w= .ok t w'):
  stepG P main (G (b.at a (.code (.region id ops true)::k)) cs) w= .go (G (b.at a (.inRegion ops (Region.schedule (P.follows .mixedOrders) ops t)::k)) cs) w' #[]:=by
 first
  |(simp[stepG,stepG.exec,G,Frame.at,h];done)
  |(simp[stepG,stepG.exec,G,Frame.at];simp at h;rw[h])
theorem I1 {ops:Array Oper}{mixed:Bool}(hm:mixed=true)(t:Nat):Region.schedule mixed ops t=Region.linearise.go .any ops ops.size t (Array.replicate ops.size false) []:=by
 unfold Region.schedule Region.linearise;rw[hm];rfl
theorem aeA:Array.replicate 7 false=bits 0:=by rfl
theorem Fx {Δ:Type}{X:Cx Δ}{ro own:Nat->Prop}{Stop:(Nat->Prop)->Ω->Θ->Prop}{w:Θ}{fr:κ}{cs:List κ}{tm:Array Φ}{F:Nat}
  (k:∀w' t,RX X ro own w w'->aD PP false (fq X false ro) Stop own (nz F tm (Region.linearise.go .any og 7 t (bits 0) []) fr cs) w'):
  aD PP false (fq X false ro) Stop own (G ((base 167).at ⟨tm,[dcall 202 #[pt F]]⟩ [.code (.region idP og true)]) (fr::cs)) w:=by
 refine aD.step rfl λw1 h1=>?_
 obtain⟨t,w',c1,c2,c3,c4,c5,_⟩:=pO (w:=w1) (q:= .order 167 idP);have hrun:=c1.run;have hm:PP.follows .mixedOrders=true:=by kernel_rfl
 have hs:=EM (main:=false) (b:=base 167) (a:=⟨tm,[dcall 202 #[pt F]]⟩) (ops:=og) (k:=[]) (cs:=fr::cs) hrun;rw[I1 hm,Jj,aeA] at hs;have hup:(fq X false ro).up own w1 w'=own:=by
  funext b
  exact propext ⟨λh=>h.elim id λz=>by rw[c5] at z;omega,.inl⟩
 refine⟨_,w',#[],hs,⟨c2,c3,by rw[c5];exact φ _,by rw[c4];exact .refl _,λb _ _=>by rw[c5],by simp,λh=>absurd h (by simp)⟩,?_⟩;rw[hup];exact k w' t (h1.trans X ⟨c2,c3,by rw[c5];exact φ _,by rw[c4];exact .refl _,λb _ _=>by rw[c5],λ⟨s,hs⟩=>⟨s,by rw[ShAt,c5];exact hs⟩⟩)
theorem RX.sub {Δ:Type}{X:Cx Δ}{ro own own':Nat->Prop}{w w':Θ}(h:RX X ro own w w')(hs:∀b,own' b->own b):RX X ro own' w w':=
 ⟨h.tape,h.output,h.size,h.os,λb hb ho=>h.keep b hb (ho.imp (hs b) id),h.live⟩
theorem aW {Δ:Type}{X:Cx Δ}{ro own:Nat->Prop}{w w':Θ}{b:Nat}{o:Obj}(h:RX X ro own w w')(hb:own b\/ro b)(ho:w.heap[b]? =some o):w'.heap[b]? =some o:=
 (h.keep b (Ψ.1 ho).1 hb).trans ho
theorem lt_of_some {w:Θ}{b:Nat}{o:Obj}(ho:w.heap[b]? =some o):b<w.heap.size:=(Ψ.1 ho).1
section
variable {X:Cx iJ}{r:bg}{γ:Gh iJ}{w:Θ}{n:Nat}{path:Ξ}{hb:Bool}{hc:Ξ}{fr:κ}{cs:List κ}
structure zr (X:Cx iJ)(r:bg)(γ:Gh iJ):Prop where
 dat:X.Dat=Ga
 role:r= .a\/r= .b
 room:Room X γ
 om:¬γ.own X.M
 rm:¬γ.ro X.M
 mf:X.M≠X.Fd
 mw:X.M≠X.Wg
theorem zr.worker (h:zr X r γ):vo r=false:=by rcases h.role with rfl|rfl<;>rfl
theorem zr.aiy (h:zr X r γ){mine other:iJ}{o:Obj}(ho:BK X r mine other o):∃es c f,o= .map es c/\dk es c f/\∀s,(f s).getD zF= .agg (Ad r (mine s) (other s))/\(f s=none↔mine s=none/\other s=none):=by
 have hd:=h.dat;have key:∀a b:Option (Bool×Ξ),comb a b=none↔a=none/\b=none:=λa b=>by cases a<;>cases b<;>simp[comb]
 rcases h.role with rfl|rfl
 .have ho:X.Dat mine other o:=ho
  rw[hd] at ho;obtain⟨es,c,f,h1,h2,h3⟩:=ho;exact⟨es,c,f,h1,h2,λs=>⟨by rw[h3,x9];rfl,by rw[h3];exact key _ _⟩⟩
 .have ho:X.Dat other mine o:=ho
  rw[hd] at ho;obtain⟨es,c,f,h1,h2,h3⟩:=ho;exact⟨es,c,f,h1,h2,λs=>⟨by rw[h3,x9];rfl,by rw[h3,key];exact and_comm⟩⟩
theorem zr.put (h:zr X r γ){mine other:iJ}{o:Obj}{es es':Array af5}{c c':Nat}{f:Ξ->Option Φ}(ho:BK X r mine other o)(he:o= .map es c)(hm:dk es c f)
  (hm':dk es' c' λs=>if s=path then some (.agg (Ad r (some (hb,hc)) (other path))) else f s):BK X r (iF mine path (hb,hc)) other (.map es' c'):=by
 have hd:=h.dat;rcases h.role with rfl|rfl
 .have ho:X.Dat mine other o:=ho
  show X.Dat (iF mine path (hb,hc)) other _;rw[hd] at ho⊢;obtain⟨es1,c1,f1,h1,h2,h3⟩:=ho;rw[he] at h1;cases h1;refine⟨es',c',_,rfl,hm',λs=>?_⟩;have hf:f s=f1 s:=Option.ext λv=>(hm.has s v).trans (h2.has s v).symm
  by_cases hs:s=path
  .subst hs;simp[iF,comb,Ad]
  .simp only[ζ hs,iF];rw[hf,h3]
 .have ho:X.Dat other mine o:=ho
  show X.Dat other (iF mine path (hb,hc)) _;rw[hd] at ho⊢;obtain⟨es1,c1,f1,h1,h2,h3⟩:=ho;rw[he] at h1;cases h1;refine⟨es',c',_,rfl,hm',λs=>?_⟩;have hf:f s=f1 s:=Option.ext λv=>(hm.has s v).trans (h2.has s v).symm
  by_cases hs:s=path
  .subst hs;simp[iF,comb,Ad]
  .simp only[ζ hs,iF];rw[hf,h3]
theorem Wn (hS:zr X r γ)(hlow:∀b,γ.own b\/γ.ro b->b<w.heap.size)(live:∃s,ShAt X w s){B7:Nat}(h7:γ.own B7)(w7:w.heap[B7]? =some (.cells #[.bool hb,.string hc] TH (0,0)))
  (back:∀k w' own' d,(∀b,γ.own b->own' b)->(∀b,own' b->γ.own b\/w.heap.size<=b)->(∀b,own' b->b<w'.heap.size)->RR X γ w w'->LW X r {γ with own:=own',mine:=iF γ.mine path (hb,hc),other:=d} k (at_ .out n) (cG fr cs U) w'):
  Taken X r γ n (fP X.Fd B7 (cg r) path hb hc fr cs) (fr::cs) w:=by
 intro k w1 d o hr1 ho hD;have hm:=hS.worker;obtain⟨es,c,f,rfl,hmap,hf⟩:=hS.aiy hD;have z0:=hr1.live live;have w71:=aW hr1 (.inl h7) w7;have alQ:B7≠X.M:=λe=>hS.om (e▸h7)
 refine aC (YH X.Fd B7 (cg r) path hb hc fr cs) (z4 (YF _ _ _ _ _ _ _ _) rfl z0 λw2 h2=>?_);refine aC (YG _ _ _ _ _ _ _ _ _) ?_;have hM2:=aW h2 (.inl (.inr rfl)) ho;refine de (YD _ _ _ _ _ _ _ _ _) (x:= .agg (Ad r (γ.mine path) (d path))) (λw3 h3=>?_) λw3 h3=>?_
 .have X1:=aW h3 (.inl (.inr rfl)) hM2
  have:=pN (t:=TM) (s:=path) K2 K3 KQ X1 hmap;rw[(hf path).1] at this;exact⟨w3,_,this,rfl,rfl,rfl,rfl,λe he=>⟨X.M,by simp at he;subst he;exact dU,.inl (.inr rfl)⟩⟩
 have X1:=aW h3 (.inl (.inr rfl)) hM2;refine aC (YE _ _ _ _ _ _ _ _ _ _) ?_;refine gS (f:=λb=>pb b) (YC _ _ _ _ _ _ _ _ _ _) (λw4 h4=>⟨#[],mH KQ,by simp⟩) λw4 B8 h4 hB8 w84=>?_
 refine aC (YB _ _ _ B8 _ _ _ _ _ _ _) ?_;have hM4:=aW h4 (.inl (.inr rfl)) X1;have w74:=aW h4 (.inl (.inl h7)) (aW h3 (.inl (.inl h7)) (aW h2 (.inl (.inl h7)) w71));have h14:=(h2.trans X h3).trans X h4;have Tt:=h14.live z0;have hlo:w.heap.size<=B8:=ae3 hr1.size (ae3 (h2.trans X h3).size hB8);have alI:X.M<w1.heap.size:=lt_of_some ho
 have ah2:=(h2.trans X h3).size;have n8M:B8≠X.M:=λe=>by omega
 have n87:B8≠B7:=λe=>by have:=lt_of_some w7;omega
 obtain⟨s1,hs1⟩:=z0;have n8F:B8≠X.Fd/\B8≠X.Wg:=⟨λe=>by have:=lt_of_some hs1.1;omega,λe=>by have:=lt_of_some hs1.2;omega⟩
 have ro8:¬γ.ro B8:=λe=>by have:=hlow B8 (.inr e);omega
 have ow8:∀b,γ.own b->b≠B8:=λb e q=>by have:=hlow b (.inl e);omega
 have e4:∀b,γ.own b->((γ.own b\/b=X.M)\/b=B8):=λb e=> .inl (.inl e)
 have m4:(λb=>(γ.own b\/b=X.M)\/b=B8) X.M:= .inl (.inr rfl);have G7:(λb=>(γ.own b\/b=X.M)\/b=B8) B8:= .inr rfl;have H4:RX X γ.ro γ.own w w4:=hr1.trans X ((h2.sub λb e=> .inl e).trans X ((h3.sub λb e=> .inl e).trans X (h4.sub λb e=> .inl e)));clear h2 h3 h4 h14 hM2 X1 hB8 ah2
 have Uu:∀{w' w'':Θ},RX X γ.ro (λb=>((γ.own b\/b=X.M)\/b=B8)/\b≠B8) w' w''->RX X γ.ro γ.own w' w'':=λh=>h.sub λb e=>⟨e4 b e,ow8 b e⟩
 refine jt (b:=B8) (A:=λo x=>x=undef/\o= .cells (Ad r (γ.mine path) (d path)) KC (0,0)) G7 n8F (Yz _ _ _ _ _ _ _ _ _ _ _) (λw5 h5=>?_) (λw5 o x _ w85 ha h5=>?_) ro8
 .have e8:=aW h5 (.inl G7) w84
  obtain⟨w',ev,r1,r2,r3⟩:=fZ (t:=KC) (off:=0) (v:= .agg (Ad r (γ.mine path) (d path))) e8 (by
   have:(Value.agg (Ad r (γ.mine path) (d path))).cells.size=6:=pp _ _ _;rw[this];exact XB) (by
   have:(Value.agg (Ad r (γ.mine path) (d path))).cells.size=6:=pp _ _ _;rw[this];simp[zF,Value.cells]) (RK _ _ _)
  rw[RJ] at r2;exact⟨undef,_,w',ev,.inr ⟨r1,rfl⟩,r2,⟨rfl,rfl⟩,λe he=>⟨B8,r3 e he,.inl G7⟩⟩
 obtain⟨rfl,rfl⟩:=ha;have M5:=aW h5 (.inl ⟨m4,n8M.symm⟩) hM4;have w75:=aW h5 (.inl ⟨e4 B7 h7,n87.symm⟩) w74;have Ts:=h5.live Tt;have H5:=H4.trans X (Uu h5);refine aC (YA _ _ _ _ _ _ _ _ _ _ _) ?_;have hside:cg r<2:=by rcases hS.role with rfl|rfl<;>decide
 refine de (Yx _ _ _ _ _ _ _ _ _ _ _) (x:= .pointer (some ⟨B8,cg r,none⟩)) (λw6 h6=>⟨w6,#[],V6 B8 _ hside,rfl,rfl,rfl,rfl,by simp⟩) λw6 h6=>?_
 have w86:=aW h6 (.inl G7) w85;have M6:=aW h6 (.inl m4) M5;have w76:=aW h6 (.inl (e4 B7 h7)) w75;have Tr:=h6.live Ts;have H6:=H5.trans X (h6.sub e4);clear h5 h6 M5 w75 Ts H5 w85 w84 hM4 w74 Tt H4;refine aC (Yy _ _ _ _ _ _ _ _ _ _ _) ?_
 refine jt (b:=B8) (A:=λo x=>x=undef/\o= .cells (kQ (Ad r (γ.mine path) (d path)) [.bool true] (cg r)) KC (0,0)) G7 n8F (Yv _ _ _ _ _ _ _ _ _ _ _) (λw7' X3=>?_) (λw7' o x _ w87 ha X3=>?_) ro8
 .have e8:=aW X3 (.inl G7) w86
  obtain⟨w',ev,r1,r2,r3⟩:=fZ (t:=4) (off:=cg r) (v:= .bool true) e8 acO (by
   rw[pp];show cg r+1<=6;omega) (by simp[Value.cells,lz])
  exact⟨undef,_,w',ev,.inr ⟨r1,rfl⟩,r2,⟨rfl,rfl⟩,λe he=>⟨B8,r3 e he,.inl G7⟩⟩
 obtain⟨rfl,rfl⟩:=ha;have M7:=aW X3 (.inl ⟨m4,n8M.symm⟩) M6;have w77:=aW X3 (.inl ⟨e4 B7 h7,n87.symm⟩) w76;have Tq:=X3.live Tr;have H7:=H6.trans X (Uu X3);refine aC (Yw _ _ _ _ _ _ _ _ _ _ _) ?_;refine de (RE _ _ _ _ _ _ _ _ _ _ _) (x:=hv hb hc) (λw8 h8=>?_) λw8 h8=>?_
 .obtain⟨ev,r1,r2⟩:=jL (t:=TH) (off:=0) (n:=2) (aW h8 (.inl (e4 B7 h7)) w77) aeJ Hh (by simp)
  exact⟨w8,ev,r1,rfl,rfl,rfl,rfl,λe he=>⟨B7,(r2 e he).1,.inl (e4 B7 h7)⟩⟩
 have w88:=aW h8 (.inl G7) w87;have M8:=aW h8 (.inl m4) M7;have Tp:=h8.live Tq;have H8:=H7.trans X (h8.sub e4);refine aC (RF _ _ _ _ _ _ _ _ _ _ _) ?_;refine de (Rz _ _ _ _ _ _ _ _ _ _ _) (x:= .pointer (some ⟨B8,2+2*cg r,none⟩)) (λw9 h9=>⟨w9,#[],V5 B8 _ hside,rfl,rfl,rfl,rfl,by simp⟩) λw9 h9=>?_
 have w89:=aW h9 (.inl G7) w88;have M9:=aW h9 (.inl m4) M8;have acC:=h9.live Tp;have H9:=H8.trans X (h9.sub e4);clear X3 h8 h9 M6 M7 M8 w76 w77 Tr Tq Tp H6 H7 H8 w86 w87 w88;refine aC (RB _ _ _ _ _ _ _ _ _ _ _) ?_
 refine jt (b:=B8) (A:=λo x=>x=undef/\o= .cells (Ad r (some (hb,hc)) (d path)) KC (0,0)) G7 n8F (Rw _ _ _ _ _ _ _ _ _ _ _) (λwA hA=>?_) (λwA o x _ w8A ha hA=>?_) ro8
 .have e8:=aW hA (.inl G7) w89
  obtain⟨w',ev,r1,r2,r3⟩:=fZ (t:=TH) (off:=2+2*cg r) (v:=hv hb hc) e8 Hh (by
   rw[ui,pp];show 2+2*cg r+2<=6;omega) (by simp[hv,Value.cells,lz])
  have e:(hv hb hc).cells.toList=[.bool hb,.string hc]:=rfl;rw[e,YT r hS.role] at r2;exact⟨undef,_,w',ev,.inr ⟨r1,rfl⟩,r2,⟨rfl,rfl⟩,λe he=>⟨B8,r3 e he,.inl G7⟩⟩
 obtain⟨rfl,rfl⟩:=ha;have MA:=aW hA (.inl ⟨m4,n8M.symm⟩) M9;have acB:=hA.live acC;have HA:=H9.trans X (Uu hA);refine aC (Rx _ _ _ _ _ _ _ _ _ _ _) ?_;rw[Rv];refine Fx λwB t hB=>?_
 have w8B:=aW hB (.inl G7) w8A;have MB:=aW hB (.inl m4) MA;have To:=hB.live acB;have HB:=HA.trans X (hB.sub e4);refine Fw (w:=wB) rfl ⟨hS.mf,hS.mw⟩ m4 G7 hS.rm hmap (pp _ _ _) (λtm' wC es' c' _ hMC hmC hC=>?_) 7 t 0 _ wB ⟨RX.refl X _ _ _,To,w8B,MB⟩ (by decide) (by decide) (by decide) (by decide)
  ⟨K5 _ _ _ _ _ _ _ _ _ _ _,aaT _ _ _ _ _ _ _ _ _ _ _,aaS _ _ _ _ _ _ _ _ _ _ _,aaR _ _ _ _ _ _ _ _ _ _ _,λh=>absurd h (by decide),λh=>absurd h (by decide),λh=>absurd h (by decide),λh=>absurd h (by decide),λh=>absurd h (by decide),λh=>absurd h (by decide)⟩
 have HC:RX X γ.ro γ.own w wC:=HB.trans X (hC.sub λb e=>⟨e4 b e,λq=>hS.om (q▸e)⟩);refine aC (Rt _ _ _ _) ?_;have eo:(λb=>(γ.own b\/b=X.M)\/b=B8)=λb=>(γ.own b\/b=B8)\/b=X.M:=by
  funext b
  exact propext ⟨λh=>h.elim (λh=>h.elim (λh=> .inl (.inl h)) .inr) λh=> .inl (.inr h),λh=>h.elim (λh=>h.elim (λh=> .inl (.inl h)) .inr) λh=> .inl (.inr h)⟩
 rw[eo];have R2:Room X {γ with own:=λb=>γ.own b\/b=B8}:=⟨hS.room.ne,λb h=>by
  rcases h with(h|rfl)|h
  .exact hS.room.off b (.inl h)
  .exact n8F
  .exact hS.room.off b (.inr h)⟩
 exact B5 (γ:={γ with own:=λb=>γ.own b\/b=B8}) (c:=iF γ.mine path (hb,hc)) (d:=d) hm R2 (λh=>h.elim hS.om λe=>n8M e.symm) (hC.live To) ⟨_,hMC,hS.put hD rfl hmap hmC⟩ λk' wD hD'=>
  aC (L0 _ _ _) (back k' wD (λb=>γ.own b\/b=B8) d (λb h=> .inl h) (λb h=>Or.imp id (λe:b=B8=>by rw[e];exact hlo) h) (λb h=>by
   have s1:=HC.size;have s2:=hC.size;have s3:=hD'.size;rcases h with h|rfl
   .have:=hlow b (.inl h);omega
   .have:=lt_of_some w8B;omega) (HC.trans X (hD'.sub λb h=> .inl h)))
theorem C8 (hS:zr X r γ)(hlow:∀b,γ.own b\/γ.ro b->b<w.heap.size)(hMl:X.M<w.heap.size)(live:∃s,ShAt X w s)
  (back:∀k w' own' d,(∀b,γ.own b->own' b)->(∀b,own' b->γ.own b\/w.heap.size<=b)->(∀b,own' b->b<w'.heap.size)->RR X γ w w'->LW X r {γ with own:=own',mine:=iF γ.mine path (hb,hc),other:=d} k (at_ .out n) (cG fr cs U) w') (k:Nat):
  LW X r γ k (at_ .out (n+1)) (gP0 X.Fd (cg r) path hb hc fr cs) w:=by
 refine aC (YJ _ _ _ _ _ _ _) (gS (f:=λb=>pb b) (Ru _ _ _ _ _ _ _) (λw1 h1=>⟨#[],wO _ _,by simp⟩) λw1 B7 h1 hB w71=>?_);refine aC (YI _ _ _ _ _ _ _ _) ?_;obtain⟨s1,hs1⟩:=live;have n7:B7≠X.Fd/\B7≠X.Wg:=⟨λe=>by have:=lt_of_some hs1.1;omega,λe=>by have:=lt_of_some hs1.2;omega⟩
 have S1:zr X r {γ with own:=λb=>γ.own b\/b=B7}:=⟨hS.dat,hS.role,⟨hS.room.ne,λb h=>by
  rcases h with(h|rfl)|h
  .exact hS.room.off b (.inl h)
  .exact n7
  .exact hS.room.off b (.inr h)⟩,λh=>h.elim hS.om λe=>by omega,hS.rm,hS.mf,hS.mw⟩
 have hs7:=lt_of_some w71;have ahd:∀b,(γ.own b\/b=B7)\/γ.ro b->b<w1.heap.size:=λb h=>by
  have:=h1.size;rcases h with(h|rfl)|h
  .have:=hlow b (.inl h);omega
  .exact hs7
  .have:=hlow b (.inr h);omega
 have z0:=h1.live ⟨s1,hs1⟩;refine Jv (γ:={γ with own:=λb=>γ.own b\/b=B7}) hS.worker S1.room z0 (Wn S1 ahd z0 (.inr rfl) w71 λk w' own' d a1 a2 a4 a3=>?_);exact back k w' own' d (λb h=>a1 b (.inl h)) (λb h=>by
  rcases a2 b h with(h|rfl)|h
  .exact .inl h
  .exact .inr hB
  .exact .inr (ae3 h1.size h)) a4 (h1.trans X (RX.sub a3 λb h=> .inl h))
end
abbrev TC:η:=251
section
variable (F:Nat)(dv:Φ)(side:Nat)(m1 m2:Φ)(fr:κ)(cs:List κ)
def gC0 (dv:Φ)(set:Int)(fr:κ)(cs:List κ):Ω:=Nf 166 #[dv,.int .i64 set] 28 fr cs
def fK1:κ:=(On 5 (Z8 F dv (side:Int) fr cs)).callers.head?.getD default
theorem YO:au PP false (Z8 F dv (side:Int) fr cs) (gC0 dv (side:Int) (fK1 F dv side fr cs) (fr::cs)):=aR 5 (bT PP false 5 (Z8 F dv (side:Int) fr cs)) λws=>by kernel_rfl
def fK2:κ:=(On 2 (cG (fK1 F dv side fr cs) (fr::cs) m1)).callers.head?.getD default
theorem YN:au PP false (cG (fK1 F dv side fr cs) (fr::cs) m1) (gC0 dv 2 (fK2 F dv side m1 fr cs) (fr::cs)):=aR 2 (bT PP false 2 (cG (fK1 F dv side fr cs) (fr::cs) m1)) λws=>by kernel_rfl
def Z7:Ω:=O (cG (fK2 F dv side m1 fr cs) (fr::cs) m2)
theorem YM:au PP false (cG (fK2 F dv side m1 fr cs) (fr::cs) m2) (Z7 F dv side m1 m2 fr cs):=aK λws=>by kernel_rfl
theorem YK:aT (Z7 F dv side m1 m2 fr cs)=some (.range TC m1):=by kernel_rfl
end
def Ut:List Item:=(O (resume (Z7 0 default 0 undef undef default []) (pb 0))).frame.todo
def gL1 (tm:Array Φ)(fr:κ)(cs:List κ):Ω:=G ((base 132).at ⟨tm,[]⟩ Ut) (fr::cs)
section
variable (F:Nat)(dv:Φ)(side M1 M2 it:Nat)(path s s2:Ξ)(b2:Bool)(B9:Nat)(fr:κ)(cs:List κ)(y:Nat->Φ)
def aaW:Array Φ:=#[pt F,dv,.int .i64 (side:Int),y 3,y 4,y 5,.map (some M1),.map (some M2),y 8,y 9,y 10,y 11,y 12,y 13,y 14,y 15,y 16,pb it,y 18,y 19,y 20,y 21,y 22,y 23,y 24,y 25,y 26,y 27,y 28,y 29,y 30,y 31,y 32,y 33,y 34,y 35,y 36,y 37,y 38,y 39,y 40,y 41,y 42,y 43,y 44,y 45,y 46,y 47,y 48]
def aaV:Array Φ:=#[pt F,dv,.int .i64 (side:Int),y 3,y 4,y 5,.map (some M1),.map (some M2),y 8,y 9,y 10,y 11,y 12,y 13,y 14,y 15,y 16,y 17,y 18,y 19,y 20,y 21,y 22,y 23,y 24,y 25,y 26,y 27,y 28,y 29,y 30,y 31,y 32,y 33,pb it,y 35,y 36,y 37,y 38,y 39,y 40,y 41,y 42,y 43,y 44,y 45,y 46,y 47,y 48]
structure SG (F:Nat)(dv:Φ)(side M1 M2 it:Nat)(tm:Array Φ):Prop where
 size:tm.size=49
 s0:tm[0]? =some (pt F)
 s1:tm[1]? =some (dv)
 s2:tm[2]? =some (.int .i64 (side:Int))
 s6:tm[6]? =some (.map (some M1))
 s7:tm[7]? =some (.map (some M2))
 s17:tm[17]? =some (pb it)
structure HL2 (F:Nat)(dv:Φ)(side M1 M2 it:Nat)(tm:Array Φ):Prop where
 size:tm.size=49
 s0:tm[0]? =some (pt F)
 s1:tm[1]? =some (dv)
 s2:tm[2]? =some (.int .i64 (side:Int))
 s6:tm[6]? =some (.map (some M1))
 s7:tm[7]? =some (.map (some M2))
 s34:tm[34]? =some (pb it)
theorem GL (tm:Array Φ)(h:tm.size=49):tm=#[tm.getD 0 undef,tm.getD 1 undef,tm.getD 2 undef,tm.getD 3 undef,tm.getD 4 undef,tm.getD 5 undef,tm.getD 6 undef,tm.getD 7 undef,tm.getD 8 undef,tm.getD 9 undef,tm.getD 10 undef,tm.getD 11 undef,tm.getD 12 undef,tm.getD 13 undef,tm.getD 14 undef,tm.getD 15 undef,tm.getD 16 undef,tm.getD 17 undef,tm.getD 18 undef,tm.getD 19 undef,tm.getD 20 undef,tm.getD 21 undef,tm.getD 22 undef,tm.getD 23 undef,tm.getD 24 undef,tm.getD 25 undef,tm.getD 26 undef,tm.getD 27 undef,tm.getD 28 undef,tm.getD 29 undef,tm.getD 30 undef,tm.getD 31 undef,tm.getD 32 undef,tm.getD 33 undef,tm.getD 34 undef,tm.getD 35 undef,tm.getD 36 undef,tm.getD 37 undef,tm.getD 38 undef,tm.getD 39 undef,tm.getD 40 undef,tm.getD 41 undef,tm.getD 42 undef,tm.getD 43 undef,tm.getD 44 undef,tm.getD 45 undef,tm.getD 46 undef,tm.getD 47 undef,tm.getD 48 undef]:=by
 have e:tm=((List.range 49).map λi=>tm.getD i undef).toArray:=by
  apply Array.ext
  .simp[h]
  .intro i h1 h2
   simp[ac3,h1]
 exact e.trans (by kernel_rfl)
theorem SG.eq {F:Nat}{dv:Φ}{side M1 M2 it:Nat}{tm:Array Φ}(h:SG F dv side M1 M2 it tm):tm=aaW F dv side M1 M2 it λi=>tm.getD i undef:=by
 have h1:=GL tm h.size;rw[cq h.s0,cq h.s1,cq h.s2,cq h.s6,cq h.s7,cq h.s17] at h1;exact h1
theorem HL2.eq {F:Nat}{dv:Φ}{side M1 M2 it:Nat}{tm:Array Φ}(h:HL2 F dv side M1 M2 it tm):tm=aaV F dv side M1 M2 it λi=>tm.getD i undef:=by
 have h1:=GL tm h.size;rw[cq h.s0,cq h.s1,cq h.s2,cq h.s6,cq h.s7,cq h.s34] at h1;exact h1
theorem YL (m1':Φ)(h1:m1'= .map (some M1)):∃tm,SG F dv side M1 M2 it tm/\au PP false (resume (Z7 F dv side m1' (.map (some M2)) fr cs) (pb it)) (gL1 tm fr cs):=by
 subst h1;exact⟨(O (resume (Z7 F dv side (.map (some M1)) (.map (some M2)) fr cs) (pb it))).frame.tmps,⟨by kernel_rfl,by kernel_rfl,by kernel_rfl,by kernel_rfl,by kernel_rfl,by kernel_rfl,by kernel_rfl⟩,aR 200 (bT PP false 200 (resume (Z7 F dv side (.map (some M1)) (.map (some M2)) fr cs) (pb it))) λws=>by kernel_rfl⟩
abbrev l1:Ω:=gL1 (aaW F dv side M1 M2 it y) fr cs
def nxT (g:Ω):η:=match aT g with|some (.next _ _ t)=>t|_=>0
theorem acH:aT (l1 F dv side M1 M2 it fr cs y)=some (.next (pb it) false (nxT (l1 0 default 0 0 0 0 default [] λ_=>undef))):=by kernel_rfl
def ZX:Ω:=O (resume (l1 F dv side M1 M2 it fr cs y) (.tuple #[.bool false]))
theorem QW:au PP false (resume (l1 F dv side M1 M2 it fr cs y) (.tuple #[.bool false])) (ZX F dv side M1 M2 it fr cs y):=aK λws=>by kernel_rfl
theorem Xf:aT (ZX F dv side M1 M2 it fr cs y)=some (.range TC (.map (some M2))):=by kernel_rfl
def l1a:Ω:=O (resume (l1 F dv side M1 M2 it fr cs y) (.tuple #[.bool true,.string path,hv true s]))
theorem QX:au PP false (resume (l1 F dv side M1 M2 it fr cs y) (.tuple #[.bool true,.string path,hv true s])) (l1a F dv side M1 M2 it path s fr cs y):=aK λws=>by kernel_rfl
theorem Xv:aT (l1a F dv side M1 M2 it path s fr cs y)=some (.entry (pb it)):=by kernel_rfl
def l1b:Ω:=O (resume (l1a F dv side M1 M2 it path s fr cs y) (.tuple #[.string path,hv true s]))
theorem Xu:au PP false (resume (l1a F dv side M1 M2 it path s fr cs y) (.tuple #[.string path,hv true s])) (l1b F dv side M1 M2 it path s fr cs y):=aK λws=>by kernel_rfl
theorem Xt:aT (l1b F dv side M1 M2 it path s fr cs y)=some (.alloc TH):=by kernel_rfl
def l1c:Ω:=O (resume (l1b F dv side M1 M2 it path s fr cs y) (pb B9))
theorem Xs:au PP false (resume (l1b F dv side M1 M2 it path s fr cs y) (pb B9)) (l1c F dv side M1 M2 it path s B9 fr cs y):=aK λws=>by kernel_rfl
theorem Xq:aT (l1c F dv side M1 M2 it path s B9 fr cs y)=some (.store TH (pb B9) (hv true s)):=by kernel_rfl
def l1d:Ω:=O (resume (l1c F dv side M1 M2 it path s B9 fr cs y) undef)
theorem Xr:au PP false (resume (l1c F dv side M1 M2 it path s B9 fr cs y) undef) (l1d F dv side M1 M2 it path s B9 fr cs y):=aK λws=>by kernel_rfl
theorem Xo:aT (l1d F dv side M1 M2 it path s B9 fr cs y)=some (.load TH (pb B9)):=by kernel_rfl
def l1e:Ω:=O (resume (l1d F dv side M1 M2 it path s B9 fr cs y) (hv true s))
theorem Xp:au PP false (resume (l1d F dv side M1 M2 it path s B9 fr cs y) (hv true s)) (l1e F dv side M1 M2 it path s B9 fr cs y):=aK λws=>by kernel_rfl
theorem Xm:aT (l1e F dv side M1 M2 it path s B9 fr cs y)=some (.lookup TC (.map (some M2)) (.string path) false):=by kernel_rfl
def Xl:Ω:=O (resume (l1e F dv side M1 M2 it path s B9 fr cs y) (hv b2 s2))
theorem Xn:au PP false (resume (l1e F dv side M1 M2 it path s B9 fr cs y) (hv b2 s2)) (Xl F dv side M1 M2 it path s s2 b2 B9 fr cs y):=aK λws=>by kernel_rfl
theorem Xk:aT (Xl F dv side M1 M2 it path s s2 b2 B9 fr cs y)=some (.bin .neq TH (hv true s) (hv b2 s2)):=by kernel_rfl
theorem Xj:∃tm,SG F dv side M1 M2 it tm/\au PP false (resume (Xl F dv side M1 M2 it path s s2 b2 B9 fr cs y) (.bool false)) (gL1 tm fr cs):=⟨(O (resume (Xl F dv side M1 M2 it path s s2 b2 B9 fr cs y) (.bool false))).frame.tmps,⟨by kernel_rfl,by kernel_rfl,by kernel_rfl,by kernel_rfl,by kernel_rfl,by kernel_rfl,by kernel_rfl⟩,aR 200 (bT PP false 200 (resume (Xl F dv side M1 M2 it path s s2 b2 B9 fr cs y) (.bool false))) λws=>by kernel_rfl⟩
def l1g:Ω:=O (resume (Xl F dv side M1 M2 it path s s2 b2 B9 fr cs y) (.bool true))
theorem QV:au PP false (resume (Xl F dv side M1 M2 it path s s2 b2 B9 fr cs y) (.bool true)) (l1g F dv side M1 M2 it path s s2 b2 B9 fr cs y):=aK λws=>by kernel_rfl
theorem Xh:aT (l1g F dv side M1 M2 it path s s2 b2 B9 fr cs y)=some (.load TH (pb B9)):=by kernel_rfl
def l1F:κ:=(On 1 (resume (l1g F dv side M1 M2 it path s s2 b2 B9 fr cs y) (hv true s))).callers.head?.getD default
theorem Xi:au PP false (resume (l1g F dv side M1 M2 it path s s2 b2 B9 fr cs y) (hv true s)) (gP0 F side path true s (l1F F dv side M1 M2 it path s s2 b2 B9 fr cs y) (fr::cs)):=aR 1 (bT PP false 1 (resume (l1g F dv side M1 M2 it path s s2 b2 B9 fr cs y) (hv true s))) λws=>by kernel_rfl
theorem Xw:∃tm,SG F dv side M1 M2 it tm/\au PP false (cG (l1F F dv side M1 M2 it path s s2 b2 B9 fr cs y) (fr::cs) U) (gL1 tm fr cs):=⟨(O (cG (l1F F dv side M1 M2 it path s s2 b2 B9 fr cs y) (fr::cs) U)).frame.tmps,⟨by kernel_rfl,by kernel_rfl,by kernel_rfl,by kernel_rfl,by kernel_rfl,by kernel_rfl,by kernel_rfl⟩,aR 200 (bT PP false 200 (cG (l1F F dv side M1 M2 it path s s2 b2 B9 fr cs y) (fr::cs) U)) λws=>by kernel_rfl⟩
end
def Us:List Item:=(O (resume (ZX 0 default 0 0 0 0 default [] λ_=>undef) (pb 0))).frame.todo
def gL2 (tm:Array Φ)(fr:κ)(cs:List κ):Ω:=G ((base 132).at ⟨tm,[]⟩ Us) (fr::cs)
section
variable (F:Nat)(dv:Φ)(side M1 M2 it it2:Nat)(path s s2:Ξ)(b2:Bool)(B9:Nat)(fr:κ)(cs:List κ)(y:Nat->Φ)
theorem Xg:∃tm,HL2 F dv side M1 M2 it2 tm/\au PP false (resume (ZX F dv side M1 M2 it fr cs y) (pb it2)) (gL2 tm fr cs):=⟨(O (resume (ZX F dv side M1 M2 it fr cs y) (pb it2))).frame.tmps,⟨by kernel_rfl,by kernel_rfl,by kernel_rfl,by kernel_rfl,by kernel_rfl,by kernel_rfl,by kernel_rfl⟩,aR 200 (bT PP false 200 (resume (ZX F dv side M1 M2 it fr cs y) (pb it2))) λws=>by kernel_rfl⟩
abbrev l2:Ω:=gL2 (aaV F dv side M1 M2 it y) fr cs
theorem acF:aT (l2 F dv side M1 M2 it fr cs y)=some (.next (pb it) false (nxT (l2 0 default 0 0 0 0 default [] λ_=>undef))):=by kernel_rfl
theorem QT:au PP false (resume (l2 F dv side M1 M2 it fr cs y) (.tuple #[.bool false])) (cG fr cs U):=aR 7 (bT PP false 7 (resume (l2 F dv side M1 M2 it fr cs y) (.tuple #[.bool false]))) λws=>by kernel_rfl
def l2a:Ω:=O (resume (l2 F dv side M1 M2 it fr cs y) (.tuple #[.bool true,.string path,hv true s]))
theorem QU:au PP false (resume (l2 F dv side M1 M2 it fr cs y) (.tuple #[.bool true,.string path,hv true s])) (l2a F dv side M1 M2 it path s fr cs y):=aK λws=>by kernel_rfl
theorem Xd:aT (l2a F dv side M1 M2 it path s fr cs y)=some (.entry (pb it)):=by kernel_rfl
def Xb:Ω:=O (resume (l2a F dv side M1 M2 it path s fr cs y) (.tuple #[.string path,hv true s]))
theorem Xc:au PP false (resume (l2a F dv side M1 M2 it path s fr cs y) (.tuple #[.string path,hv true s])) (Xb F dv side M1 M2 it path s fr cs y):=aK λws=>by kernel_rfl
theorem Xa:aT (Xb F dv side M1 M2 it path s fr cs y)=some (.lookup TC (.map (some M1)) (.string path) false):=by kernel_rfl
theorem QS:∃tm,HL2 F dv side M1 M2 it tm/\au PP false (resume (Xb F dv side M1 M2 it path s fr cs y) (hv true s2)) (gL2 tm fr cs):=⟨(O (resume (Xb F dv side M1 M2 it path s fr cs y) (hv true s2))).frame.tmps,⟨by kernel_rfl,by kernel_rfl,by kernel_rfl,by kernel_rfl,by kernel_rfl,by kernel_rfl,by kernel_rfl⟩,aR 200 (bT PP false 200 (resume (Xb F dv side M1 M2 it path s fr cs y) (hv true s2))) λws=>by kernel_rfl⟩
def l2c:Ω:=O (resume (Xb F dv side M1 M2 it path s fr cs y) (hv false s2))
theorem W9:au PP false (resume (Xb F dv side M1 M2 it path s fr cs y) (hv false s2)) (l2c F dv side M1 M2 it path s s2 fr cs y):=aK λws=>by kernel_rfl
theorem W8:aT (l2c F dv side M1 M2 it path s s2 fr cs y)=some (.build TH #[]):=by kernel_rfl
def l2F:κ:=(On 1 (resume (l2c F dv side M1 M2 it path s s2 fr cs y) (hv false ⟨#[]⟩))).callers.head?.getD default
theorem W7:au PP false (resume (l2c F dv side M1 M2 it path s s2 fr cs y) (hv false ⟨#[]⟩)) (gP0 F side path false ⟨#[]⟩ (l2F F dv side M1 M2 it path s s2 fr cs y) (fr::cs)):=aR 1 (bT PP false 1 (resume (l2c F dv side M1 M2 it path s s2 fr cs y) (hv false ⟨#[]⟩))) λws=>by kernel_rfl
theorem Xe:∃tm,HL2 F dv side M1 M2 it tm/\au PP false (cG (l2F F dv side M1 M2 it path s s2 fr cs y) (fr::cs) U) (gL2 tm fr cs):=⟨(O (cG (l2F F dv side M1 M2 it path s s2 fr cs y) (fr::cs) U)).frame.tmps,⟨by kernel_rfl,by kernel_rfl,by kernel_rfl,by kernel_rfl,by kernel_rfl,by kernel_rfl,by kernel_rfl⟩,aR 200 (bT PP false 200 (cG (l2F F dv side M1 M2 it path s s2 fr cs y) (fr::cs) U)) λws=>by kernel_rfl⟩
end
section
variable {X:Cx iJ}{r:bg}{γ:Gh iJ}{w w':Θ}
structure Now (X:Cx iJ)(r:bg)(γ:Gh iJ)(w:Θ):Prop where
 spot:zr X r γ
 low:∀b,γ.own b\/γ.ro b->b<w.heap.size
 ml:X.M<w.heap.size
 live:∃s,ShAt X w s
theorem Now.rely (h:Now X r γ w)(hr:RR X γ w w'):Now X r γ w':=
 ⟨h.spot,λb hb=>ψ (h.low b hb) hr.size,ψ h.ml hr.size,hr.live h.live⟩
theorem Now.grow (h:Now X r γ w)(hr:RR X γ w w'){own':Nat->Prop}{m d:iJ}(h1:∀b,own' b->γ.own b\/w.heap.size<=b)(h2:∀b,own' b->b<w'.heap.size):Now X r {γ with own:=own',mine:=m,other:=d} w':=by
 obtain⟨s,hs⟩:=h.live;have lf:=lt_of_some hs.1;have lw:=lt_of_some hs.2;have lm:=h.ml;refine⟨⟨h.spot.dat,h.spot.role,⟨h.spot.room.ne,λb hb=>?_⟩,λhb=>?_,h.spot.rm,h.spot.mf,h.spot.mw⟩,λb hb=>?_,ψ h.ml hr.size,hr.live h.live⟩
 .rcases hb with hb|hb
  .rcases h1 b hb with hb|hb
   .exact h.spot.room.off b (.inl hb)
   .exact⟨by omega,by omega⟩
  .exact h.spot.room.off b (.inr hb)
 .rcases h1 _ hb with hb|hb
  .exact h.spot.om hb
  .omega
 .rcases hb with hb|hb
  .exact h2 b hb
  .exact ψ (h.low b (.inr hb)) hr.size
end
theorem xu {Δ:Type}{X:Cx Δ}{ro own:Nat->Prop}{Stop:(Nat->Prop)->Ω->Θ->Prop}{w:Θ}{g:Ω}{it m c:Nat}{seen:Array Nat}{es:Array af5}{f:Ξ->Option Φ}{ty:η}
  (h:aT g=some (.next (pb it) false ty)) (oi:own it) (om:own m) (hX:it≠X.Fd/\it≠X.Wg) (hro:¬ro it) (hit:w.heap[it]? =some (.mapIter (some m) c seen c)) (hmw:w.heap[m]? =some (.map es c)) (hm:dk es c f)
  (over:leftOf es seen=#[]->∀w',RX X ro own w w'->aD PP false (fq X false ro) Stop own (resume g (.tuple #[.bool false])) w')
  (more:∀e∈leftOf es seen,∀w',RX X ro (λb=>own b/\b≠it) w w'->w'.heap[it]? =some (.mapIter (some m) c (seen.push e.born) c)->aD PP false (fq X false ro) Stop own (resume g (.tuple #[.bool true,e.key,e.val])) w'):
  aD PP false (fq X false ro) Stop own g w:=by
 refine aD.step (cY h).1 λw1 h1=>?_
 rcases GX (w:=w1) (ty:=ty) (aW h1 (.inl oi) hit) (aW h1 (.inl om) hmw) hm with⟨hl,w',ev,rt,a1,a2,a3,a4,a5⟩|⟨e,he,w',ev,rt,u,a5⟩
 .obtain⟨es',e1,e2⟩:=fA (main:=false) h rt
  have hup:(fq X false ro).up own w1 w'=own:=by
   funext b
   exact propext ⟨λh=>h.elim id λz=>by rw[a4] at z;omega,.inl⟩
  refine⟨_,w',es',e1,⟨a1,a2,by rw[a4];exact φ _,by rw[a3];exact .refl _,λb _ _=>by rw[a4],λx hx=>?_,λh=>absurd h (by simp)⟩,?_⟩
  .rcases(a5 x (e2 x hx)).1 with q|q
   .exact ri (.inl oi) q
   .exact ri (.inl om) q
  .rw[hup]
   exact over hl w' (h1.trans X ⟨a1,a2,by rw[a4];exact φ _,by rw[a3];exact .refl _,λb _ _=>by rw[a4],λ⟨s,hs⟩=>⟨s,by rw[ShAt,a4];exact hs⟩⟩)
 .obtain⟨es',e1,e2⟩:=fA (main:=false) h rt
  have hup:(fq X false ro).up own w1 w'=own:=by
   funext b
   exact propext ⟨λh=>h.elim id λz=>by rw[u.size] at z;omega,.inl⟩
  refine⟨_,w',es',e1,⟨u.tape,u.output,ah1 u.size.symm,by rw[u.os];exact .refl _,λb _ hb=>u.rest b λq=>hb (q▸oi),λx hx=>?_,λh=>absurd h (by simp)⟩,?_⟩
  .rcases a5 x (e2 x hx) with q|q
   .exact ri (.inl oi) q
   .exact ri (.inl om) q.1
  .rw[hup]
   refine more e he w' ?_ u.at_;refine⟨u.tape.trans h1.tape,u.output.trans h1.output,ae3 h1.size (ah1 u.size.symm),by rw[u.os];exact h1.os,λb hb ho=>?_,λl=>?_⟩
   .have hne:b≠it:=λq=>ho.elim (λh=>h.2 q) λh=>hro (q▸h)
    exact(u.rest b hne).trans (h1.keep b hb (ho.imp (·.1) id))
   .obtain⟨s,hs⟩:=h1.live l
    exact⟨s,(u.rest _ hX.1.symm).trans hs.1,(u.rest _ hX.2.symm).trans hs.2⟩
section
variable (gN gA:Ξ->Option Ξ)
open Classical in
def jQ:iJ:=λs=>if gN s=gA s then none else some (match gN s with|some c=>(true,c)|none=>(false,⟨#[]⟩))
def KH (V:Ξ->Prop)(mine:iJ):Prop:=∀s,(∃c,gN s=some c/\gA s≠some c/\V s/\mine s=some (true,c))\/((gN s=none\/gA s=gN s\/¬V s)/\mine s=none)
def O6 (V:Ξ->Prop)(mine:iJ):Prop:=∀s,(∃c,gN s=some c/\gA s≠some c/\mine s=some (true,c))\/(gN s=none/\gA s≠none/\V s/\mine s=some (false,⟨#[]⟩))\/((gA s=gN s\/(gN s=none/\¬V s))/\mine s=none)
variable {gN gA}{V V':Ξ->Prop}{mine:iJ}{path:Ξ}{c:Ξ}
theorem KH.start:KH gN gA (λ_=>False) λ_=>none:=λ_=> .inr ⟨.inr (.inr id),rfl⟩
theorem KH.put (h:KH gN gA V mine)(hV:∀s,V' s↔V s\/s=path)(h1:gN path=some c)(h2:gA path≠some c):KH gN gA V' (iF mine path (true,c)):=λs=>by
 by_cases hs:s=path
 .subst hs
  exact .inl ⟨c,h1,h2,(hV s).2 (.inr rfl),by simp[iF]⟩
 .have e:iF mine path (true,c) s=mine s:=by simp[iF,hs]
  rw[e];have hv:V' s↔V s:=(hV s).trans ⟨λh=>h.resolve_right hs,.inl⟩;rcases h s with⟨x,a1,a2,a3,a4⟩|⟨a1,a2⟩
  .exact .inl ⟨x,a1,a2,hv.2 a3,a4⟩
  .exact .inr ⟨a1.imp id λa=>a.imp id λa b=>a (hv.1 b),a2⟩
theorem KH.skip (h:KH gN gA V mine)(hV:∀s,V' s↔V s\/s=path)(h1:gA path=gN path):KH gN gA V' mine:=λs=>by
 rcases h s with⟨x,a1,a2,a3,a4⟩|⟨a1,a2⟩
 .exact .inl ⟨x,a1,a2,(hV s).2 (.inl a3),a4⟩
 .refine .inr ⟨?_,a2⟩
  by_cases hs:s=path
  .subst hs;exact .inr (.inl h1)
  .exact a1.imp id λa=>a.imp id λa b=>a (((hV s).1 b).resolve_right hs)
theorem KH.done (h:KH gN gA V mine)(hV:∀s,gN s≠none->V s):O6 gN gA (λ_=>False) mine:=λs=>by
 rcases h s with⟨x,a1,a2,a3,a4⟩|⟨a1,a2⟩
 .exact .inl ⟨x,a1,a2,a4⟩
 .refine .inr (.inr ⟨?_,a2⟩)
  rcases a1 with a1|a1|a1
  .exact .inr ⟨a1,id⟩
  .exact .inl a1
  .exact .inr ⟨ad9 λq=>a1 (hV s q),id⟩
theorem O6.put (h:O6 gN gA V mine)(hV:∀s,V' s↔V s\/s=path)(h1:gN path=none)(h2:gA path≠none):O6 gN gA V' (iF mine path (false,⟨#[]⟩)):=λs=>by
 by_cases hs:s=path
 .subst hs
  exact .inr (.inl ⟨h1,h2,(hV s).2 (.inr rfl),by simp[iF]⟩)
 .have e:iF mine path (false,⟨#[]⟩) s=mine s:=by simp[iF,hs]
  rw[e];have hv:V' s↔V s:=(hV s).trans ⟨λh=>h.resolve_right hs,.inl⟩;rcases h s with a|⟨a1,a2,a3,a4⟩|⟨a1,a2⟩
  .exact .inl a
  .exact .inr (.inl ⟨a1,a2,hv.2 a3,a4⟩)
  .exact .inr (.inr ⟨a1.imp id λa=>⟨a.1,λb=>a.2 (hv.1 b)⟩,a2⟩)
theorem O6.skip (h:O6 gN gA V mine)(hV:∀s,V' s↔V s\/s=path)(h1:gN path≠none):O6 gN gA V' mine:=λs=>by
 rcases h s with a|⟨a1,a2,a3,a4⟩|⟨a1,a2⟩
 .exact .inl a
 .exact .inr (.inl ⟨a1,a2,(hV s).2 (.inl a3),a4⟩)
 .refine .inr (.inr ⟨a1.imp id λa=>⟨a.1,λb=>?_⟩,a2⟩)
  rcases(hV s).1 b with b|b
  .exact a.2 b
  .subst b;exact h1 a.1
theorem O6.done (h:O6 gN gA V mine)(hV:∀s,gA s≠none->V s):mine=jQ gN gA:=by
 funext s
 unfold jQ;rcases h s with⟨x,a1,a2,a4⟩|⟨a1,a2,a3,a4⟩|⟨a1,a2⟩
 .rw[ζ (by rw[a1];exactλq=>a2 q.symm),a1,a4]
 .rw[ζ (by rw[a1];exactλq=>a2 q.symm),a1,a4]
 .by_cases q:gN s=gA s
  .rw[χ q,a2]
  .exfalso
   rcases a1 with a1|⟨a1,a3⟩
   .exact q a1.symm
   .exact a3 (hV s λz=>q (a1.trans z.symm))
end
section
open Go.MapKept
variable {es:Array af5}{c:Nat}{f:Ξ->Option Φ}{seen:Array Nat}{e:af5}{path:Ξ}
def BG (es:Array af5)(seen:Array Nat)(s:Ξ):Prop:=∃e∈es.toList,e.key= .string s/\e.born∈seen
theorem dk.Ku (h:dk es c f){x y:af5}(hx:x∈es.toList)(hy:y∈es.toList)(hk:x.born=y.born):x=y:=by
 have hp:=h.stamped.2.1;rw[List.Nodup,List.pairwise_map,List.pairwise_iff_getElem] at hp;obtain⟨i,hi,rfl⟩:=List.mem_iff_getElem.1 hx;obtain⟨j,hj,rfl⟩:=List.mem_iff_getElem.1 hy;rcases Nat.lt_trichotomy i j with hlt|rfl|hlt
 .exact absurd hk (hp i j hi hj hlt)
 .rfl
 .exact absurd hk.symm (hp j i hj hi hlt)
theorem vY (h:dk es c f)(he:e∈es.toList)(hk:e.key= .string path)(s:Ξ):BG es (seen.push e.born) s↔BG es seen s\/s=path:=by
 constructor
 .rintro⟨x,hx,h1,h2⟩
  rcases Array.mem_push.1 h2 with h2|h2
  .exact .inl ⟨x,hx,h1,h2⟩
  .have:=h.Ku hx he h2
   subst this;rw[hk] at h1;exact .inr (by simpa using h1.symm)
 .rintro(⟨x,hx,h1,h2⟩|rfl)
  .exact⟨x,hx,h1,Array.mem_push.2 (.inl h2)⟩
  .exact⟨e,he,hk,Array.mem_push.2 (.inr rfl)⟩
theorem Ar (s:Ξ):¬BG es #[] s:=λ⟨_,_,_,h⟩=>by simp at h
theorem As (h:dk es c f)(hl:leftOf es seen=#[]){s:Ξ}(hs:f s≠none):BG es seen s:=by
 obtain⟨v,hv⟩:=Option.ne_none_iff_exists'.1 hs;obtain⟨x,hx,h1,_⟩:=(h.has s v).1 hv;refine⟨x,hx,h1,?_⟩;refine ad9 λq=>?_
 have:x∈leftOf es seen:=Array.mem_filter.2 ⟨by simpa using hx,by simpa using q⟩;rw[hl] at this;simp at this
theorem xq (he:e∈leftOf es seen):e∈es.toList:=by simpa using(Array.mem_filter.1 he).1
theorem tL (he:e∈leftOf es seen):(leftOf es (seen.push e.born)).size<(leftOf es seen).size:=by
 have h1:(leftOf es (seen.push e.born)).toList=(leftOf es seen).toList.filter λx=>!(x.born==e.born):=by
  unfold leftOf;rw[Array.toList_filter,Array.toList_filter,List.filter_filter]
  congr 1
  funext x
  rw[Array.contains_push];cases seen.contains x.born<;>cases (x.born==e.born)<;>rfl
 rw[<-Array.length_toList,<-Array.length_toList,h1];refine List.length_filter_lt_length_iff_exists.2 ⟨e,by simpa using he,by simp⟩
end
section
variable {X:Cx iJ}{r:bg}{ro O0:Nat->Prop}{w0:Θ}{gN gA:Ξ->Option Ξ}{es1 es2:Array af5}{c1 c2 M1 M2:Nat}{fr:κ}{cs:List κ}{dv:Φ}
def uI (g:Ξ->Option Ξ):Ξ->Option Φ:=λs=>(g s).map (hv true)
structure Two (X:Cx iJ)(r:bg)(ro O0:Nat->Prop)(w0:Θ)(gN gA:Ξ->Option Ξ)(es1 es2:Array af5)(c1 c2 M1 M2:Nat)(γ:Gh iJ)(w:Θ):Prop where
 now:Now X r γ w
 ZS:γ.ro=ro
 own:∀b,O0 b->γ.own b
 old:∀b,γ.own b->O0 b\/w0.heap.size<=b
 hr:RX X ro O0 w0 w
 o1:γ.own M1
 o2:γ.own M2
 w1:w.heap[M1]? =some (.map es1 c1)
 w2:w.heap[M2]? =some (.map es2 c2)
 i1:dk es1 c1 (uI gN)
 i2:dk es2 c2 (uI gA)
variable {γ:Gh iJ}{w w':Θ}
theorem Two.rely (h:Two X r ro O0 w0 gN gA es1 es2 c1 c2 M1 M2 γ w)(hr:RX X γ.ro γ.own w w'):Two X r ro O0 w0 gN gA es1 es2 c1 c2 M1 M2 γ w':=
 ⟨h.now.rely hr,h.ZS,h.own,h.old,h.hr.trans X (by rw[h.ZS] at hr;exact hr.sub h.own),h.o1,h.o2,aW hr (.inl h.o1) h.w1,aW hr (.inl h.o2) h.w2,h.i1,h.i2⟩
theorem Two.grow (h:Two X r ro O0 w0 gN gA es1 es2 c1 c2 M1 M2 γ w)(hr:RX X γ.ro γ.own w w'){own':Nat->Prop}{m d:iJ}(h0:∀b,γ.own b->own' b)(h1:∀b,own' b->γ.own b\/w.heap.size<=b)(h2:∀b,own' b->b<w'.heap.size):
  Two X r ro O0 w0 gN gA es1 es2 c1 c2 M1 M2 {γ with own:=own',mine:=m,other:=d} w':=by
 have k:=h.rely hr;refine⟨h.now.grow hr h1 h2,h.ZS,λb hb=>h0 b (h.own b hb),λb hb=>?_,k.hr,h0 _ h.o1,h0 _ h.o2,k.w1,k.w2,h.i1,h.i2⟩;rcases h1 b hb with hb|hb
 .exact h.old b hb
 .exact .inr (ae3 h.hr.size hb)
theorem Two.turn (h:Two X r ro O0 w0 gN gA es1 es2 c1 c2 M1 M2 γ w){it:Nat}(hr:RX X γ.ro (λb=>γ.own b/\b≠it) w w')(n1:it≠M1)(n2:it≠M2)(n0:¬O0 it):Two X r ro O0 w0 gN gA es1 es2 c1 c2 M1 M2 γ w':=by
 have k:Now X r γ w':=⟨h.now.spot,λb hb=>ψ (h.now.low b hb) hr.size,ψ h.now.ml hr.size,hr.live h.now.live⟩
 exact⟨k,h.ZS,h.own,h.old,h.hr.trans X (by rw[h.ZS] at hr;exact hr.sub λb hb=>⟨h.own b hb,λq=>n0 (q▸hb)⟩),h.o1,h.o2,aW hr (.inl ⟨h.o1,n1.symm⟩) h.w1,aW hr (.inl ⟨h.o2,n2.symm⟩) h.w2,h.i1,h.i2⟩
theorem Two.off (h:Two X r ro O0 w0 gN gA es1 es2 c1 c2 M1 M2 γ w){b:Nat}(hb:γ.own b):b≠X.Fd/\b≠X.Wg:=h.now.spot.room.off b (.inl hb)
def Done (X:Cx iJ)(r:bg)(ro O0:Nat->Prop)(w0:Θ)(fin:iJ)(fr:κ)(cs:List κ):Prop:=
 ∀k w' (γ:Gh iJ) n,Now X r γ w'->γ.ro=ro->(∀b,O0 b->γ.own b)->(∀b,γ.own b->O0 b\/w0.heap.size<=b)->RX X ro O0 w0 w'->γ.mine=fin->LW X r γ k (at_ .out n) (cG fr cs U) w'
theorem GJ:PP.underlying TC=some (.map 9 TH):=by kernel_rfl
theorem KP:(PP.info? TH).bind (·.zero)=some (hv false ⟨#[]⟩):=by kernel_rfl
theorem acx (hD:Done X r ro O0 w0 (jQ gN gA) fr cs)(L:Nat):∀(seen:Array Nat) (γ:Gh iJ) (w:Θ) (tm:Array Φ) (it n k:Nat),(leftOf es2 seen).size=L->L<=n->Two X r ro O0 w0 gN gA es1 es2 c1 c2 M1 M2 γ w->γ.own it->it≠M1->it≠M2->¬O0 it->¬γ.ro it->
  w.heap[it]? =some (.mapIter (some M2) c2 seen c2)->O6 gN gA (BG es2 seen) γ.mine->HL2 X.Fd dv (cg r) M1 M2 it tm->LW X r γ k (at_ .out n) (gL2 tm fr cs) w:=by
 induction L using Nat.strongRecOn with
 |_ L ih=>
 intro seen γ w tm it n k hL hn hT oi ne1 BO WG Mk hit hI hH;have hm:=hT.now.spot.worker;rw[hH.eq];refine xu (acF _ _ _ _ _ _ _ _ _) oi hT.o2 (hT.off oi) Mk hit hT.w2 hT.i2 (λhl w1 h1=>?_) (λe he w1 h1 y7=>?_)
 .refine aC (QT _ _ _ _ _ _ _ _ _) ?_
  have k1:=hT.rely h1;refine hD k w1 γ n k1.now hT.ZS hT.own hT.old k1.hr (hI.done λs hs=>As hT.i2 hl (by simpa [uI] using hs))
 .have hmem:=xq he
  obtain⟨path,hk⟩:=iG (hT.i2.keys e hmem);have hval:=(hT.i2.has path e.val).2 ⟨e,hmem,hk,rfl⟩;obtain⟨s,hs,hev⟩:=τ.1 hval;have hless:=tL he;have hV:=λs=>vY (seen:=seen) hT.i2 hmem hk s
  rw[hk,<-hev];have T1:=hT.turn h1 ne1 BO WG;clear h1;refine aC (QU _ _ _ _ _ _ _ _ _ _ _) ?_;refine de (Xd _ _ _ _ _ _ _ _ _ _ _) (x:= .tuple #[.string path,hv true s]) (λw2 h2=>?_) λw2 h2=>?_
  .have:=wN (aW h2 (.inl oi) y7) (T1.rely h2).w2 hT.i2 hmem
   rw[hk,<-hev] at this;exact⟨w2,_,this,rfl,rfl,rfl,rfl,λx hx=>by
    simp at hx;rcases hx with rfl|rfl
    .exact⟨it,dU,.inl oi⟩
    .exact⟨M2,dU,.inl hT.o2⟩⟩
  have T2:=T1.rely h2;have hit2:=aW h2 (.inl oi) y7;refine aC (Xc _ _ _ _ _ _ _ _ _ _ _) ?_;refine de (Xa _ _ _ _ _ _ _ _ _ _ _) (x:=(uI gN path).getD (hv false ⟨#[]⟩)) (λw3 h3=>?_) λw3 h3=>?_
  .exact⟨w3,_,pN (t:=TC) GJ K3 KP (T2.rely h3).w1 hT.i1,rfl,rfl,rfl,rfl,λx hx=>by
    simp at hx;subst hx;exact⟨M1,dU,.inl hT.o1⟩⟩
  have T3:=T2.rely h3;have hit3:=aW h3 (.inl oi) hit2;clear h2 h3 y7 hit2 T1 T2;have hLe:(leftOf es2 (seen.push e.born)).size<L:=hL▸hless;have hA:gA path≠none:=by rw[hs];simp
  cases hN:gN path with
  |some s2=>
   have ex:(uI gN path).getD (hv false ⟨#[]⟩)=hv true s2:=by simp[uI,hN]
   rw[ex];obtain⟨tm',JN,hg⟩:=QS X.Fd dv (cg r) M1 M2 it path s s2 fr cs λi=>tm.getD i undef
   exact aC hg (ih _ hLe (seen.push e.born) γ w3 tm' it n k rfl (by omega) T3 oi ne1 BO WG Mk hit3 (hI.skip hV (by rw[hN];simp)) JN)
  |none=>
   have ex:(uI gN path).getD (hv false ⟨#[]⟩)=hv false ⟨#[]⟩:=by simp[uI,hN]
   rw[ex];refine aC (W9 _ _ _ _ _ _ _ _ _ _ _ _) ?_;refine de (W8 _ _ _ _ _ _ _ _ _ _ _ _) (x:=hv false ⟨#[]⟩) (λw4 h4=>⟨w4,#[],.of0 λes=>by kernel_rfl,rfl,rfl,rfl,rfl,by simp⟩) λw4 h4=>?_
   have T4:=T3.rely h4;have Ra:=aW h4 (.inl oi) hit3;refine aC (W7 _ _ _ _ _ _ _ _ _ _ _ _) ?_;obtain⟨n',rfl⟩:∃n',n=n'+1:=⟨n-1,by omega⟩
   refine C8 T4.now.spot T4.now.low T4.now.ml T4.now.live (λk' w5 own' d a1 a2 a4 a3=>?_) k;obtain⟨tm',JN,hg⟩:=Xe X.Fd dv (cg r) M1 M2 it path s ⟨#[]⟩ fr cs λi=>tm.getD i undef
   exact aC hg (ih _ hLe (seen.push e.born) {γ with own:=own',mine:=iF γ.mine path (false,⟨#[]⟩),other:=d} w5 tm' it n' k' rfl (by omega) (T4.grow a3 a1 a2 a4) (a1 _ oi) ne1 BO WG Mk (aW a3 (.inl oi) Ra) (hI.put hV hN hA) JN)
theorem Two.more (h:Two X r ro O0 w0 gN gA es1 es2 c1 c2 M1 M2 γ w){B:Nat}{o:Obj}(hr:RX X γ.ro γ.own w w')(hB:w.heap.size<=B)(hw:w'.heap[B]? =some o):Two X r ro O0 w0 gN gA es1 es2 c1 c2 M1 M2 {γ with own:=λb=>γ.own b\/b=B} w':=
 h.grow hr (m:=γ.mine) (d:=γ.other) (λb hb=> .inl hb) (λb hb=>Or.imp id (λe:b=B=>by rw[e];exact hB) hb) (λb hb=>by
  rcases hb with hb|rfl
  .exact ψ (h.now.low b (.inl hb)) hr.size
  .exact lt_of_some hw)
theorem Two.fresh (h:Two X r ro O0 w0 gN gA es1 es2 c1 c2 M1 M2 γ w){B:Nat}(hB:w.heap.size<=B):B≠M1/\B≠M2/\¬γ.own B/\¬γ.ro B/\(B≠X.Fd/\B≠X.Wg)/\(w0.heap.size<=w.heap.size):=by
 obtain⟨s,hs⟩:=h.now.live;exact⟨λe=>by have:=lt_of_some h.w1;omega,λe=>by have:=lt_of_some h.w2;omega,λe=>by have:=h.now.low B (.inl e);omega,λe=>by have:=h.now.low B (.inr e);omega,⟨λe=>by have:=lt_of_some hs.1;omega,λe=>by have:=lt_of_some hs.2;omega⟩,h.hr.size⟩
theorem acy (Tz:∀b,O0 b->b<w0.heap.size)(hD:Done X r ro O0 w0 (jQ gN gA) fr cs)(L:Nat):∀(seen:Array Nat) (γ:Gh iJ) (w:Θ) (tm:Array Φ) (it n k:Nat),(leftOf es1 seen).size=L->L+es2.size<=n->Two X r ro O0 w0 gN gA es1 es2 c1 c2 M1 M2 γ w->γ.own it->it≠M1->it≠M2->¬O0 it->¬γ.ro it->
  w.heap[it]? =some (.mapIter (some M1) c1 seen c1)->KH gN gA (BG es1 seen) γ.mine->SG X.Fd dv (cg r) M1 M2 it tm->LW X r γ k (at_ .out n) (gL1 tm fr cs) w:=by
 induction L using Nat.strongRecOn with
 |_ L ih=>
 intro seen γ w tm it n k hL hn hT oi ne1 BO WG Mk hit hI hH;have hm:=hT.now.spot.worker;rw[hH.eq];refine xu (acH _ _ _ _ _ _ _ _ _) oi hT.o1 (hT.off oi) Mk hit hT.w1 hT.i1 (λhl w1 h1=>?_) (λe he w1 h1 y7=>?_)
 .refine aC (QW _ _ _ _ _ _ _ _ _) ?_
  have T1:=hT.rely h1;refine gS (f:=λb=>pb b) (Xf _ _ _ _ _ _ _ _ _) (λw2 h2=>⟨_,wK GJ (T1.rely h2).w2,λx hx=>by simp at hx;subst hx;exact⟨M2,dU,.inl hT.o2⟩⟩) λw2 B h2 hB hw2=>?_
  obtain⟨f1,f2,f3,f4,f5,f6⟩:=T1.fresh hB;have T2:=T1.more h2 hB hw2;obtain⟨tm',JN,hg⟩:=Xg X.Fd dv (cg r) M1 M2 it B fr cs λi=>tm.getD i undef
  have hl2:(leftOf es2 #[]).size=es2.size:=by
   have:leftOf es2 #[]=es2:=by unfold leftOf;rw[Array.filter_eq_self];simp
   rw[this]
  have e2:BG es2 #[]=λ_=>False:=funext λs=>propext ⟨Ar s,False.elim⟩
  exact aC hg (acx hD _ #[] {γ with own:=λb=>γ.own b\/b=B} w2 tm' B n k rfl (by rw[hl2];omega) T2 (.inr rfl) f1 f2 (λq=>by have:=Tz B q;omega) f4 hw2 (by
   rw[e2];exact hI.done λs hs=>As hT.i1 hl (by simpa [uI] using hs)) JN)
 .have hmem:=xq he
  obtain⟨path,hk⟩:=iG (hT.i1.keys e hmem);have hval:=(hT.i1.has path e.val).2 ⟨e,hmem,hk,rfl⟩;obtain⟨s,hs,hev⟩:=τ.1 hval;have hless:=tL he;have hV:=λs=>vY (seen:=seen) hT.i1 hmem hk s
  rw[hk,<-hev];have T1:=hT.turn h1 ne1 BO WG;clear h1;refine aC (QX _ _ _ _ _ _ _ _ _ _ _) ?_;refine de (Xv _ _ _ _ _ _ _ _ _ _ _) (x:= .tuple #[.string path,hv true s]) (λw2 h2=>?_) λw2 h2=>?_
  .have:=wN (aW h2 (.inl oi) y7) (T1.rely h2).w1 hT.i1 hmem
   rw[hk,<-hev] at this;exact⟨w2,_,this,rfl,rfl,rfl,rfl,λx hx=>by
    simp at hx;rcases hx with rfl|rfl
    .exact⟨it,dU,.inl oi⟩
    .exact⟨M1,dU,.inl hT.o1⟩⟩
  have T2:=T1.rely h2;have hit2:=aW h2 (.inl oi) y7;refine aC (Xu _ _ _ _ _ _ _ _ _ _ _) ?_;refine gS (f:=λb=>pb b) (Xt _ _ _ _ _ _ _ _ _ _ _) (λw3 h3=>⟨#[],mH KP,by simp⟩) λw3 B9 h3 hB9 w93=>?_
  obtain⟨f1,f2,f3,f4,f5,f6⟩:=T2.fresh hB9;have n9i:B9≠it:=λq=>f3 (q▸oi)
  have T3:=T2.more h3 hB9 w93;have hit3:w3.heap[it]? =_:=aW h3 (.inl oi) hit2;have alj:=T2.hr.size;clear h2 h3 y7 hit2 T1 T2;have o9:(λb=>γ.own b\/b=B9) B9:= .inr rfl;refine aC (Xs _ _ _ _ _ _ _ _ B9 _ _ _) ?_
  refine jt (b:=B9) (A:=λo x=>x=undef/\o= .cells #[.bool true,.string s] TH (0,0)) o9 f5 (Xq _ _ _ _ _ _ _ _ _ _ _ _) (λw4 h4=>?_) (λw4 o x _ w94 ha h4=>?_) f4
  .obtain⟨w',ev,r1,r2,r3⟩:=fZ (t:=TH) (off:=0) (v:=hv true s) (aW h4 (.inl o9) w93) Hh (by simp[hv,Value.cells]) (by simp[hv,Value.cells,lz])
   exact⟨undef,_,w',ev,.inr ⟨r1,rfl⟩,r2,⟨rfl,rfl⟩,λe he=>⟨B9,r3 e he,.inl o9⟩⟩
  obtain⟨rfl,rfl⟩:=ha;have T4:=T3.turn h4 f1 f2 (λq=>by have:=Tz B9 q;omega);have Ra:=aW h4 (.inl ⟨.inl oi,n9i.symm⟩) hit3;clear h4 T3 hit3 w93;refine aC (Xr _ _ _ _ _ _ _ _ _ _ _ _) ?_
  have ld:∀{w5 w6:Θ},w5.heap[B9]? =some (.cells #[.bool true,.string s] TH (0,0))->RX X γ.ro (λb=>γ.own b\/b=B9) w5 w6->∃w' ev,RT (lu.load TH (pb B9)).sem w6 (.value (hv true s)) w' ev/\w'.tape=w6.tape/\w'.output=w6.output/\w'.os=w6.os/\w'.heap=w6.heap/\∀e∈ev,∃b,EvB b e/\((γ.own b\/b=B9)\/(γ.ro b/\e.write=false)):=by
   intro w5 w6 a b;obtain⟨ev,r1,r2⟩:=jL (t:=TH) (off:=0) (n:=2) (aW b (.inl o9) a) aeJ Hh (by simp);exact⟨w6,ev,r1,rfl,rfl,rfl,rfl,λe he=>⟨B9,(r2 e he).1,.inl o9⟩⟩
  refine de (Xo _ _ _ _ _ _ _ _ _ _ _ _) (x:=hv true s) (λw5 h5=>ld w94 h5) λw5 h5=>?_
  have T5:=T4.rely h5;have adc:=aW h5 (.inl (.inl oi)) Ra;have w95:=aW h5 (.inl o9) w94;clear h5 T4 Ra w94;refine aC (Xp _ _ _ _ _ _ _ _ _ _ _ _) ?_;have hx:∃b2 s2,(uI gA path).getD (hv false ⟨#[]⟩)=hv b2 s2/\((true==b2&&s==s2)=true↔gA path=some s):=by
   cases hA:gA path with
   |none=>exact⟨false,⟨#[]⟩,by simp[uI,hA],by simp⟩
   |some s2=>exact⟨true,s2,by simp[uI,hA],by
     simp only[beq_self_eq_true,Bool.true_and,Go.MapKept.bytes_beq,ae9];exact eq_comm⟩
  obtain⟨b2,s2,hx1,hx2⟩:=hx;refine de (Xm _ _ _ _ _ _ _ _ _ _ _ _) (x:=hv b2 s2) (λw6 h6=>?_) λw6 h6=>?_
  .have:=pN (t:=TC) (s:=path) GJ K3 KP (T5.rely h6).w2 hT.i2
   rw[hx1] at this;exact⟨w6,_,this,rfl,rfl,rfl,rfl,λx hx=>by
    simp at hx;subst hx;exact⟨M2,dU,.inl (.inl hT.o2)⟩⟩
  have T6:=T5.rely h6;have adb:=aW h6 (.inl (.inl oi)) adc;have w96:=aW h6 (.inl o9) w95;clear h6 T5 adc w95;refine aC (Xn _ _ _ _ _ _ _ _ _ _ _ _ _ _) ?_;refine de (Xk _ _ _ _ _ _ _ _ _ _ _ _ _ _) (x:= .bool (!(true==b2&&s==s2))) (λw7 h7=>⟨w7,#[],GY _ _ _ _,rfl,rfl,rfl,rfl,by simp⟩) λw7 h7=>?_
  have T7:=T6.rely h7;have ada:=aW h7 (.inl (.inl oi)) adb;have w97:=aW h7 (.inl o9) w96;clear h7 T6 adb w96;have hLe:(leftOf es1 (seen.push e.born)).size<L:=hL▸hless
  by_cases heq:(true==b2&&s==s2)=true
  .rw[heq]
   obtain⟨tm',JN,hg⟩:=Xj X.Fd dv (cg r) M1 M2 it path s s2 b2 B9 fr cs λi=>tm.getD i undef
   exact aC hg (ih _ hLe (seen.push e.born) {γ with own:=λb=>γ.own b\/b=B9} w7 tm' it n k rfl (by omega) T7 (.inl oi) ne1 BO WG Mk ada (hI.skip hV (by rw[hx2.1 heq,hs])) JN)
  .have heq':(true==b2&&s==s2)=false:=by simpa using heq
   rw[heq'];refine aC (QV _ _ _ _ _ _ _ _ _ _ _ _ _ _) ?_;refine de (Xh _ _ _ _ _ _ _ _ _ _ _ _ _ _) (x:=hv true s) (λw8 h8=>ld w97 h8) λw8 h8=>?_
   have T8:=T7.rely h8;have ahO:=aW h8 (.inl (.inl oi)) ada;refine aC (Xi _ _ _ _ _ _ _ _ _ _ _ _ _ _) ?_;obtain⟨n',rfl⟩:∃n',n=n'+1:=⟨n-1,by omega⟩
   refine C8 (γ:={γ with own:=λb=>γ.own b\/b=B9}) T8.now.spot T8.now.low T8.now.ml T8.now.live (λk' w9 own' d a1 a2 a4 a3=>?_) k;obtain⟨tm',JN,hg⟩:=Xw X.Fd dv (cg r) M1 M2 it path s s2 b2 B9 fr cs λi=>tm.getD i undef
   exact aC hg (ih _ hLe (seen.push e.born) {γ with own:=own',mine:=iF γ.mine path (true,s),other:=d} w9 tm' it n' k' rfl (by omega) (T8.grow a3 a1 a2 a4) (a1 _ (.inl oi)) ne1 BO WG Mk (aW a3 (.inl (.inl oi)) ahO) (hI.put hV hs λq=>heq (hx2.2 q)) JN)
end
end aG
end
section
open Go.RowKit Go.Lib
def qE (set:Int)(fs:List cH):Ξ->Option Ξ:=fs.foldl (λg f=>if(f.set:Int)=set then λs=>if s=aB f.path then some (aB f.content) else g s else g) λ_=>none
theorem Nd (set:Int)(fs:List cH)(k:Nat)(hk:k<fs.length):qE set (fs.take (k+1))=if(fs[k].set:Int)=set then λs=>if s=aB fs[k].path then some (aB fs[k].content) else qE set (fs.take k) s else qE set (fs.take k):=by
 unfold qE;rw[ac0 hk,List.foldl_append];rfl
theorem Q5 (g:Ξ->Option Ξ)(p c:Ξ):aG.uI (λs=>if s=p then some c else g s)=λs=>if s=p then some (aG.hv true c) else aG.uI g s:=by
 funext s
 unfold aG.uI
 by_cases h:s=p
 .simp[h]
 .simp[h]
theorem Uj:Tryz.prog.underlying 251=some (.map 9 161):=by kernel_rfl
theorem agB:Tryz.prog.underlying 9=some .string:=by kernel_rfl
section
variable {P:ω}{ops:Array Oper}{Q:Exit->Act->Θ->Prop}{o:Oper}{rest:List Oper}{a:Act}{w:Θ}
theorem Ax {t:η}(_:o.op= .makeMap t none)(h:ai (wpList P ops Q (o::rest) a w)):wpList P ops Q (o::rest) a w:=h
theorem wj {t:η}{x y z:aa8}(_:o.op= .mapUpdate t x y z)(h:ai (wpList P ops Q (o::rest) a w)):wpList P ops Q (o::rest) a w:=h
end
theorem ED {P:ω}{ops:Array Oper}{Q:Exit->Act->Θ->Prop}{a:Act}{w:Θ}{rest:List Oper}{o:Oper}(hg:o.guard=none)(t:η)(ho:o.op= .makeMap t none)
  (h:∀w' b,w.heap.size<=b->aO [] w w'->w'.heap[b]? =some (.map #[] 0)->wpList P ops Q rest (a.put o.dst (.map (some b))) w'):wpList P ops Q (o::rest) a w:=by
 refine bN hg (.map (some w.heap.size)) (w.alloc (.map #[] 0)) (by unfold execOp;rw[ho];rfl) (h _ _ (φ _) (aO.alloc _ _ _) ?_);show(w.heap.push _)[w.heap.size]? =_;simp
theorem aO.upd {m:Nat}{o:Obj}{w w':Θ}(h:aG.zq m o w w'):aO [m] w w':=⟨h.os,h.tape,h.output,by rw[h.size];exact φ _,λk _ hk=>h.rest k (by simpa using hk)⟩
theorem Aq {ops:Array Oper}{Q:Exit->Act->Θ->Prop}{a:Act}{w:Θ}{rest:List Oper}{o:Oper}(hg:o.guard=none)(x y z:aa8)(ho:o.op= .mapUpdate 251 x y z){m:Nat}{p:Ξ}{v:Φ}
  (hx:a.eval x= .map (some m)) (hy:a.eval y= .string p) (hz:a.eval z=v) {es:Array af5} {c:Nat} {f:Ξ->Option Φ} (hm:w.heap[m]? =some (.map es c)) (hf:aG.dk es c f)
  (h:∀w' es' c',aO [m] w w'->w'.heap[m]? =some (.map es' c')->aG.dk es' c' (λs=>if s=p then some v else f s)->es'.size<=es.size+1->wpList Tryz.prog ops Q rest (a.put o.dst undef) w'):wpList Tryz.prog ops Q (o::rest) a w:=by
 obtain⟨es',c',w',ev,h1,h2,_,h3,h4⟩:=aG.qr (v:=v) Uj agB hm hf;refine Ao hg w' ?_ (h w' es' c' (aO.upd h2) h2.at_ h4 h3);have:=h1.run;unfold execOp;rw[ho];dsimp only;rw[hx,hy,hz];exact this
def x7 (set:Int)(x:DS)(n:Nat)(w:Θ)(e:Ending)(w':Θ):Prop:=∃m es c,e= .returned (.map (some m))/\w.heap.size<=m/\w'.heap[m]? =some (.map es c)/\aG.dk es c (aG.uI (qE set (aM x n)))/\es.size<=54/\aO [] w w'
theorem zi {D:Θ->Prop}{d n:Nat}{x:DS}(R:O4 D d n x)(set:Int)(w:Θ)(h:D w):
  ∃cd,Tryz.f166.body=some cd/\cd.wp Tryz.prog (bodyPost Tryz.prog Tryz.f166 (x7 set x n w)) {tmps:=#[.pointer (some ⟨d,0,none⟩),.int .i64 set]++Array.replicate (Tryz.f166.ntmps-(#[.pointer (some ⟨d,0,none⟩),.int .i64 set]:Array Φ).size) undef,defers:=[]} w:=by
 refine⟨_,rfl,?_⟩;simp only[Tryz.ntmps166,aa7,List.length_cons,List.length_nil,Nat.reduceAdd,Nat.reduceSub,Array.replicate_succ,
   Array.replicate_zero,List.push_toArray,List.append_toArray,List.nil_append,List.cons_append]
 have hfl:(aM x n).length<=54:=by unfold aM;rw[ag0];exact eR x n
 have hfp:Hid (∀f∈aM x n,f.set<256):=λf hf=>by
  unfold aM at hf;rw[ae0] at hf;obtain⟨i,_,rfl⟩:=hf;exact tB _
 go_wp2_with (with_reducible first|refine Ax rfl ?_);refine ai.go (ED rfl 251 rfl ?_);intro w1 m l1 f1 r1;go_wp2_with fail;have h1:=R.new h f1 (by simp);refine(OE R w1 h1).mono ?_;rintro e w2 ⟨v,rfl,hv,f2⟩;have r2:w2.heap[m]? =some (.map #[] 0):=by rw[f2.block m (Ψ.1 r1).1 (by simp)];exact r1
 have f12:=f1.trans f2;have ml1:m<w1.heap.size:=(Ψ.1 r1).1;have uI:∀k∈[m],v.ownBlock≠some k:=λk hk e=>by
  simp only[ad2] at hk;subst hk;have:=(hv.lt _ e).1;omega
 clear f1 f2 r1 h1;generalize hfs:aM x n=fs at*;have HF:Hid (aM x n=fs):=hfs;clear hfs;obtain⟨ad,cap,hv'⟩:=bM hv;subst hv';have uI:Hid (∀k∈[m],(Value.slice ad fs.length cap).ownBlock≠some k):=uI;have ml:m<w2.heap.size:=(Ψ.1 r2).1;go_wp2_with fail
 go_loopw [12] (λc wr=>∃(k:Nat) (es:Array af5) (cn:Nat),c= .int .i64 k/\k<=fs.length/\aO [m] w2 wr/\wr.heap[m]? =some (.map es cn)/\Hid (aG.dk es cn (aG.uI (qE set (fs.take k)))/\es.size<=k)) (λc _=>fs.length-(intOf c).toNat)
 case atStart=>exact⟨0,#[],0,rfl,by omega,aO.refl _ _,r2,aG.dk.empty 0,by simp⟩
 case round=>
  obtain⟨k,es,cn,rfl,hk,fk,rm,HM⟩:=hrel;clear r2;have hvk:=fk.owns hv uI.out
  by_cases hlt:k<fs.length
  .obtain⟨g,cur,rfl,hg,hle,_,hcs,htk⟩:=dL hvk
   have hat:((cur.toList.drop (k*3)).take 3)=bR fs[k].set fs[k].path fs[k].content:=by
    rw[bX htk _ _,sG fs k hlt]
   have hT:=Nd set fs k hlt;have hfk:=hfp.out fs[k] (af4 hlt);generalize fs[k]=f at hat hT hfk;have HT:Hid (qE set (fs.take (k+1))=if(f.set:Int)=set then λs=>if s=aB f.path then some (aB f.content) else qE set (fs.take k) s else qE set (fs.take k)):=hT;clear hT hcs htk
   go_wp2_with (with_reducible first|refine ax 107 rfl ?_|refine ay rfl ?_|refine ah 107 rfl ?_);refine ai.go (bV rfl 107 _ rfl g (k*3) rfl jM 3 d8 _ _ hg (bR f.set f.path f.content) hat rfl ?_);clear hat hg;go_wp2_with (with_reducible first|refine ay rfl ?_|refine ah 107 rfl ?_)
   refine ai.go (bh rfl 107 rfl vU ky ?_);intro w4 b5 l5 f4 r5;have ne5:b5≠m:=by have:=fk.size;omega
   have rm4:w4.heap[m]? =some (.map es cn):=by rw[f4.block m (Ψ.1 rm).1 (by simp)];exact rm
   go_wp2_with (with_reducible first|refine ay rfl ?_|refine ah 107 rfl ?_);refine ai.go (bP rfl 107 _ _ rfl _ 0 rfl _ rfl 3 d8 ?_ ?_ _ _ r5 ?_ ?_)
   .rfl
   .simp[bR,Value.oneCell']
   .decide
   intro w5 f5 q5;rw[bG _ _ (by rfl)] at q5;have kE:Row w5 b5 (bR f.set f.path f.content).toArray 107:=q5;have rm5:w5.heap[m]? =some (.map es cn):=by rw[f5.block m (Ψ.1 rm4).1 (by simpa using ne5.symm)];exact rm4
   have f45:=f4.trans f5 (by simpa using l5);have jT:=fk.trans f45;have c0:w5.cell? ⟨b5,0,none⟩=some (.int .i64 f.set):=by rw[kE.cell];rfl
   have c1:w5.cell? ⟨b5,1,none⟩=some (.string (aB f.path)):=by rw[kE.cell];rfl
   have c2:w5.cell? ⟨b5,2,none⟩=some (.string (aB f.content)):=by rw[kE.cell];rfl
   clear q5 r5 f4 f5 f45 fk l5 hvk rm rm4 kE;go_wp2_with (with_reducible first|refine wj rfl ?_)
   .refine ai.go (Aq rfl _ _ _ rfl rfl rfl rfl rm5 HM.out.1 ?_)
    intro w6 es6 c6 f6 rm6 hm6 hs6;have Bq:=jT.trans f6;go_wp2_with fail;refine⟨⟨k+1,es6,c6,by simp,by omega,Bq,rm6,?_,?_⟩,by simp[intOf];omega⟩
    .rw[HT.out,χ (by simpa using(‹((f.set:Int)==set)=true›)),Q5]
     exact hm6
    .have:=HM.out.2;omega
   .refine⟨⟨k+1,es,cn,by simp,by omega,jT,rm5,?_,?_⟩,by simp[intOf];omega⟩
    .rw[HT.out,ζ (by simpa using(‹((f.set:Int)==set)=false›))]
     exact HM.out.1
    .have:=HM.out.2;omega
  .obtain rfl:k=fs.length:=by omega
   go_wp2_with fail;go_ret;exact⟨m,es,cn,rfl,l1,rm,by rw[HF.out];rw[List.take_length] at HM;exact HM.out.1,by have:=HM.out.2;omega,(f12.trans fk (by simp;omega)).mono⟩
end
section
open Go.Conc
open Go.ConcM (OsLater)
namespace aG
section
variable {X:Cx iJ}{r:bg}{ro:Nat->Prop}{gN gA:Ξ->Option Ξ}{dv:Φ}{K:Nat}{Rd:Θ->Prop}
def Cont (X:Cx iJ)(r:bg)(ro:Nat->Prop)(Rd:Θ->Prop)(dv:Φ)(set:Int)(g:Ξ->Option Ξ)(K:Nat):Prop:=
 ∀(γ:Gh iJ) (k:Nat) (T:Lo) (w:Θ) (fr:κ) (cs:List κ),eQ T.pc=false->Now X r γ w->γ.ro=ro->Rd w->
  (∀w' m es c (own':Nat->Prop),(∀b,γ.own b->own' b)->(∀b,own' b->γ.own b\/w.heap.size<=b)->(∀b,own' b->b<w'.heap.size)->RX X γ.ro γ.own w w'->own' m->¬γ.own m->w'.heap[m]? =some (.map es c)->dk es c (uI g)->es.size<=K->
   LW X r {γ with own:=own'} k T (cG fr cs (.map (some m))) w')->LW X r γ k T (gC0 dv set fr cs) w
theorem Jt (hRd:∀w w' own,Rd w->RX X ro own w w'->Rd w')(h1:Cont X r ro Rd dv (cg r:Int) gN K)(h2:Cont X r ro Rd dv 2 gA K){γ:Gh iJ}{w:Θ}{fr:κ}{cs:List κ}{n k:Nat}(hn:2*K<=n)(hT:Now X r γ w)(hro:γ.ro=ro)(hw:Rd w)
  (h0:γ.mine=λ_=>none) (hD:Done X r ro γ.own w (jQ gN gA) fr cs):LW X r γ k (at_ .out n) (Z8 X.Fd dv (cg r:Int) fr cs) w:=by
 refine aC (YO _ _ _ _ _) (h1 γ k _ w _ _ rfl hT hro hw λw1 M1 es1 c1 yS a1 a2 a3 a4 o1 no1 hw1 i1 s1=>?_);have T1:Now X r {γ with own:=yS} w1:=hT.grow a4 (m:=γ.mine) (d:=γ.other) a2 a3;have R1:Rd w1:=hRd w w1 γ.own hw (hro▸a4);refine aC (YN _ _ _ _ _ _) (h2 {γ with own:=yS} k _ w1 _ _ rfl T1 hro R1 λw2 M2 es2 c2 Wt b1 b2 b3 b4 o2 no2 hw2 i2 s2=>?_)
 have T2:Now X r {γ with own:=Wt} w2:=T1.grow b4 (m:=γ.mine) (d:=γ.other) b2 b3;have H2:RX X ro γ.own w w2:=by
  have a4':RX X ro γ.own w w1:=hro▸a4;have b4':RX X ro yS w1 w2:=hro▸b4;exact a4'.trans X (b4'.sub a1)
 have two:Two X r ro γ.own w gN gA es1 es2 c1 c2 M1 M2 {γ with own:=Wt} w2:=by
  refine⟨T2,hro,λb hb=>b1 b (a1 b hb),λb hb=>?_,H2,b1 _ o1,o2,aW b4 (.inl o1) hw1,hw2,i1,i2⟩;rcases b2 b hb with hb|hb
  .exact a2 b hb
  .exact .inr (ae3 a4.size hb)
 refine aC (YM _ _ _ _ _ _ _) ?_;refine gS (f:=λb=>pb b) (YK _ _ _ _ _ _ _) (λw3 h3=>⟨_,wK GJ (two.rely h3).w1,λx hx=>by simp at hx;subst hx;exact⟨M1,dU,.inl (b1 _ o1)⟩⟩) λw3 B h3 hB hw3=>?_
 obtain⟨f1,f2,f3,f4,f5,f6⟩:=two.fresh hB;have T3:=two.more h3 hB hw3;obtain⟨tm',JN,hg⟩:=YL X.Fd dv (cg r) M1 M2 B fr cs (.map (some M1)) rfl;have hl1:leftOf es1 #[]=es1:=by unfold leftOf;rw[Array.filter_eq_self];simp
 have e1:BG es1 #[]=λ_=>False:=funext λs=>propext ⟨Ar s,False.elim⟩
 exact aC hg (acy (λb hb=>hT.low b (.inl hb)) hD _ #[] {γ with own:=λb=>Wt b\/b=B} w3 tm' B n k rfl (by rw[hl1];omega) T3 (.inr rfl) f1 f2 (λq=>by have:=hT.low B (.inl q);omega) f4 hw3 (by
  rw[e1];show KH gN gA _ γ.mine;rw[h0];exact KH.start) JN)
theorem t7 (hRd:∀w w' own,Rd w->RX X ro own w w'->Rd w')(h1:Cont X r ro Rd dv (cg r:Int) gN K)(h2:Cont X r ro Rd dv 2 gA K){γ:Gh iJ}{w:Θ}{n k bw bf bd bs:Nat}(hn:2*K<=n)(hT:Now X r γ w)(hro:γ.ro=ro)(hw:Rd w)
  (h0:γ.mine=λ_=>none) (hfin:X.fin r=jQ gN gA) (rw_:ro bw) (rf:ro bf) (rd:ro bd) (rs:ro bs) (cw:w.cell? ⟨bw,0,none⟩=some (pb X.Wg)) (cf:w.cell? ⟨bf,0,none⟩=some (qB X.Fd bd bs)) (cd:w.cell? ⟨bd,0,none⟩=some dv) (cs:w.cell? ⟨bs,0,none⟩=some (.int .i64 (cg r:Int))):
  LW X r γ k (at_ .out n) (Z6 bw bf) w:=by
 subst hro;refine Pa rfl rf rd rs cf cd cs (Jt hRd h1 h2 hn hT rfl hw h0 λk' w' γ' n' t1 t2 t3 t4 t5 t6=>?_);have hlt:bw<w.heap.size:=hT.low bw (.inr rw_);have cw':w'.cell? ⟨bw,0,none⟩=some (pb X.Wg):=by
  unfold World.cell? at cw⊢;rw[t5.keep bw hlt (.inr rw_)];exact cw
 exact KU t1.spot.worker t1.spot.room t1.live (t2▸rw_) cw' (t6.trans hfin.symm)
end
end aG
end
end
end Go.Proofs.YtchcmhodnkgojaaGreat
