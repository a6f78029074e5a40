/- On the way to the last text; put together and shortened by program. -/
import Derived.Test.YtchcmhodnkgojaaGreatPart8
set_option linter.all false
set_option maxRecDepth 100000
set_option maxHeartbeats 8000000
open Go.Proofs.Tryz
namespace Go.Proofs.YtchcmhodnkgojaaGreat
open Value (ren)
open Region (wanted)
open Sem (run_bind)
open List (range)
open List (replicate)
noncomputable section
section
open Go.Conc
open Go.ConcM (OsLater)
namespace aI
def OT (g:Θ):Θ:=Dw PP true 200 g
def OTn (n:Nat)(g:Θ):Θ:=Dw PP true n g
def bI {g:Θ}(h:∀a:Nat->Ω,AO PP true 200 g a=some (OT g,(range (cj PP true 200 g)).map a)):az PP true g (OT g):=⟨200,_,h⟩
def bX {g g':Θ}(n m:Nat)(h:∀a:Nat->Ω,AO PP true n g a=some (g',(range m).map a)):az PP true g g':=⟨n,m,h⟩
abbrev NY:η:=219
abbrev TWg:η:=225
def fd0 (M:Nat):Φ:= .agg #[.int .i32 0,.int .u32 0,.map (some M)]
section
variable (W F bw bf bd bs bs' M:Nat)(dv f:Φ)(fr:κ)(cs:List κ)(x:Int)(y:Nat->Φ)
def YS:Θ:=Qk 162 #[pb W,.int .i64 1] 115 fr cs
def sA1:Θ:=OT (YS W fr cs)
def OV:az PP true (YS W fr cs) (sA1 W fr cs):=bI λa=>ϰ
def yg:aJ (sA1 W fr cs)=some (168,#[]):=ϰ
def sA2:Θ:=OT (resume (sA1 W fr cs) U)
def OU:az PP true (resume (sA1 W fr cs) U) (sA2 W fr cs):=bI λa=>ϰ
def JV:aJ (sA2 W fr cs)=some (176,#[]):=ϰ
def sA3:Θ:=OT (resume (sA2 W fr cs) (.bool false))
def OS:az PP true (resume (sA2 W fr cs) (.bool false)) (sA3 W fr cs):=bI λa=>ϰ
def yf:aJ (sA3 W fr cs)=some (213,#[pb W,.int .u64 4294967296]):=ϰ
def R5:Θ:=OT (resume (sA3 W fr cs) (.int .u64 4294967296))
def OR:az PP true (resume (sA3 W fr cs) (.int .u64 4294967296)) (R5 W fr cs):=bI λa=>ϰ
def OQ:aY (R5 W fr cs)=some (.conv (Bp (R5 0 default [])) (CK (R5 0 default [])) (sD W)):=ϰ
def We:PP.underlying (Bp (R5 0 default []))=some (.pointer (CJ (R5 0 default []))):=ϰ
def Wf:PP.underlying (CK (R5 0 default []))=some .unsafePointer:=ϰ
def Wd:(PP.info? (CJ (R5 0 default []))).map (λi=>decide (i.size=0))=some false:=ϰ
def sA5:Θ:=OT (resume (R5 W fr cs) (sD W))
def OP:az PP true (resume (R5 W fr cs) (sD W)) (sA5 W fr cs):=bI λa=>ϰ
def Df:aJ (sA5 W fr cs)=some (198,#[sD W]):=ϰ
def sA6:Θ:=OT (resume (sA5 W fr cs) U)
def OO:az PP true (resume (sA5 W fr cs) U) (sA6 W fr cs):=bI λa=>ϰ
def ON:jx (sA6 W fr cs)=some (170,#[]):=ϰ
def JU:az PP true (dJ (sA6 W fr cs)) (da fr cs U):=bX 1 (cj PP true 1 (dJ (sA6 W fr cs))) λa=>ϰ
def sA7:Θ:=OT (resume (sA3 W fr cs) (.int .u64 8589934592))
def YR:az PP true (resume (sA3 W fr cs) (.int .u64 8589934592)) (sA7 W fr cs):=bI λa=>ϰ
def YQ:jx (sA7 W fr cs)=some (170,#[]):=ϰ
def S9:az PP true (dJ (sA7 W fr cs)) (da fr cs U):=bX 1 (cj PP true 1 (dJ (sA7 W fr cs))) λa=>ϰ
def sG0:Θ:=Qk 130 #[pb W,f] 5 fr cs
def sG1:Θ:=OT (sG0 W f fr cs)
def Yw:az PP true (sG0 W f fr cs) (sG1 W f fr cs):=bI λa=>ϰ
def Yv:aY (sG1 W f fr cs)=some (.box 249 (pb W)):=ϰ
def sG2:Θ:=OT (resume (sG1 W f fr cs) (pb bw))
def Yu:az PP true (resume (sG1 W f fr cs) (pb bw)) (sG2 W bw f fr cs):=bI λa=>ϰ
def Yt:aY (sG2 W bw f fr cs)=some (.box 1 f):=ϰ
def sG3:Θ:=OT (resume (sG2 W bw f fr cs) (pb bf))
def Ys:az PP true (resume (sG2 W bw f fr cs) (pb bf)) (sG3 W bw bf f fr cs):=bI λa=>ϰ
def Yq:aY (sG3 W bw bf f fr cs)=some (.load 249 (pb bw)):=ϰ
def fG:κ:=(OTn 1 (resume (sG3 W bw bf f fr cs) (pb W))).callers.head?.getD default
def Yr:az PP true (resume (sG3 W bw bf f fr cs) (pb W)) (YS W (fG W bw bf f fr cs) (fr::cs)):=bX 1 (cj PP true 1 (resume (sG3 W bw bf f fr cs) (pb W))) λa=>ϰ
def Yp:Θ:=OT (da (fG W bw bf f fr cs) (fr::cs) U)
def Yo:az PP true (da (fG W bw bf f fr cs) (fr::cs) U) (Yp W bw bf f fr cs):=bI λa=>ϰ
def S7:az PP true (resume (Yp W bw bf f fr cs) ϗ) (da fr cs U):=bX 3 (cj PP true 3 (resume (Yp W bw bf f fr cs) ϗ)) λa=>ϰ
def sT0:Θ:=Qk 88 #[dv] 16 fr cs
def sT1:Θ:=OT (sT0 dv fr cs)
def XR:az PP true (sT0 dv fr cs) (sT1 dv fr cs):=bI λa=>ϰ
def XQ:aY (sT1 dv fr cs)=some (.box 94 dv):=ϰ
def sT2:Θ:=OT (resume (sT1 dv fr cs) (pb bd))
def XP:az PP true (resume (sT1 dv fr cs) (pb bd)) (sT2 bd dv fr cs):=bI λa=>ϰ
def XO:aY (sT2 bd dv fr cs)=some (.makeMap TM):=ϰ
def sT3:Θ:=OT (resume (sT2 bd dv fr cs) (.map (some M)))
def XN:az PP true (resume (sT2 bd dv fr cs) (.map (some M))) (sT3 bd M dv fr cs):=bI λa=>ϰ
def XM:aY (sT3 bd M dv fr cs)=some (.build NY #[(1,.map (some M))]):=ϰ
def sT4:Θ:=OT (resume (sT3 bd M dv fr cs) (fd0 M))
def XL:az PP true (resume (sT3 bd M dv fr cs) (fd0 M)) (sT4 bd M dv fr cs):=bI λa=>ϰ
def XK:aY (sT4 bd M dv fr cs)=some (.alloc NY):=ϰ
def sT5:Θ:=OT (resume (sT4 bd M dv fr cs) (pb F))
def XJ:az PP true (resume (sT4 bd M dv fr cs) (pb F)) (sT5 F bd M dv fr cs):=bI λa=>ϰ
def XI:aY (sT5 F bd M dv fr cs)=some (.store NY (pb F) (fd0 M)):=ϰ
def sT6:Θ:=OT (resume (sT5 F bd M dv fr cs) ϗ)
def XH:az PP true (resume (sT5 F bd M dv fr cs) ϗ) (sT6 F bd M dv fr cs):=bI λa=>ϰ
def XG:aY (sT6 F bd M dv fr cs)=some (.alloc TWg):=ϰ
def sT7:Θ:=OT (resume (sT6 F bd M dv fr cs) (pb W))
def XF:az PP true (resume (sT6 F bd M dv fr cs) (pb W)) (sT7 W F bd M dv fr cs):=bI λa=>ϰ
def XE:aY (sT7 W F bd M dv fr cs)=some (.alloc 3):=ϰ
def sT8:Θ:=OT (resume (sT7 W F bd M dv fr cs) (pb bs))
def XD:az PP true (resume (sT7 W F bd M dv fr cs) (pb bs)) (sT8 W F bd bs M dv fr cs):=bI λa=>ϰ
def XB:aY (sT8 W F bd bs M dv fr cs)=some (.store 3 (pb bs) (.int .i64 0)):=ϰ
def fT1:κ:=(OTn 4 (resume (sT8 W F bd bs M dv fr cs) ϗ)).callers.head?.getD default
def XC:az PP true (resume (sT8 W F bd bs M dv fr cs) ϗ) (sG0 W (sM F bd bs) (fT1 W F bd bs M dv fr cs) (fr::cs)):=bX 4 (cj PP true 4 (resume (sT8 W F bd bs M dv fr cs) ϗ)) λa=>ϰ
def sS7:Θ:=OT (da (fT1 W F bd bs M dv fr cs) (fr::cs) U)
def XX:az PP true (da (fT1 W F bd bs M dv fr cs) (fr::cs) U) (sS7 W F bd bs M dv fr cs):=bI λa=>ϰ
def XW:aY (sS7 W F bd bs M dv fr cs)=some (.alloc 3):=ϰ
def sS8:Θ:=OT (resume (sS7 W F bd bs M dv fr cs) (pb bs'))
def XV:az PP true (resume (sS7 W F bd bs M dv fr cs) (pb bs')) (sS8 W F bd bs bs' M dv fr cs):=bI λa=>ϰ
def XT:aY (sS8 W F bd bs bs' M dv fr cs)=some (.store 3 (pb bs') (.int .i64 1)):=ϰ
def fT2:κ:=(OTn 4 (resume (sS8 W F bd bs bs' M dv fr cs) ϗ)).callers.head?.getD default
def XU:az PP true (resume (sS8 W F bd bs bs' M dv fr cs) ϗ) (sG0 W (sM F bd bs') (fT2 W F bd bs bs' M dv fr cs) (fr::cs)):=bX 4 (cj PP true 4 (resume (sS8 W F bd bs bs' M dv fr cs) ϗ)) λa=>ϰ
def sW0:Θ:=Qk 133 #[pb W] 83 fr cs
def fT3:κ:=(OTn 17 (da (fT2 W F bd bs bs' M dv fr cs) (fr::cs) U)).callers.head?.getD default
def XS:az PP true (da (fT2 W F bd bs bs' M dv fr cs) (fr::cs) U) (sW0 W (fT3 W F bd bs bs' M dv fr cs) (fr::cs)):=bX 17 (cj PP true 17 (da (fT2 W F bd bs bs' M dv fr cs) (fr::cs) U)) λa=>ϰ
def LN:Θ:=OT (sW0 W fr cs)
def Ig:az PP true (sW0 W fr cs) (LN W fr cs):=bI λa=>ϰ
def JS:aJ (LN W fr cs)=some (168,#[]):=ϰ
end
def adR:List Item:=match(OT (resume (LN 0 default []) U)).callers with|f::_=>f.todo|[]=>[]
def akx (W:Nat):κ:=(OT (resume (LN W default []) U)).frame
def sH (W:Nat)(tm:ϐ)(fr:κ)(cs:ϙ):Θ:=G (akx W) ((base 133).at ⟨tm,[]⟩ adR::fr::cs)
structure HW (W:Nat)(tm:Array Φ):Prop where
 size:tm.size=84
 s0:tm[0]? =some (pb W)
def tmW (W:Nat)(y:Ϟ):Array Φ:=#[pb W,y 1,y 2,y 3,y 4,y 5,y 6,y 7,y 8,y 9,y 10,y 11,y 12,y 13,y 14,y 15,y 16,y 17,y 18,y 19,y 20,y 21,y 22,y 23,y 24,y 25,y 26,y 27,y 28,y 29,y 30,y 31,y 32,y 33,y 34,y 35,y 36,y 37,y 38,y 39,y 40,y 41,y 42,y 43,y 44,y 45,y 46,y 47,y 48,y 49,y 50,y 51,y 52,y 53,y 54,y 55,y 56,y 57,y 58,y 59,y 60,y 61,y 62,y 63,y 64,y 65,y 66,y 67,y 68,y 69,y 70,y 71,y 72,y 73,y 74,y 75,y 76,y 77,y 78,y 79,y 80,y 81,y 82,y 83]
def SJ (tm:ϐ)(h:tm.size=84):tm=#[tm.getD 0 ϗ,tm.getD 1 ϗ,tm.getD 2 ϗ,tm.getD 3 ϗ,tm.getD 4 ϗ,tm.getD 5 ϗ,tm.getD 6 ϗ,tm.getD 7 ϗ,tm.getD 8 ϗ,tm.getD 9 ϗ,tm.getD 10 ϗ,tm.getD 11 ϗ,tm.getD 12 ϗ,tm.getD 13 ϗ,tm.getD 14 ϗ,tm.getD 15 ϗ,tm.getD 16 ϗ,tm.getD 17 ϗ,tm.getD 18 ϗ,tm.getD 19 ϗ,tm.getD 20 ϗ,tm.getD 21 ϗ,tm.getD 22 ϗ,tm.getD 23 ϗ,tm.getD 24 ϗ,tm.getD 25 ϗ,tm.getD 26 ϗ,tm.getD 27 ϗ,tm.getD 28 ϗ,tm.getD 29 ϗ,tm.getD 30 ϗ,tm.getD 31 ϗ,tm.getD 32 ϗ,tm.getD 33 ϗ,tm.getD 34 ϗ,tm.getD 35 ϗ,tm.getD 36 ϗ,tm.getD 37 ϗ,tm.getD 38 ϗ,tm.getD 39 ϗ,tm.getD 40 ϗ,tm.getD 41 ϗ,tm.getD 42 ϗ,tm.getD 43 ϗ,tm.getD 44 ϗ,tm.getD 45 ϗ,tm.getD 46 ϗ,tm.getD 47 ϗ,tm.getD 48 ϗ,tm.getD 49 ϗ,tm.getD 50 ϗ,tm.getD 51 ϗ,tm.getD 52 ϗ,tm.getD 53 ϗ,tm.getD 54 ϗ,tm.getD 55 ϗ,tm.getD 56 ϗ,tm.getD 57 ϗ,tm.getD 58 ϗ,tm.getD 59 ϗ,tm.getD 60 ϗ,tm.getD 61 ϗ,tm.getD 62 ϗ,tm.getD 63 ϗ,tm.getD 64 ϗ,tm.getD 65 ϗ,tm.getD 66 ϗ,tm.getD 67 ϗ,tm.getD 68 ϗ,tm.getD 69 ϗ,tm.getD 70 ϗ,tm.getD 71 ϗ,tm.getD 72 ϗ,tm.getD 73 ϗ,tm.getD 74 ϗ,tm.getD 75 ϗ,tm.getD 76 ϗ,tm.getD 77 ϗ,tm.getD 78 ϗ,tm.getD 79 ϗ,tm.getD 80 ϗ,tm.getD 81 ϗ,tm.getD 82 ϗ,tm.getD 83 ϗ]:=by
 have e:tm=((range 84).map λi=>tm.getD i ϗ).toArray:=by
  apply Array.ext
  .simp[h]
  .intro i h1 h2
   simp[ac6,h1]
 exact e.trans ϰ
def HW.eq {W:Nat}{tm:ϐ}(h:HW W tm):tm=tmW W λi=>tm.getD i ϗ:=by
 have h1:=SJ tm h.size;rw[cJ h.s0] at h1;exact h1
section
variable (W:Nat)(fr:κ)(cs:List κ)(y:Nat->Φ)
def X2:∃tm,HW W tm/\az PP true (resume (LN W fr cs) U) (sH W tm fr cs):=⟨match(OT (resume (LN W fr cs) U)).callers with|f::_=>f.tmps|[]=>#[],⟨ϰ,ϰ⟩,bX 200 (cj PP true 200 (resume (LN W fr cs) U)) λa=>ϰ⟩
abbrev sh:Θ:=sH W (tmW W y) fr cs
def Wa:aJ (sh W fr cs y)=some (203,#[pb W]):=ϰ
def sE:Θ:=OT (resume (sh W fr cs y) (.int .u64 0))
def aem:az PP true (resume (sh W fr cs y) (.int .u64 0)) (sE W fr cs y):=bI λa=>ϰ
def ael:aJ (sE W fr cs y)=some (170,#[]):=ϰ
def RZ:Θ:=OT (resume (sE W fr cs y) U)
def YE:az PP true (resume (sE W fr cs y) U) (RZ W fr cs y):=bI λa=>ϰ
def YD:aY (RZ W fr cs y)=some (.conv (Bp (RZ 0 default [] λ_=>ϗ)) (CK (RZ 0 default [] λ_=>ϗ)) (pb W)):=ϰ
def aeo:PP.underlying (Bp (RZ 0 default [] λ_=>ϗ))=some (.pointer (CJ (RZ 0 default [] λ_=>ϗ))):=ϰ
def aep:PP.underlying (CK (RZ 0 default [] λ_=>ϗ))=some .unsafePointer:=ϰ
def aen:(PP.info? (CJ (RZ 0 default [] λ_=>ϗ))).map (λi=>decide (i.size=0))=some false:=ϰ
def sEM:Θ:=OT (resume (RZ W fr cs y) (pb W))
def YB:az PP true (resume (RZ W fr cs y) (pb W)) (sEM W fr cs y):=bI λa=>ϰ
def YC:aJ (sEM W fr cs y)=some (171,#[pb W]):=ϰ
def S8:az PP true (resume (sEM W fr cs y) U) (da fr cs U):=bX 20 (cj PP true 20 (resume (sEM W fr cs y) U)) λa=>ϰ
def YP:Θ:=OT (resume (sh W fr cs y) (.int .u64 4294967296))
def YO:az PP true (resume (sh W fr cs y) (.int .u64 4294967296)) (YP W fr cs y):=bI λa=>ϰ
def De:aJ (YP W fr cs y)=some (204,#[pb W,.int .u64 4294967296,.int .u64 4294967297]):=ϰ
def YN:∃tm,HW W tm/\az PP true (resume (YP W fr cs y) (.bool false)) (sH W tm fr cs):=⟨match(OT (resume (YP W fr cs y) (.bool false))).callers with|f::_=>f.tmps|[]=>#[],⟨ϰ,ϰ⟩,bX 200 (cj PP true 200 (resume (YP W fr cs y) (.bool false))) λa=>ϰ⟩
def R4:Θ:=OT (resume (YP W fr cs y) (.bool true))
def YJ:az PP true (resume (YP W fr cs y) (.bool true)) (R4 W fr cs y):=bI λa=>ϰ
def YI:aY (R4 W fr cs y)=some (.conv (Bp (R4 0 default [] λ_=>ϗ)) (CK (R4 0 default [] λ_=>ϗ)) (sD W)):=ϰ
def aeu:PP.underlying (Bp (R4 0 default [] λ_=>ϗ))=some (.pointer (CJ (R4 0 default [] λ_=>ϗ))):=ϰ
def aev:PP.underlying (CK (R4 0 default [] λ_=>ϗ))=some .unsafePointer:=ϰ
def aet:(PP.info? (CJ (R4 0 default [] λ_=>ϗ))).map (λi=>decide (i.size=0))=some false:=ϰ
def sFk:Θ:=OT (resume (R4 W fr cs y) (sD W))
def YA:az PP true (resume (R4 W fr cs y) (sD W)) (sFk W fr cs y):=bI λa=>ϰ
def Yz:aJ (sFk W fr cs y)=some (175,#[sD W]):=ϰ
def sIk:Θ:=OT (resume (sFk W fr cs y) U)
def Ym:az PP true (resume (sFk W fr cs y) U) (sIk W fr cs y):=bI λa=>ϰ
def S6:aJ (sIk W fr cs y)=some (177,#[sD W,.bool false]):=ϰ
def sJk:Θ:=OT (resume (sIk W fr cs y) U)
def Yk:az PP true (resume (sIk W fr cs y) U) (sJk W fr cs y):=bI λa=>ϰ
def Yj:aJ (sJk W fr cs y)=some (203,#[pb W]):=ϰ
def sKk:Θ:=OT (resume (sJk W fr cs y) (.int .u64 0))
def X9:az PP true (resume (sJk W fr cs y) (.int .u64 0)) (sKk W fr cs y):=bI λa=>ϰ
def X8:aJ (sKk W fr cs y)=some (170,#[]):=ϰ
def A5:Θ:=OT (resume (sKk W fr cs y) U)
def S4:az PP true (resume (sKk W fr cs y) U) (A5 W fr cs y):=bI λa=>ϰ
def S3:aY (A5 W fr cs y)=some (.conv (Bp (A5 0 default [] λ_=>ϗ)) (CK (A5 0 default [] λ_=>ϗ)) (pb W)):=ϰ
def Yb:PP.underlying (Bp (A5 0 default [] λ_=>ϗ))=some (.pointer (CJ (A5 0 default [] λ_=>ϗ))):=ϰ
def Yc:PP.underlying (CK (A5 0 default [] λ_=>ϗ))=some .unsafePointer:=ϰ
def Ya:(PP.info? (CJ (A5 0 default [] λ_=>ϗ))).map (λi=>decide (i.size=0))=some false:=ϰ
def S2:Θ:=OT (resume (A5 W fr cs y) (pb W))
def SY:az PP true (resume (A5 W fr cs y) (pb W)) (S2 W fr cs y):=bI λa=>ϰ
def SZ:aJ (S2 W fr cs y)=some (171,#[pb W]):=ϰ
def OJ:az PP true (resume (S2 W fr cs y) U) (da fr cs U):=bX 10 (cj PP true 10 (resume (S2 W fr cs y) U)) λa=>ϰ
def YM:Θ:=OT (resume (sh W fr cs y) (.int .u64 8589934592))
def YL:az PP true (resume (sh W fr cs y) (.int .u64 8589934592)) (YM W fr cs y):=bI λa=>ϰ
def Dd:aJ (YM W fr cs y)=some (204,#[pb W,.int .u64 8589934592,.int .u64 8589934593]):=ϰ
def YK:∃tm,HW W tm/\az PP true (resume (YM W fr cs y) (.bool false)) (sH W tm fr cs):=⟨match(OT (resume (YM W fr cs y) (.bool false))).callers with|f::_=>f.tmps|[]=>#[],⟨ϰ,ϰ⟩,bX 200 (cj PP true 200 (resume (YM W fr cs y) (.bool false))) λa=>ϰ⟩
def R0:Θ:=OT (resume (YM W fr cs y) (.bool true))
def YH:az PP true (resume (YM W fr cs y) (.bool true)) (R0 W fr cs y):=bI λa=>ϰ
def YG:aY (R0 W fr cs y)=some (.conv (Bp (R0 0 default [] λ_=>ϗ)) (CK (R0 0 default [] λ_=>ϗ)) (sD W)):=ϰ
def aer:PP.underlying (Bp (R0 0 default [] λ_=>ϗ))=some (.pointer (CJ (R0 0 default [] λ_=>ϗ))):=ϰ
def aes:PP.underlying (CK (R0 0 default [] λ_=>ϗ))=some .unsafePointer:=ϰ
def aeq:(PP.info? (CJ (R0 0 default [] λ_=>ϗ))).map (λi=>decide (i.size=0))=some false:=ϰ
def sFl:Θ:=OT (resume (R0 W fr cs y) (sD W))
def Yy:az PP true (resume (R0 W fr cs y) (sD W)) (sFl W fr cs y):=bI λa=>ϰ
def Yx:aJ (sFl W fr cs y)=some (175,#[sD W]):=ϰ
def sIl:Θ:=OT (resume (sFl W fr cs y) U)
def Yl:az PP true (resume (sFl W fr cs y) U) (sIl W fr cs y):=bI λa=>ϰ
def S5:aJ (sIl W fr cs y)=some (177,#[sD W,.bool false]):=ϰ
def sJl:Θ:=OT (resume (sIl W fr cs y) U)
def Yi:az PP true (resume (sIl W fr cs y) U) (sJl W fr cs y):=bI λa=>ϰ
def Yh:aJ (sJl W fr cs y)=some (203,#[pb W]):=ϰ
def sKl:Θ:=OT (resume (sJl W fr cs y) (.int .u64 0))
def X4:az PP true (resume (sJl W fr cs y) (.int .u64 0)) (sKl W fr cs y):=bI λa=>ϰ
def X3:aJ (sKl W fr cs y)=some (170,#[]):=ϰ
def A4:Θ:=OT (resume (sKl W fr cs y) U)
def SX:az PP true (resume (sKl W fr cs y) U) (A4 W fr cs y):=bI λa=>ϰ
def SW:aY (A4 W fr cs y)=some (.conv (Bp (A4 0 default [] λ_=>ϗ)) (CK (A4 0 default [] λ_=>ϗ)) (pb W)):=ϰ
def X6:PP.underlying (Bp (A4 0 default [] λ_=>ϗ))=some (.pointer (CJ (A4 0 default [] λ_=>ϗ))):=ϰ
def X7:PP.underlying (CK (A4 0 default [] λ_=>ϗ))=some .unsafePointer:=ϰ
def X5:(PP.info? (CJ (A4 0 default [] λ_=>ϗ))).map (λi=>decide (i.size=0))=some false:=ϰ
def SV:Θ:=OT (resume (A4 W fr cs y) (pb W))
def ST:az PP true (resume (A4 W fr cs y) (pb W)) (SV W fr cs y):=bI λa=>ϰ
def SU:aJ (SV W fr cs y)=some (171,#[pb W]):=ϰ
def OI:az PP true (resume (SV W fr cs y) U) (da fr cs U):=bX 10 (cj PP true 10 (resume (SV W fr cs y) U)) λa=>ϰ
end
def xRd:Ext PP 198 Tryz.f198:=⟨func198,ϰ,ϰ,ϰ⟩
def fRd:Extern.find Tryz.f198=some (Extern.Race.marked .read):=ϰ
def xWr:Ext PP 175 Tryz.f175:=⟨func175,ϰ,ϰ,ϰ⟩
def fWr:Extern.find Tryz.f175=some (Extern.Race.marked .write):=ϰ
def JI:Ext PP 204 Tryz.f204:=⟨func204,ϰ,ϰ,ϰ⟩
def KG:Extern.find Tryz.f204=some (Extern.Atomic.casT (.int .u64)):=ϰ
def VY:Ext PP 177 Tryz.f177:=⟨func177,ϰ,ϰ,ϰ⟩
def Yn (W bw bf:Nat)(f:Φ)(fr:κ)(cs:ϙ)(w:Ω):stepG PP true (Yp W bw bf f fr cs) w= .spawn (resume (Yp W bw bf f fr cs) ϗ) (gW0 bw bf) w #[]:=ϰ
def JT (W bw bf:Nat)(f:Φ)(fr:κ)(cs:ϙ):(Yp W bw bf f fr cs).status= .running/\(Yp W bw bf f fr cs).offers=none:=⟨ϰ,ϰ⟩
def WH:Extern.find Tryz.f177=some Extern.Sync.semacquire:=ϰ
section
variable {P:ω}{main:Bool}{g:Θ}{f:ac0}{fn:Func}{w:Ω}
def Ll (X:Ext P f fn)(q:Extern.find fn=some Extern.Sync.semacquire){ad:Addr}{n:Int}{u:Φ}(h:aJ g=some (f,#[.pointer (some ad),u]))(c:w.cell? ad=some (.int .u32 n))(l:n≠0)(j:w.frozen? ad=false):
  stepG P main g w= .go (resume g (.tuple #[])) (w.setCell ad (.int .u32 (n-1))) (semEvents ad):=by
 obtain⟨b,a,ops,i,rest,s,cs,o,xs,d,rfl,h2,p,k,m,r,e⟩:=du h;rw[e];exact stepG_semacquire h2 p k m X.at_ X.name X.body X.next q (by rw[r];rfl) c l j
def Hs (X:Ext P f fn)(k:Extern.find fn=some Extern.Sync.semacquire){ad:Addr}{u:Φ}(h:aJ g=some (f,#[.pointer (some ad),u]))(c:w.cell? ad=some (.int .u32 0)):
  stepG P main g w= .go {g with status:= .blocked} w #[]:=by
 obtain⟨b,a,ops,i,rest,p,cs,o,xs,d,rfl,h2,j,n,e,l,m⟩:=du h;exact stepG_semacquire_wait h2 j e X.at_ X.name X.body X.next k (by rw[l];rfl) c
end
section
variable {Δ:Type}{X:Cx Δ}{ro own:Nat->Prop}{Stop:(Nat->Prop)->Θ->Ω->Prop}{g:Θ}{w:Ω}{deaf:Bool}
def nd {s d t:η}{a:Addr}(h:aY g=some (.conv s d (.pointer (some a))))(h1:PP.underlying s=some (.pointer t))(h2:PP.underlying d=some .unsafePointer)(b:(PP.info? t).map (λi=>decide (i.size=0))=some false)(f:∀w₁,RX X ro own w w₁->∃v,w₁.cell? a=some v)(k:aG PP true (gX X deaf ro) Stop own (resume g (.pointer (some a))) w):aG PP true (gX X deaf ro) Stop own g w:=by
 refine aG.step (dy h).1 λw₁ hr=>?_
 have⟨v,hv⟩:=f w₁ hr;have⟨es,e1,e2⟩:=oJ (P:=PP) (main:=true) (w:=w₁) (w':=w₁) (x:= .pointer (some a)) h (by simp only[lE.sem,run_bind,run_convert_to_unsafe h1 h2 b hv];rfl);have c:es=#[]:=Array.eq_empty_iff_forall_not_mem.2 λe j=>by
  have:=e2 e j;simp only[lE.sem,Sem.events_bind,run_convert_to_unsafe h1 h2 b hv,events_convert_to_unsafe h1 h2 b hv] at this;simp at this
 subst c;refine⟨_,w₁,#[],e1,(k7 deaf ro own w₁).1,?_⟩;have:=(k7 (X:=X) deaf ro own w₁).2;rw[this];exact k.rely hr
def xw {f:ac0}{fn:Func}(b:Ext PP f fn){v:Φ}(c:Extern.find fn=some (λ_=>pure v)){args:ϐ}(a:aJ g=some (f,args))(go:aG PP true (gX X deaf ro) Stop own (resume g v) w):aG PP true (gX X deaf ro) Stop own g w:=by
 refine aG.step (bk a).1 λw₁ hr=>⟨_,w₁,#[],BO b v c a,(k7 _ _ own w₁).1,?_⟩
 have:=(k7 (X:=X) deaf ro own w₁).2;rw[this];exact go.rely hr
def FQ {t:η}{a:Addr}{v:Φ}(h:aY g=some (.load t (.pointer (some a))))(ha:(PP.underlying t).map (λd=>match d with|.struct _|.array _ _=>true|_=>false)=some false)(l:own a.block\/ro a.block)(b:w.cell? a=some v)(k:∀w',RX X ro own w w'->aG PP true (gX X false ro) Stop own (resume g v) w'):aG PP true (gX X false ro) Stop own g w:=by
 refine dK h (x:=v) (λw₁ hr=>?_) k;have f:a.block<w.heap.size:=by
  unfold World.cell? at b;cases j:w.heap[a.block]? with
  |none=>rw[j] at b;simp at b
  |some o=>exact lt_of_some j
 have i:w₁.cell? a=some v:=by
  unfold World.cell? at b⊢;rw[hr.keep a.block f l];exact b
 refine⟨w₁,#[⟨.cell a,false,false⟩],RT.fI (x:=v) ?_ (.pure _),rfl,rfl,rfl,rfl,λe c=>⟨a.block,by simp at c;subst c;exact j5 rfl,l.imp id λh=>⟨h,by simp at c;subst c;rfl⟩⟩⟩;show RT (do if<-isAgg t then Pure.pure (.agg (<-loadCells a (<-Go.sizeOf t))) else load a) _ _ _ _;refine(iP ha).aT ?_;simp only[ν,if_false];exact kP i
end
section
variable {Δ:Type}{X:Cx Δ}{Post:Gh Δ->Θ->Ω->Prop}{γ:Gh Δ}{k:Nat}{T T':Lo}{g:Θ}{w:Ω}
abbrev LS (X:Cx Δ)(Post:Gh Δ->Θ->Ω->Prop)(γ:Gh Δ)(k:Nat)(T:Lo)(g:Θ)(w:Ω):Prop:=aG PP true (gX X (fS T.pc) γ.ro) (eK (BE X PP Post k) T γ) γ.own g w
def np (h:∀k' w₁,k'<k->RR X γ w w₁->Law X PP (BE X PP Post k') .m T γ g w₁)(hg:¬(T.pc= .g1\/T.pc= .g2):=by simp)(ha:T.pc≠.aq:=by simp):LS X Post γ k T g w:=by
 cases k with
 |zero=>exact aG.stop λw₁ hr=>⟨γ.mine,λ_=>rfl,trivial⟩
 |succ k=>
  refine aG.stop λw₁ hr=>⟨γ.mine,λ_=>rfl,?_⟩
  unfold BE;rw[ζ hg,ζ ha];exact h k w₁ ϖ hr
variable (R:Room X γ)
include R
theorem lN (hg:¬(T.pc= .g1\/T.pc= .g2))(ha:T.pc≠.aq){g':Θ}{es:Ϝ}(a:g.status= .running/\g.offers=none)(d:∀w,stepG PP true g w= .go g' w es)(e:∀s,mv T s=[(T',s)])(b:EvStop X T T' es)(h1:T.pc≠.la)(h2:T.pc≠.ur)(i:T'.pc≠.wk)(f:T'.pc≠.quit)(h:T.pc≠.us)(l:T.pc≠.d4)(go:∀k' w',k'<k->RR X γ w w'->LS X Post γ k' T' g' w'):LS X Post γ k T g w:=by
 refine np (hg:=hg) (ha:=ha) λk' w₁ j hr=>Kl (g':=g') a e h1 h2 i f h l λs c=>?_
 exact⟨_,_,d w₁,c,.refl _,b,go k' _ j hr⟩
theorem aia (a:aJ g=some (171,#[pb X.Wg]))(d:∀w' o,RR X γ w w'->w'.heap[X.M]? =some o->X.Dat (X.fin .a) (X.fin .b) o->Post γ (resume g U) w'):LS X Post γ k (at_ .aq 0) g w:=by
 cases k with
 |zero=>exact aG.stop λw₁ hr=>⟨γ.mine,λ_=>rfl,trivial⟩
 |succ k=>
  refine aG.stop λw₁ hr=>⟨γ.mine,λ_=>rfl,?_⟩
  unfold BE;rw[ζ ϛ,φ rfl];exact⟨(bk a).1,(bk a).2,λo c b=>⟨_,iJ adt .acquire ahE a,d w₁ o hr c b⟩⟩
theorem DI {b gL gM:Θ}(live:∃s,ShAt X w s)(a:aJ b=some (170,#[]))(m:az PP true (resume b U) gL){s d t:η}(hv:aY gL=some (.conv s d (pb X.Wg)))(h1:PP.underlying s=some (.pointer t))(h2:PP.underlying d=some .unsafePointer)(j:(PP.info? t).map (λi=>decide (i.size=0))=some false)(g:az PP true (resume gL (pb X.Wg)) gM)(e:aJ gM=some (171,#[pb X.Wg]))(n:∀w' o,RR X γ w w'->w'.heap[X.M]? =some o->X.Dat (X.fin .a) (X.fin .b) o->Post γ (resume gM U) w'):LS X Post γ k (at_ .ke 0) b w:=by
 refine lN R (T':=at_ .aq 0) (g':=resume b U) ϛ ϛ (bk a) (λw=>kq xEn .enable fEn a) (by simp[mv]) (by simp[EvStop,kb,sK]) ϛ ϛ ϛ ϛ ϛ ϛ λk' w' p hr=>?_
 refine aF m (nd hv h1 h2 j (λw₁ c=>?_) (aF g (aia R e λf o h=>n f o (hr.trans X h))));have⟨s,l⟩:=(hr.trans X c).live live;exact⟨_,l.Nv⟩
theorem Es {x:Int}{v g y r gK gL gM:Θ}(live:∃s,ShAt X w s){s d t:η}(hv:aY v=some (.conv s d (sD X.Wg)))(h1:PP.underlying s=some (.pointer t))(h2:PP.underlying d=some .unsafePointer)(G:(PP.info? t).map (λi=>decide (i.size=0))=some false)(K:az PP true (resume v (sD X.Wg)) g)(e:aJ g=some (175,#[sD X.Wg]))(C:az PP true (resume g U) y)(c:aJ y=some (177,#[sD X.Wg,.bool false]))(H:az PP true (resume y U) r)(f:aJ r=some (203,#[pb X.Wg]))(L:az PP true (resume r (.int .u64 0)) gK)(I:∀k' w',RR X γ w w'->LS X Post γ k' (at_ .ke 0) gK w'):LS X Post γ k (at_ .pw 0) v w:=by
 refine nd hv h1 h2 G (λw₁ m=>?_) (aF K ?_)
 .have⟨s,J⟩:=m.live live
  exact⟨_,J.cWs⟩
 refine lN R (T':=at_ .w3 0) (g':=resume g U) ϛ ϛ (bk e) (λw=>iJ xWr .write fWr e) (by simp[mv]) (by simp[EvStop,kb];rfl) ϛ ϛ ϛ ϛ ϛ ϛ λM w1 E u=>?_
 refine aF C (np λk2 F B p=>dM (bk c) ϛ ϛ ϛ ϛ (λs a j l=>?_) (λs a j n=>?_))
 .have h0:s.ws=0:=by
   by_cases h:s.ws=0
   .exact h
   .simp[mv,h] at l
  exact Hs VY WH c (by rw[<-h0];exact a.cWs)
 have h0:s.ws≠0:=λh=>n (by simp[mv,h])
 have b:=a.setWs R.ne (s.ws-1);have z:=ConcM.Eff.set (w:=F) (Mu:=X.Fd) (Wg:=X.Wg) (NP X) (.int .u32 (s.ws-1)) (.inr rfl);refine⟨(at_ .w4 0,{s with ws:=s.ws-1}),by simp[mv,h0],λ_=>⟨_,_,_,Ll (P:=PP) (main:=true) VY WH c a.cWs h0 (a.RY 1),b,z,DZ (afl R.ne) rfl,?_⟩⟩;rw[ζ ϛ]
 refine aF H (np (T:=at_ .w4 0) λk3 A D o=>dM (bk f) ϛ ϛ ϛ ϛ (λs _ j l=>?_) (λs a j _=>?_))
 .exfalso
  by_cases h:s.wg=0<;>simp[mv,h] at l
 by_cases h:¬s.wg=0
 .exact⟨(at_ .bad 0,s),by simp[mv,h],λq=>absurd rfl q⟩
 have h:s.wg=0:=ϕ4.1 h;have st:=s9 (P:=PP) (main:=true) (w:=A) (ad:=wA X) W8 .u64 abW f a.Nv;rw[h] at st;refine⟨(at_ .ke 0,s),by simp[mv,h],λ_=>⟨_,_,_,st,a,.refl _,Gu (okW R.ne) rfl,?_⟩⟩;rw[ζ ϛ];exact aF L (I k3 A (((u.trans X p).trans X (R.rx z b)).trans X o))
end
section
variable {Δ:Type}{X:Cx Δ}{Post:Gh Δ->Θ->Ω->Prop}{γ:Gh Δ}{w:Ω}{fr:κ}{cs:List κ}
def Ld (R:Room X γ)(live:∃s,ShAt X w s)(F:∀w' o g,RR X γ w w'->w'.heap[X.M]? =some o->X.Dat (X.fin .a) (X.fin .b) o->az PP true g (da fr cs U)->Post γ g w'):
  ∀(k:Nat)(tm:ϐ)(w1:Ω),RR X γ w w1->HW X.Wg tm->LS X Post γ k (at_ .w1 0) (sH X.Wg tm fr cs) w1:=by
 intro k
 induction k using Nat.strongRecOn with
 |_ k J=>
 intro tm w1 E B;rw[B.eq];generalize K:(λi=>tm.getD i ϗ)=y;refine np λk2 H G A=>dM (bk (Wa ..)) ϛ ϛ ϛ ϛ (λs _ r t=>?_) (λs d r _=>?_)
 .exfalso
  rcases r.2.2.1 with h|h|h|h|h|h<;>simp[mv,h,KKi] at t
 have st:=s9 (P:=PP) (main:=true) (w:=H) (ad:=wA X) W8 .u64 abW (Wa X.Wg fr cs y) d.Nv;have m:=E.trans X A;have D:=m.live live;have e:∀{k3:Nat}{n:Ω}{g:Θ},k3<k->RR X γ w n->(∃tm,HW X.Wg tm/\az PP true g (sH X.Wg tm fr cs))->LS X Post γ k3 (at_ .w1 0) g n:=λI hr ⟨tm,B,hg⟩=>aF hg (J _ I tm _ hr B)
 rcases r.2.2.1 with h|h|h|h|h|h
 .rw[h] at st
  refine⟨(at_ .ke 0,s),by simp[mv,h],λ_=>⟨_,_,_,st,d,.refl _,Gu (okW R.ne) rfl,?_⟩⟩;rw[ζ ϛ];exact aF (aem ..) (DI R D (ael ..) (YE ..) (YD ..) aeo aep aen (YB ..) (YC ..) λw' o hr u v=>F w' o _ (m.trans X hr) u v (S8 ..))
 .exact⟨(at_ .bad 0,s),by simp[mv,h,KKi],λq=>absurd rfl q⟩
 .rw[h] at st
  refine⟨({pc:= .w2,old:=s.wg},s),by simp[mv,h,KKi],λ_=>⟨_,_,_,st,d,.refl _,Gu (okW R.ne) rfl,?_⟩⟩;rw[ζ ϛ];refine aF (YO ..) (np (T:={pc:= .w2,old:=s.wg}) λk3 n z c=>dM (bk (De ..)) ϛ ϛ ϛ ϛ (λs' _ r t=>?_) (λs' a C _=>?_))
  .exfalso
   by_cases q:s'.wg=s.wg<;>simp[mv,q] at t
  by_cases q:s'.wg=s.wg
  .have b:=a.setWg R.ne 4294967297
   have p:=ConcM.Eff.set (w:=n) (Mu:=X.Fd) (Wg:=X.Wg) (wA X) (.int .u64 4294967297) (.inr rfl);refine⟨(at_ .pw 0,{s' with wg:=s'.wg+1}),by simp[mv,q],λ_=>⟨_,_,_,oK (P:=PP) (main:=true) JI .u64 KG (De ..) (by
    have:=a.Nv;rw[q,h] at this;exact this) (a.RY 0),?_,p,qQ (okW R.ne) rfl,?_⟩⟩
   .rw[q,h];exact b
   rw[ζ ϛ];have f:=(m.trans X c).trans X (R.rx p b);refine aF (YJ ..) (Es (x:=0) R (f.live live) (YI ..) aeu aev aet (YA ..) (Yz ..) (Ym ..) (S6 ..) (Yk ..) (Yj ..) (X9 ..) (gL:=default) (gM:=default) λk' w' hr=>?_)
   exact DI R ((f.trans X hr).live live) (X8 ..) (S4 ..) (S3 ..) Yb Yc Ya (SY ..) (SZ ..) λl o j u v=>F l o _ ((f.trans X hr).trans X j) u v (OJ ..)
  .refine⟨(at_ .w1 0,s'),by simp[mv,q],λ_=>⟨_,_,_,nz (P:=PP) (main:=true) JI .u64 KG (De ..) a.Nv (a.RY 0) (by rw[h] at q;exact q),a,.refl _,Gu (okW R.ne) rfl,?_⟩⟩
   rw[ζ ϛ];exact e ϖ (m.trans X c) (YN ..)
 .exact⟨(at_ .bad 0,s),by simp[mv,h,KKi],λq=>absurd rfl q⟩
 .rw[h] at st
  refine⟨({pc:= .w2,old:=s.wg},s),by simp[mv,h,KKi],λ_=>⟨_,_,_,st,d,.refl _,Gu (okW R.ne) rfl,?_⟩⟩;rw[ζ ϛ];refine aF (YL ..) (np (T:={pc:= .w2,old:=s.wg}) λk3 n z c=>dM (bk (Dd ..)) ϛ ϛ ϛ ϛ (λs' _ r t=>?_) (λs' a C _=>?_))
  .exfalso
   by_cases q:s'.wg=s.wg<;>simp[mv,q] at t
  by_cases q:s'.wg=s.wg
  .have b:=a.setWg R.ne 8589934593
   have p:=ConcM.Eff.set (w:=n) (Mu:=X.Fd) (Wg:=X.Wg) (wA X) (.int .u64 8589934593) (.inr rfl);refine⟨(at_ .pw 0,{s' with wg:=s'.wg+1}),by simp[mv,q],λ_=>⟨_,_,_,oK (P:=PP) (main:=true) JI .u64 KG (Dd ..) (by
    have:=a.Nv;rw[q,h] at this;exact this) (a.RY 0),?_,p,qQ (okW R.ne) rfl,?_⟩⟩
   .rw[q,h];exact b
   rw[ζ ϛ];have f:=(m.trans X c).trans X (R.rx p b);refine aF (YH ..) (Es (x:=0) R (f.live live) (YG ..) aer aes aeq (Yy ..) (Yx ..) (Yl ..) (S5 ..) (Yi ..) (Yh ..) (X4 ..) (gL:=default) (gM:=default) λk' w' hr=>?_)
   exact DI R ((f.trans X hr).live live) (X3 ..) (SX ..) (SW ..) X6 X7 X5 (ST ..) (SU ..) λl o j u v=>F l o _ ((f.trans X hr).trans X j) u v (OI ..)
  .refine⟨(at_ .w1 0,s'),by simp[mv,q],λ_=>⟨_,_,_,nz (P:=PP) (main:=true) JI .u64 KG (Dd ..) a.Nv (a.RY 0) (by rw[h] at q;exact q),a,.refl _,Gu (okW R.ne) rfl,?_⟩⟩
   rw[ζ ϛ];exact e ϖ (m.trans X c) (YK ..)
 .exact⟨(at_ .bad 0,s),by simp[mv,h,KKi],λq=>absurd rfl q⟩
def Le (R:Room X γ)(live:∃s,ShAt X w s)(b:∀w' o g,RR X γ w w'->w'.heap[X.M]? =some o->X.Dat (X.fin .a) (X.fin .b) o->az PP true g (da fr cs U)->Post γ g w'){k:Nat}:LS X Post γ k (at_ .kw 0) (sW0 X.Wg fr cs) w:=by
 refine aF (Ig ..) (lN R (T':=at_ .w1 0) (g':=resume (LN X.Wg fr cs) U) ϛ ϛ (bk (JS ..)) (λw=>kq K3 .disable MS (JS ..)) (by simp[mv]) (by simp[EvStop,kb,sK]) ϛ ϛ ϛ ϛ ϛ ϛ λk' w' c hr=>?_);have⟨tm,a,hg⟩:=X2 X.Wg fr cs
 exact aF hg (Ld R live b k' tm w' hr a)
end
section
variable {Δ:Type}{X:Cx Δ}{Post:Gh Δ->Θ->Ω->Prop}{γ:Gh Δ}{w:Ω}{fr:κ}{cs:List κ}{k:Nat}
def Ru {T T':Lo}{g b:Θ}(R:Room X γ)(c:(T=at_ .e1 0/\T'=at_ .g1 0)\/(T=at_ .e2 0/\T'=at_ .g2 0))(a:jx g=some (170,#[]))(hg:az PP true (dJ g) b)(go:∀k' w',RR X γ w w'->LS X Post γ k' T' b w'):LS X Post γ k T g w:=by
 rcases c with⟨rfl,rfl⟩|⟨rfl,rfl⟩
 .exact lN R (T':=at_ .g1 0) (g':=dJ g) ϛ ϛ (qT a) (λw=>kr xEn .enable ϛ fEn a) (by simp[mv]) (by simp[EvStop,kb,sK]) ϛ ϛ ϛ ϛ ϛ ϛ λk' w' _ hr=>aF hg (go k' w' hr)
 .exact lN R (T':=at_ .g2 0) (g':=dJ g) ϛ ϛ (qT a) (λw=>kr xEn .enable ϛ fEn a) (by simp[mv]) (by simp[EvStop,kb,sK]) ϛ ϛ ϛ ϛ ϛ ϛ λk' w' _ hr=>aF hg (go k' w' hr)
def add1 (R:Room X γ)(live:∃s,ShAt X w s)(go:∀k' w',RR X γ w w'->LS X Post γ k' (at_ .g1 0) (da fr cs U) w'):LS X Post γ k (at_ .k1 0) (YS X.Wg fr cs) w:=by
 refine aF (OV ..) (lN R (T':=at_ .x1 0) (g':=resume (sA1 X.Wg fr cs) U) ϛ ϛ (bk (yg ..)) (λw=>kq K3 .disable MS (yg ..)) (by simp[mv]) (by simp[EvStop,kb,sK]) ϛ ϛ ϛ ϛ ϛ ϛ λy w1 p f=>?_)
 refine aF (OU ..) (xw W9 ab0 (JV ..) (aF (OS ..) ?_));refine np (T:=at_ .x1 0) λk2 l n d=>dM (bk (yf ..)) ϛ ϛ ϛ ϛ (λs _ o t=>?_) (λs b o _=>?_)
 .exfalso
  by_cases h:s.wg=0<;>simp[mv,h] at t
 by_cases h:¬s.wg=0
 .exact⟨(at_ .bad 0,s),by simp[mv,h],λq=>absurd rfl q⟩
 have h:s.wg=0:=ϕ4.1 h;have st:=tU (P:=PP) (main:=true) (w:=l) (ad:=wA X) N5 .u64 QM (yf X.Wg fr cs) b.Nv (b.RY 0);have a:=b.setWg R.ne 4294967296;have i:=ConcM.Eff.set (w:=l) (Mu:=X.Fd) (Wg:=X.Wg) (wA X) (.int .u64 4294967296) (.inr rfl);have e:IntKind.u64.wrap (s.wg+4294967296)=4294967296:=by rw[h];decide
 rw[e] at st;refine⟨(at_ .p1 0,{s with wg:=KKi}),by simp[mv,h],λ_=>⟨_,_,_,st,a,i,qQ (okW R.ne) rfl,?_⟩⟩;rw[ζ ϛ];have j:=(f.trans X d).trans X (R.rx i a);refine aF (OR ..) (nd (OQ ..) We Wf Wd (λz u=>?_) (aF (OP ..) ?_))
 .have⟨s,v⟩:=(j.trans X u).live live
  exact⟨_,v.cWs⟩
 refine lN R (T':=at_ .e1 0) (g':=resume (sA5 X.Wg fr cs) U) ϛ ϛ (bk (Df ..)) (λw=>iJ xRd .read fRd (Df ..)) (by simp[mv]) (by simp[EvStop,kb];rfl) ϛ ϛ ϛ ϛ ϛ ϛ λk4 x m g=>?_
 exact aF (OO ..) (Ru R (.inl ⟨rfl,rfl⟩) (ON ..) (JU ..) λk5 r c=>go k5 r ((j.trans X g).trans X c))
def amM (R:Room X γ)(live:∃s,ShAt X w s)(go:∀k' w',RR X γ w w'->LS X Post γ k' (at_ .g2 0) (da fr cs U) w'):LS X Post γ k (at_ .k2 0) (YS X.Wg fr cs) w:=by
 refine aF (OV ..) (lN R (T':=at_ .x2 0) (g':=resume (sA1 X.Wg fr cs) U) ϛ ϛ (bk (yg ..)) (λw=>kq K3 .disable MS (yg ..)) (by simp[mv]) (by simp[EvStop,kb,sK]) ϛ ϛ ϛ ϛ ϛ ϛ λy w1 r g=>?_)
 refine aF (OU ..) (xw W9 ab0 (JV ..) (aF (OS ..) ?_));refine np (T:=at_ .x2 0) λk2 l p f=>dM (bk (yf ..)) ϛ ϛ ϛ ϛ (λs _ n t=>?_) (λs b n _=>?_)
 .exfalso
  rcases n.2.2.1 with h|h|h|h|h|h<;>simp[mv,h,KKi] at t
 have st:=tU (P:=PP) (main:=true) (w:=l) (ad:=wA X) N5 .u64 QM (yf X.Wg fr cs) b.Nv (b.RY 0)
 by_cases h:s.wg=0
 .have a:=b.setWg R.ne 4294967296
  have d:=ConcM.Eff.set (w:=l) (Mu:=X.Fd) (Wg:=X.Wg) (wA X) (.int .u64 4294967296) (.inr rfl);have e:IntKind.u64.wrap (s.wg+4294967296)=4294967296:=by rw[h];decide
  rw[e] at st;refine⟨(at_ .p2 0,{s with wg:=KKi}),by simp[mv,h],λ_=>⟨_,_,_,st,a,d,qQ (okW R.ne) rfl,?_⟩⟩;rw[ζ ϛ];have i:=(g.trans X f).trans X (R.rx d a);refine aF (OR ..) (nd (OQ ..) We Wf Wd (λz u=>?_) (aF (OP ..) ?_))
  .have⟨s,v⟩:=(i.trans X u).live live
   exact⟨_,v.cWs⟩
  refine lN R (T':=at_ .e2 0) (g':=resume (sA5 X.Wg fr cs) U) ϛ ϛ (bk (Df ..)) (λw=>iJ xRd .read fRd (Df ..)) (by simp[mv]) (by simp[EvStop,kb];rfl) ϛ ϛ ϛ ϛ ϛ ϛ λk4 x o m=>?_
  exact aF (OO ..) (Ru R (.inr ⟨rfl,rfl⟩) (ON ..) (JU ..) λk5 j c=>go k5 j ((i.trans X m).trans X c))
 .by_cases h1:¬s.wg=KKi
  .exact⟨(at_ .bad 0,s),by simp[mv,h,h1],λq=>absurd rfl q⟩
  have h1:s.wg=KKi:=ϕ4.1 h1;have a:=b.setWg R.ne 8589934592;have d:=ConcM.Eff.set (w:=l) (Mu:=X.Fd) (Wg:=X.Wg) (wA X) (.int .u64 8589934592) (.inr rfl);have e:IntKind.u64.wrap (s.wg+4294967296)=8589934592:=by rw[h1];decide
  rw[e] at st;refine⟨(at_ .e2 0,{s with wg:=2*KKi}),by simp[mv,h1,KKi],λ_=>⟨_,_,_,st,a,d,qQ (okW R.ne) rfl,?_⟩⟩;rw[ζ ϛ];have i:=(g.trans X f).trans X (R.rx d a);exact aF (YR ..) (Ru R (.inr ⟨rfl,rfl⟩) (YQ ..) (S9 ..) λk5 j c=>go k5 j (i.trans X c))
def ah7 {T:Lo}{g:Θ}(a:T.pc= .g1\/T.pc= .g2)(h:∀k' w₁,RR X γ w w₁->RL X PP (BE X PP Post k') T γ g w₁):LS X Post γ k T g w:=by
 cases k with
 |zero=>exact aG.stop λw₁ hr=>⟨γ.mine,λ_=>rfl,trivial⟩
 |succ k=>
  refine aG.stop λw₁ hr=>⟨γ.mine,λ_=>rfl,?_⟩
  unfold BE;rw[φ a];exact h k w₁ hr
def acx (X:Cx Δ)(Post:Gh Δ->Θ->Ω->Prop)(Tg:Lo)(γ:Gh Δ)(w:Ω)(f:Φ)(fr:κ)(cs:ϙ):Prop:=
 ∀k' w' bw bf (own':ϒ),(∀b,γ.own b->own' b)->(∀b,own' b->γ.own b\/w.heap.size<=b)->(∀b,own' b->b<w'.heap.size)->RR X γ w w'->own' bw->own' bf->w'.cell? ⟨bw,0,none⟩=some (pb X.Wg)->w'.cell? ⟨bf,0,none⟩=some f->
  (∀K,aG PP false (gX X false (given {γ with own:=own'}).ro) (eK (KX X PP K (gB Tg.pc)) (at_ .out (X.N (gB Tg.pc))) {given {γ with own:=own'} with mine:=X.c0 (gB Tg.pc)}) (λ_=>False) (gW0 bw bf) w')/\
  aG PP true (gX X false (given {γ with own:=own'}).ro) (eK (BE X PP Post k') (ju Tg.pc) (given {γ with own:=own'})) (λ_=>False) (da fr cs U) w'
def Kx {Tk Tg:Lo}{f:Φ}(n:fS Tk.pc=false)(B:Tg.pc= .g1\/Tg.pc= .g2)(R:Room X γ)(l:∀b,γ.own b\/γ.ro b->b<w.heap.size)(live:∃s,ShAt X w s)(S:∃x,mN x=true/\f=x)(o:∀(c:Gh Δ)(k:Nat)(w:Ω)(fr:κ)(cs:ϙ),Room X c->(∃s,ShAt X w s)->(∀k' w',RR X c w w'->LS X Post c k' Tg (da fr cs U) w')->LS X Post c k Tk (YS X.Wg fr cs) w)(hcells:f.cells=#[f])(N:acx X Post Tg γ w f fr cs):LS X Post γ k Tk (sG0 X.Wg f fr cs) w:=by
 have⟨K,d⟩:=live;have T:=lt_of_some d.1;have P:=lt_of_some d.2;show aG PP true (gX X (fS Tk.pc) γ.ro) (eK (BE X PP Post k) Tk γ) γ.own (sG0 X.Wg f fr cs) w;rw[n];refine aF (Yw _ _ _ _) (jf (f:=λb=>pb b) (Yv _ _ _ _) (λw1 h1=>⟨#[],zi _ _,ϛ⟩) λw1 bw h1 y C=>?_)
 refine aF (Yu _ bw _ _ _) (jf (f:=λb=>pb b) (Yt _ _ _ _ _) (λI h2=>⟨#[],zi _ _,ϛ⟩) λI bf h2 A z=>?_);have i:=bm h2 (.inl (.inr rfl)) C;have H:I.cell? ⟨bw,0,none⟩=some (pb X.Wg):=by simp[World.cell?,i,pb,Value.cells]
 refine aF (Ys _ _ bf _ _ _) (FQ (Yq _ _ _ _ _ _) ϰ (.inl (.inl (.inr rfl))) H λJ D=>?_);have r:RX X γ.ro γ.own w J:=h1.trans X ((h2.sub λb e=> .inl e).trans X (D.sub λb e=> .inl (.inl e)));have v:=bm D (.inl (.inl (.inr rfl))) i;have E:=bm D (.inl (.inr rfl)) z
 have O:Room X {γ with own:=λb=>(γ.own b\/b=bw)\/b=bf}:=⟨R.ne,λb g=>by
  have:=h1.size;have:=h2.size;rcases g with((g|rfl)|rfl)|g
  .exact R.off b (.inl g)
  .exact⟨ϖ,ϖ⟩
  .exact⟨ϖ,ϖ⟩
  .exact R.off b (.inr g)⟩
 refine aF (Yr _ _ _ _ _ _) ?_;have p:LS X Post {γ with own:=λb=>(γ.own b\/b=bw)\/b=bf} k Tk (YS X.Wg (fG X.Wg bw bf f fr cs) (fr::cs)) J:=by
  refine o _ _ _ _ _ O (r.live ⟨K,d⟩) λk' Q L=>aF (Yo _ _ _ _ _ _) (ah7 B λk5 u M=>?_)
  have a:=L.trans X M;have j:=bm a (.inl (.inl (.inr rfl))) v;have m:=bm a (.inl (.inr rfl)) E;have F:u.cell? ⟨bf,0,none⟩=some f:=by simp[World.cell?,m,hcells]
  have q:u.cell? ⟨bw,0,none⟩=some (pb X.Wg):=by simp[World.cell?,j,pb,Value.cells]
  have G:=lt_of_some j;have t:=lt_of_some m;have⟨c1,c2⟩:=N k5 u bw bf (λb=>(γ.own b\/b=bw)\/b=bf) (λb h=> .inl (.inl h)) (λb h=>by
   rcases h with(h|rfl)|rfl
   .exact .inl h
   .exact .inr y
   .exact .inr (ac7 h1.size A)) (λb h=>by
   have:=(r.trans X (a.sub λb e=> .inl (.inl e))).size;rcases h with(h|rfl)|rfl
   .have:=l b (.inl h);omega
   .exact G
   .exact t) (r.trans X (a.sub λb e=> .inl (.inl e))) (.inl (.inr rfl)) (.inr rfl) q F
  refine⟨(JT _ _ _ _ _ _).1,(JT _ _ _ _ _ _).2,_,_,Yn _ _ _ _ _ _ _,c1,aF (S7 _ _ _ _ _ _) c2⟩
 have:=p;unfold LS at this;rw[n] at this;exact this
end
structure Base (X:Cx jO)(γ:Gh jO)(w:Ω):Prop where
 dat:X.Dat=Jd
 room:Room X γ
 om:¬γ.own X.M
 rm:¬γ.ro X.M
 mf:X.M≠X.Fd
 mw:X.M≠X.Wg
 low:∀b,γ.own b\/γ.ro b->b<w.heap.size
 ml:X.M<w.heap.size
 live:∃s,ShAt X w s
section
variable {X:Cx jO}{γ:Gh jO}{w w':Ω}
def Base.rely (h:Base X γ w)(hr:RR X γ w w'):Base X γ w':=⟨h.dat,h.room,h.om,h.rm,h.mf,h.mw,λb a=>ψ (h.low b a) hr.size,ψ h.ml hr.size,hr.live h.live⟩
def Base.grow (h:Base X γ w)(hr:RR X γ w w'){own':ϒ}(h1:∀b,own' b->γ.own b\/w.heap.size<=b)(h2:∀b,own' b->b<w'.heap.size):Base X {γ with own:=own'} w':=by
 have⟨s,c⟩:=h.live;have e:=lt_of_some c.1;have d:=lt_of_some c.2;have f:=h.ml;refine⟨h.dat,⟨h.room.ne,λb a=>?_⟩,λa=>?_,h.rm,h.mf,h.mw,λb a=>?_,ψ h.ml hr.size,hr.live h.live⟩
 .rcases a with a|a
  .rcases h1 b a with a|a
   .exact h.room.off b (.inl a)
   .exact⟨ϖ,ϖ⟩
  .exact h.room.off b (.inr a)
 .rcases h1 _ a with a|a
  .exact h.om a
  .omega
 .rcases a with a|a
  .exact h2 b a
  .exact ψ (h.low b (.inr a)) hr.size
def Base.given (h:Base X γ w):Base X (given γ) w:=
 ⟨h.dat,⟨h.room.ne,λb a=>a.elim False.elim λa=>h.room.off b a.symm⟩,id,λa=>a.elim h.rm h.om,h.mf,h.mw,λb a=>a.elim False.elim λa=>h.low b a.symm,h.ml,h.live⟩
def Base.now (h:Base X γ w){r:bB}(hr:r= .a\/r= .b)(m:jO):Now X r {aI.given γ with mine:=m} w:=
 ⟨⟨h.dat,hr,⟨h.given.room.ne,h.given.room.off⟩,id,h.given.rm,h.mf,h.mw⟩,h.given.low,h.ml,h.live⟩
end
def VW:(PP.info? 3).bind (·.zero)=some (.int .i64 0):=ϰ
def Wx:(PP.info? 3).map (·.size)=some 1:=ϰ
section
variable {X:Cx jO}{sW O0:Nat->Prop}{w0:Ω}{gL gR gA:Ξ->Option Ξ}{dv:Φ}{K bd:Nat}{Rd:Ω->Prop}{fr:κ}{cs:List κ}
def xS (X:Cx jO)(sW O0:ϒ)(w0:Ω)(bd:Nat)(dv:Φ)(fr:κ)(cs:ϙ):Gh jO->Θ->Ω->Prop:=λ_ g w=>
 (∃bs bs',az PP true g (da (fT3 X.Wg X.Fd bd bs bs' X.M dv fr cs) (fr::cs) U))/\(∃o,w.heap[X.M]? =some o/\Jd (X.fin .a) (X.fin .b) o)/\RX X sW O0 w0 w
structure Reads (X:Cx jO)(sW:Nat->Prop)(Rd:Ω->Prop)(dv:Φ)(gL gR gA:Ξ->Option Ξ)(K:Nat):Prop where
 keep:∀ro own w w',(∀b,sW b->ro b)->Rd w->RX X ro own w w'->Rd w'
 ca:∀ro,(∀b,sW b->ro b)->Cont X .a ro Rd dv 0 gL K
 cao:∀ro,(∀b,sW b->ro b)->Cont X .a ro Rd dv 2 gA K
 cb:∀ro,(∀b,sW b->ro b)->Cont X .b ro Rd dv 1 gR K
 cbo:∀ro,(∀b,sW b->ro b)->Cont X .b ro Rd dv 2 gA K
 fa:X.fin .a=k9 gL gA
 fb:X.fin .b=k9 gR gA
 c0:∀r,X.c0 r=λ_=>none
 n:∀r,2*K<=X.N r
variable (hR:Reads X sW Rd dv gL gR gA K)
include hR
theorem aec {γ:Gh jO}{w:Ω}{bs bs':Nat}(p:Base X γ w)(e:∀b,sW b->γ.ro b)(A:∀b,O0 b\/sW b->γ.own b\/γ.ro b)(i:Rd w)(h0:RX X sW O0 w0 w)(l:γ.ro bd)(y:w.cell? ⟨bd,0,none⟩=some dv)(d:γ.own bs')(j:w.heap[bs']? =some (.cells #[.int .i64 1] 3 (0,0))):
  acx X (xS X sW O0 w0 bd dv fr cs) (at_ .g2 0) γ w (sM X.Fd bd bs') (fT2 X.Wg X.Fd bd bs bs' X.M dv fr cs) (fr::cs):=by
 intro k' w' bw bf own' x J H a C of L F;have v:=p.grow a J H;have B:w'.cell? ⟨bd,0,none⟩=some dv:=by
  unfold World.cell? at y⊢;rw[a.keep bd (p.low bd (.inr l)) (.inr l)];exact y
 have t:w'.cell? ⟨bs',0,none⟩=some (.int .i64 1):=by
  have:=bm a (.inl d) j;simp[World.cell?,this]
 have s:Rd w':=hR.keep _ _ _ _ e i a;have sub:∀b,sW b->(given {γ with own:=own'}).ro b:=λb c=> .inl (e b c)
 refine⟨λI=>?_,?_⟩
 .have:=wN (r:= .b) (k:=I) (n:=X.N .b) (λw w' own i h=>hR.keep _ own w w' sub i h) (hR.cb _ sub) (hR.cbo _ sub) (hR.n .b) (v.now (.inr rfl) (X.c0 .b)) rfl s (hR.c0 .b) hR.fb (bw:=bw) (bf:=bf) (bd:=bd) (bs:=bs') (.inr C) (.inr of) (.inl l) (.inr (x _ d)) L F B t
  exact this
 .refine aF (XS ..) ?_
  have u:=v.given;have f:=Le (Post:=xS X sW O0 w0 bd dv fr cs) (fr:=fT3 X.Wg X.Fd bd bs bs' X.M dv fr cs) (cs:=fr::cs) (k:=k') u.room u.live (λq o g h1 h2 G D=>⟨⟨bs,bs',D⟩,⟨o,h2,p.dat▸G⟩,?_⟩)
  .exact f
  .have E:RX X sW O0 w w':=⟨a.tape,a.output,a.size,a.os,λb c m=>a.keep b c (A b m),a.live⟩
   have K:RX X sW O0 w' q:=⟨h1.tape,h1.output,h1.size,h1.os,λb c m=>h1.keep b c (.inr ((A b m).elim (λz=> .inr (x b z)) .inl)),h1.live⟩
   exact(h0.trans X E).trans X K
theorem aed {γ:Gh jO}{w:Ω}{bs:Nat}(N:Base X γ w)(m:∀b,sW b->γ.ro b)(O:∀b,O0 b\/sW b->γ.own b\/γ.ro b)(D:Rd w)(h0:RX X sW O0 w0 w)(g:γ.own bd)(M:w.cell? ⟨bd,0,none⟩=some dv)(l:γ.own bs)(G:w.heap[bs]? =some (.cells #[.int .i64 0] 3 (0,0))):
  acx X (xS X sW O0 w0 bd dv fr cs) (at_ .g1 0) γ w (sM X.Fd bd bs) (fT1 X.Wg X.Fd bd bs X.M dv fr cs) (fr::cs):=by
 intro k' w' bw bf own' d a2 Y c S of cw V;have L:=N.grow c a2 Y;have C:w'.cell? ⟨bd,0,none⟩=some dv:=by
  unfold World.cell? at M⊢;rw[c.keep bd (N.low bd (.inl g)) (.inl g)];exact M
 have K:w'.cell? ⟨bs,0,none⟩=some (.int .i64 0):=by
  have:=bm c (.inl l) G;simp[World.cell?,this]
 have p:Rd w':=hR.keep _ _ _ _ m D c;have sub:∀b,sW b->(given {γ with own:=own'}).ro b:=λb a=> .inl (m b a)
 refine⟨λZ=>?_,?_⟩
 .have:=wN (r:= .a) (k:=Z) (n:=X.N .a) (λw w' own D h=>hR.keep _ own w w' sub D h) (hR.ca _ sub) (hR.cao _ sub) (hR.n .a) (L.now (.inl rfl) (X.c0 .a)) rfl p (hR.c0 .a) hR.fa (bw:=bw) (bf:=bf) (bd:=bd) (bs:=bs) (.inr S) (.inr of) (.inr (d _ g)) (.inr (d _ l)) cw V C K
  exact this
 .have q:=L.given
  have j:∀b,O0 b\/sW b->(given {γ with own:=own'}).ro b:=λb a=>(O b a).elim (λz=> .inr (d b z)) .inl
  have T:RX X sW O0 w0 w':=h0.trans X ⟨c.tape,c.output,c.size,c.os,λb a H=>c.keep b a (O b H),c.live⟩;refine aF (XX ..) ?_;refine jf (f:=λb=>pb b) (XW ..) (λw1 h1=>⟨#[],n6 VW,ϛ⟩) λw1 bs' h1 I E=>?_
  refine aF (XV _ _ _ _ bs' ..) ?_;have⟨s,P⟩:=q.live;have n1:bs'≠X.Fd/\bs'≠X.Wg:=⟨λe=>by have:=lt_of_some P.1;omega,λe=>by have:=lt_of_some P.2;omega⟩
  have U:¬(given {γ with own:=own'}).ro bs':=λe=>by have:=q.low bs' (.inr e);omega
  have F:(λb=>False\/b=bs') bs':= .inr rfl;refine kD (b:=bs') (A:=λo x=>x=ϗ/\o= .cells #[.int .i64 1] 3 (0,0)) F n1 (XT ..) (λu h2=>?_) (λu o x _ i ha h2=>?_) U
  .have⟨w',ev,Q,r2,r3⟩:=iN (t:=3) (off:=0) (v:= .int .i64 1) (bm h2 (.inl F) E) Wx (by simp[Value.cells]) (by simp[Value.cells,mN])
   exact⟨ϗ,_,w',ev,.inr ⟨Q,rfl⟩,r2,⟨rfl,rfl⟩,λe he=>⟨bs',r3 e he,.inl F⟩⟩
  obtain⟨rfl,rfl⟩:=ha;have h12:RX X (given {γ with own:=own'}).ro (λ_=>False) w' u:=h1.trans X (h2.sub λb e=>e.elim);have y:Base X {given {γ with own:=own'} with own:=λb=>False\/b=bs'} u:=q.grow h12 (λb a=>by
   rcases a with a|rfl
   .exact a.elim
   .exact .inr I) (λb a=>by
   rcases a with a|rfl
   .exact a.elim
   .exact lt_of_some i)
  have J:u.cell? ⟨bd,0,none⟩=some dv:=by
   unfold World.cell? at C⊢;rw[h12.keep bd (q.low bd (.inr (.inr (d _ g)))) (.inr (.inr (d _ g)))];exact C
  refine aF (XU ..) ?_;have B:=Kx (Post:=xS X sW O0 w0 bd dv fr cs) (Tk:=at_ .k2 0) (Tg:=at_ .g2 0) (k:=k') rfl (.inr rfl) y.room y.low y.live (f:=sM X.Fd bd bs') (fr:=fT2 X.Wg X.Fd bd bs bs' X.M dv fr cs) (cs:=fr::cs) ⟨_,rfl,rfl⟩ (λW k w fr cs R live go=>amM R live go) rfl
   (aec hR y (λb a=>sub b a) (λb a=> .inr (j b a)) (hR.keep _ _ _ _ sub p h12) (T.trans X ⟨h12.tape,h12.output,h12.size,h12.os,λb a H=>h12.keep b a (.inr (j b H)),h12.live⟩) (.inr (d _ g)) J (.inr rfl) i)
  exact B
theorem CX {γ:Gh jO}{w:Ω}{k:Nat}(c:Base X γ w)(g:∀b,sW b->γ.ro b)(u:∀b,O0 b\/sW b->γ.own b\/γ.ro b)(B:Rd w)(h0:RX X sW O0 w0 w)(n:γ.own bd)(r:w.cell? ⟨bd,0,none⟩=some dv):
  LS X (xS X sW O0 w0 bd dv fr cs) γ k (at_ .k1 0) (resume (sT6 X.Fd bd X.M dv fr cs) (pb X.Wg)) w:=by
 refine aF (XF ..) ?_;refine jf (f:=λb=>pb b) (XE ..) (λw1 h1=>⟨#[],n6 VW,ϛ⟩) λw1 bs h1 p l=>?_
 refine aF (XD _ _ _ bs ..) ?_;have⟨s,y⟩:=c.live;have n1:bs≠X.Fd/\bs≠X.Wg:=⟨λe=>by have:=lt_of_some y.1;omega,λe=>by have:=lt_of_some y.2;omega⟩
 have C:¬γ.ro bs:=λe=>by have:=c.low bs (.inr e);omega
 have now:∀b,γ.own b->b≠bs:=λb a e=>by have:=c.low b (.inl a);omega
 have m:(λb=>γ.own b\/b=bs) bs:= .inr rfl;refine kD (b:=bs) (A:=λo x=>x=ϗ/\o= .cells #[.int .i64 0] 3 (0,0)) m n1 (XB ..) (λh h2=>?_) (λh o x _ d ha h2=>?_) C
 .have⟨w',ev,z,r2,r3⟩:=iN (t:=3) (off:=0) (v:= .int .i64 0) (bm h2 (.inl m) l) Wx (by simp[Value.cells]) (by simp[Value.cells,mN])
  exact⟨ϗ,_,w',ev,.inr ⟨z,rfl⟩,r2,⟨rfl,rfl⟩,λe F=>⟨bs,r3 e F,.inl m⟩⟩
 obtain⟨rfl,rfl⟩:=ha;have h12:RX X γ.ro γ.own w h:=h1.trans X (h2.sub λb e=>⟨.inl e,now b e⟩);have i:Base X {γ with own:=λb=>γ.own b\/b=bs} h:=c.grow h12 (λb a=>by
  rcases a with a|rfl
  .exact .inl a
  .exact .inr p) (λb a=>by
  rcases a with a|rfl
  .exact ψ (c.low b (.inl a)) h12.size
  .exact lt_of_some d)
 have q:h.cell? ⟨bd,0,none⟩=some dv:=by
  unfold World.cell? at r⊢;rw[h12.keep bd (c.low bd (.inl n)) (.inl n)];exact r
 refine aF (XC ..) ?_;have j:=Kx (Post:=xS X sW O0 w0 bd dv fr cs) (Tk:=at_ .k1 0) (Tg:=at_ .g1 0) (k:=k) rfl (.inl rfl) i.room i.low i.live (f:=sM X.Fd bd bs) (fr:=fT1 X.Wg X.Fd bd bs X.M dv fr cs) (cs:=fr::cs) ⟨_,rfl,rfl⟩ (λE k w fr cs R live go=>add1 R live go) rfl
  (aed hR i g (λb a=>(u b a).imp .inl id) (hR.keep _ _ _ _ g B h12) (h0.trans X ⟨h12.tape,h12.output,h12.size,h12.os,λb a D=>h12.keep b a (u b D),h12.live⟩) (.inl n) q (.inr rfl) d)
 exact j
end
end aI
end
section
open Go.Conc Go.RowKit Go.Lib
open Go.ConcM (OsLater)
namespace aI
section
variable {X:Cx jO}{ro:Nat->Prop}
def aaw:RP (gX X false ro) (λs=>s) ro:=
 ⟨λs w w₁ h=>⟨h.size,h.tape,h.keep⟩,λs w w' es h=>⟨h.tape,h.output,h.size,by rw[h.os];exact .refl _,h.keep,λe a=>by
  rcases h.ev e a with⟨b,hb,hl⟩|⟨m,hm⟩
  .exact .inl ⟨b,hb,hl⟩
  .exact .inr (.inr ⟨m,hm⟩),ϛ⟩,λs w w' b=>Iff.rfl⟩
def FR {main:Bool}{Stop:(Nat->Prop)->Θ->Ω->Prop}{own:ϒ}{w0:Ω}(n:∀b,own b->b<w0.heap.size)(B:X.Fd<w0.heap.size)(y:X.Wg<w0.heap.size)(u:∀b,ro b->b<w0.heap.size):
  ∀(r:Rk){s:ϒ}{g:Θ}{w:Ω},(∀b,s b->w0.heap.size<=b/\b<w.heap.size)->RX X ro own w0 w->jj PP main (gX X false ro) Stop r s g w->
   aG PP main (gX X false ro) (λo g w'=>∃s',o=(λb=>own b\/s' b)/\Stop s' g w'/\(∀b,s' b->w0.heap.size<=b/\b<w'.heap.size)/\RX X ro own w0 w') (λb=>own b\/s b) g w:=by
 intro r;have sub:∀{s:ϒ}{w w₁:Ω},RX X ro (λb=>own b\/s b) w w₁->RX X ro s w w₁/\RX X ro own w w₁:=λh=>
  ⟨⟨h.tape,h.output,h.size,h.os,λb i m=>h.keep b i (m.imp .inr id),h.live⟩,⟨h.tape,h.output,h.size,h.os,λb i m=>h.keep b i (m.imp .inl id),h.live⟩⟩
 induction r with
 |zero=>
  intro s g w j h0 h;refine .stop λw₁ hr=>?_
  have d:RX X ro (λb=>own b\/s b) w w₁:=hr;exact⟨s,rfl,h w₁ (sub d).1,λb i=>⟨(j b i).1,ψ (j b i).2 d.size⟩,h0.trans X (sub d).2⟩
 |mk f A=>
  intro s g w j h0 h;rcases h with h|⟨p,h⟩
  .refine .stop λw₁ hr=>?_
   have d:RX X ro (λb=>own b\/s b) w w₁:=hr;exact⟨s,rfl,h w₁ (sub d).1,λb i=>⟨(j b i).1,ψ (j b i).2 d.size⟩,h0.trans X (sub d).2⟩
  .refine aG.step p λw₁ hr=>?_
   have d:RX X ro (λb=>own b\/s b) w w₁:=hr;have⟨g',w',es,h1,h2,z⟩:=h w₁ (sub d).1;have a:DX X false ro s w₁ w' es:=h2;have l:=h0.trans X (sub d).2;have k:∀b,b<w0.heap.size->w'.heap[b]? =w₁.heap[b]? :=λb i=>a.keep b (ψ i l.size) λv=>by have:=(j b v).1;omega
   have t:RX X ro own w0 w':=by
    refine l.trans X ⟨a.tape,a.output,a.size,a.os,λb i m=>k b (m.elim (n b) (u b)),λ⟨s,h1,h2⟩=>⟨s,?_,?_⟩⟩
    .rw[k _ B];exact h1
    .rw[k _ y];exact h2
   have q:(gX X false ro).up (λb=>own b\/s b) w₁ w'=λb=>own b\/(gX X false ro).up s w₁ w' b:=funext λb=>propext or_assoc
   refine⟨g',w',es,h1,⟨a.tape,a.output,a.size,a.os,λb i m=>a.keep b i λx=>m (.inr x),λe C=>?_,a.mute⟩,?_⟩
   .rcases a.ev e C with⟨c,hc,hl⟩|h
    .exact .inl ⟨c,hc.imp .inr id,hl⟩
    .exact .inr h
   .rw[q]
    refine A w₁ (λb i=>?_) t z;rcases i with i|i
    .exact⟨(j b i).1,ψ (ψ (j b i).2 d.size) a.size⟩
    .exact⟨ac7 l.size i.1,i.2⟩
end
structure iC (d bl n:Nat)(x:DS)(w:Ω):Prop where
 row:∃f,w.heap[d]? =some (.cells (iX bl n (.slice none 0 0) x) 134 f)
 last:∃f,w.heap[bl]? =some (.cells (byteCells x.aB).toArray 148 f)
 Bg:∃c t f,w.heap[0]? =some (.cells c t f)/\∀v∈c,∀r,¬Value.Has r v
 len:x.aB.length=64*n
 lo:16<=n
 hi:n<=400
 none:x.waiting=[]
def xR (d bl:Nat)(b:Nat):Prop:=b=0\/b=d\/b=bl
def iC.keep {X:Cx jO}{ro own:ϒ}{d bl n:Nat}{x:DS}{w w':Ω}(h:iC d bl n x w)(f:∀b,xR d bl b->ro b)(hr:RX X ro own w w'):iC d bl n x w':=by
 have k:∀b o,xR d bl b->w.heap[b]? =some o->w'.heap[b]? =some o:=λb o i g=>by rw[hr.keep b (Ψ.1 g).1 (.inr (f b i))];exact g
 have⟨⟨j,h1⟩,⟨f2,h2⟩,⟨c,t,q,p,l⟩,a,b,m,e⟩:=h;exact⟨⟨j,k _ _ (.inr (.inl rfl)) h1⟩,⟨f2,k _ _ (.inr (.inr rfl)) h2⟩,⟨c,t,q,k _ _ (.inl rfl) p,l⟩,a,b,m,e⟩
section
variable (w:Ω)(d bl:Nat)
open Classical in
def mask:Ω:={w with heap:=w.heap.mapIdx λb o=>if xR d bl b then(match o with|.cells c t _=> .cells c t (0,c.size)|o=>o) else .cells #[] 1000000 (0,0)}
def vW:(mask w d bl).heap.size=w.heap.size:=by simp[mask]
def PJ {b:Nat}{o:Obj}(a:¬xR d bl b)(h:(mask w d bl).heap[b]? =some o):o= .cells #[] 1000000 (0,0):=by
 simp only[mask,Array.getElem?_mapIdx,ζ a] at h;obtain⟨_,_,rfl⟩:=χ.1 h;rfl
def uC {b:Nat}{c:ϐ}{t:η}{f:Nat×Nat}(a:xR d bl b)(h:w.heap[b]? =some (.cells c t f)):(mask w d bl).heap[b]? =some (.cells c t (0,c.size)):=by
 simp only[mask,Array.getElem?_mapIdx,φ a,h,ξ]
end
def He (w:Ω)(d bl:Nat)(b:Nat):Prop:=b<w.heap.size/\¬xR d bl b
def CP {l:ϓ}{v:Φ}(h:v∈(byteCells l).toArray):∀r,¬Value.Has r v:=by
 simp only[ϐ4,byteCells,ad1] at h;obtain⟨b,_,rfl⟩:=h;intro r hr;cases hr
section
variable {d bl n:Nat}{x:DS}{w:Ω}
theorem iC.cells (h:iC d bl n x w){b:Nat}(k:xR d bl b):∃c t f,w.heap[b]? =some (.cells c t f)/\∀v∈c,∀r,Value.Has r v->xR d bl r:=by
 obtain⟨⟨a,h1⟩,⟨f2,h2⟩,⟨c,t,i,j,g⟩,_⟩:=h;rcases k with rfl|rfl|rfl
 .exact⟨c,t,i,j,λv hv r hr=>absurd hr (g v hv r)⟩
 .refine⟨_,_,a,h1,λv hv r hr=>?_⟩
  simp only[iX,List.mem_toArray,ac1,al7,or_false] at hv;rcases hv with rfl|rfl|rfl|rfl|rfl|rfl|rfl<;>cases hr
  rename_i e;exact .inr (.inr e.symm)
 .exact⟨_,_,f2,h2,λv hv r hr=>absurd hr (CP hv r)⟩
def iC.size (h:iC d bl n x w){b:Nat}(a:xR d bl b):b<w.heap.size:=by
 have⟨c,t,f,h1,_⟩:=h.cells a;exact(Ψ.1 h1).1
def Mi (h:iC d bl n x w){ro:ϒ}(y:∀b,xR d bl b->ro b):Link (He w d bl) (xR d bl) (λ_=>False) ro id (mask w d bl) w:=by
 have s:∀b,xR d bl b->¬He w d bl b:=λb a u=>u.2 a
 have l:=vW w d bl;have g:∀b,b<w.heap.size->He w d bl b\/xR d bl b:=λb a=>by
  by_cases hr:xR d bl b
  .exact .inr hr
  .exact .inl ⟨a,hr⟩
 have m:Go.Proofs.YtchcmhodnkgojaaGreat.LW (He w d bl) (xR d bl) (mask w d bl):=by
  refine⟨λb o a h1 h2=>?_,λb o a u=>PJ w d bl u.2 a,λb o a k=>?_,λb a=>?_,s,⟨?_,s 0 (.inl rfl)⟩,λb o a q r hr=>?_⟩
  .exact absurd (g b (l▸(Ψ.1 a).1)) (by simp[h1,h2])
  .have⟨c,t,f,h1,_⟩:=h.cells k
   rw[uC w d bl k h1] at a;exact⟨c,t,(ac2 a).symm⟩
  .rw[l];exact a.elim (·.1) h.size
  .rw[l];exact h.size (.inl rfl)
  .have k:xR d bl b:=(g b (l▸(Ψ.1 a).1)).resolve_left q
   have⟨c,t,f,h1,h2⟩:=h.cells k;rw[uC w d bl k h1] at a;obtain rfl:=ac2 a;cases hr with
   |cells hv hr=>
    have:=h2 _ hv _ hr;exact⟨by rw[l];exact h.size this,s _ this⟩
 refine⟨λi j e=>e,rfl,λb a=>by rw[<-l];exact a,m,⟨λi j e=>e,rfl,rfl,λb a _=>by rw[<-l];exact a,λb o a h1 h2=>?_,m.hid,λb o a k=>?_,m.low,λb o a i z=>?_⟩,λb a k=>?_,y⟩
 .exact absurd (g b (l▸(Ψ.1 a).1)) (by simp[h1,h2])
 .have⟨c,t,f,h1,_⟩:=h.cells k
  have p:(mask w d bl).heap[b]? =some o:=a;rw[uC w d bl k h1] at p;refine⟨c,t,f,(ac2 p).symm,?_⟩;rw[cP (f:=ren id) λv _=>gP v λr _=>rfl];exact h1
 .exfalso
  by_cases q:He w d bl b
  .rw[m.hid b o a q] at z;exact z
  .obtain⟨c,t,rfl⟩:=m.pZ b o a ((g b (l▸(Ψ.1 a).1)).resolve_left q)
   exact z
 .exact absurd (g b (l▸a.1)) (by simp[a.2,k])
def TX (h:iC d bl n x w):iD (mask w d bl) d bl n (.slice none 0 0) x:=by
 have⟨⟨f,h1⟩,⟨f2,h2⟩,_,a,b,c,e⟩:=h;exact⟨⟨_,uC w d bl (.inr (.inl rfl)) h1⟩,⟨_,uC w d bl (.inr (.inr rfl)) h2⟩,a,b,c,rfl,e,⟨none,0,by rw[e];rfl⟩⟩
def _root_.Go.Proofs.YtchcmhodnkgojaaGreat.iD.ax {w:Ω}{d bl n:Nat}{a:Φ}{x:DS}(h:iD w d bl n a x)(t:eL)(k:Nat):iD (ax w t k) d bl n a x:=⟨h.row,h.last,h.len,h.lo,h.hi,h.nil,h.none,h.vw⟩
end
def Q6 (set:Int)(x:DS)(n n0:Nat)(e:Exit)(a:Act)(w':Ω):Prop:=
 (e= .normal\/e= .ret)/\∃m es c,a.tmps.getD 4 ϗ= .map (some m)/\n0<=m/\w'.heap[m]? =some (.map es c)/\dS es c (xB (sP set (aO x n)))/\es.size<=54
def Q5 (set:Int)(x:DS)(n n0:Nat):QOk none (Q6 set x n n0):=⟨λe a w t d=>Iff.rfl,λe a w h=>h.1.elim .inl λh=> .inr (.inl h)⟩
def Vl:zC PP S1 (λ_=>false) false (tK 166)=true:=ϰ
def Al:Tryz.f166.results=#[.tmp 4]:=ϰ
def Nm {set:Int}{x:DS}{n:Nat}{w:Ω}{e:Exit}{a:Act}{w':Ω}(h:bodyPost PP Tryz.f166 (Am set x n w) e a w'):Q6 set x n w.heap.size e a w':=by
 have go:∀{v},(results Tryz.f166 a.tmps).run PP w'= .ok v w'->Am set x n w (.returned v) w'->∃m es c,a.tmps.getD 4 ϗ= .map (some m)/\w.heap.size<=m/\w'.heap[m]? =some (.map es c)/\dS es c (xB (sP set (aO x n)))/\es.size<=54:=by
  rintro v hr ⟨m,es,c,h1,h2,f,b,d,_⟩;rw[results_tmp Al] at hr;cases hr;exact⟨m,es,c,Ending.returned.inj h1,h2,f,b,d⟩
 cases e with
 |normal=>have⟨_,v,hr,hR⟩:=h;exact⟨.inl rfl,go hr hR⟩
 |ret=>have⟨_,v,hr,hR⟩:=h;exact⟨.inr rfl,go hr hR⟩
 |panic g=>have⟨_,m,es,c,h1,_⟩:=h;cases h1
 |outgrown=>have⟨m,es,c,h1,_⟩:=h;cases h1
 |_=>exact h.elim
def Us {es:Ϧ}{c:Nat}{g:Ξ->Option Ξ}(h:dS es c (xB g))(π:Ϛ):es.map (nF π)=es:=by
 have:∀e∈es,nF π e=e:=λe a=>by
  have⟨s,d⟩:=jK (h.keys e (by simpa using a));have hv:=(h.has s e.val).2 ⟨e,by simpa using a,d,rfl⟩;unfold xB at hv;have⟨b,_,f⟩:=χ.1 hv;have⟨k,v,i⟩:=e;simp only at d f;subst d;subst f;simp[nF,aI.hv]
 conv=>rhs;rw[<-Array.map_id es]
 exact ϸ λe a=>this e a
def rW {X:Cx jO}{d bl n:Nat}{x:DS}{ro:ϒ}(V:∀b,xR d bl b->ro b)(r:bB)(set:Int):Cont X r ro (iC d bl n x) (.pointer (some ⟨d,0,none⟩)) set (sP set (aO x n)) 54:=by
 intro γ k T w fr cs hT I ac Q hk;subst ac;have⟨s0,M⟩:=I.live;have O:=TX Q;have C:Tryz.f166.body=some (tK 166):=ϰ
 let act:Act:={tmps:=#[.pointer (some ⟨d,0,none⟩),.int .i64 set]++Array.replicate 28 ϗ,defers:=[]}
 have S:∀t k,WpT PP [.code (tK 166)] (Q6 set x n w.heap.size) act (ax (mask w d bl) t k):=λt k=>by
  have⟨cd,h1,h2⟩:=Bq (YZ (O.ax t k)) set (ax (mask w d bl) t k) (O.ax t k);rw[C] at h1;obtain rfl:=ac2 h1;intro b kk aa;have⟨e,a',w',q,hr⟩:=h2 b kk aa;have q':=Nm q;have e0:(ax (mask w d bl) t k).heap.size=w.heap.size:=vW w d bl;rw[e0] at q';exact⟨e,a',w',q',hr⟩
 have IP:∀v∈act.tmps,VV (iG (He w d bl) (mask w d bl)) v:=λv hv=>by
  rcases ai4.1 hv with hv|hv
  .simp only[ϐ4,ac1,al7,or_false] at hv
   rcases hv with rfl|rfl
   .intro r hr
    cases hr with
    |ptr e=>subst e;exact⟨by rw[vW];exact Q.size (.inr (.inl rfl)),λU=>U.2 (.inr (.inl rfl))⟩
   .intro r hr;cases hr
  .rw[(Ϙ1.1 hv).2];exact ik
 have u:=PR ad9 (H:=He w d bl) (Z:=xR d bl) ϛ (f0:=166) ⟨_,func166⟩ (aaw (X:=X) (ro:=γ.ro)) (Q5 set x n w.heap.size) (B:=base 166) (D0:=[]) (CS:=fr::cs) (kT:=[]) rfl (by simp[base]) ϛ
  (t0:=[.code (tK 166)]) (λit L=>by
   simp at L;subst L;exact Vl) (a:=act) (s:=λ_=>False) (Mi Q V) IP rfl S (main:=false)
 have⟨rk,u⟩:=u;have i:=FR (X:=X) (own:=γ.own) (ro:=γ.ro) (w0:=w) (λb j=>I.low b (.inl j)) (lt_of_some M.1) (lt_of_some M.2) (λb j=>I.low b (.inr j)) rk (s:=λ_=>False) ϛ (RX.refl X _ _ w) u;have e1:(λb=>γ.own b\/False)=γ.own:=funext λb=>ϛ
 rw[e1] at i;have e2:G ((base 166).at (ba id act []) ([.code (tK 166)]++[])) (fr::cs)=gC0 (.pointer (some ⟨d,0,none⟩)) set fr cs:=by
  unfold ba;rw[cP (f:=ren id) λv _=>gP v λr _=>rfl];rfl
 rw[e2] at i;show aG PP false (gX X (fS T.pc) γ.ro) _ γ.own _ w;rw[hT];refine i.bind ?_;rintro o g w' ⟨s',rfl,⟨e,a,bO,π,⟨ab,m,es,c,hm,ag,l,D,Y⟩,hl,hd,ae,hg,ad,W⟩,z,P⟩;have E:iG (He w d bl) bO m:=⟨(Ψ.1 l).1,λU=>by have:=U.1;omega⟩
 have K:¬xR d bl m:=λhz=>by have:=Q.size hz;omega
 have p:s' (π m):=hl.own m E K;have A:w'.heap[π m]? =some (.map es c):=by
  have:=(hl.wr.ok m _ l E.2 K).2;simp only[ep,Us D] at this;exact this
 have J:=hk w' (π m) es c (λb=>γ.own b\/s' b) (λb j=> .inl j) (λb j=>j.imp id λh=>(z b h).1) (λb j=>j.elim (λh=>ψ (I.low b (.inl h)) P.size) λh=>(z b h).2) P (.inr p)
  (λj=>by have:=(z _ p).1;have:=I.low _ (.inl j);omega) A D Y
 have y:aG PP false (gX X false γ.ro) (eK (KX X PP k r) T γ) (λb=>γ.own b\/s' b) (G (fr.finish (.map (some (π m)))) cs) w':=by
  have c2:aG PP false (gX X (fS T.pc) γ.ro) (eK (KX X PP k r) T γ) (λb=>γ.own b\/s' b) (G (fr.finish (.map (some (π m)))) cs) w':=J;rw[hT] at c2;exact c2
 have F:∀todo,aG PP false (gX X false γ.ro) (eK (KX X PP k r) T γ) (λb=>γ.own b\/s' b) (G {(base 166).at (ba π a []) todo with mode:= .returning} (fr::cs)) w':=λtodo=>by
  refine aG.silent rfl (λw₁=>?_) (λw₁ _=>(k7 (X:=X) false γ.ro _ w₁).1) (λw₁=>(k7 (X:=X) false γ.ro _ w₁).2) y;have N:(results Tryz.f166 (ba π a []).tmps).run PP w₁= .ok (.map (some (π m))) w₁:=by
   rw[results_tmp Al];show Result.ok ((a.tmps.map (ren π)).getD 4 ϗ) w₁=_;rw[k8,hm];simp
  have R:(results Tryz.f166 (ba π a []).tmps).events PP w₁ #[]=#[]:=by
   have e:results Tryz.f166 (ba π a []).tmps=pure ((ba π a []).tmps.getD 4 ϗ):=by simp[results,Al]
   rw[e];rfl
  exact stepG_leave (b:=base 166) (a:=ba π a []) (todo:=todo) rfl rfl func166 N R
 rcases ab with rfl|rfl
 .obtain rfl:g=_:=hg
  exact aG.silent rfl (λw₁=>stepG_end) (λw₁ _=>(k7 (X:=X) false γ.ro _ w₁).1) (λw₁=>(k7 (X:=X) false γ.ro _ w₁).2) (F _)
 .obtain⟨todo,rfl⟩:=hg
  exact F todo
end aI
end
section
open Go.Conc Go.RowKit Go.Lib
open Go.ConcM (OsLater)
open Go.ConcN (sumTo)
namespace aI
section
variable {own:Nat->Prop}{w:Ω}{g g':Θ}{v:lE}{Stop:(Nat->Prop)->Θ->Ω->Prop}
def sG (own:ϒ)(w:Ω):lO own (λ_=>False) w w #[]:=⟨ι _,λ_ _ _=>rfl,rfl,rfl,rfl,ϛ⟩
def idle0:Idle mL:=λs w=>⟨sG s w,funext λb=>propext ⟨λh=>h.elim id λh=>ϖ,.inl⟩⟩
def fu (h:az PP true g g')(k:aG PP true mL Stop own g' w):aG PP true mL Stop own g w:=ls idle0 h k
def PD {o:Obj}{f:Ϟ}(h:aY g=some v)(hr:∀w,RT v.sem w (.value (f w.heap.size)) {w with heap:=w.heap.push o} #[])(k:∀w',w'.heap=w.heap.push o->w'.os=w.os->w'.tape=w.tape->aG PP true mL Stop (λb=>own b\/b=w.heap.size) (resume g (f w.heap.size)) w'):aG PP true mL Stop own g w:=by
 refine aG.step (dy h).1 λw₁ h1=>?_
 obtain⟨d,rfl⟩:=h1;have⟨es,e1,e2⟩:=ib (main:=true) h (hr (w.at d));have c:mL.up own (w.at d) {w.at d with heap:=(w.at d).heap.push o}=λb=>own b\/b=w.heap.size:=by
  funext b
  refine propext (or_congr Iff.rfl ?_);show(w.heap.size<=b/\b<(w.heap.push o).size)↔_;simp;omega
 refine⟨_,_,es,e1,⟨by show w.heap.size<=(w.heap.push o).size;simp,λb i _=>?_,rfl,rfl,rfl,λe j=>by have:=e2 e j;simp at this⟩,?_⟩
 .have a:b<w.heap.size:=i
  show(w.heap.push o)[b]? =w.heap[b]?;rw[ac5 a];exact(τ a).symm
 .rw[c]
  exact k _ rfl rfl rfl
def akh {x:Φ}(h:aY g=some v)(hr:∀w,RT v.sem w (.value x) w #[])(k:aG PP true mL Stop own (resume g x) w):aG PP true mL Stop own g w:=by
 refine aG.step (dy h).1 λw₁ h1=>?_
 have⟨es,e1,e2⟩:=ib (main:=true) h (hr w₁);have a:es=#[]:=by
  apply Array.eq_empty_of_size_eq_zero
  refine Nat.eq_zero_of_not_pos λb=>?_
  have:=e2 es[0] (ϓ7 b);simp at this
 subst a;refine⟨_,_,_,e1,sG ..,?_⟩;rw[(idle0 own w₁).2];exact k.rely h1
def akj {b:Nat}{o:Obj}(f:own b)(h:aY g=some v)(hr:∀d,∃w' ev,RT v.sem (w.at d) .skip w' ev/\BA b o (w.at d) w'/\∀e∈ev,EvB b e)(k:∀w',w'.heap.size=w.heap.size->w'.heap[b]? =some o->(∀c,c≠b->w'.heap[c]? =w.heap[c]?)->w'.os=w.os->w'.tape=w.tape->aG PP true mL Stop own (resume g ϗ) w'):aG PP true mL Stop own g w:=by
 refine aG.step (dy h).1 λw₁ h1=>?_
 obtain⟨d,rfl⟩:=h1;have⟨w',ev,r,u,j⟩:=hr d;have⟨es,e1,e2⟩:=EG (main:=true) h r;have a:mL.up own (w.at d) w'=own:=funext λc=>propext ⟨λx=>x.elim id λx=>by have:=u.size;omega,.inl⟩
 refine⟨_,w',es,e1,⟨by rw[u.size];exact ι _,λc _ i=>u.rest c λe=>i (e▸f),u.os,u.output,u.tape,λe l=> .inl ⟨b,.inl f,(j e (e2 e l)).2⟩⟩,?_⟩;rw[a];exact k w' u.size u.at_ u.rest u.os u.tape
end
def W7:(PP.info? NY).bind (·.zero)=some (.agg #[.int .i32 0,.int .u32 0,.map none]):=ϰ
def W6:(PP.info? TWg).bind (·.zero)=some (.agg #[.int .u64 0,.int .u32 0]):=ϰ
def aar:(PP.info? NY).map (·.size)=some 3:=ϰ
def aey (M:Nat)(w:Ω):RT (lE.build NY #[(1,.map (some M))]).sem w (.value (fd0 M)) w #[]:=λes=>by
 have:(lE.build NY #[(1,.map (some M))]).sem.runT PP w es=(.ok (.value (fd0 M)) w,es):=ϰ
 rw[this,ϐ8]
structure Laid (d:Nat)(w w':Ω):Prop where
 size:w'.heap.size=w.heap.size+4
 box:w'.heap[w.heap.size]? =some (.cells #[pb d] 94 (0,0))
 map:w'.heap[w.heap.size+1]? =some (.map #[] 0)
 fd:w'.heap[w.heap.size+2]? =some (.cells #[.int .i32 0,.int .u32 0,.map (some (w.heap.size+1))] NY (0,0))
 wg:w'.heap[w.heap.size+3]? =some (.cells #[.int .u64 0,.int .u32 0] TWg (0,0))
 old:∀b,b<w.heap.size->w'.heap[b]? =w.heap[b]?
 os:w'.os=w.os
 tape:w'.tape=w.tape
theorem Mr {own:ϒ}{d:Nat}{w:Ω}{fr:κ}{cs:ϙ}:
  aG PP true mL (λs g w'=>s=(λb=>own b\/(w.heap.size<=b/\b<w.heap.size+4))/\g=resume (sT6 (w.heap.size+2) w.heap.size (w.heap.size+1) (pb d) fr cs) (pb (w.heap.size+3))/\Laid d w w') own (sT0 (pb d) fr cs) w:=by
 refine fu (XR _ _ _) (PD (f:=pb) (XQ _ _ _) (λw=>zi _ _) λw1 h1 o1 t1=>?_);refine fu (XP _ _ _ _) (PD (f:=λb=> .map (some b)) (XO _ _ _ _) (λw=>Ij _) λw2 h2 o2 t2=>?_);have s1:w1.heap.size=w.heap.size+1:=by rw[h1];simp
 have s2:w2.heap.size=w.heap.size+2:=by rw[h2];simp[s1]
 rw[s1];refine fu (XN _ _ _ _ _) (akh (XM _ _ _ _ _) (λw=>aey _ w) ?_);refine fu (XL _ _ _ _ _) (PD (f:=pb) (XK _ _ _ _ _) (λw=>n6 W7) λw3 h3 o3 t3=>?_);have s3:w3.heap.size=w.heap.size+3:=by rw[h3];simp[s2]
 rw[s2];refine fu (XJ _ _ _ _ _ _) (akj (b:=w.heap.size+2) (o:= .cells #[.int .i32 0,.int .u32 0,.map (some (w.heap.size+1))] NY (0,0)) (.inr rfl) (XI _ _ _ _ _ _) (λd=>?_) λw4 s4 r4 k4 o4 t4=>?_)
 .have h3':(w3.at d).heap[w.heap.size+2]? =some (.cells #[.int .i32 0,.int .u32 0,.map none] NY (0,0)):=by
   show w3.heap[w.heap.size+2]? =_;rw[h3,<-s2];simp[Value.cells]
  obtain⟨w',ev,r1,r2,r3⟩:=iN (t:=NY) (off:=0) (v:=fd0 (w.heap.size+1)) h3' aar (by simp[fd0,Value.cells]) (by simp[fd0,Value.cells,mN]);exact⟨w',ev,r1,r2,r3⟩
 refine fu (XH _ _ _ _ _ _) (PD (f:=pb) (XG _ _ _ _ _ _) (λw=>n6 W6) λw5 h5 o5 t5=>?_);rw[s4,s3];refine .stop λw₁ ⟨d,e⟩=>?_
 subst e;have Zt:∀b,b<w2.heap.size->w5.heap[b]? =w2.heap[b]? :=λb hb=>by
  rw[h5,ac5 ϖ,<-τ,k4 b ϖ,h3,ac5 hb,<-τ]
 refine⟨funext λb=>propext (by constructor<;>intro h<;>(by_cases ho:own b<;>simp[ho] at h⊢<;>omega)),rfl,⟨by show w5.heap.size=_;rw[h5];simp[s4,s3],?_,?_,?_,?_,λb hb=>?_,by show w5.os=_;rw[o5,o4,o3,o2,o1],by show w5.tape=_;rw[t5,t4,t3,t2,t1]⟩⟩
 .show w5.heap[w.heap.size]? =_
  rw[Zt _ ϖ,h2,ac5 ϖ,<-τ,h1];simp[pb,Value.cells]
 .show w5.heap[w.heap.size+1]? =_
  rw[Zt _ ϖ,h2,<-s1];simp
 .show w5.heap[w.heap.size+2]? =_
  rw[h5,ac5 ϖ,<-τ];exact r4
 .show w5.heap[w.heap.size+3]? =_
  rw[h5,show w.heap.size+3=w4.heap.size by omega];simp[Value.cells]
 .show w5.heap[b]? =_
  rw[Zt _ ϖ,h2,ac5 ϖ,<-τ,h1,ac5 hb,<-τ]
abbrev no:Nat->Prop:=λ_=>False
section
variable {Δ:Type}{X:Cx Δ}{P:ω}{Post:Gh Δ->Θ->Ω->Prop}{Shun:Loc->Prop}{own:Nat->Prop}{M:Machine}{t:Trace}{g:Θ}{w:Ω}{γ:Gh Δ}
def W0 (X:Cx Δ):bB->Lo
 |.m=>at_ .k1 0
 |r=>at_ .un (X.N r)
def Sd (X:Cx Δ)(γ:Gh Δ):bB->Gh Δ
 |.m=>{γ with mine:=X.c0 .m}
 |r=>⟨no,no,X.c0 r,X.c0 r⟩
def JD (Shun:ϩ)(b:Nat):Prop:=∃l,Shun l/\mP b l
def Rr {r:bB}:born (W0 X) r↔r= .m:=by cases r<;>simp[born,W0]
def ak1 (g:Apart Shun own w)(x:X.Fd≠X.Wg)(p:X.Fd≠X.M)(s:X.M≠X.Wg)(j:own X.Fd)(i:own X.Wg)(u:own X.M)(f:∀b,γ.own b\/γ.ro b->own b/\b≠X.Fd/\b≠X.Wg/\b≠X.M)(hd:∀b,γ.own b->¬γ.ro b):Lay X (JD Shun) (Sd X γ) (W0 X) w.heap.size:=by
 have o:∀b,own b->¬JD Shun b:=λb v ⟨l,h1,h2⟩=>g.off b v l h2 h1
 have d:∀r c,(Sd X γ r).own c\/(Sd X γ r).ro c->r= .m/\(γ.own c\/γ.ro c):=λr c h=>by
  cases r with
  |m=>exact⟨rfl,h⟩
  |a=>exact h.elim False.elim False.elim
  |b=>exact h.elim False.elim False.elim
 refine⟨λr c h=>?_,λr h=>?_,λr=>⟨λh=>?_,λh=>?_⟩,λr t c h n=>?_,λr t c h n=>?_,λr c h=>?_,p,x,s,λc k=>?_,g.lt _ j,g.lt _ u,g.lt _ i⟩
 .obtain⟨rfl,h⟩:=d r c h
  have⟨h1,h2,y,z⟩:=f c h;exact⟨h2,y,o c h1,g.lt c h1⟩
 .exact(f _ (d r _ (.inr h)).2).2.2.2 rfl
 .exact absurd rfl (f _ (d r _ (.inl h)).2).2.2.2
 .cases r<;>cases h
 .rw[(d r c (.inl h)).1,(d t c (.inl n)).1]
 .obtain⟨rfl,_⟩:=d r c (.inl h)
  obtain⟨rfl,_⟩:=d t c (.inr n);exact hd c h n
 .exact Rr.2 (d r c h).1
 .have q:c<w.heap.size:=by have⟨l,h1,h2⟩:=k;exact g.low l c h1 h2
  exact⟨q,λe=>o _ j (e▸k),λe=>o _ u (e▸k),λe=>o _ i (e▸k)⟩
def Mx (Q:Zero P Shun M t g w)(O:Apart Shun own w)(Y:X.Fd≠X.Wg)(D:X.Fd≠X.M)(H:X.M≠X.Wg)(y:own X.Fd)(F:own X.Wg)(S:own X.M)(p:∀b,γ.own b\/γ.ro b->own b/\b≠X.Fd/\b≠X.Wg/\b≠X.M)(hd:∀b,γ.own b->¬γ.ro b)(K:ShAt X w ⟨0,0,0,0⟩){o:Obj}(hM:w.heap[X.M]? =some o)(hD:X.Dat (X.c0 .a) (X.c0 .b) o)(V:NoRelease (mA X) t)(E:NoRelease (wA X) t)(hm:γ.mine=X.c0 .m)(Z:∀k,aG P true (gX X (fS .k1) γ.ro) (eK (BE X P Post k) (at_ .k1 0) γ) γ.own g w):
  ∃n0 U,Ee X P Post (JD Shun) n0 U M t:=by
 obtain⟨u,sl,q,rfl,hg,T,hI⟩:=Q.ex;have s:=Q.past;have⟨R,G⟩:=Z (pY (W0 X) 0 15+1);have L:Sd X γ .m=γ:=by show({γ with mine:=X.c0 .m}:Gh Δ)=γ;rw[<-hm]
 have MM:0<u.size:=(Ψ.1 hg).1;have bl:=λr (h:born (W0 X) r)=>Rr.1 h
 let C:Cf Δ:=⟨u.size,W0 X,Sd X γ,λ_=>pY (W0 X) 0 15+1,λ_=>R,λ_=>1,λ_=>0,q,⟨0,0,0,0⟩,0,15⟩
 have mB:∀{a:Addr},mP a.block (.cell a):=fun {a}=> .inl ⟨a,rfl,rfl⟩
 have v:∀l,Shun l->AQ X (JD Shun) l:=λl n=>by
  obtain⟨a,rfl⟩:=O.cell l n;exact⟨a,rfl,.inl ⟨_,n,mB⟩⟩
 have A:∀b,own b->∀i x,touchAt t i=some x->mP b x.loc->Knows t 0 i:=λb f i x d n=>(s.known i x d n.mem).elim id λh=>absurd h.1 (O.off b f _ n)
 have z:∀r c,(Sd X γ r).own c\/(Sd X γ r).ro c->r= .m/\(γ.own c\/γ.ro c):=λr c h=>by
  cases r with
  |m=>exact⟨rfl,h⟩
  |a=>exact h.elim False.elim False.elim
  |b=>exact h.elim False.elim False.elim
 refine⟨u.size,C.ms u.size,C,u,w,sl,rfl,rfl,⟨MM,rfl,⟨MD,by show(0:Nat)<27;omega,ME,rfl,rfl,rfl⟩,λr h=>Nat.lt_succ_self _,K,λr h=>?_,λr h=>?_,λi g' h0 h1 I=>T.old i g' h0 I,T.above,λr h=>?_,λh1 h2=>⟨o,hM,hD⟩,λr h=>?_,λr h=>?_,λr h=>?_,ak1 O Y D H y F S p hd,?_⟩,rfl⟩
 .obtain rfl:=bl r h
  refine⟨g,hg,.inl ⟨by simp[C,W0],rfl,rfl,?_⟩⟩;show jj P true (gX X (fS .k1) (Sd X γ .m).ro) (eK (AtR X P Post _ .m) (at_ .k1 0) (Sd X γ .m)) R (Sd X γ .m).own g w;rw[L];exact G
 .cases r with
  |m=>exact absurd (Rr.2 rfl) h
  |a=>exact⟨rfl,rfl⟩
  |b=>exact⟨rfl,rfl⟩
 .obtain rfl:=bl r h
  exact s.hears
 .cases r<;>cases h
 .cases r<;>cases h
 .cases r<;>cases h
 .refine⟨s.clean,λi x d hs=>?_,λr c J i x d f=>?_,λr i x d hr hw=>?_,λ_ i x d f=> .inl λr hr=>?_,λi x d hm=>?_,λi x d hm r hr h _=>absurd (bl r h) hr,λi g' j h0 B=> .inr (s.over i g' j h0 B),λi g' j N=>?_,V,E,s.seen⟩
  .rcases s.known i x d (JR hs) with h|h
   .exact .inr (.inr λr hr=>by obtain rfl:=bl r hr;exact h)
   .exact .inl h.2
  .obtain⟨rfl,h⟩:=z r c (.inl J)
   exact A c (p c h).1 i x d f
  .obtain⟨f,h|⟨sp,h⟩⟩:=hr
   .obtain rfl:=bl r f
    have⟨c,B,n⟩:=h;exact A c (p c (z .m c (.inr B)).2).1 i x d n
   .obtain rfl:=bl r f
    exact A X.Fd y i x d (by rw[h];exact mB)
  .obtain rfl:=bl r hr
   exact A X.M S i x d f
  .rcases s.known i x d hm with h|h
   .exact .inr (.inl h)
   .exact .inr (.inr ⟨v _ h.1,h.2⟩)
  .have⟨W,J,e⟩:=χ.1 j
   have:=hI W (mem_of_getElem? J);have e':u.size<=g':=N;omega
end
def Joined.zero {Δ:Type}{X:Cx Δ}{P:ω}{Post:Gh Δ->Θ->Ω->Prop}{S0:ϒ}{n0:Nat}{a:Ϯ}{w:Ω}{t:Trace}{sl:Option (Nat×Nat)}(h:Joined X P Post S0 n0 a w t):
  ∃g γ,Zero P (AQ X S0) (crowd a w sl) t g w/\Post γ g w:=by
 have⟨g,γ,h0,e⟩:=h.post;have⟨q,b⟩:=h.ak0;exact⟨g,γ,⟨⟨a,sl,q,rfl,h0,b,λc d=>by rw[h.size];exact h.ids c d⟩,h.past⟩,e⟩
abbrev RI:η:=153
section
variable (W F bd bs bs' M:Nat)(dv:Φ)(fr:κ)(cs:List κ)
def sX1:Θ:=OT (da (fT3 W F bd bs bs' M dv fr cs) (fr::cs) U)
def XA:az PP true (da (fT3 W F bd bs bs' M dv fr cs) (fr::cs) U) (sX1 W F bd bs bs' M dv fr cs):=bI λa=>ϰ
def Xz:aY (sX1 W F bd bs bs' M dv fr cs)=some (.load RI (.pointer (some ⟨F,2,none⟩))):=ϰ
def SS (a:Nat):az PP true (resume (sX1 W F bd bs bs' M dv fr cs) (.map (some a))) (da fr cs (.map (some a))):=bX 4 (cj PP true 4 (resume (sX1 W F bd bs bs' M dv fr cs) (.map (some a)))) λb=>ϰ
end
section
variable {Shun:Loc->Prop}{Stop:Unit->Θ->Ω->Prop}{g g':Θ}{w:Ω}
def I1 (h:az PP true g g')(k:aG PP true (Se Shun) Stop () g' w):aG PP true (Se Shun) Stop () g w:=ls (af7 Shun) h k
def afL {t:η}{a:Addr}{v:Φ}(h:aY g=some (.load t (.pointer (some a))))(ha:(PP.underlying t).map (λd=>match d with|.struct _|.array _ _=>true|_=>false)=some false)(l:¬Shun (.cell a))(b:w.cell? a=some v)(k:aG PP true (Se Shun) Stop () (resume g v) w):aG PP true (Se Shun) Stop () g w:=by
 have c:a.block<w.heap.size:=by
  unfold World.cell? at b;cases i:w.heap[a.block]? with
  |none=>rw[i] at b;simp at b
  |some o=>exact lt_of_some i
 refine aG.step (dy h).1 λw₁ h1=>?_
 obtain⟨d,rfl⟩:=h1;have hr:RT (lE.load t (.pointer (some a))).sem (w.at d) (.value v) (w.at d) #[⟨.cell a,false,false⟩]:=by
  refine RT.fI (x:=v) ?_ (.pure _);show RT (do if<-isAgg t then Pure.pure (.agg (<-loadCells a (<-Go.sizeOf t))) else load a) _ _ _ _;refine(iP ha).aT ?_;simp only[ν,if_false];exact kP b
 have⟨es,e1,e2⟩:=ib (main:=true) h hr;refine⟨_,_,es,e1,⟨ι _,rfl,λe f=>?_,λe f a'=>?_⟩,?_⟩
 .have:=e2 e f
  simp at this;subst this;refine⟨λx j m=>?_,ϛ,ϛ,c⟩;simp[MemAct.ofEvent,MemAct.touch?] at j;subst j;exact absurd m l
 .have:=e2 e f
  simp at this;subst this;simp
 .exact(k.rely (⟨d,rfl⟩:AtRel w (w.at d)))
def M4 {X:Cx jO}{S0:ϒ}{bd:Nat}{dv:Φ}{fr:κ}{cs:ϙ}{sW O0:ϒ}{w0:Ω}{γ:Gh jO}{s:Sh}(f:xS X sW O0 w0 bd dv fr cs γ g w)(c:ShAt X w s)(b:X.Fd≠X.Wg)(h0:¬S0 X.Fd):
  aG PP true (Se (AQ X S0)) (λ_ g' w'=>g'=da fr cs (.map (some X.M))/\w'.heap=w.heap/\w'.output=w.output) () g w:=by
 have⟨⟨bs,bs',hg⟩,_⟩:=f;refine I1 hg (I1 (XA ..) (afL (Xz ..) ϰ (v:= .map (some X.M)) ?_ ?_ (I1 (SS ..) (.stop λw₁ h1=>⟨rfl,by obtain⟨d,rfl⟩:=h1;rfl,by obtain⟨d,rfl⟩:=h1;rfl⟩))))
 .rintro⟨a,e,ha⟩
  cases e;rcases ha with ha|ha|ha
  .exact h0 ha
  .exact b ha
  .exact ha.2 rfl
 .have:=c.1
  simp[World.cell?,this]
end
def zK {H own:ϒ}{π:Ϛ}{wL w w':Ω}{m:Nat}{d:Obj}(h:Link H no own no π wL w)(J:w.heap.size<=w'.heap.size)(G:∀b,own b->w'.heap[b]? =w.heap[b]?)(hm:w.heap.size<=m)(v:m<w'.heap.size)(t:w'.heap[m]? =some d)(x:pO d)(s:∀r,¬lz r d)(A:∀i,¬inner d i):
  ∃cA,Link H no (λb=>own b\/b=m) no cA {wL with heap:=wL.heap.push d} w'/\(∀b,b<wL.heap.size->cA b=π b)/\cA wL.heap.size=m:=by
 let cA:Nat->Nat:=λi=>if i<wL.heap.size then π i else if i=wL.heap.size then m else w'.heap.size+i
 have e1:∀b,b<wL.heap.size->cA b=π b:=λb a=>φ a
 have e2:cA wL.heap.size=m:=by show(if _ then _ else _)=_;rw[ζ ϖ,φ rfl]
 have y:∀b,H b\/no b->b<wL.heap.size:=h.lw.low;have z:0<wL.heap.size:=h.lw.zero.1;have p:∀i,wL.heap.size<i->cA i=w'.heap.size+i:=λi q=>by show(if _ then _ else _)=_;rw[ζ ϖ,ζ ϖ]
 have l:∀i j,cA i=cA j->i=j:=λi j c=>by
  have q:=h.lt i;have C:=h.lt j;rcases ϓ6 i wL.heap.size with k|rfl|k<;>rcases ϓ6 j wL.heap.size with g|g|g
  .rw[e1 i k,e1 j g] at c;exact h.inj _ _ c
  .subst g;rw[e1 i k,e2] at c;have:=q k;omega
  .rw[e1 i k,p j g] at c;have:=q k;omega
  .rw[e2,e1 j g] at c;have:=C g;omega
  .omega
  .rw[e2,p j g] at c;omega
  .rw[p i k,e1 j g] at c;have:=C g;omega
  .subst g;rw[p i k,e2] at c;omega
  .rw[p i k,p j g] at c;omega
 have f:∀b o,(wL.heap.push d)[b]? =some o->(b<wL.heap.size/\wL.heap[b]? =some o)\/(b=wL.heap.size/\o=d):=λb o a=>by
  rw[Array.getElem?_push] at a;split at a
  .exact .inr ⟨by assumption,(ac2 a).symm⟩
  .exact .inl ⟨(Ψ.1 a).1,a⟩
 have n:(wL.heap.push d).size=wL.heap.size+1:=ϛ
 have u:∀r,iG H wL r->iG H {wL with heap:=wL.heap.push d} r:=λr hr=>⟨by show r<(wL.heap.push d).size;rw[n];have:=hr.1;omega,hr.2⟩
 have B:¬H wL.heap.size:=λF=>by have:=y _ (.inl F);omega
 have rn:∀b o,wL.heap[b]? =some o->¬H b->ep cA o=ep π o:=λb o a D=>zl λr hr=>e1 r (h.lw.Vm b o a D r hr).1
 refine⟨cA,⟨l,by rw[e1 0 z];exact h.zero,λb a=>?_,?_,?_,λb a _=>?_,λb a=>a.elim⟩,e1,e2⟩
 .have a:b<(wL.heap.push d).size:=a
  rw[n] at a;rcases ϐ5 b wL.heap.size with e|e
  .rw[e1 b e];have:=h.lt b e;omega
  .rw[show b=wL.heap.size by omega,e2];exact v
 .refine⟨λb o a h1 h2=>?_,λb o a h1=>?_,λb o a h1=>h1.elim,λb a=>?_,λb a=>a.elim,u 0 h.lw.zero,λb o a h1 r hr=>?_⟩
  .rcases f b o a with⟨_,a⟩|⟨_,rfl⟩
   .exact h.lw.ok b o a h1 h2
   .exact x
  .rcases f b o a with⟨_,a⟩|⟨rfl,rfl⟩
   .exact h.lw.hid b o a h1
   .exact absurd h1 B
  .show b<(wL.heap.push d).size
   rw[n];have:=y b a;omega
  .rcases f b o a with⟨_,a⟩|⟨rfl,rfl⟩
   .exact u r (h.lw.Vm b o a h1 r hr)
   .exact absurd hr (s r)
 .refine⟨l,rfl,rfl,λb a D=>?_,λb o a h1 h2=>?_,λb o a h1=>?_,λb o a h1=>h1.elim,λb a=>?_,λb o a i q=>?_⟩
  .have a:b<(wL.heap.push d).size:=a
   rw[n] at a;rcases ϐ5 b wL.heap.size with e|e
   .rw[e1 b e];have:=h.lt b e;omega
   .rw[show b=wL.heap.size by omega,e2];exact v
  .rcases f b o a with⟨e,a⟩|⟨rfl,rfl⟩
   .have⟨E,r2⟩:=h.wr.ok b o a h1 h2
    refine⟨E,?_⟩;rw[e1 b e,rn b o a h1,G _ (h.own b ⟨e,h1⟩ id)];exact r2
   .refine⟨x,?_⟩
    rw[e2,qy λr hr=>absurd hr (s r)];exact t
  .rcases f b o a with⟨_,a⟩|⟨rfl,rfl⟩
   .exact h.lw.hid b o a h1
   .exact absurd h1 B
  .show b<(wL.heap.push d).size
   rw[n];have:=y b a;omega
  .rcases f b o a with⟨_,a⟩|⟨rfl,rfl⟩
   .have:=h.wr.AM b o a i q
    exact⟨by show i<(wL.heap.push d).size;rw[n];have I:i<wL.heap.size:=this.1;omega,this.2⟩
   .exact absurd q (A i)
 .rcases ϐ5 b wL.heap.size with e|e
  .rw[e1 b e];exact .inl (h.own b ⟨e,a.2⟩ id)
  .have a:b<(wL.heap.push d).size:=a.1
   rw[n] at a;rw[show b=wL.heap.size by omega,e2];exact .inr rfl
def Mp {H own:ϒ}{π:Ϛ}{wL w w':Ω}{m:Nat}{es:Ϧ}{c:Nat}(h:Link H no own no π wL w)(l:w.heap.size<=w'.heap.size)(k:∀b,own b->w'.heap[b]? =w.heap[b]?)(hm:w.heap.size<=m)(g:m<w'.heap.size)(d:w'.heap[m]? =some (.map es c))(a:∀e∈es,∀r,¬Value.Has r e.key/\¬Value.Has r e.val):
  ∃cA,Link H no (λb=>own b\/b=m) no cA {wL with heap:=wL.heap.push (.map es c)} w'/\(∀b,b<wL.heap.size->cA b=π b)/\cA wL.heap.size=m:=
 zK h l k hm g d trivial (λr hr=>by
  cases hr with
  |key j f=>exact(a _ j r).1 f
  |val j f=>exact(a _ j r).2 f) λi n=>n
def iC.ren {H own:ϒ}{π:Ϛ}{wL w:Ω}{d bl n:Nat}{x:DS}(h:iC d bl n x wL)(f:Link H no own no π wL w)(hd:iG H wL d):iG H wL bl/\iC (π d) (π bl) n x w:=by
 have⟨⟨j,h1⟩,⟨f2,h2⟩,⟨c,t,m,l,i⟩,a,b,k,e⟩:=h;have g:iG H wL bl:=f.lw.Vm d _ h1 hd.2 bl (.cells (v:= .slice (some ⟨bl,0,Option.none⟩) n n) (by simp[iX]) (.slice rfl));refine⟨g,⟨j,?_⟩,⟨f2,?_⟩,⟨c,t,m,?_,i⟩,a,b,k,e⟩
 .rw[(f.wr.ok d _ h1 hd.2 id).2]
  simp[ep,iX,bn]
 .rw[(f.wr.ok bl _ h2 g.2 id).2]
  simp only[ep];rw[cP λv hv=>gP v λr hr=>absurd hr (CP hv r)]
 .have:=(f.wr.ok 0 _ l f.lw.zero.2 id).2
  rw[f.zero] at this;rw[this];simp only[ep];rw[cP λv hv=>gP v λr hr=>absurd hr (i v hv r)]
def GH {a b:jO}{es:Ϧ}{c:Nat}(h:Jd a b (.map es c)):∀e∈es,∀r,¬Value.Has r e.key/\¬Value.Has r e.val:=by
 have⟨j,k,f,i,h1,h2⟩:=h;cases i;intro e g r;have⟨s,d⟩:=jK (h1.keys e (by simpa using g));have hv:=(h1.has s e.val).2 ⟨e,by simpa using g,d,rfl⟩;rw[h2] at hv;refine⟨λhr=>by(rw[d] at hr;cases hr),λhr=>?_⟩;unfold comb at hv;split at hv
 .rw[<-ac2 hv] at hr
  cases hr with
  |agg hm hr=>
   simp only[cg,ϐ4,ac1,al7,or_false] at hm;rcases hm with rfl|rfl|rfl|rfl|rfl|rfl<;>cases hr
 .cases hv
def aih (x:DS)(n:Nat)(wL:Ω)(v:Φ)(w':Ω):Prop:=∃es c,v= .map (some wL.heap.size)/\(∃t d,w'=ax {wL with heap:=wL.heap.push (.map es c)} t d)/\
 Jd (k9 (sP 0 (aO x n)) (sP 2 (aO x n))) (k9 (sP 1 (aO x n)) (sP 2 (aO x n))) (.map es c)
def Bm (v:Φ)(c:κ)(CS:ϙ):G (Frame.enter PP 88 #[v] .normal) (c::CS)=sT0 v c CS:=by
 unfold sT0 Qk;rfl
theorem Jp {E:af.Env}{wL:Ω}{d bl n:Nat}{x:DS}(hd:iC d bl n x wL):af.CC E 88 #[.pointer (some ⟨d,0,none⟩)] (aih x n wL) wL:=by
 intro c CS π M tr hp ha hk;obtain⟨Shun,Zl,w,U,O,ae,ho,S⟩:=hp.ex
 let H:Nat->Prop:=λq=>∃o,E.K q=some o
 have kk:∀q,H q->q<w.heap.size/\∀l,mP q l->¬Shun l:=λq ⟨o,p⟩=>⟨(Ψ.1 (S q o p).2.1).1,(S q o p).2.2⟩
 obtain⟨own,v⟩:∃own:Nat->Prop,own=λb=>Zl b\/H b:=⟨_,rfl⟩
 have A:Link E.H af.no own af.no π wL w:=by rw[v];exact O.wider λb g=> .inl g
 have hA:Apart Shun own w:=by rw[v];exact ae.union H kk
 have Pq:∀q,H q->own q:=λq p=>by rw[v];exact .inr p
 have K:iG E.H wL d:=ha (.pointer (some ⟨d,0,none⟩)) ϛ d (.ptr rfl);obtain⟨Z,an⟩:=hd.ren A K;have QY:(#[Value.pointer (some ⟨d,0,none⟩)]:Array Φ).map (Value.ren π)=#[pb (π d)]:=by simp[bn,pb]
 rw[QY,Bm] at U;have F:∀b,xR (π d) (π bl) b->own b:=λb g=>by
  rcases g with rfl|rfl|rfl
  .have:=A.own 0 A.lw.zero id;rwa [A.zero] at this
  .exact A.own d K id
  .exact A.own bl Z id
 obtain⟨N1,M1,t1,g1,w1,r1,aL,⟨s,⟨⟨rfl,rfl,B⟩,_,u1⟩,L⟩,o1,ac⟩:=mr U (yq (qK (λ_=>False) Mr λ_ h=>h.elim) hA);have I:∀b,own b->b<w.heap.size:=hA.lt;have J:∀b,own b->w1.heap[b]? =w.heap[b]? :=λb g=>B.old b (I b g)
 have ad:iC (π d) (π bl) n x w1:=by
  have k:∀b o,xR (π d) (π bl) b->w.heap[b]? =some o->w1.heap[b]? =some o:=λb o g aa=>by rw[J b (F b g)];exact aa
  obtain⟨⟨f1,h1⟩,⟨f2,h2⟩,⟨c,t,f3,h3,h4⟩,a,b,c',e⟩:=an;exact⟨⟨f1,k _ _ (.inr (.inl rfl)) h1⟩,⟨f2,k _ _ (.inr (.inr rfl)) h2⟩,⟨c,t,f3,k _ _ (.inl rfl) h3,h4⟩,a,b,c',e⟩
 let X:Cx jO:={Fd:=w.heap.size+2,M:=w.heap.size+1,Wg:=w.heap.size+3,tF:=NY,tW:=TWg,Dat:=Jd,fin:=λr=>match r with|.b=>k9 (sP 1 (aO x n)) (sP 2 (aO x n))|_=>k9 (sP 0 (aO x n)) (sP 2 (aO x n)),c0:=λ_ _=>none,N:=λ_=>108}
 let γ:Gh jO:=⟨xR (π d) (π bl),λb=>(own b\/b=w.heap.size)/\¬xR (π d) (π bl) b,λ_=>none,λ_=>none⟩
 have ol:∀b,γ.own b\/γ.ro b->own b\/b=w.heap.size:=λb g=>g.elim (·.1) λh=> .inl (F b h)
 have y:∀b,γ.own b\/γ.ro b->b<w.heap.size+1:=λb g=>(ol b g).elim (λh=>by have:=I b h;omega) λh=>ϖ
 have D:ShAt X w1 ⟨0,0,0,0⟩:=⟨B.fd,B.wg⟩
 have ab:Reads X (xR (π d) (π bl)) (iC (π d) (π bl) n x) (pb (π d)) (sP 0 (aO x n)) (sP 1 (aO x n)) (sP 2 (aO x n)) 54:=
  ⟨λro own w w' j h hr=>h.keep j hr,λro j=>rW j .a 0,λro j=>rW j .a 2,λro j=>rW j .b 1,λro j=>rW j .b 2,rfl,rfl,λ_=>rfl,λ_=>ι _⟩
 have hB:Base X γ w1:=⟨rfl,⟨by show w.heap.size+2≠w.heap.size+3;omega,λb g=>by
   have:=y b g;exact⟨by show b≠w.heap.size+2;omega,by show b≠w.heap.size+3;omega⟩⟩,λg=>by have:=y _ (.inl g);simp[X] at this,λg=>by have:=y _ (.inr g);simp[X] at this,by show w.heap.size+1≠w.heap.size+2;omega,by show w.heap.size+1≠w.heap.size+3;omega,λb g=>by
   have:=y b g;have:=B.size;omega,by show w.heap.size+1<_;have:=B.size;omega,⟨_,D⟩⟩
 have Q:∀a:Addr,w.heap.size<=a.block->NoRelease a t1:=λa aR i hi=>by
  obtain⟨op,ak,e⟩:=χ.1 hi;rcases ac op (mem_of_getElem? ak) with h|h
  .have:=U.past.seen op h
   rw[e] at this;have:a.block<w.heap.size:=this;omega
  .exact h a e
 have s1:w1.heap.size=w.heap.size+4:=B.size;obtain⟨n0,μ,hI⟩:=Mx (X:=X) (γ:=γ) (Post:=xS X (xR (π d) (π bl)) γ.own w1 w.heap.size (pb (π d)) c CS) aL L (by show w.heap.size+2≠w.heap.size+3;omega) (by show w.heap.size+2≠w.heap.size+1;omega) (by show w.heap.size+1≠w.heap.size+3;omega)
  (.inr ⟨by show w.heap.size<=w.heap.size+2;omega,by show w.heap.size+2<_;omega⟩) (.inr ⟨by show w.heap.size<=w.heap.size+3;omega,by show w.heap.size+3<_;omega⟩) (.inr ⟨by show w.heap.size<=w.heap.size+1;omega,by show w.heap.size+1<_;omega⟩)
  (λb g=>by
   have h1:=ol b g;have h2:=y b g;exact⟨h1.imp id λe=>⟨ϖ,ϖ⟩,by show b≠w.heap.size+2;omega,by show b≠w.heap.size+3;omega,by show b≠w.heap.size+1;omega⟩)
  (λb g=>g.2) D B.map ⟨#[],0,λ_=>none,rfl,.empty 0,λ_=>rfl⟩ (Q _ (by show w.heap.size<=w.heap.size+2;omega)) (Q _ (by show w.heap.size<=w.heap.size+3;omega)) rfl
  (λk=>CX ab hB (λb g=>g) (λb g=>g) ad (.refl X _ _ w1) ⟨.inr rfl,λg=>by have:=I _ (F _ g);omega⟩ (by show w1.cell? ⟨w.heap.size,0,none⟩=_;simp[World.cell?,B.box,pb]))
 obtain⟨N2,a1,w2,Y,t2,r2,hJ⟩:=Lh μ M1 t1 hI;obtain⟨g2,a0,aB,hP⟩:=hJ.zero (sl:=Y);have z:=hP.2.2;obtain⟨s2,aq⟩:=z.live ⟨_,D⟩;obtain⟨o,zV,av⟩:=hP.2.1;obtain⟨es,cl,f,rfl,V,am⟩:=av;have nS:∀b,own b\/(w.heap.size<=b/\b<w.heap.size+4)->¬JD Shun b:=λb g ⟨l,h1,h2⟩=>L.off b g l h2 h1
 obtain⟨N3,M3,t3,g3,T,r3,W,⟨rfl,u,u3⟩,o3,_⟩:=mr aB (M4 hP aq (by show w.heap.size+2≠w.heap.size+3;omega) (nS _ (.inr ⟨by show w.heap.size<=w.heap.size+2;omega,by show w.heap.size+2<_;omega⟩)));have a3:w1.heap.size<=w2.heap.size:=z.size
 have dF:Jd (k9 (sP 0 (aO x n)) (sP 2 (aO x n))) (k9 (sP 1 (aO x n)) (sP 2 (aO x n))) (.map es cl):=⟨es,cl,f,rfl,V,am⟩
 have Ww:∀b,own b->T.heap[b]? =w.heap[b]? :=(λb g=>by
   rw[u,z.keep b (by have:=I b g;omega) (by
    by_cases hr:xR (π d) (π bl) b
    .exact .inr hr
    .exact .inl ⟨.inl g,hr⟩)]
   exact J b g)
 obtain⟨cA,ao,ag,em⟩:=Mp (m:=w.heap.size+1) A (w':=T) (by rw[u];omega) Ww ϖ (by rw[u];omega) (by rw[u];exact zV) (GH dF);have fin:=hk (.map (some wL.heap.size)) {wL with heap:=wL.heap.push (.map es cl)} cA M3 t3 ⟨wL.tape,wL.drawn,es,cl,rfl,⟨wL.tape,wL.drawn,rfl⟩,dF⟩ ?_ ?_ ag ϛ
 .exact E.back _ _ _ _ _ r1 (E.back _ _ _ _ _ r2 (E.back _ _ _ _ _ r3 fin))
 .have IP:∀b,iG E.H {wL with heap:=wL.heap.push (.map es cl)} b->¬H (cA b):=λb g p=>by
   have a2:b<wL.heap.size+1:=by have:=g.1;simpa using this
   have aw:=(kk _ p).1
   by_cases C:b<wL.heap.size
   .rw[ag b C] at p
    obtain⟨o',p⟩:=p;exact(S _ o' p).1 (O.own b ⟨C,g.2⟩ id)
   .have:b=wL.heap.size:=ϖ
    rw[this,em] at aw;omega
  have R:Apart (AQ X (JD Shun)) (λb=>own b\/b=w.heap.size+1) T:=by
   refine⟨λb g l G P=>?_,λb g=>?_,λl b P G=>?_,λl P=>?_⟩
   .obtain⟨a,rfl,ha⟩:=P
    have eb:=mB G;have ar:own b\/(w.heap.size<=b/\b<w.heap.size+4):=g.imp id λe=>⟨ϖ,ϖ⟩
    have a4:b<=w.heap.size+1:=g.elim (λh=>by have:=I b h;omega) λe=>ϖ
    rcases ha with ha|ha|ha
    .rw[eb] at ha;exact nS b ar ha
    .have:a.block=w.heap.size+3:=ha;omega
    .have:a.block=w.heap.size+2:=ha.1;omega
   .rw[u]
    rcases g with g|g
    .have:=I b g;omega
    .omega
   .obtain⟨a,rfl,ha⟩:=P
    have eb:=mB G;rw[u];rcases ha with ha|ha|ha
    .obtain⟨l',h1,h2⟩:=ha
     have:=hA.low l' _ h1 h2;omega
    .have:a.block=w.heap.size+3:=ha;omega
    .have:a.block=w.heap.size+2:=ha.1;omega
   .obtain⟨a,rfl,_⟩:=P
    exact⟨a,rfl⟩
  refine⟨AQ X (JD Shun),_,T,?_,ao.less H IP,R.part λb g=>g.1,?_,λq o p=>⟨λg=>g.2 ⟨o,p⟩,(Ww q (Pq q ⟨o,p⟩)).trans (S q o p).2.1,λl A=>R.off q (.inl (Pq q ⟨o,p⟩)) l A⟩⟩
  .have e:Value.ren cA (.map (some wL.heap.size))= .map (some (w.heap.size+1)):=by simp[em]
   rw[e];exact W
  .refine⟨?_,u3.trans (z.output.trans (u1.trans ho.2))⟩
   rw[o3];have h1:OsLater E.os w1.os:=by rw[o1];exact ho.1
   exact h1.trans z.os
 .intro r hr
  cases hr;exact⟨by show wL.heap.size<(wL.heap.push _).size;simp,λhh=>by have:=A.lw.low _ (.inl hh);omega⟩
end aI
end
section
open Go.Conc
open Go.ConcM (OsLater)
namespace aI
section
variable {P:ω}{main:Bool}{b:κ}{a:Act}{k:List Item}{cs:List κ}{w w':Ω}{l:Nat}{mark:List Deferred}
def yj {w:Ω}{l:Nat}{r:Loop}(h:w.heap[l]? =some (.loop r)):RT (Instr.getLoop l) w r w #[⟨.obj l,false,false⟩]:=RT.fI (x:= .loop r) (jb h) (.pure _)
def OY {w:Ω}{l:Nat}{r:Loop}(h:w.heap[l]? =some (.loop r))(hr:r.state= .ready):RT (Instr.beginRound l) w () {w with heap:=w.heap.setIfInBounds l (.loop {r with state:= .busy})} #[⟨.obj l,false,false⟩,⟨.obj l,true,false⟩]:=by
 refine RT.bind (x:=r) (e1:=#[⟨.obj l,false,false⟩]) (e2:=#[⟨.obj l,true,false⟩]) (yj h) ?_;refine RT.fI (x:=()) (ky h) ?_;rw[hr];exact .pure _
def Tc {w:Ω}{l:Nat}{r:Loop}(h:w.heap[l]? =some (.loop r)):RT (Instr.endRound l none) w (.bool true) {w with heap:=w.heap.setIfInBounds l (.loop {r with state:= .ready,pending:=none})} #[⟨.obj l,false,false⟩,⟨.obj l,true,false⟩]:=by
 refine RT.bind (x:=r) (e1:=#[⟨.obj l,false,false⟩]) (e2:=#[⟨.obj l,true,false⟩]) (yj h) ?_;exact RT.fI (x:=()) (ky h) (.pure _)
def Td {w:Ω}{l:Nat}{r:Loop}(h:w.heap[l]? =some (.loop r))(hr:r.state= .ready):RT (Instr.endLoop l) w r.pending {w with heap:=w.heap.setIfInBounds l (.loop {r with state:= .exhausted})} #[⟨.obj l,false,false⟩,⟨.obj l,true,false⟩]:=by
 refine RT.bind (x:=r) (e1:=#[⟨.obj l,false,false⟩]) (e2:=#[⟨.obj l,true,false⟩]) (yj h) ?_;have a:(r.state==LoopState.busy)=false:=by rw[hr];rfl
 rw[a];exact RT.fI (x:=()) (ky h) (.pure _)
def Ta {w:Ω}{D:Nat}(h:w.heap[D]? =some (.deferred (some []))):RT (Instr.takeDeferred D) w [] {w with heap:=w.heap.setIfInBounds D (.deferred none)} #[⟨.obj D,false,false⟩,⟨.obj D,true,false⟩]:=by
 refine RT.bind (x:= .deferred (some [])) (e1:=#[⟨.obj D,false,false⟩]) (e2:=#[⟨.obj D,true,false⟩]) (jb h) ?_;exact RT.fI (x:=()) (ky h) (.pure _)
def OW {w:Ω}{l:Nat}{r:Loop}{args:ϐ}(h:w.heap[l]? =some (.loop r))(c:args.size=r.params.size):
  RT (Instr.yield l args) w (.round l r.fn ((r.params.zip args).foldl (λb (t,a)=>b.setIfInBounds t a) r.tmps) r.assign r.body) w #[⟨.obj l,false,false⟩]:=by
 refine RT.fI (x:=r) (yj h) ?_;rw[ζ (by simpa using c)];exact .pure _
theorem Dh (fn:ac0)(tmps:ϐ)(ps:Array Tmp)(assign body:Code):
  RT (Instr.enterLoop fn tmps ps assign body none) w (w.heap.size+1,[{target:= .collected w.heap.size,args:=#[]}])
   {w with heap:=(w.heap.push (.deferred (some []))).push (.loop {state:= .ready,pending:=none,fn,tmps,params:=ps,assign,body,defers:=w.heap.size})} #[]:=by
 have h2:=qr (w:={w with heap:=w.heap.push (.deferred (some []))}) (.loop {state:= .ready,pending:=none,fn,tmps,params:=ps,assign,body,defers:=w.heap.size});have e:(w.heap.push (.deferred (some []))).size=w.heap.size+1:=ϛ
 rw[e] at h2;exact RT.aT (x:=w.heap.size) (qr _) (RT.aT (x:=(w.heap.size,[({target:= .collected w.heap.size,args:=#[]}:Deferred)])) (.pure _) (RT.aT h2 (.pure _)))
def yt:(CallKind.normal==CallKind.early)=false:=rfl
def ifT {α:Type}(a b:α):(if(true=true) then a else b)=a:=φ rfl
section
variable {fr:κ}{s:Sem Next}{ev:Array Event}{listen:Bool}
def G9 {f:ac0}{args:ϐ}(h:RT s w (.enter f args) w' ev)(b:fr.kind= .normal)(a:∀d r x k,fr.todo≠.call d true r x::k):
  stepG.apply PP true fr cs none s w= .go (G (Frame.enter PP f args .normal) (fr::cs)) w' (seen PP fr.fn ev):=by
 have h1:=h #[];rw[ϐ9] at h1;unfold stepG.apply;simp only[ifT,h1,b,yt];have:(match fr.todo with|.call _ true _ _::_=>CallKind.wrapped|_=> .normal)= .normal:=by
  split
  .exact absurd (by assumption) (a _ _ _ _)
  .rfl
 simp[GStep.after,G]
def rh {v:Φ}(h:RT s w (.value v) w' ev)(a:fr.kind= .normal):stepG.apply PP true fr cs none s w= .go (G (fr.finish v) cs) w' (seen PP fr.fn ev):=by
 have h1:=h #[];rw[ϐ9] at h1;unfold stepG.apply;simp only[ifT,h1,a,yt];simp[GStep.after,G]
def AB (h:RT s w .skip w' ev)(a:fr.kind= .normal):stepG.apply PP true fr cs none s w= .go (G (fr.finish ϗ) cs) w' (seen PP fr.fn ev):=by
 have h1:=h #[];rw[ϐ9] at h1;unfold stepG.apply;simp only[ifT,h1,a,yt];simp[GStep.after,G]
def G8 {f:ac0}{tm:ϐ}{yC body:Code}(h:RT s w (.round l f tm yC body) w' ev)(a:fr.kind= .normal):stepG.apply PP true fr cs none s w= .go (G (Frame.round l f tm yC body .normal) (fr::cs)) w' (seen PP fr.fn ev):=by
 have h1:=h #[];rw[ϐ9] at h1;unfold stepG.apply;simp only[ifT,h1,a,yt];simp[GStep.after,G]
end
def AX {g:ab7}{e:Array Tmp}{yC body:Code}{gf:Nat}{lb:ϐ}{fn:Func}(hg:a.eval g= .func (.func gf) #[] lb)(i:PP.funcs[gf]? =some fn)(f:fn.body.isNone=false)(j:(fn.name== "runtime.NumGoroutine")=false)(o:b.kind= .normal)(h:RT (Instr.enterLoop b.fn a.tmps e yC body none) w (l,mark) w' #[]):
  stepG PP main (G (b.at a (.code (.rangeFunc g e yC body)::k)) cs) w= .go (G (Frame.enter PP gf (#[.func (.yield l) #[] #[]]++lb) .normal) (b.at {a with defers:=mark++a.defers} (.inRangeFunc l::k)::cs)) w' #[]:=by
 have h1:=h #[];have c:Frame.eval {fn:=b.fn,tmps:=a.tmps,todo:= .inRangeFunc l::k,defers:=mark++a.defers,mode:= .run,kind:=b.kind} g= .func (.func gf) #[] lb:=by
  rw[<-hg];cases g<;>rfl
 have h2:RT (callFunc gf (#[.func (.yield l) #[] #[]]++lb)) w' (.enter gf (#[.func (.yield l) #[] #[]]++lb)) w' #[]:=by
  refine iO.aT ?_;rw[i];simp only[j,f];exact .pure _
 have n:RT (do let d <-resolve (Frame.eval {fn:=b.fn,tmps:=a.tmps,todo:= .inRangeFunc l::k,defers:=mark++a.defers,mode:= .run,kind:=b.kind}) {callee:= .value g,args:=#[.const (.func (.yield l) #[] #[])],argTypes:=#[]} 0;invoke d.target d.args) w' (.enter gf (#[.func (.yield l) #[] #[]]++lb)) w' #[]:=by
  refine RT.aT (x:={target:= .fn (.func gf) lb,args:=#[.func (.yield l) #[] #[]]}) ?_ (show RT (invoke (.fn (.func gf) lb) #[.func (.yield l) #[] #[]]) _ _ _ _ from h2);unfold resolve;simp only[ϒ7,ϴ,Ϙ2,c];exact .pure _
 rw[ϐ8] at h1;unfold stepG stepG.exec;simp only[G,Frame.at];rw[h1];dsimp only;have m:=G9 (cs:=cs) (fr:={fn:=b.fn,tmps:=a.tmps,todo:= .inRangeFunc l::k,defers:=mark++a.defers,mode:= .run,kind:=b.kind}) n o ϛ;rw[m];simp[seen_none,GStep.after,G]
section
variable {fr:κ}{ev:Array Event}{c:κ}
def stepG_op {ops:Ϙ}{i:Nat}{rest:ϑ}{o:Oper}(hm:fr.mode= .run)(b:fr.todo= .inRegion ops (i::rest)::k)(d:ops[i]? =some o)(e:wanted o (yielded ops fr.tmps)=true)(a:∀c,o.op≠.defer c):
  stepG PP main (G fr cs) w=stepG.apply PP true fr cs none (execOp fr.eval o) w:=by
 have h1:fr.oper? =some o:=by simp[Frame.oper?,b,d]
 unfold stepG stepG.exec;simp only[G,hm,b,d,ξ,e,ϕ9,if_true];unfold stepG.oper;rw[h1];dsimp only;split
 .exact absurd (by assumption) (a _)
 .rfl
def EI (hm:fr.mode= .run)(a:fr.todo= .beginRound::k)(hr:fr.roundOf=some l)(b:fr.kind= .normal)(h:RT (Instr.beginRound l) w () w' ev):
  stepG PP main (G fr cs) w= .go (G (fr.finish ϗ) cs) w' (seen PP fr.fn ev):=by
 unfold stepG stepG.exec;simp only[G,hm,a,hr,Option.elim_some];exact AB (RT.fI h (.pure _)) b
def Hu (hm:fr.mode= .run)(a:fr.todo=[])(hr:fr.roundOf=some l)(b:fr.kind= .normal)(h:RT (Instr.endRound l none) w (.bool true) w' ev):
  stepG PP main (G fr (c::cs)) w= .go (G (c.finish (.bool true)) cs) w' (seen PP fr.fn ev):=by
 have h1:=h #[];rw[ϐ9] at h1;unfold stepG stepG.exec;simp only[G,hm,a,hr,h1,doReturn,b,GStep.after];simp
def Hv (hm:fr.mode= .run)(a:fr.todo= .endRangeFunc l::k)(h:RT (Instr.endLoop l) w none w' ev):
  stepG PP main (G fr cs) w= .go (G {fr with todo:=k} cs) w' (seen PP fr.fn ev):=by
 have h1:=h #[];rw[ϐ9] at h1;unfold stepG stepG.exec;simp only[G,hm,a,h1,GStep.after];simp
def Ht {D:Nat}{c:ϐ}{b a:List Deferred}(hm:fr.mode= .returning)(hd:fr.defers={target:= .collected D,args:=c}::b)(h:RT (Instr.takeDeferred D) w a w' ev):
  stepG PP main (G fr cs) w= .go (G {fr with defers:=a++b} cs) w' (seen PP fr.fn ev):=by
 have h1:=h #[];rw[ϐ9] at h1;unfold stepG unwind;simp only[G,hm,hd,h1,GStep.after];simp
end
end
abbrev lh:η:=9
abbrev nu:η:=45
def Ew:PP.underlying nu=some (.slice lh):=ϰ
def DL:(PP.info? lh).map (·.size)=some 1:=ϰ
def JH:(PP.info? lh).bind (·.zero)=some (.string ⟨#[]⟩):=ϰ
def Ko:TypeInfo:=(PP.info? lh).getD default
def zT:PP.info? lh=some Ko:=ϰ
def xA:Ko.bytes=16:=ϰ
section
variable {w:Ω}{k:Ξ}
def Fb:RT (Instr.buildSlice nu 1 #[(0,.string k)]) w (.slice (some ⟨w.heap.size,0,none⟩) 1 1) {w with heap:=w.heap.push (.cells #[.string k] lh (0,0))} #[]:=by
 unfold Instr.buildSlice;refine(iM Ew).aT ?_;dsimp only;refine(rv DL).aT ?_;simp only[Nat.reduceMul,Nat.reducePow,Nat.reduceGT,if_false,Nat.reduceEqDiff,Nat.one_ne_zero];refine(yh JH).aT (RT.aT (x:=#[.string ⟨#[]⟩]) (.pure _) ?_)
 have a:Instr.fill (λi=>some (i*1,1)) ((Array.range 1).map (λx=>(#[(.string ⟨#[]⟩:Φ)]:Array Φ)[x%(#[(.string ⟨#[]⟩:Φ)]:Array Φ).size]!)) [(0,.string k)]=some #[.string k]:=by
  have e:(Array.map (λx=>(#[(.string ⟨#[]⟩:Φ)]:Array Φ)[x%(#[(.string ⟨#[]⟩:Φ)]:Array Φ).size]!) (Array.range 1))=#[.string ⟨#[]⟩]:=by
   rw[show Array.range 1=#[0] from Array.ext ϛ λi h1 h2=>by simp at h1;subst h1;simp];simp
  rw[e];simp[Instr.fill,Value.cells]
 rw[a];exact RT.aT (x:=⟨w.heap.size,0,none⟩) (RT.aT (qr _) (.pure _)) (.pure _)
def Strs (w:Ω)(own:ϒ)(v:Φ)(ks:ϱ):Prop:=
 (v= .slice none 0 0/\ks=[])\/∃a cap,v= .slice (some ⟨a,0,none⟩) ks.length cap/\own a/\ks.length<=cap/\w.heap[a]? =some (.cells (ks.map Value.string++replicate (cap-ks.length) (Value.string ⟨#[]⟩)).toArray lh (0,0))
structure App (own:Nat->Prop)(ks:List Ξ)(w:Ω)(v:Φ)(w':Ω)(ev:Array Event):Prop where
 tape:w'.tape=w.tape
 output:w'.output=w.output
 os:w'.os=w.os
 size:w.heap.size<=w'.heap.size
 keep:∀b,b<w.heap.size->¬own b->w'.heap[b]? =w.heap[b]?
 strs:Strs w' (λb=>own b\/(w.heap.size<=b/\b<w'.heap.size)) v ks
 ev:∀e∈ev,(∃b,own b/\EvB b e)\/∃m,e.loc= .mark m/\qH m
def Ie (cs:ϐ)(v:Φ)(i:Nat):mg cs [v] i=cs.setIfInBounds i v:=rfl
def xc {b:Nat}{f:Nat×Nat}(h:w.heap[b]? =some (.cells #[.string k] lh f)):∃ev,RT (Builtin.firstCells 1 1 (.slice (some ⟨b,0,none⟩) 1 1)) w #[.string k] w ev/\∀e∈ev,EvB b e:=by
 have⟨ev,h1,h2⟩:=lJ h 0 1 0 #[] ϛ;refine⟨ev,?_,λe c=>?_⟩
 .have e1:(#[]:Array Φ)++(#[Value.string k]:Array Φ).extract (0+0) (0+0+1)=#[.string k]:=ϛ
  rw[e1] at h1;exact h1
 .obtain⟨a,rfl,ha⟩:=h2 e c
  exact j5 ha
def Fa {b n cap:Nat}{cs:ϐ}{f:Nat×Nat}(h:w.heap[b]? =some (.cells cs lh f))(d:n<=cs.size):∃ev,RT (Builtin.firstCells 1 n (.slice (some ⟨b,0,none⟩) n cap)) w (cs.extract 0 n) w ev/\∀e∈ev,EvB b e:=by
 have⟨ev,h1,h2⟩:=lJ h 0 n 0 #[] ϖ;refine⟨ev,?_,λe c=>?_⟩
 .have e1:(#[]:Array Φ)++cs.extract (0+0) (0+0+n)=cs.extract 0 n:=ϛ
  rw[e1] at h1;show RT (loadCells ⟨b,0,none⟩ (n*1)) _ _ _ _;rw[Nat.mul_one];exact h1
 .obtain⟨a,rfl,ha⟩:=h2 e c
  exact j5 ha
def JZ {a:Ϡ}{n c:Nat}:RT (Builtin.lenOf (.slice a n c)) w n w #[]:= .pure _
def NH {base:Ϡ}{n cap xb:Nat}{ty:η}{sv:Φ}{w':Ω}{ev:Ϝ}(b:n+1<=cap)(h:RT (do
    let new <-Builtin.firstCells 1 1 (.slice (some ⟨xb,0,none⟩) 1 1)
    if let some a:=base then storeCells (a.add (n*1)) new.toList
    pure (.slice base (n+1) cap)) w sv w' ev):
  RT (Builtin.append_ #[nu,nu] ty #[.slice base n cap,.slice (some ⟨xb,0,none⟩) 1 1]) w sv w' ev:=by
 unfold Builtin.append_;show RT (underlying nu>>=_) _ _ _ _;refine(iM Ew).aT ?_;dsimp only;refine(rv DL).aT ?_;show RT (underlying nu>>=_) _ _ _ _;refine(iM Ew).aT ?_;refine RT.aT (x:=false) (.pure _) ?_;simp only[ν,if_false,Bool.not_false,if_true];refine JZ.aT ?_;rw[φ b];exact h
def Jy {base:Ϡ}{n cap xb:Nat}{ty:η}{sv:Φ}{w':Ω}{ev:Ϝ}(i:¬n+1<=cap)(k:n<2^40)(f:cap<=n)(h:RT (do
    let a <-choose (.appendCap (n+1) cap lh)
    askRoom (a*(<-typeInfo lh).bytes)
    let b <-Builtin.firstCells 1 n (.slice base n cap)
    let new <-Builtin.firstCells 1 1 (.slice (some ⟨xb,0,none⟩) 1 1)
    let rest:=Builtin.zeroCells (<-zeroValue lh).cells (a-(n+1))
    pure (.slice (some (<-newRow lh (b++new++rest))) (n+1) a)) w sv w' ev):
  RT (Builtin.append_ #[nu,nu] ty #[.slice base n cap,.slice (some ⟨xb,0,none⟩) 1 1]) w sv w' ev:=by
 unfold Builtin.append_;show RT (underlying nu>>=_) _ _ _ _;refine(iM Ew).aT ?_;dsimp only;refine(rv DL).aT ?_;show RT (underlying nu>>=_) _ _ _ _;refine(iM Ew).aT ?_;refine RT.aT (x:=false) (.pure _) ?_;simp only[ν,if_false,Bool.not_false,if_true,false_or];refine JZ.aT ?_;rw[ζ i];refine(uj zT).aT ?_
 have e:Builtin.nextslicecap (n+1) cap*Ko.bytes<=2^48:=by
  rw[xA];unfold Builtin.nextslicecap;have g:∀(r c:Nat),c<=2^41->Builtin.growBy (n+1) r c<=2^42:=by
   intro r
   induction r with
   |zero=>intro c d;unfold Builtin.growBy;omega
   |succ r j=>
    intro c d;unfold Builtin.growBy;split
    .omega
    .refine j _ ?_;omega
  split
  .omega
  .split
   .omega
   .have:=g 4 cap ϖ;omega
 rw[ζ (by rw[xA];omega)];refine(uj zT).aT ?_;rw[ζ ϖ];exact h
def set_mid {α:Type}(A:List α)(b c:α)(B:List α):(A++b::B).set A.length c=A++c::B:=by
 induction A with
 |nil=>rfl
 |cons x A a=>simp[a]
def AS (m:Nat):Builtin.zeroCells #[.string ⟨#[]⟩] m=Array.replicate m (Value.string ⟨#[]⟩):=by
 unfold Builtin.zeroCells
 apply Array.ext
 .simp
 .intro i h1 h2
  simp[Nat.mod_one]
theorem LP {own:ϒ}{s:Φ}{ks:ϱ}{xb:Nat}{f:Nat×Nat}(ty:η)(J:Strs w own s ks)(p:w.heap[xb]? =some (.cells #[.string k] lh f))(E:own xb)(G:ks.length<2^40):
  ∃v w' ev,RT (Builtin.append_ #[nu,nu] ty #[s,.slice (some ⟨xb,0,none⟩) 1 1]) w v w' ev/\App own (ks++[k]) w v w' ev:=by
 have grow:∀{base:Ϡ}{cap:Nat}{ev0:Ϝ},¬ks.length+1<=cap->cap<=ks.length->(∀w1,w1.heap=w.heap->∃ev0,RT (Builtin.firstCells 1 ks.length (.slice base ks.length cap)) w1 (ks.map Value.string).toArray w1 ev0/\∀e∈ev0,∃b,own b/\EvB b e)->
   ∃v w' ev,RT (Builtin.append_ #[nu,nu] ty #[.slice base ks.length cap,.slice (some ⟨xb,0,none⟩) 1 1]) w v w' ev/\App own (ks++[k]) w v w' ev:=by
  intro base cap ev0 i d hold;obtain⟨c0,w1,D,H,I,s1,h1,l⟩:=rz (w:=w) (q:= .appendCap (ks.length+1) cap lh);have B:ks.length+1<=c0:=by
   rcases l with⟨hf,_⟩|⟨x,rfl⟩
   .simp[Question.forced] at hf
   .simp[Question.cut]
  obtain⟨A,F,e1⟩:=hold w1 h1;obtain⟨g,r2,e2⟩:=xc (w:=w1) (by rw[h1];exact p);have h:∃ev,RT (askRoom (c0*Ko.bytes)) w1 () w1 ev/\∀e∈ev,∃m,e.loc= .mark m/\qH m:=by
   unfold askRoom;split
   .exact⟨#[⟨.mark .noRoom,false,true⟩],λes=>by show(Result.ok () w1,es.push _)=_;simp,λe c=>by simp at c;subst c;exact⟨_,rfl,trivial⟩⟩
   .exact⟨#[],.pure _,ϛ⟩
  obtain⟨C,r3,y⟩:=h;have j:=qr (w:=w1) (.cells ((ks.map Value.string).toArray++#[.string k]++Array.replicate (c0-(ks.length+1)) (Value.string ⟨#[]⟩)) lh (0,0))
  refine⟨.slice (some ⟨w1.heap.size,0,none⟩) (ks.length+1) c0,{w1 with heap:=w1.heap.push (.cells ((ks.map Value.string).toArray++#[.string k]++Array.replicate (c0-(ks.length+1)) (Value.string ⟨#[]⟩)) lh (0,0))},C++(A++g),Jy i G d ?_,?_⟩
  .refine D.aT ((uj zT).aT (r3.bind (F.bind ?_)))
   refine RT.fI (x:=#[.string k]) r2 ?_;refine(yh JH).aT ?_;show RT (newRow lh ((ks.map Value.string).toArray++#[.string k]++Builtin.zeroCells #[.string ⟨#[]⟩] (c0-(ks.length+1)))>>=_) _ _ _ _;rw[AS];exact RT.aT (x:=⟨w1.heap.size,0,none⟩) (RT.aT j (.pure _)) (.pure _)
  .refine⟨H,I,s1,by show w.heap.size<=(w1.heap.push _).size;rw[h1];simp,λb o _=>by show(w1.heap.push _)[b]? =_;rw[h1,ac5 o];exact(τ o).symm,.inr ⟨w1.heap.size,c0,ϛ,.inr ⟨by rw[h1];exact ι _,by show _<(w1.heap.push _).size;simp⟩,by simpa using B,?_⟩,λe c=>?_⟩
   .show(w1.heap.push _)[w1.heap.size]? =_
    simp
   .rcases ai4.1 c with c|c
    .exact .inr (y e c)
    .rcases ai4.1 c with c|c
     .exact .inl (e1 e c)
     .exact .inl ⟨xb,E,e2 e c⟩
 rcases J with⟨rfl,rfl⟩|⟨sk,cap,rfl,osk,hle,hsk⟩
 .exact grow (base:=none) (cap:=0) (ev0:=#[]) ϛ ϛ λw1 _=>⟨#[],.pure _,ϛ⟩
 .by_cases i:ks.length+1<=cap
  .obtain⟨g,r2,e2⟩:=xc p
   obtain⟨w',ev,r3,u,y⟩:=nE (ks.length*1) [.string k] 0 hsk (by simp;omega) (by simp[mN]);refine⟨.slice (some ⟨sk,0,none⟩) (ks.length+1) cap,w',g++ev,NH i (r2.bind ?_),?_⟩
   .show RT (storeCells (Addr.add ⟨sk,0,none⟩ (ks.length*1)) [.string k]>>=_) _ _ _ _
    rw[AF,Nat.zero_add];exact RT.fI (x:=()) r3 (.pure _)
   .refine⟨u.tape,u.output,u.os,by rw[u.size];exact ι _,λb _ o=>u.rest b λe=>o (e▸osk),.inr ⟨sk,cap,ϛ,.inl osk,by simpa using i,?_⟩,λe c=>?_⟩
    .rw[u.at_,Ie]
     congr 2
     apply Array.ext'
     simp only[Nat.mul_one,Nat.add_zero,List.setIfInBounds_toArray];obtain⟨m,hm⟩:∃m,cap-ks.length=m+1:=⟨cap-ks.length-1,ϖ⟩
     have t:cap-(ks++[k]).length=m:=by simp;omega
     rw[hm,t,List.replicate_succ];have:=set_mid (ks.map Value.string) (Value.string ⟨#[]⟩) (Value.string k) (List.replicate m (Value.string ⟨#[]⟩));rw[ah1] at this;rw[this];simp
    .rcases ai4.1 c with c|c
     .exact .inl ⟨xb,E,e2 e c⟩
     .obtain⟨a,rfl,ha⟩:=y e c
      exact .inl ⟨sk,osk,j5 ha⟩
  .have d:cap=ks.length:=ϖ
   refine grow (base:=some ⟨sk,0,none⟩) (cap:=cap) (ev0:=#[]) i ϖ λw1 z=>?_
   obtain⟨ev,r,e⟩:=Fa (w:=w1) (n:=ks.length) (cap:=cap) (by rw[z];exact hsk) ϛ;refine⟨ev,?_,λx p=>⟨sk,osk,e x p⟩⟩;have:((ks.map Value.string++List.replicate (cap-ks.length) (Value.string ⟨#[]⟩)).toArray).extract 0 ks.length=(ks.map Value.string).toArray:=by
    apply Array.ext'
    rw[d];simp[List.extract_eq_drop_take,θ]
   rw[this] at r;exact r
end
namespace Sq
abbrev Gs:Nat:=178
abbrev WJ:Nat:=135
def cO (tm:ϐ)(yC body:Code)(st:LoopState)(D:Nat):Loop:={state:=st,pending:=none,fn:=Gs,tmps:=tm,params:=#[7],assign:=yC,body:=body,defers:=D}
section
variable {tm:Array Φ}{yC body:Code}{D l:Nat}{w:Ω}{st:LoopState}
def K1 {x:Φ}(h:w.heap[l]? =some (.loop (cO tm yC body st D))):RT (Instr.yield l #[x]) w (.round l Gs (tm.setIfInBounds 7 x) yC body) w #[⟨.obj l,false,false⟩]:=by
 have:=OW (args:=#[x]) h rfl;simpa [cO] using this
def NE (h:w.heap[l]? =some (.loop (cO tm yC body .ready D))):RT (Instr.beginRound l) w () {w with heap:=w.heap.setIfInBounds l (.loop (cO tm yC body .busy D))} #[⟨.obj l,false,false⟩,⟨.obj l,true,false⟩]:=OY h rfl
def QT (h:w.heap[l]? =some (.loop (cO tm yC body .busy D))):RT (Instr.endRound l none) w (.bool true) {w with heap:=w.heap.setIfInBounds l (.loop (cO tm yC body .ready D))} #[⟨.obj l,false,false⟩,⟨.obj l,true,false⟩]:=Tc h
def QU (h:w.heap[l]? =some (.loop (cO tm yC body .ready D))):RT (Instr.endLoop l) w none {w with heap:=w.heap.setIfInBounds l (.loop (cO tm yC body .exhausted D))} #[⟨.obj l,false,false⟩,⟨.obj l,true,false⟩]:=Td h rfl
def Nd (tm:ϐ)(yC body:Code):RT (Instr.enterLoop Gs tm #[7] yC body none) w (w.heap.size+1,[{target:= .collected w.heap.size,args:=#[]}]) {w with heap:=(w.heap.push (.deferred (some []))).push (.loop (cO tm yC body .ready w.heap.size))} #[]:=Dh Gs tm #[7] yC body
end
def oS (bx:Nat):Φ:= .func (.func WJ) #[] #[pb bx]
section
variable (bx bS M it D l:Nat)(k:Ξ)(v:Φ)(fr:κ)(cs:List κ)(y:Nat->Φ)
def sQ0:Θ:=Qk Gs #[.slice none 0 0,oS bx] 11 fr cs
def LN:Θ:=OT (sQ0 bx fr cs)
def Ig:az PP true (sQ0 bx fr cs) (LN bx fr cs):=bI λa=>ϰ
def X1:aY (LN bx fr cs)=some (.box nu (.slice none 0 0)):=ϰ
def X0:Θ:=OT (resume (LN bx fr cs) (pb bS))
def XZ:az PP true (resume (LN bx fr cs) (pb bS)) (X0 bx bS fr cs):=bI λa=>ϰ
def Ry:Code:=match(X0 0 0 default []).frame.todo with|.code (.rangeFunc _ _ a _)::_=>a|_=> .skip
def ND:Code:=match(X0 0 0 default []).frame.todo with|.code (.rangeFunc _ _ _ b)::_=>b|_=> .skip
def J7:List Item:=(X0 0 0 default []).frame.todo.tail
def tmS:Array Φ:=(X0 bx bS default []).frame.tmps
def XY:X0 bx bS fr cs=G ((base Gs).at ⟨tmS bx bS,[]⟩ (.code (.rangeFunc (.tmp 6) #[7] Ry ND)::J7)) (fr::cs):=ϰ
def Su:(⟨tmS bx bS,[]⟩:Act).eval (.tmp 6)= .func (.func WJ) #[] #[pb bx]:=ϰ
def nG (st:LoopState)(bx bS D:Nat):Loop:=cO (tmS bx bS) Ry ND st D
def KE:κ:=(base Gs).at ⟨tmS bx bS,[{target:= .collected D,args:=#[]}]⟩ (.inRangeFunc l::J7)
def sK0:Θ:=G (Frame.enter PP WJ #[.func (.yield l) #[] #[],pb bx] .normal) (KE bx bS D l::fr::cs)
def sK1:Θ:=OT (sK0 bx bS D l fr cs)
def Yg:az PP true (sK0 bx bS D l fr cs) (sK1 bx bS D l fr cs):=bI λa=>ϰ
def OL:aY (sK1 bx bS D l fr cs)=some (.load RI (pb bx)):=ϰ
def Yf:Θ:=OT (resume (sK1 bx bS D l fr cs) (.map (some M)))
def Ye:az PP true (resume (sK1 bx bS D l fr cs) (.map (some M))) (Yf bx bS M D l fr cs):=bI λa=>ϰ
def OK:aY (Yf bx bS M D l fr cs)=some (.range RI (.map (some M))):=ϰ
end
def adV:List Item:=(OT (resume (Yf 0 0 0 0 0 default []) (pb 0))).frame.todo
def gK (tm:ϐ)(F1:κ)(cs1:ϙ):Θ:=G ((base WJ).at ⟨tm,[]⟩ adV) (F1::cs1)
structure HK (l it:Nat)(tm:Array Φ):Prop where
 size:tm.size=14
 s0:tm[0]? =some (.func (.yield l) #[] #[])
 s5:tm[5]? =some (pb it)
section
variable (bx bS M it D l xb:Nat)(k:Ξ)(v sv nv:Φ)(fr F1:κ)(cs cs1:List κ)(y:Nat->Φ)
def tmK:Array Φ:=#[.func (.yield l) #[] #[],y 1,y 2,y 3,y 4,pb it,y 6,y 7,y 8,y 9,y 10,y 11,y 12,y 13]
def SK (tm:ϐ)(h:tm.size=14):tm=#[tm.getD 0 ϗ,tm.getD 1 ϗ,tm.getD 2 ϗ,tm.getD 3 ϗ,tm.getD 4 ϗ,tm.getD 5 ϗ,tm.getD 6 ϗ,tm.getD 7 ϗ,tm.getD 8 ϗ,tm.getD 9 ϗ,tm.getD 10 ϗ,tm.getD 11 ϗ,tm.getD 12 ϗ,tm.getD 13 ϗ]:=by
 have e:tm=((range 14).map λi=>tm.getD i ϗ).toArray:=by
  apply Array.ext
  .simp[h]
  .intro i h1 h2
   simp[ac6,h1]
 exact e.trans ϰ
def HK.eq {l it:Nat}{tm:ϐ}(h:HK l it tm):tm=tmK it l λi=>tm.getD i ϗ:=by
 have h1:=SK tm h.size;rw[cJ h.s0,cJ h.s5] at h1;exact h1
def Yd:∃tm,HK l it tm/\az PP true (resume (Yf bx bS M D l fr cs) (pb it)) (gK tm (KE bx bS D l) (fr::cs)):=
 ⟨(OT (resume (Yf bx bS M D l fr cs) (pb it))).frame.tmps,⟨ϰ,ϰ,ϰ⟩,bX 200 (cj PP true 200 (resume (Yf bx bS M D l fr cs) (pb it))) λa=>ϰ⟩
abbrev kl:Θ:=gK (tmK it l y) F1 cs1
def nxK:η:=match aY (kl 0 0 default [] λ_=>ϗ) with|some (.next _ _ t)=>t|_=>0
def afZ:aY (kl it l F1 cs1 y)=some (.next (pb it) false nxK):=ϰ
def kA:Θ:=OT (resume (kl it l F1 cs1 y) (.tuple #[.bool true,.string k,v]))
def af2:az PP true (resume (kl it l F1 cs1 y) (.tuple #[.bool true,.string k,v])) (kA it l k v F1 cs1 y):=bI λa=>ϰ
def af1:aY (kA it l k v F1 cs1 y)=some (.entry (pb it)):=ϰ
def FB:κ:=(OT (resume (kA it l k v default [] y) (.tuple #[.string k,v]))).frame
def af0:az PP true (resume (kA it l k v F1 cs1 y) (.tuple #[.string k,v])) (G (FB it l k v y) (F1::cs1)):=bX 200 (cj PP true 200 (resume (kA it l k v F1 cs1 y) (.tuple #[.string k,v]))) λa=>ϰ
def VT:∃tm,HK l it tm/\az PP true (G ((FB it l k v y).finish (.bool true)) (F1::cs1)) (gK tm F1 cs1):=
 ⟨(OT (G ((FB it l k v y).finish (.bool true)) (F1::cs1))).frame.tmps,⟨ϰ,ϰ,ϰ⟩,bX 200 (cj PP true 200 (G ((FB it l k v y).finish (.bool true)) (F1::cs1))) λa=>ϰ⟩
end
section
variable (bx bS M it D l xb:Nat)(k:Ξ)(v sv nv:Φ)(fr F1:κ)(cs cs1:List κ)(y:Nat->Φ)
def Uk:az PP true (resume (kl it l F1 cs1 y) (.tuple #[.bool false])) (da F1 cs1 U):=bX 7 (cj PP true 7 (resume (kl it l F1 cs1 y) (.tuple #[.bool false]))) λa=>ϰ
def TB:Array Oper:=match(FB 0 0 ⟨#[]⟩ ϗ λ_=>ϗ).todo with|.inRegion ops _::_=>ops|_=>#[]
def iB:Nat:=match(FB 0 0 ⟨#[]⟩ ϗ λ_=>ϗ).todo with|.inRegion _ (i::_)::_=>i|_=>0
def rB:List Nat:=match(FB 0 0 ⟨#[]⟩ ϗ λ_=>ϗ).todo with|.inRegion _ (_::r)::_=>r|_=>[]
def kB:List Item:=(FB 0 0 ⟨#[]⟩ ϗ λ_=>ϗ).todo.tail
def oY:Oper:=(TB[iB]?).getD default
def VR:(FB it l k v y).mode= .run:=ϰ
def VS:(FB it l k v y).kind= .normal:=ϰ
def VQ:(FB it l k v y).todo= .inRegion TB (iB::rB)::kB:=ϰ
def afu:TB[iB]? =some oY:=ϰ
def TK:wanted oY (yielded TB (FB it l k v y).tmps)=true:=ϰ
def Wj:oY.op= .call {callee:= .value (.tmp 10),args:=#[.tmp 11],argTypes:=#[9]}:=ϰ
def aiq:(FB it l k v y).eval (.tmp 10)= .func (.yield l) #[] #[]:=ϰ
def aip:(FB it l k v y).eval (.tmp 11)= .string k:=ϰ
def V6:Array Φ:=(tmS bx bS).setIfInBounds 7 (.string k)
def gR0:Θ:=G (Frame.round l Gs (V6 bx bS k) Ry ND .normal) (F1::cs1)
def R8:κ:=(OT (gR0 bx bS l k default [])).frame
def abn:az PP true (gR0 bx bS l k F1 cs1) (G (R8 bx bS l k) (F1::cs1)):=bX 200 (cj PP true 200 (gR0 bx bS l k F1 cs1)) λa=>ϰ
def QJ:(R8 bx bS l k).mode= .run:=ϰ
def QK:(R8 bx bS l k).kind= .normal:=ϰ
def QI:(R8 bx bS l k).todo= .beginRound::[.code ND]:=ϰ
def MR:(R8 bx bS l k).roundOf=some l:=ϰ
end
section
variable (bx bS M it D l xb:Nat)(k:Ξ)(v sv nv:Φ)(fr F1:κ)(cs cs1:List κ)(y:Nat->Φ)
def Gr:κ:=(OT (G ((R8 bx bS l k).finish undef) (default::[]))).frame
def abV:az PP true (G ((R8 bx bS l k).finish ϗ) (F1::cs1)) (G (Gr bx bS l k) (F1::cs1)):=bX 200 (cj PP true 200 (G ((R8 bx bS l k).finish ϗ) (F1::cs1))) λa=>ϰ
def TG:Array Oper:=match(Gr 0 0 0 ⟨#[]⟩).todo with|.inRegion ops _::_=>ops|_=>#[]
def i2:Nat:=match(Gr 0 0 0 ⟨#[]⟩).todo with|.inRegion _ (i::_)::_=>i|_=>0
def r2:List Nat:=match(Gr 0 0 0 ⟨#[]⟩).todo with|.inRegion _ (_::r)::_=>r|_=>[]
def k2:List Item:=(Gr 0 0 0 ⟨#[]⟩).todo.tail
def o2:Oper:=(TG[i2]?).getD default
def QG:(Gr bx bS l k).mode= .run:=ϰ
def QH:(Gr bx bS l k).kind= .normal:=ϰ
def QF:(Gr bx bS l k).todo= .inRegion TG (i2::r2)::k2:=ϰ
def afy:TG[i2]? =some o2:=ϰ
def TP:wanted o2 (yielded TG (Gr bx bS l k).tmps)=true:=ϰ
def Wn:o2.op= .load nu (.tmp 2):=ϰ
def ahC:(Gr bx bS l k).eval (.tmp 2)=pb bS:=ϰ
def Ej:κ:=(OT (G ((Gr bx bS l k).finish sv) (default::[]))).frame
def abU:az PP true (G ((Gr bx bS l k).finish sv) (F1::cs1)) (G (Ej bx bS l k sv) (F1::cs1)):=bX 200 (cj PP true 200 (G ((Gr bx bS l k).finish sv) (F1::cs1))) λa=>ϰ
def TF:Array Oper:=match(Ej 0 0 0 ⟨#[]⟩ ϗ).todo with|.inRegion ops _::_=>ops|_=>#[]
def i3:Nat:=match(Ej 0 0 0 ⟨#[]⟩ ϗ).todo with|.inRegion _ (i::_)::_=>i|_=>0
def r3:List Nat:=match(Ej 0 0 0 ⟨#[]⟩ ϗ).todo with|.inRegion _ (_::r)::_=>r|_=>[]
def k3:List Item:=(Ej 0 0 0 ⟨#[]⟩ ϗ).todo.tail
def o3:Oper:=(TF[i3]?).getD default
def QD:(Ej bx bS l k sv).mode= .run:=ϰ
def QE:(Ej bx bS l k sv).kind= .normal:=ϰ
def QC:(Ej bx bS l k sv).todo= .inRegion TF (i3::r3)::k3:=ϰ
def afx:TF[i3]? =some o3:=ϰ
def TO:wanted o3 (yielded TF (Ej bx bS l k sv).tmps)=true:=ϰ
def Wm:o3.op= .buildSlice nu 1 #[(0,.tmp 9)]:=ϰ
def ahB:(Ej bx bS l k sv).eval (.tmp 9)= .string k:=ϰ
def DY:κ:=(OT (G ((Ej bx bS l k sv).finish (.slice (some ⟨xb,0,none⟩) 1 1)) (default::[]))).frame
def abS:az PP true (G ((Ej bx bS l k sv).finish (.slice (some ⟨xb,0,none⟩) 1 1)) (F1::cs1)) (G (DY bx bS l xb k sv) (F1::cs1)):=bX 200 (cj PP true 200 (G ((Ej bx bS l k sv).finish (.slice (some ⟨xb,0,none⟩) 1 1)) (F1::cs1))) λa=>ϰ
def TE:Array Oper:=match(DY 0 0 0 0 ⟨#[]⟩ ϗ).todo with|.inRegion ops _::_=>ops|_=>#[]
def i4:Nat:=match(DY 0 0 0 0 ⟨#[]⟩ ϗ).todo with|.inRegion _ (i::_)::_=>i|_=>0
def r4:List Nat:=match(DY 0 0 0 0 ⟨#[]⟩ ϗ).todo with|.inRegion _ (_::r)::_=>r|_=>[]
def k4:List Item:=(DY 0 0 0 0 ⟨#[]⟩ ϗ).todo.tail
def o4:Oper:=(TE[i4]?).getD default
def QA:(DY bx bS l xb k sv).mode= .run:=ϰ
def QB:(DY bx bS l xb k sv).kind= .normal:=ϰ
def Qz:(DY bx bS l xb k sv).todo= .inRegion TE (i4::r4)::k4:=ϰ
def afw:TE[i4]? =some o4:=ϰ
def TN:wanted o4 (yielded TE (DY bx bS l xb k sv).tmps)=true:=ϰ
def Wl:o4.op= .call {callee:= .builtin .append,args:=#[.tmp 8,.tmp 10],argTypes:=#[nu,nu]}:=ϰ
def ahA:(DY bx bS l xb k sv).eval (.tmp 8)=sv:=ϰ
def abT:(DY bx bS l xb k sv).eval (.tmp 10)= .slice (some ⟨xb,0,none⟩) 1 1:=ϰ
def Ei:κ:=(OT (G ((DY bx bS l xb k sv).finish nv) (default::[]))).frame
def abQ:az PP true (G ((DY bx bS l xb k sv).finish nv) (F1::cs1)) (G (Ei bx bS l xb k sv nv) (F1::cs1)):=bX 200 (cj PP true 200 (G ((DY bx bS l xb k sv).finish nv) (F1::cs1))) λa=>ϰ
def TD:Array Oper:=match(Ei 0 0 0 0 ⟨#[]⟩ ϗ ϗ).todo with|.inRegion ops _::_=>ops|_=>#[]
def i5:Nat:=match(Ei 0 0 0 0 ⟨#[]⟩ ϗ ϗ).todo with|.inRegion _ (i::_)::_=>i|_=>0
def r5:List Nat:=match(Ei 0 0 0 0 ⟨#[]⟩ ϗ ϗ).todo with|.inRegion _ (_::r)::_=>r|_=>[]
def k5:List Item:=(Ei 0 0 0 0 ⟨#[]⟩ ϗ ϗ).todo.tail
def o5:Oper:=(TD[i5]?).getD default
def Qx:(Ei bx bS l xb k sv nv).mode= .run:=ϰ
def Qy:(Ei bx bS l xb k sv nv).kind= .normal:=ϰ
def Qw:(Ei bx bS l xb k sv nv).todo= .inRegion TD (i5::r5)::k5:=ϰ
def afv:TD[i5]? =some o5:=ϰ
def TL:wanted o5 (yielded TD (Ei bx bS l xb k sv nv).tmps)=true:=ϰ
def Wk:o5.op= .store nu (.tmp 2) (.tmp 11):=ϰ
def ahz:(Ei bx bS l xb k sv nv).eval (.tmp 2)=pb bS:=ϰ
def abR:(Ei bx bS l xb k sv nv).eval (.tmp 11)=nv:=ϰ
def fR6:κ:=(Dw PP true 2 (G ((Ei bx bS l xb k sv nv).finish undef) (default::[]))).frame
def abP:az PP true (G ((Ei bx bS l xb k sv nv).finish ϗ) (F1::cs1)) (G (fR6 bx bS l xb k sv nv) (F1::cs1)):=bX 2 (cj PP true 2 (G ((Ei bx bS l xb k sv nv).finish ϗ) (F1::cs1))) λa=>ϰ
def Qu:(fR6 bx bS l xb k sv nv).mode= .run:=ϰ
def Qv:(fR6 bx bS l xb k sv nv).kind= .normal:=ϰ
def Qt:(fR6 bx bS l xb k sv nv).todo=[]:=ϰ
def MQ:(fR6 bx bS l xb k sv nv).roundOf=some l:=ϰ
def fE0:κ:={(KE bx bS D l).finish U with todo:=J7}
def U3:((KE bx bS D l).finish U).todo= .endRangeFunc l::J7:=ϰ
def U4:((KE bx bS D l).finish U).mode= .run:=ϰ
def sE1:Θ:=OT (G (fE0 bx bS D l) (fr::cs))
def YF:az PP true (G (fE0 bx bS D l) (fr::cs)) (sE1 bx bS D l fr cs):=bI λa=>ϰ
def OM:aY (sE1 bx bS D l fr cs)=some (.load nu (pb bS)):=ϰ
def fE2:κ:=(OT (resume (sE1 bx bS D l default []) sv)).frame
def abY:az PP true (resume (sE1 bx bS D l fr cs) sv) (G (fE2 bx bS D l sv) (fr::cs)):=bX 200 (cj PP true 200 (resume (sE1 bx bS D l fr cs) sv)) λa=>ϰ
def QL:(fE2 bx bS D l sv).mode= .returning:=ϰ
def I7:(fE2 bx bS D l sv).defers=[{target:= .collected D,args:=#[]}]:=ϰ
def abX:az PP true (G {fE2 bx bS D l sv with defers:=[]} (fr::cs)) (da fr cs sv):=bX 1 (cj PP true 1 (G {fE2 bx bS D l sv with defers:=[]} (fr::cs))) λa=>ϰ
end
end Sq
end aI
end
section
open Go.Conc
open Go.MapKept
open Go.ConcM (OsLater)
namespace aI
namespace Sq
section
variable {own:Nat->Prop}{w:Ω}{g g':Θ}{Stop:(Nat->Prop)->Θ->Ω->Prop}
def xG {O:ϒ}{n c b:Nat}{e:Event}(a:O b)(h:EvB b e):WY O no n c e:= .inl ⟨b,.inl a,h.2⟩
def Hq (a:g.status= .running)(h:∀d,∃es,stepG PP true g (w.at d)= .go g' (w.at d) es/\∀e∈es,∃b,own b/\EvB b e)(k:aG PP true mL Stop own g' w):aG PP true mL Stop own g w:=by
 refine aG.step a λw₁ h1=>?_
 obtain⟨d,rfl⟩:=h1;have⟨es,e1,e2⟩:=h d;refine⟨_,_,es,e1,⟨ι _,λ_ _ _=>rfl,rfl,rfl,rfl,λe c=>by have⟨b,h1,h2⟩:=e2 e c;exact xG h1 h2⟩,?_⟩;rw[(idle0 own (w.at d)).2];exact k.rely ⟨d,rfl⟩
def aki {b:Nat}{o:Obj}(j:g.status= .running)(i:own b)(h:∀d,∃w' es,stepG PP true g (w.at d)= .go g' w' es/\BA b o (w.at d) w'/\∀e∈es,∃b,own b/\EvB b e)(k:∀w',w'.heap.size=w.heap.size->w'.heap[b]? =some o->(∀c,c≠b->w'.heap[c]? =w.heap[c]?)->w'.os=w.os->aG PP true mL Stop own g' w'):aG PP true mL Stop own g w:=by
 refine aG.step j λw₁ h1=>?_
 obtain⟨d,rfl⟩:=h1;have⟨w',es,e1,u,e2⟩:=h d;have a:mL.up own (w.at d) w'=own:=funext λc=>propext ⟨λx=>x.elim id λx=>by have:=u.size;omega,.inl⟩
 refine⟨_,w',es,e1,⟨by rw[u.size];exact ι _,λc _ f=>u.rest c λe=>f (e▸i),u.os,u.output,u.tape,λe l=>by have⟨b,h1,h2⟩:=e2 e l;exact xG h1 h2⟩,?_⟩;rw[a];exact k w' u.size u.at_ u.rest u.os
def new1 {os:List Obj}(j:g.status= .running)(h:∀d,stepG PP true g (w.at d)= .go g' {w.at d with heap:=os.foldl Array.push (w.at d).heap} #[])(k:∀w',w'.heap=os.foldl Array.push w.heap->w'.os=w.os->aG PP true mL Stop (λb=>own b\/(w.heap.size<=b/\b<w'.heap.size)) g' w'):aG PP true mL Stop own g w:=by
 have f:∀(l:List Obj)(a:Array Obj),a.size<=(l.foldl Array.push a).size:=λl=>by
  induction l with
  |nil=>intro a;exact ι _
  |cons x l i=>intro a;exact ac7 ϛ (i (a.push x))
 have c:∀(l:List Obj)(a:Array Obj)(b:Nat),b<a.size->(l.foldl Array.push a)[b]? =a[b]? :=λl=>by
  induction l with
  |nil=>intro a b _;rfl
  |cons x l i=>intro a b e;exact(i (a.push x) b (by simp;omega)).trans (by rw[ac5 e];exact(τ e).symm)
 refine aG.step j λw₁ h1=>?_
 obtain⟨d,rfl⟩:=h1;refine⟨_,_,_,h d,⟨f os _,λb e _=>c os _ b e,rfl,rfl,rfl,ϛ⟩,?_⟩;exact k _ rfl rfl
def app1 {mine:ϒ}{ks:ϱ}(l:g.status= .running)(hm:∀b,mine b->own b){c:Φ->Θ}(h:∀d,∃v w' es ev,stepG PP true g (w.at d)= .go (c v) w' es/\(∀e∈es,e∈ev)/\App mine ks (w.at d) v w' ev)(k:∀v w',w.heap.size<=w'.heap.size->(∀b,b<w.heap.size->¬mine b->w'.heap[b]? =w.heap[b]?)->Strs w' (λb=>mine b\/(w.heap.size<=b/\b<w'.heap.size)) v ks->w'.os=w.os->aG PP true mL Stop (λb=>own b\/(w.heap.size<=b/\b<w'.heap.size)) (c v) w'):aG PP true mL Stop own g w:=by
 refine aG.step l λw₁ h1=>?_
 obtain⟨d,rfl⟩:=h1;have⟨v,w',es,ev,e1,e2,a⟩:=h d;refine⟨_,w',es,e1,⟨a.size,λb i j=>a.keep b i λx=>j (hm b x),a.os,a.output,a.tape,λe f=>?_⟩,k v w' a.size a.keep a.strs a.os⟩;rcases a.ev e (e2 e f) with⟨b,h1,h2⟩|h
 .exact xG (hm b h1) h2
 .exact .inr h
end
section
variable {bx bS D l it xb:Nat}{k:Ξ}{v sv nv:Φ}{F1:κ}{cs0:List κ}{y:Nat->Φ}{w:Ω}{st:LoopState}
def Dx {b:Nat}{es:Ϝ}{f:ac0}{x y:Bool}(h:es=seen PP f #[⟨.obj b,x,false⟩,⟨.obj b,y,false⟩]):∀e∈es,EvB b e:=by
 intro e a;subst h;have:=mem_seen a;simp at this;rcases this with rfl|rfl<;>exact eO
def Ow (a:w.heap[l]? =some (.loop (nG st bx bS D))):∃es,stepG PP true (G (FB it l k v y) cs0) w= .go (G (Frame.round l Gs (V6 bx bS k) Ry ND .normal) (FB it l k v y::cs0)) w es/\∀e∈es,EvB l e:=by
 have h1:RT (execOp (FB it l k v y).eval oY) w (.round l Gs (V6 bx bS k) Ry ND) w #[⟨.obj l,false,false⟩]:=by
  have e:execOp (FB it l k v y).eval oY=(do let d <-resolve (FB it l k v y).eval {callee:= .value (.tmp 10),args:=#[.tmp 11],argTypes:=#[9]} oY.type;invoke d.target d.args):=by
   unfold execOp;rw[Wj]
  rw[e];refine RT.aT (w1:=w) (x:={target:= .fn (.yield l) #[],args:=#[.string k]}) ?_ ?_
  .unfold resolve
   simp only[ϒ7,ϴ,Ϙ2,aiq,aip];exact .pure _
  .unfold nG at a
   unfold V6;exact K1 a
 refine⟨_,(stepG_op (VR it l k v y) (VQ it l k v y) afu (TK it l k v y) (by rw[Wj];simp)).trans (G8 h1 (VS it l k v y)),λe b=>?_⟩;have:=mem_seen b;simp at this;subst this;exact eO
def Oz (a:w.heap[l]? =some (.loop (nG .ready bx bS D))):∃w' es,stepG PP true (G (R8 bx bS l k) cs0) w= .go (G ((R8 bx bS l k).finish ϗ) cs0) w' es/\BA l (.loop (nG .busy bx bS D)) w w'/\∀e∈es,EvB l e:=by
 unfold nG at a⊢;have h:=NE a;exact⟨_,_,EI (QJ bx bS l k) (QI bx bS l k) (MR bx bS l k) (QK bx bS l k) h,oI a,Dx rfl⟩
def SD (a:w.heap[bS]? =some (.cells #[sv] nu (0,0))):∃es,stepG PP true (G (Gr bx bS l k) cs0) w= .go (G ((Gr bx bS l k).finish sv) cs0) w es/\∀e∈es,EvB bS e:=by
 have h1:RT (execOp (Gr bx bS l k).eval o2) w (.value sv) w #[⟨.cell ⟨bS,0,none⟩,false,false⟩]:=by
  have e:execOp (Gr bx bS l k).eval o2=(do pure (.value (<-Instr.loadAt nu (pb bS)))):=by
   unfold execOp;rw[Wn];simp only[ahC]
  rw[e];refine RT.fI (x:=sv) ?_ (.pure _);show RT (do if<-isAgg nu then Pure.pure (.agg (<-loadCells ⟨bS,0,none⟩ (<-Go.sizeOf nu))) else load ⟨bS,0,none⟩) _ _ _ _;refine(iP (b:=false) ϰ).aT ?_;simp only[ν,if_false];exact kP (cell_of a rfl)
 refine⟨_,(stepG_op (QG ..) (QF ..) afy (TP bx bS l k) (by rw[Wn];simp)).trans (rh h1 (QH ..)),λe c=>?_⟩;have:=mem_seen c;simp at this;subst this;exact j5 rfl
def Oy:stepG PP true (G (Ej bx bS l k sv) cs0) w= .go (G ((Ej bx bS l k sv).finish (.slice (some ⟨w.heap.size,0,none⟩) 1 1)) cs0) {w with heap:=w.heap.push (.cells #[.string k] lh (0,0))} #[]:=by
 have h1:RT (execOp (Ej bx bS l k sv).eval o3) w (.value (.slice (some ⟨w.heap.size,0,none⟩) 1 1)) {w with heap:=w.heap.push (.cells #[.string k] lh (0,0))} #[]:=by
  have e:execOp (Ej bx bS l k sv).eval o3=(do pure (.value (<-Instr.buildSlice nu 1 #[(0,.string k)]))):=by
   unfold execOp;rw[Wm];simp only[ϒ7,ϴ,Ϙ2,ahB]
  rw[e];exact RT.aT Fb (.pure _)
 have:=(stepG_op (main:=true) (cs:=cs0) (w:=w) (QD bx bS l k sv) (QC bx bS l k sv) afx (TO bx bS l k sv) (by rw[Wm];simp)).trans (rh h1 (QE ..));rw[seen_none] at this;exact this
def Lp {mine:ϒ}{ks:ϱ}{f:Nat×Nat}(a:Strs w mine sv ks)(h:w.heap[xb]? =some (.cells #[.string k] lh f))(b:mine xb)(c:ks.length<2^40):
  ∃v w' es ev,stepG PP true (G (DY bx bS l xb k sv) cs0) w= .go (G ((DY bx bS l xb k sv).finish v) cs0) w' es/\(∀e∈es,e∈ev)/\App mine (ks++[k]) w v w' ev:=by
 have⟨v,w',ev,h1,h2⟩:=LP o4.type a h b c;have g:RT (execOp (DY bx bS l xb k sv).eval o4) w (.value v) w' ev:=by
  have e:execOp (DY bx bS l xb k sv).eval o4=(do let d <-resolve (DY bx bS l xb k sv).eval {callee:= .builtin .append,args:=#[.tmp 8,.tmp 10],argTypes:=#[nu,nu]} o4.type;invoke d.target d.args):=by
   unfold execOp;rw[Wl]
  rw[e];refine RT.aT (w1:=w) (x:={target:= .builtin .append #[nu,nu] o4.type #[false,false],args:=#[sv,.slice (some ⟨xb,0,none⟩) 1 1]}) ?_ ?_
  .unfold resolve
   simp only[ϒ7,ϴ,Ϙ2,ahA,abT];exact .pure _
  .show RT (do Pure.pure (Next.value (<-Builtin.append_ #[nu,nu] o4.type #[sv,.slice (some ⟨xb,0,none⟩) 1 1]))) _ _ _ _
   exact RT.fI h1 (.pure _)
 exact⟨v,w',_,ev,(stepG_op (QA ..) (Qz ..) afw (TN bx bS l xb k sv) (by rw[Wl];simp)).trans (rh g (QB ..)),λe i=>mem_seen i,h2⟩
def aap:(PP.info? nu).map (·.size)=some 1:=ϰ
def Ox {f:Φ}(b:w.heap[bS]? =some (.cells #[f] nu (0,0)))(h1:nv.cells=#[nv])(h2:mN nv=true):∃w' es,stepG PP true (G (Ei bx bS l xb k sv nv) cs0) w= .go (G ((Ei bx bS l xb k sv nv).finish ϗ) cs0) w' es/\BA bS (.cells #[nv] nu (0,0)) w w'/\∀e∈es,EvB bS e:=by
 have⟨w',ev,c,r2,r3⟩:=iN (t:=nu) (off:=0) (v:=nv) b (by rw[h1];exact aap) (by rw[h1];simp) (by rw[h1];simpa using h2);have a:RT (execOp (Ei bx bS l xb k sv nv).eval o5) w .skip w' ev:=by
  have e:execOp (Ei bx bS l xb k sv nv).eval o5=(lE.store nu (pb bS) nv).sem:=by
   unfold execOp;rw[Wk];simp only[ahz,abR];rfl
  rw[e];exact c
 refine⟨w',_,(stepG_op (Qx ..) (Qw ..) afv (TL bx bS l xb k sv nv) (by rw[Wk];simp)).trans (AB a (Qy ..)),?_,λe d=>r3 e (mem_seen d)⟩;rw[h1] at r2;simpa [mg] using r2
def SE (a:w.heap[l]? =some (.loop (nG .busy bx bS D))){c:κ}:∃w' es,stepG PP true (G (fR6 bx bS l xb k sv nv) (c::cs0)) w= .go (G (c.finish (.bool true)) cs0) w' es/\BA l (.loop (nG .ready bx bS D)) w w'/\∀e∈es,EvB l e:=by
 unfold nG at a⊢;have h:=QT a;exact⟨_,_,Hu (Qu bx bS l xb k sv nv) (Qt bx bS l xb k sv nv) (MQ bx bS l xb k sv nv) (Qv bx bS l xb k sv nv) h,oI a,Dx rfl⟩
def SF (a:w.heap[l]? =some (.loop (nG .ready bx bS D))):∃w' es,stepG PP true (G ((KE bx bS D l).finish U) cs0) w= .go (G (fE0 bx bS D l) cs0) w' es/\BA l (.loop (nG .exhausted bx bS D)) w w'/\∀e∈es,EvB l e:=by
 unfold nG at a⊢;have h:=QU a;exact⟨_,_,Hv (U4 bx bS D l) (U3 bx bS D l) h,oI a,Dx rfl⟩
def SC (a:w.heap[D]? =some (.deferred (some []))):∃w' es,stepG PP true (G (fE2 bx bS D l sv) cs0) w= .go (G {fE2 bx bS D l sv with defers:=[]} cs0) w' es/\BA D (.deferred none) w w'/\∀e∈es,EvB D e:=
 ⟨_,_,Ht (QL bx bS D l sv) (I7 bx bS D l sv) (Ta a),oI a,Dx rfl⟩
def aas {tm:ϐ}{yC body:Code}{k:ϕ}{cs:ϙ}(c:(⟨tm,[]⟩:Act).eval (.tmp 6)= .func (.func WJ) #[] #[pb bx]):
  stepG PP true (G ((base Gs).at ⟨tm,[]⟩ (.code (.rangeFunc (.tmp 6) #[7] yC body)::k)) cs) w= .go (G (Frame.enter PP WJ #[.func (.yield (w.heap.size+1)) #[] #[],pb bx] .normal) ((base Gs).at ⟨tm,[{target:= .collected w.heap.size,args:=#[]}]⟩ (.inRangeFunc (w.heap.size+1)::k)::cs))
   {w with heap:=(w.heap.push (.deferred (some []))).push (.loop (cO tm yC body .ready w.heap.size))} #[]:=by
 have h:=Nd (w:=w) tm yC body;have a:=AX (main:=true) (b:=base Gs) (k:=k) (cs:=cs) (gf:=WJ) (lb:=#[pb bx]) c func135 ϰ ϰ rfl h;have e1:(#[.func (.yield (w.heap.size+1)) #[] #[]]++#[pb bx]:Array Φ)=#[.func (.yield (w.heap.size+1)) #[] #[],pb bx]:=ϛ
 rw[e1] at a;exact a
def aea {fr:κ}{cs:ϙ}:stepG PP true (X0 bx bS fr cs) w= .go (sK0 bx bS w.heap.size (w.heap.size+1) fr cs) {w with heap:=(w.heap.push (.deferred (some []))).push (.loop (nG .ready bx bS w.heap.size))} #[]:=by
 rw[XY];unfold nG sK0 KE;exact aas (Su bx bS)
end
def _root_.Go.Proofs.YtchcmhodnkgojaaGreat.aI.Strs.keep {w w':Ω}{own own':ϒ}{v:Φ}{ks:ϱ}(h:Strs w own v ks)(f:∀b,own b->w'.heap[b]? =w.heap[b]?)(d:∀b,own b->own' b):Strs w' own' v ks:=by
 rcases h with h|⟨a,cap,h1,h2,e,c⟩
 .exact .inl h
 .exact .inr ⟨a,cap,h1,d a h2,e,by rw[f a h2];exact c⟩
def _root_.Go.Proofs.YtchcmhodnkgojaaGreat.aI.Strs.one {w:Ω}{own:ϒ}{v:Φ}{ks:ϱ}(h:Strs w own v ks):v.cells=#[v]/\mN v=true:=by
 rcases h with⟨rfl,_⟩|⟨sk,cap,rfl,_⟩<;>exact⟨rfl,rfl⟩
def jX (O0:ϒ)(n0:Nat)(w:Ω):Nat->Prop:=λb=>O0 b\/(n0<=b/\b<w.heap.size)
def vU {O0:ϒ}{n0:Nat}{w w':Ω}(h0:n0<=w.heap.size)(h:w.heap.size<=w'.heap.size):(λb=>jX O0 n0 w b\/(w.heap.size<=b/\b<w'.heap.size))=jX O0 n0 w':=funext λb=>propext (by
 unfold jX;constructor
 .rintro((h|h)|h)
  .exact .inl h
  .exact .inr ⟨h.1,ϖ⟩
  .exact .inr ⟨ϖ,h.2⟩
 .rintro(h|h)
  .exact .inl (.inl h)
  .by_cases a:b<w.heap.size
   .exact .inl (.inr ⟨h.1,a⟩)
   .exact .inr ⟨ϖ,h.2⟩)
def Pn {O0:ϒ}{n0:Nat}{w w':Ω}(h:w'.heap.size=w.heap.size):jX O0 n0 w'=jX O0 n0 w:=by unfold jX;rw[h]
section
variable (O0:Nat->Prop)(w0:Ω)(bx M c:Nat)(f:Ξ->Option Φ)(fr:κ)(cs:List κ)
structure J (st:LoopState)(sv:Φ)(ks:List Ξ)(seen:Array Nat)(w:Ω):Prop where
 hs:w0.heap.size+4<=w.heap.size
 old:∀b,b<w0.heap.size->w.heap[b]? =w0.heap[b]?
 os:w.os=w0.os
 box:w.heap[w0.heap.size]? =some (.cells #[sv] nu (0,0))
 dfr:w.heap[w0.heap.size+1]? =some (.deferred (some []))
 lop:w.heap[w0.heap.size+2]? =some (.loop (nG st bx w0.heap.size (w0.heap.size+1)))
 itr:w.heap[w0.heap.size+3]? =some (.mapIter (some M) c seen c)
 strs:Strs w (λb=>w0.heap.size+4<=b/\b<w.heap.size) sv ks
def Fin (s:ϒ)(g:Θ)(w:Ω):Prop:=∃sv ks,g=da fr cs sv/\s=jX O0 w0.heap.size w/\w0.heap.size<=w.heap.size/\(∀b,b<w0.heap.size->w.heap[b]? =w0.heap[b]?)/\w.os=w0.os/\
 Strs w (λb=>w0.heap.size+4<=b/\b<w.heap.size) sv ks/\ks.Nodup/\∀s,s∈ks↔f s≠none
end
section
variable {O0:Nat->Prop}{w0 w w':Ω}{bx M c:Nat}{es:Array ai3}{f:Ξ->Option Φ}{fr:κ}{cs:List κ}{st st':LoopState}{sv nv:Φ}{ks:List Ξ}{seen:Array Nat}
def J.at (h:J w0 bx M c st sv ks seen w)(d:Nat):J w0 bx M c st sv ks seen (w.at d):=⟨h.hs,h.old,h.os,h.box,h.dfr,h.lop,h.itr,h.strs⟩
def J.loop (h:J w0 bx M c st sv ks seen w)(h1:w'.heap.size=w.heap.size)(h2:w'.heap[w0.heap.size+2]? =some (.loop (nG st' bx w0.heap.size (w0.heap.size+1))))(a:∀b,b≠w0.heap.size+2->w'.heap[b]? =w.heap[b]?)(e:w'.os=w.os):J w0 bx M c st' sv ks seen w':=
 ⟨by rw[h1];exact h.hs,λb d=>by rw[a b ϖ];exact h.old b d,e.trans h.os,by rw[a _ ϖ];exact h.box,by rw[a _ ϖ];exact h.dfr,h2,by rw[a _ ϖ];exact h.itr,h.strs.keep (λb d=>a b ϖ) λb d=>by rw[h1];exact d⟩
def J.next {a:Ϫ}(h:J w0 bx M c st sv ks seen w)(h1:w'.heap.size=w.heap.size)(h2:w'.heap[w0.heap.size+3]? =some (.mapIter (some M) c a c))(d:∀b,b≠w0.heap.size+3->w'.heap[b]? =w.heap[b]?)(f:w'.os=w.os):J w0 bx M c st sv ks a w':=
 ⟨by rw[h1];exact h.hs,λb e=>by rw[d b ϖ];exact h.old b e,f.trans h.os,by rw[d _ ϖ];exact h.box,by rw[d _ ϖ];exact h.dfr,by rw[d _ ϖ];exact h.lop,h2,h.strs.keep (λb e=>d b ϖ) λb e=>by rw[h1];exact e⟩
def J.push {o:Obj}(h:J w0 bx M c st sv ks seen w)(h1:w'.heap=w.heap.push o)(e:w'.os=w.os):J w0 bx M c st sv ks seen w':=by
 have f:=h.hs;have d:∀b,b<w.heap.size->w'.heap[b]? =w.heap[b]? :=λb a=>by rw[h1,ac5 a];exact(τ a).symm
 have g:w'.heap.size=w.heap.size+1:=by rw[h1];simp
 exact⟨ϖ,λb a=>by rw[d b ϖ];exact h.old b a,e.trans h.os,by rw[d _ ϖ];exact h.box,by rw[d _ ϖ];exact h.dfr,by rw[d _ ϖ];exact h.lop,by rw[d _ ϖ];exact h.itr,h.strs.keep (λb a=>d b a.2) λb a=>⟨a.1,ϖ⟩⟩
def yK {b:Nat}{o:Obj}{g g':Θ}{Stop:(Nat->Prop)->Θ->Ω->Prop}(j:g.status= .running)(f:jX O0 w0.heap.size w b)(h:∀d,∃w' es,stepG PP true g (w.at d)= .go g' w' es/\BA b o (w.at d) w'/\∀e∈es,EvB b e)(k:∀w',w'.heap.size=w.heap.size->w'.heap[b]? =some o->(∀c,c≠b->w'.heap[c]? =w.heap[c]?)->w'.os=w.os->aG PP true mL Stop (jX O0 w0.heap.size w') g' w'):aG PP true mL Stop (jX O0 w0.heap.size w) g w:=
 aki j f (λd=>by have⟨w',es,h1,h2,a⟩:=h d;exact⟨w',es,h1,h2,λe l=>⟨b,f,a e l⟩⟩) λw' h1 h2 a i=>by
  have:=k w' h1 h2 a i
  rwa [Pn h1] at this
def yR {b:Nat}{g g':Θ}{Stop:(Nat->Prop)->Θ->Ω->Prop}(a:g.status= .running)(c:jX O0 w0.heap.size w b)(h:∀d,∃es,stepG PP true g (w.at d)= .go g' (w.at d) es/\∀e∈es,EvB b e)(k:aG PP true mL Stop (jX O0 w0.heap.size w) g' w):aG PP true mL Stop (jX O0 w0.heap.size w) g w:=
 Hq a (λd=>by have⟨es,h1,h2⟩:=h d;exact⟨es,h1,λe f=>⟨b,c,h2 e f⟩⟩) k
theorem Ps (hJ:J w0 bx M c .ready sv ks seen w)(hn:ks.Nodup)(hm:∀s,s∈ks↔f s≠none):
  aG PP true mL (Fin O0 w0 f fr cs) (jX O0 w0.heap.size w) (da (KE bx w0.heap.size (w0.heap.size+1) (w0.heap.size+2)) (fr::cs) U) w:=by
 have hs:=hJ.hs;have nw:∀{w':Ω}{b:Nat},w0.heap.size+4<=w'.heap.size->w0.heap.size<=b->b<w0.heap.size+4->jX O0 w0.heap.size w' b:=λa b c=> .inr ⟨b,ϖ⟩
 refine yK (o:= .loop (nG .exhausted bx w0.heap.size (w0.heap.size+1))) rfl (nw hs ϖ ϖ:jX O0 w0.heap.size w (w0.heap.size+2)) (λd=>SF (hJ.at d).lop) λw1 a1 a2 a3 a4=>?_
 have J1:=hJ.loop a1 a2 a3 a4;refine fu (YF _ _ _ _ _ _) ?_;refine yR (b:=w0.heap.size) (g':=resume (sE1 bx w0.heap.size (w0.heap.size+1) (w0.heap.size+2) fr cs) sv) (dy (OM _ _ _ _ _ _)).1 (nw J1.hs ϖ ϖ) (λd=>?_) ?_
 .have hr:RT (lE.load nu (pb w0.heap.size)).sem (w1.at d) (.value sv) (w1.at d) #[⟨.cell ⟨w0.heap.size,0,none⟩,false,false⟩]:=by
   refine RT.fI (x:=sv) ?_ (.pure _);show RT (do if<-isAgg nu then Pure.pure (.agg (<-loadCells ⟨w0.heap.size,0,none⟩ (<-Go.sizeOf nu))) else load ⟨w0.heap.size,0,none⟩) _ _ _ _;refine(iP (b:=false) ϰ).aT ?_;simp only[ν,if_false];exact kP (cell_of (J1.at d).box rfl)
  obtain⟨es,e1,e2⟩:=ib (main:=true) (OM _ _ _ _ _ _) hr;refine⟨es,e1,λe he=>?_⟩;have:=e2 e he;simp at this;subst this;exact j5 rfl
 refine fu (abY _ _ _ _ _ _ _) ?_;refine yK (o:= .deferred none) rfl (nw J1.hs ϖ ϖ:jX O0 w0.heap.size w1 (w0.heap.size+1)) (λd=>SC (J1.at d).dfr) λw2 b1 b2 b3 b4=>?_
 refine fu (abX _ _ _ _ _ _ _) (.stop λw3 h3=>?_);obtain⟨d,rfl⟩:=h3;refine⟨sv,ks,rfl,rfl,by show _<=w2.heap.size;omega,λb hb=>?_,by show w2.os=_;rw[b4];exact J1.os,?_,hn,hm⟩
 .show w2.heap[b]? =_
  rw[b3 b ϖ];exact J1.old b hb
 .exact J1.strs.keep (λb hb=>b3 b ϖ) λb hb=>⟨hb.1,by show b<w2.heap.size;omega⟩
def rounds (hO:∀b,O0 b->b<w0.heap.size)(oM:O0 M)(hM:w0.heap[M]? =some (.map es c))(hm:dS es c f)(ab:es.size<2^40)(L:Nat):∀(seen:Ϫ)(w:Ω)(tm:ϐ)(sv:Φ)(ks:ϱ),(leftOf es seen).size=L->J w0 bx M c .ready sv ks seen w->
  ks.Nodup->(∀s,s∈ks↔Ed es seen s)->ks.length+L<=es.size->HK (w0.heap.size+2) (w0.heap.size+3) tm->
  aG PP true mL (Fin O0 w0 f fr cs) (jX O0 w0.heap.size w) (gK tm (KE bx w0.heap.size (w0.heap.size+1) (w0.heap.size+2)) (fr::cs)) w:=by
 induction L using Nat.strongRecOn with
 |_ L ih=>
 intro seen w tm sv ks hL j Z P aa hH;have z:∀{w':Ω}{b:Nat},w0.heap.size+4<=w'.heap.size->w0.heap.size<=b->b<w0.heap.size+4->jX O0 w0.heap.size w' b:=λa b c=> .inr ⟨b,ϖ⟩
 have V:∀{w':Ω},jX O0 w0.heap.size w' M:= .inl oM;have D:=hO M oM;rw[hH.eq]
 have T:=afZ (w0.heap.size+3) (w0.heap.size+2) (KE bx w0.heap.size (w0.heap.size+1) (w0.heap.size+2)) (fr::cs) λi=>tm.getD i ϗ
 refine aG.step (dy T).1 λw1 h1=>?_
 obtain⟨d,rfl⟩:=h1;have p:(w.at d).heap[M]? =some (.map es c):=(j.old M D).trans hM;rcases JX (w:=w.at d) (ty:=nxK) (j.at d).itr p hm with⟨hl,w',ev,rt,C,U,a3,a4,a5⟩|⟨e,he,w',ev,rt,u,a5⟩
 .have⟨n,e1,e2⟩:=ib (main:=true) T rt
  have N:w'.heap.size=(w.at d).heap.size:=by rw[a4]
  refine⟨_,w',n,e1,⟨by rw[N];exact ι _,λb _ _=>by rw[a4],a3,U,C,λx m=>?_⟩,?_⟩
  .rcases(a5 x (e2 x m)).1 with q|q
   .exact xG (z j.hs ϖ ϖ) q
   .exact xG V q
  .have v:mL.up (jX O0 w0.heap.size w) (w.at d) w'=jX O0 w0.heap.size w':=vU (w:=w) (by have:=j.hs;omega) (by show(w.at d).heap.size<=_;rw[N];exact ι _)
   rw[v];refine fu (Uk ..) ?_;have J':J w0 bx M c .ready sv ks seen w':=⟨by rw[N];exact j.hs,λb h=>by rw[a4];exact j.old b h,a3.trans j.os,by rw[a4];exact j.box,by rw[a4];exact j.dfr,by rw[a4];exact j.lop,by rw[a4];exact j.itr,j.strs.keep (λb _=>by rw[a4];rfl) λb h=>by rw[N];exact h⟩
   refine Ps J' Z λs=>(P s).trans ⟨λ⟨x,m,h1,_⟩=>?_,λhs=>CU hm hl hs⟩
   rw[(hm.has s x.val).2 ⟨x,m,h1,rfl⟩];simp
 .have⟨n,e1,e2⟩:=ib (main:=true) T rt
  have l:=zM he;have⟨g,k⟩:=jK (hm.keys e l);have A:=v7 he;have hV:=λs=>yJ (seen:=seen) hm l k s
  have F:g∉ks:=λR=>by
   have⟨x,m,h1,h2⟩:=(P g).1 R;have:=hm.uniq m l (by rw[h1,k]);subst this;have:=(Array.mem_filter.1 he).2;simp[h2] at this
  have t:J w0 bx M c .ready sv ks (seen.push e.born) w':=(j.at d).next u.size u.at_ u.rest u.os;refine⟨_,w',n,e1,⟨by rw[u.size];exact ι _,λb _ h=>u.rest b λq=>h (q▸z j.hs ϖ ϖ),u.os,u.output,u.tape,λx m=>?_⟩,?_⟩
  .rcases a5 x (e2 x m) with q|q
   .exact xG (z j.hs ϖ ϖ) q
   .exact xG V q.1
  have v:mL.up (jX O0 w0.heap.size w) (w.at d) w'=jX O0 w0.heap.size w':=vU (w:=w) (by have:=j.hs;omega) (by show(w.at d).heap.size<=_;rw[u.size];exact ι _);rw[v,k];clear v e1 e2 rt p
  refine fu (af2 ..) ?_;have p:∀d,(w'.at d).heap[M]? =some (.map es c):=λd=>(t.old M D).trans hM
  have en:=af1 (w0.heap.size+3) (w0.heap.size+2) g e.val (KE bx w0.heap.size (w0.heap.size+1) (w0.heap.size+2)) (fr::cs) λi=>tm.getD i ϗ
  refine Hq (dy en).1 (g':=resume (kA (w0.heap.size+3) (w0.heap.size+2) g e.val (KE bx w0.heap.size (w0.heap.size+1) (w0.heap.size+2)) (fr::cs) λi=>tm.getD i ϗ) (.tuple #[.string g,e.val])) (λd=>?_) ?_
  .have hr:=zh (t.at d).itr (p d) hm l
   rw[k] at hr;have⟨n,e1,e2⟩:=ib (main:=true) en hr;refine⟨n,e1,λx m=>?_⟩;have:=e2 x m;simp at this;rcases this with rfl|rfl
   .exact⟨_,z t.hs ϖ ϖ,eO⟩
   .exact⟨M,V,eO⟩
  refine fu (af0 ..) ?_
  refine yR (b:=w0.heap.size+2) rfl (z t.hs ϖ ϖ) (λd=>Ow (t.at d).lop) ?_;refine fu (abn ..) ?_;refine yK (o:= .loop (nG .busy bx w0.heap.size (w0.heap.size+1))) rfl (z t.hs ϖ ϖ:jX O0 w0.heap.size w' (w0.heap.size+2)) (λd=>Oz (t.at d).lop) λK b1 b2 b3 b4=>?_
  have E:=t.loop b1 b2 b3 b4;clear t b1 b2 b3 b4 p j u;refine fu (abV ..) ?_;refine yR (b:=w0.heap.size) rfl (z E.hs ϖ ϖ) (λd=>SD (E.at d).box) ?_;refine fu (abU ..) ?_
  refine new1 (g':=G ((Ej bx w0.heap.size (w0.heap.size+2) g sv).finish (.slice (some ⟨K.heap.size,0,none⟩) 1 1)) (FB (w0.heap.size+3) (w0.heap.size+2) g e.val (λi=>tm.getD i ϗ)::KE bx w0.heap.size (w0.heap.size+1) (w0.heap.size+2)::fr::cs)) (os:=[.cells #[.string g] lh (0,0)]) rfl (λd=>Oy (w:=K.at d)) λH C U=>?_
  have y:=E.push C U;have ac:H.heap.size=K.heap.size+1:=by rw[C];simp
  have W:=E.hs;rw[vU ϖ ϖ];have m:H.heap[K.heap.size]? =some (.cells #[.string g] lh (0,0)):=by rw[C];simp
  refine fu (abS ..) ?_;refine app1 (ks:=ks++[g]) (mine:=λb=>w0.heap.size+4<=b/\b<H.heap.size) rfl (λb h=> .inr ⟨ϖ,h.2⟩) (λd=>Lp (y.at d).strs m ⟨W,ϖ⟩ ϖ) λnv B c1 c2 c3 c4=>?_
  rw[vU ϖ c1];have I:Strs B (λb=>w0.heap.size+4<=b/\b<B.heap.size) nv (ks++[g]):=c3.keep (λ_ _=>rfl) λb h=>ϖ
  have k4:∀b,b<w0.heap.size+4->B.heap[b]? =H.heap[b]? :=λb h=>c2 b ϖ λq=>ϖ
  have b4:B.heap[w0.heap.size]? =some (.cells #[sv] nu (0,0)):=by rw[k4 _ ϖ];exact y.box
  refine fu (abQ ..) ?_;refine yK (o:= .cells #[nv] nu (0,0)) rfl (.inr ⟨ι _,ϖ⟩:jX O0 w0.heap.size B w0.heap.size) (λd=>Ox (w:=B.at d) b4 I.one.1 I.one.2) λX d1 d2 O d4=>?_
  have Y:J w0 bx M c .busy nv (ks++[g]) (seen.push e.born) X:=by
   have r:∀b,b<w0.heap.size+4->b≠w0.heap.size->X.heap[b]? =H.heap[b]? :=λb h S=>by rw[O b S,k4 b h]
   refine⟨ϖ,λb h=>?_,by rw[d4,c4,y.os],d2,?_,?_,?_,I.keep (λb h=>O b ϖ) λb h=>⟨h.1,by rw[d1];exact h.2⟩⟩
   .rw[r b ϖ ϖ];exact y.old b h
   .rw[r _ ϖ ϖ];exact y.dfr
   .rw[r _ ϖ ϖ];exact y.lop
   .rw[r _ ϖ ϖ];exact y.itr
  clear E y I k4 b4 d1 d2 O d4 c1 c2 c3 c4 m;refine fu (abP ..) ?_;refine yK (o:= .loop (nG .ready bx w0.heap.size (w0.heap.size+1))) rfl (z Y.hs ϖ ϖ:jX O0 w0.heap.size X (w0.heap.size+2)) (λd=>SE (Y.at d).lop) λw6 f1 f2 f3 f4=>?_
  have J6:=Y.loop f1 f2 f3 f4;have⟨Q,ML,hg⟩:=VT (w0.heap.size+3) (w0.heap.size+2) g e.val (KE bx w0.heap.size (w0.heap.size+1) (w0.heap.size+2)) (fr::cs) λi=>tm.getD i ϗ
  refine fu hg (ih _ (hL▸A) (seen.push e.born) w6 Q nv (ks++[g]) rfl J6 ?_ (λs=>?_) ?_ ML)
  .rw[List.nodup_append]
   exact⟨Z,ϛ,λa ha b h=>by simp at h;subst h;exactλq=>F (q▸ha)⟩
  .rw[ϐ1,hV s,P s];simp
  .simp;omega
end
section
variable {own:Nat->Prop}{w:Ω}{g g':Θ}{Stop:(Nat->Prop)->Θ->Ω->Prop}
def new2 {o:Obj}(a:g.status= .running)(h:∀d,∃es,stepG PP true g (w.at d)= .go g' {w.at d with heap:=(w.at d).heap.push o} es/\∀e∈es,∃b,own b/\EvB b e)(k:∀w',w'.heap=w.heap.push o->w'.os=w.os->aG PP true mL Stop (λb=>own b\/(w.heap.size<=b/\b<w'.heap.size)) g' w'):aG PP true mL Stop own g w:=by
 refine aG.step a λw₁ h1=>?_
 obtain⟨d,rfl⟩:=h1;have⟨es,e1,e2⟩:=h d;refine⟨_,_,es,e1,⟨by show w.heap.size<=(w.heap.push o).size;simp,λb c _=>by show(w.heap.push o)[b]? =w.heap[b]?;rw[ac5 (show b<w.heap.size from c)];exact(τ _).symm,rfl,rfl,rfl,λe f=>by have⟨b,h1,h2⟩:=e2 e f;exact xG h1 h2⟩,?_⟩;exact k _ rfl rfl
end
section
variable {O0:Nat->Prop}{w0:Ω}{bx M c:Nat}{es:Array ai3}{f:Ξ->Option Φ}{fr:κ}{cs:List κ}
theorem OG (p:∀b,O0 b->b<w0.heap.size)(q:O0 M)(i:O0 bx){D:η}{z:Nat×Nat}(k:w0.heap[bx]? =some (.cells #[.map (some M)] D z))(v:w0.heap[M]? =some (.map es c))(hm:dS es c f)(l:es.size<2^40):
  aG PP true mL (Fin O0 w0 f fr cs) O0 (sQ0 bx fr cs) w0:=by
 have u:=p bx i;have G:=p M q;refine fu (Ig _ _ _) (PD (f:=pb) (X1 _ _ _) (λw=>zi _ _) λw1 h1 A H=>?_);have s1:w1.heap.size=w0.heap.size+1:=by rw[h1];simp
 have e1:(λb=>O0 b\/b=w0.heap.size)=jX O0 w0.heap.size w1:=funext λb=>propext (by
  unfold jX;exact or_congr Iff.rfl ⟨λh=>⟨ϖ,ϖ⟩,λh=>ϖ⟩)
 rw[e1];refine fu (XZ _ _ _ _) ?_;refine new1 (g':=sK0 bx w0.heap.size (w0.heap.size+1) (w0.heap.size+2) fr cs) (os:=[.deferred (some []),.loop (nG .ready bx w0.heap.size (w0.heap.size+1))]) rfl (λd=>?_) λa h2 o2=>?_
 .have:=aea (bx:=bx) (bS:=w0.heap.size) (w:=w1.at d) (fr:=fr) (cs:=cs)
  have e:(w1.at d).heap.size=w0.heap.size+1:=s1;rw[e] at this;exact this
 have g:a.heap=(w1.heap.push (.deferred (some []))).push (.loop (nG .ready bx w0.heap.size (w0.heap.size+1))):=h2;have s2:a.heap.size=w0.heap.size+3:=by rw[g];simp[s1]
 rw[vU ϖ ϖ];have n:∀b,b<w0.heap.size->a.heap[b]? =w0.heap[b]? :=λb j=>by
  rw[g,ac5 (by simp;omega),<-τ,ac5 ϖ,<-τ,h1,ac5 j,<-τ]
 have E:a.heap[w0.heap.size]? =some (.cells #[.slice none 0 0] nu (0,0)):=by
  rw[g,ac5 (by simp;omega),<-τ,ac5 ϖ,<-τ,h1];simp[Value.cells]
 have y:a.heap[w0.heap.size+1]? =some (.deferred (some [])):=by
  rw[g,ac5 (by simp;omega),<-τ,<-s1];simp
 have r2:a.heap[w0.heap.size+2]? =some (.loop (nG .ready bx w0.heap.size (w0.heap.size+1))):=by
  have e:w0.heap.size+2=(w1.heap.push (Obj.deferred (some []))).size:=by simp[s1]
  rw[g,e];exact Array.getElem?_push_size
 refine fu (Yg _ _ _ _ _ _) ?_;refine Hq (g':=resume (sK1 bx w0.heap.size (w0.heap.size+1) (w0.heap.size+2) fr cs) (.map (some M))) (dy (OL _ _ _ _ _ _)).1 (λd=>?_) ?_
 .have hr:RT (lE.load RI (pb bx)).sem (a.at d) (.value (.map (some M))) (a.at d) #[⟨.cell ⟨bx,0,none⟩,false,false⟩]:=by
   refine RT.fI (x:= .map (some M)) ?_ (.pure _);show RT (do if<-isAgg RI then Pure.pure (.agg (<-loadCells ⟨bx,0,none⟩ (<-Go.sizeOf RI))) else load ⟨bx,0,none⟩) _ _ _ _;refine(iP (b:=false) ϰ).aT ?_;simp only[ν,if_false];exact kP (cell_of (w:=a.at d) ((n bx u).trans k) rfl)
  obtain⟨es,e1,e2⟩:=ib (main:=true) (OL _ _ _ _ _ _) hr;refine⟨es,e1,λe F=>?_⟩;have:=e2 e F;simp at this;subst this;exact⟨bx,.inl i,j5 rfl⟩
 refine fu (Ye _ _ _ _ _ _ _) ?_;refine new2 (o:= .mapIter (some M) c #[] c) (g':=resume (Yf bx w0.heap.size M (w0.heap.size+1) (w0.heap.size+2) fr cs) (pb (w0.heap.size+3))) (dy (OK _ _ _ _ _ _ _)).1 (λd=>?_) λr m o3=>?_
 .have hr:=ze (w:=a.at d) (t:=RI) (kt:=9) (vt:=164) ϰ ((n M G).trans v)
  have e:(a.at d).heap.size=w0.heap.size+3:=s2;rw[e] at hr;obtain⟨es,e1,e2⟩:=ib (main:=true) (OK _ _ _ _ _ _ _) hr;refine⟨es,e1,λx C=>?_⟩;have:=e2 x C;simp at this;subst this;exact⟨M,.inl q,eO⟩
 have I:r.heap.size=w0.heap.size+4:=by rw[m];simp[s2]
 rw[vU ϖ ϖ];obtain⟨tm,B,hg⟩:=Yd bx w0.heap.size M (w0.heap.size+3) (w0.heap.size+1) (w0.heap.size+2) fr cs;have k3:∀b,b<w0.heap.size+3->r.heap[b]? =a.heap[b]? :=λb j=>by rw[m,ac5 ϖ];exact(τ ϖ).symm
 refine fu hg (rounds p q v hm l es.size #[] r tm (.slice none 0 0) [] (by simp[leftOf]) ⟨ϖ,λb j=>by rw[k3 b ϖ];exact n b j,by rw[o3,o2,A],by rw[k3 _ ϖ];exact E,by rw[k3 _ ϖ];exact y,by rw[k3 _ ϖ];exact r2,by rw[m,<-s2];simp,.inl ⟨rfl,rfl⟩⟩ ϛ (λs=>by simp;exact CT s) ϛ B)
end
def Mq {H own:ϒ}{π:Ϛ}{wL w w':Ω}(h:Link H no own no π wL w)(c:w.heap.size<=w'.heap.size)(d:∀b,own b->w'.heap[b]? =w.heap[b]?):
  ∃cA,Link H no own no cA wL w'/\∀b,b<wL.heap.size->cA b=π b:=by
 have⟨cA,h1,h2,_⟩:=h.rely (w₁:={w' with tape:=w.tape}) c rfl λb _ a=>a.elim (d b) False.elim
 exact⟨cA,⟨h1.inj,h1.zero,h1.lt,h1.lw,⟨h1.wr.inj,rfl,rfl,h1.wr.lt,h1.wr.ok,h1.wr.hid,h1.wr.pZ,h1.wr.low,h1.wr.AM⟩,h1.own,h1.ro⟩,λb a=>(h2 b a).symm⟩
def NL (f:Ξ->Option Φ)(wL:Ω)(v:Φ)(w':Ω):Prop:=∃ks:List Ξ,ks.Nodup/\(∀s,s∈ks↔f s≠none)/\
 ((
   v= .slice none 0 0/\ks=[]/\∃t d,w'=ax wL t d)\/∃cap,v= .slice (some ⟨wL.heap.size,0,none⟩) ks.length cap/\ks.length<=cap/\
   ∃t d,w'=ax {wL with heap:=wL.heap.push (.cells (ks.map Value.string++replicate (cap-ks.length) (Value.string ⟨#[]⟩)).toArray lh (0,0))} t d)
def Nc (bx:Nat)(c:κ)(CS:ϙ):G (Frame.enter PP Gs #[.slice none 0 0,oS bx] .normal) (c::CS)=sQ0 bx c CS:=by
 unfold sQ0 Qk;rfl
def ace {E:af.Env}{wL:Ω}{bx m c:Nat}{es:Ϧ}{f:Ξ->Option Φ}{tt:η}{X:Nat×Nat}(G:wL.heap[bx]? =some (.cells #[.map (some m)] tt X))(hM:wL.heap[m]? =some (.map es c))(hm:dS es c f)(k:∀e∈es,∀r,¬Value.Has r e.key/\¬Value.Has r e.val)(P:es.size<2^40):af.CC E Gs #[.slice none 0 0,oS bx] (NL f wL) wL:=by
 intro fr CS π M tr hp ha Z;have z:iG E.H wL bx:=ha (oS bx) ϛ bx (.Jr (x:=pb bx) ϛ (.ptr rfl));have QY:(#[.slice none 0 0,oS bx]:Array Φ).map (ren π)=#[.slice none 0 0,oS (π bx)]:=by simp[oS,qz,bn,pb]
 rw[QY,Nc] at hp;have⟨Shun,Zl,w,hz,D,R,N,u⟩:=hp.ex
 let y:Nat->Prop:=λq=>∃o,E.K q=some o
 have kk:∀q,y q->q<w.heap.size/\∀l,mP q l->¬Shun l:=λq ⟨o,d⟩=>⟨(Ψ.1 (u q o d).2.1).1,(u q o d).2.2⟩
 obtain⟨own,g⟩:∃own:Nat->Prop,own=λb=>Zl b\/y b:=⟨_,rfl⟩
 have p:Link E.H af.no own af.no π wL w:=by rw[g];exact D.wider λb a=> .inl a
 have V:Apart Shun own w:=by rw[g];exact R.union y kk
 have Pq:∀q,y q->own q:=λq d=>by rw[g];exact .inr d
 have vm:iG E.H wL m:=p.lw.Vm bx _ G z.2 m (.cells (v:= .map (some m)) ϛ .map);have S:=(p.wr.ok bx _ G z.2 id).2;have F:=(p.wr.ok m _ hM vm.2 id).2;rw[qy (o:= .map es c) λr hr=>absurd hr (by
  intro hr;cases hr with
  |key Q h=>exact(k _ Q r).1 h
  |val Q h=>exact(k _ Q r).2 h)] at F
 have O:w.heap[π bx]? =some (.cells #[.map (some (π m))] tt X):=by rw[S];simp[ep]
 obtain⟨N1,M1,t1,g1,w1,r1,J,⟨s,⟨⟨sv,ks,rfl,rfl,I,hold,ab,L,W,n⟩,_,u1⟩,C⟩,Y,_⟩:=mr hz (yq (qK (λ_=>False) (OG (f:=f) (fr:=fr) (cs:=CS) V.lt (p.own m vm id) (p.own bx z id) O F hm P) λ_ h=>h.elim) V);have j:∀b,own b->w1.heap[b]? =w.heap[b]? :=λb a=>hold b (V.lt b a)
 have H:∀(cA:Ϛ),(∀b,b<wL.heap.size->cA b=π b)->∀b,b<wL.heap.size->¬E.H b->¬y (cA b):=λcA B b a T ⟨o,d⟩=>by
  rw[B b a] at d;exact(u _ o d).1 (D.own b ⟨a,T⟩ id)
 rcases L with⟨rfl,rfl⟩|⟨sk,cap,rfl,hsk,hle,hrow⟩
 .have⟨cA,A,B⟩:=Mq p I j
  have t:=Z (.slice none 0 0) wL cA M1 t1 ⟨wL.tape,wL.drawn,[],W,n,.inl ⟨rfl,rfl,wL.tape,wL.drawn,rfl⟩⟩ ⟨Shun,_,w1,(by
   have e:ren cA (.slice none 0 0)= .slice none 0 0:=ϛ
   rw[e];exact J),(A.wider (λb a=> .inl a)).less y (λb a=>H cA B b a.1 a.2),C.part (λb a=>a.1),⟨by rw[Y];exact N.1,u1.trans N.2⟩,λq o d=>⟨λa=>a.2 ⟨o,d⟩,(j q (Pq q ⟨o,d⟩)).trans (u q o d).2.1,(u q o d).2.2⟩⟩ (λr hr=>by cases hr) B (ι _)
  exact E.back _ _ _ _ _ r1 t
 .have⟨cA,A,B,em⟩:=zK (m:=sk) p I j ϖ hsk.2 hrow trivial (λr hr=>by
   cases hr with
   |cells hv h=>
    simp only[ϐ4,ϐ1,ad1,List.mem_replicate] at hv;rcases hv with⟨x,_,rfl⟩|⟨_,rfl⟩<;>cases h) (λi hi=>hi)
  have t:=Z (.slice (some ⟨wL.heap.size,0,none⟩) ks.length cap) _ cA M1 t1 ⟨wL.tape,wL.drawn,ks,W,n,.inr ⟨cap,rfl,hle,wL.tape,wL.drawn,rfl⟩⟩ ⟨Shun,_,w1,(by
   have e:ren cA (.slice (some ⟨wL.heap.size,0,none⟩) ks.length cap)= .slice (some ⟨sk,0,none⟩) ks.length cap:=by simp[bn,em]
   rw[e];exact J),(A.wider (λb a=>a.elim .inl λe=> .inr ⟨ϖ,e▸hsk.2⟩)).less y (λb a d=>by
    have aa:b<wL.heap.size+1:=by have:=a.1;simpa using this
    have U:=(kk _ d).1
    by_cases K:b<wL.heap.size
    .exact H cA B b K a.2 d
    .have:b=wL.heap.size:=ϖ
     rw[this,em] at U;omega),C.part (λb a=>a.1),⟨by rw[Y];exact N.1,u1.trans N.2⟩,λq o d=>⟨λa=>a.2 ⟨o,d⟩,(j q (Pq q ⟨o,d⟩)).trans (u q o d).2.1,(u q o d).2.2⟩⟩ (λr hr=>by
    cases hr with
    |slice e=>
     have e:wL.heap.size=r:=e;subst e;exact⟨by show wL.heap.size<(wL.heap.push _).size;simp,λT=>by have:=p.lw.low _ (.inl T);omega⟩) B ϛ
  exact E.back _ _ _ _ _ r1 t
def gZ {E:af.Env}{f:ac0}{k:ϕ}{R:ϝ}{a:Act}{wL:Ω}{ops:Ϙ}{i:Nat}{rest:ϑ}{o:Oper}(x:ab7)(c:ops[i]? =some o)(b:o.op= .assign x\/o.op= .move x)(hg:o.guard=none)(h:af.CI E f (.inRegion ops rest::k) R (a.put o.dst (a.eval x)) wL)(tO:nI PP S0 E0 true o=true:=by kernel_rfl):af.CI E f (.inRegion ops (i::rest)::k) R a wL:=by
 refine af.WO c tO hg λt d=>?_
 have e:(execOp a.eval o).run PP (ax wL t d)= .ok (.value (a.eval x)) (ax wL t d):=by
  unfold execOp;rcases b with b|b<;>rw[b]<;>rfl
 rw[e];exact(af.pD t d).2 h
def mJ {E:af.Env}{f:ac0}{k:ϕ}{R:ϝ}{a:Act}{wL:Ω}{ops:Ϙ}{i:Nat}{rest:ϑ}{o:Oper}{f2:ac0}(xs:Array ab7)(args:ϐ){R2:ϥ}(g:ops[i]? =some o)(hg:o.guard=none)(d:xs.all oh=true)(c:∀(b:Act)(w:Ω),(execOp b.eval o).runT PP w #[]=(.ok (.enter f2 (xs.map b.eval)) w,#[]))(ha:xs.map a.eval=args)(e:af.CC E f2 args R2 wL)(h:∀v w',R2 v w'->wL.heap.size<=w'.heap.size->af.CI E f (.inRegion ops rest::k) R (a.put o.dst v) w'):af.CI E f (.inRegion ops (i::rest)::k) R a wL:=
 af.Vq g hg d c (ha▸e) h
def Jq {E:af.Env}{wL:Ω}{bx:Nat}{f:Ξ->Option Φ}(h:af.CC E Gs #[.slice none 0 0,oS bx] (NL f wL) wL):af.CC E 134 #[oS bx] (NL f wL) wL:=by
 refine af.oD func134 rfl ?_;refine af.fU (af.e9 (gZ _ rfl (.inl rfl) rfl (af.de ?_)));refine af.fU (af.e9 (gZ _ rfl (.inr rfl) rfl ?_))
 refine mJ (f2:=Gs) #[.const (.slice none 0 0),.tmp 3] #[.slice none 0 0,oS bx] (R2:=NL f wL) rfl rfl ϰ (λe w=>ϰ) ϰ h λv w' hR _=>?_
 refine gZ _ rfl (.inl rfl) rfl (af.de (af.Jj ?_));exact⟨v,ϰ,hR⟩
end Sq
end aI
end
section
open Go.RowKit Go.Lib
def BT (d bl n:Nat)(b:Φ)(x:DS)(w:Ω)(h:bG w d bl n b x):
  Calls prog 105 #[.pointer (some ⟨d,0,none⟩)] w λe w'=>e= .returned (.bool (x.sound n))/\aQ [] w w':=by
 have a:Hid (x.sound n=(x.vO n&&(x.oZ n&&x.eX n))):=rfl;go_enter func105,ntmps105;go_wp2_with fail;refine(AZ d bl n b x w h).mono ?_;rintro e w1 ⟨rfl,c⟩;have h1:=h.new c;cases hr:x.vO n with
 |false=>
  rw[hr] at a;go_wp2;go_ret;exact⟨by rw[a.out];rfl,c⟩
 |true=>
  rw[hr] at a;go_wp2_with fail;refine(vI d bl n b x w1 h1).mono ?_;rintro e j ⟨rfl,f2⟩;have h2:=h1.new f2;have f:=c.trans f2;cases g:x.oZ n with
  |false=>
   rw[g] at a;go_wp2;go_ret;exact⟨by rw[a.out];rfl,f⟩
  |true=>
   rw[g] at a;go_wp2_with fail;refine(yU d bl n b x j h2).mono ?_;rintro e l ⟨rfl,k⟩;have i:=f.trans k;go_wp2;go_ret;exact⟨by rw[a.out];rfl,i⟩
def DS.script (x:DS)(after keep:Int):DS:={x with given:=true,left:=after,keep:=keep}
def FX:(prog.info? 132).map (·.size)=some 3:=ϰ
def D6 (a b:Int):prog.built 132 [(0,.bool true),(1,.int .i64 a),(2,.int .i64 b)]=some #[.bool true,.int .i64 a,.int .i64 b]:=ϰ
def MP (F:ϑ)(d n:Nat)(x:DS)(after keep:Int)(w:Ω)(h:bT w F d n x):
  Calls prog 47 #[.pointer (some ⟨d,0,none⟩),.int .i64 after,.int .i64 keep] w λe w'=>e= .returned (.tuple #[])/\bT w' F d n (x.script after keep)/\aQ F w w':=by
 obtain⟨bl,b,h,rfl⟩:=h;go_enter func47,ntmps47;go_wp2_with (with_reducible first|refine bM 132 rfl ?_|refine ai 132 rfl ?_);refine cT rfl (.agg #[.bool true,.int .i64 after,.int .i64 keep]) w (iT _ _ rfl _ (D6 after keep)) ?_;go_wp2_with (with_reducible first|refine bM 132 rfl ?_|refine ai 132 rfl ?_)
 refine bQ rfl 132 _ _ rfl d 3 rfl #[.bool true,.int .i64 after,.int .i64 keep] rfl 3 FX rfl (by simp[Value.oneCell']) _ _ h.row (by simp[iX]) ?_;intro w1 c f;have a:Row w1 d (iX bl n b (x.script after keep)) 134:=f;have h1:=h.reset c a rfl rfl;go_wp2_with fail
 go_end0
 exact⟨rfl,⟨bl,b,h1,rfl⟩,c.mono⟩
end
section
open Go.RowKit Go.Lib Go.Sort
def fq (l:List dl):List (List Γ):=(l.filter λf=>f.set !=3).map (·.path)
def hU (l:List (List Γ)):List Φ:=l.map encStr
def kH (l:List dl):Nat:=(compact ((fq l).mergeSort λx y=>decide (x<=y))).length
def jL:Elem prog 45 9 1 16:=⟨underlying45,ϰ,ϖ⟩
def Dt (fs:List dl)(k:Nat)(a:k<fs.length):fq (fs.take (k+1))=if fs[k].set=3 then fq (fs.take k) else fq (fs.take k)++[fs[k].path]:=by
 unfold fq;rw[ac4 a,ϓ2,Ϙ6]
 by_cases h:fs[k].set=3
 .simp[h]
 .simp[h]
def xn (l:List dl):(fq l).length<=l.length:=by unfold fq;rw[ah1];exact ϑ7 ..
def z4 (w:Ω)(os:Array Obj):aQ [] w (grow w os):=
 ⟨rfl,rfl,rfl,by simp[grow],λk a _=>by simp only[grow];rw[Array.getElem?_append_left a]⟩
def rN (w:Ω)(n:Nat):aQ [] w (Sort.ahead w n):=⟨rfl,rfl,rfl,ι _,λ_ _ _=>rfl⟩
def po {α:Type}[Inhabited α](enc:α->Φ)(w:Ω)(blk off:Nat)(d:Array α):aQ [blk] w (putRow enc w blk off d):=
 ⟨rfl,rfl,rfl,by rw[size_putRow];exact ι _,λk b a=>by
  simp only[putRow,mapBlock,al6];rw[ζ (by simpa usingλe=>a (by simp[e]))]⟩
def wv (base:Nat)(v:Φ)(fs:List dl)(w:Ω)(hv:w.ownsRow base 107 3 v fs.length (jp fs))(hl:fs.length<=1000):
  Calls prog 75 #[v] w λe w'=>e= .returned (.int .i64 (kH fs))/\aQ [] w w':=by
 have⟨ad,cap,Q⟩:=ce hv;subst Q;go_enter func75,ntmps75;go_wp2_with fail
 go_loopw [3,8] (λu c wr=>∃k:Nat,c= .int .i64 k/\k<=fs.length/\aQ [] w wr/\wr.ownsRow w.heap.size 9 1 u (fq (fs.take k)).length (hU (fq (fs.take k)))) (λ_ c _=>fs.length-(intOf c).toNat)
 case atStart=>exact⟨0,rfl,ϖ,aQ.refl ..,World.ownsRow_nil ..⟩
 case round=>
  obtain⟨k,rfl,hk,H,z⟩:=hrel;have F:=H.owns hv
  by_cases G:k<fs.length
  .obtain⟨g,s,rfl,hg,ac,_,r,d⟩:=eT F
   have p:((s.toList.drop (k*3)).take 3)=cg fs[k].set fs[k].path fs[k].content:=by
    rw[cx d _ _,uT fs k G]
   have a:=Dt fs k G;have U:(fq (fs.take k)).length<=1000:=by have:=xn (fs.take k);rw[ac8] at this;omega
   generalize fs[k]=f at p a;have l:Hid (fq (fs.take (k+1))=if f.set=3 then fq (fs.take k) else fq (fs.take k)++[f.path]):=a;generalize fq (fs.take k)=b at*;clear a r d;go_wp2_with (with_reducible first|refine au 107 rfl ?_|refine aA rfl ?_|refine ai 107 rfl ?_)
   refine bZ rfl 107 _ rfl g (k*3) rfl kZ 3 eZ _ _ hg (cg f.set f.path f.content) p rfl ?_;clear p hg;go_wp2_with (with_reducible first|refine aA rfl ?_|refine ai 107 rfl ?_);refine bj rfl 107 rfl yE lP ?_;intro w4 L l5 f4 r5;go_wp2_with (with_reducible first|refine aA rfl ?_|refine ai 107 rfl ?_)
   refine bQ rfl 107 _ _ rfl _ 0 rfl _ rfl 3 eZ ?_ ?_ _ _ r5 ?_ ?_
   .rfl
   .simp[cg,Value.oneCell']
   .decide
   intro X f5 q5;rw[bL _ _ (by rfl)] at q5;have N:Row X L (cg f.set f.path f.content).toArray 107:=q5;have t:=f4.trans f5 (by simpa using l5);have J:=H.trans t;have Z:=t.owns z;have c0:X.cell? ⟨L,0,none⟩=some (.int .i64 f.set):=by rw[N.cell];rfl
   have c1:X.cell? ⟨L,1,none⟩=some (.string (aD f.path)):=by rw[N.cell];rfl
   clear q5 r5 f4 f5 t H z l5 F N
   by_cases h3:f.set=3
   .have M:Hid (fq (fs.take (k+1))=b):=by show _=_;rw[l.out,φ h3]
    have E:((f.set:Int))=3:=ϖ
    rw[E] at c0;clear l;go_wp2
    go_roundw
    case rel=>exact⟨k+1,by go_num,ϖ,J,by rw[M.out];exact Z⟩
    case measure=>simp[intOf];omega
   .have M:Hid (fq (fs.take (k+1))=b++[f.path]):=by show _=_;rw[l.out,ζ h3]
    have E:((f.set:Int)==3)=false:=by rw[ac3];omega
    clear l;go_wp2_with (with_reducible first|refine bV rfl ?_|refine bW rfl ?_);refine iu rfl 45 9 1 16 jL _ rfl (.string (aD f.path)) rfl rfl ?_;intro w8 b8 l8 I r8;go_wp2_with (with_reducible first|refine bV rfl ?_|refine bW rfl ?_);have CA:=I.owns Z
    have h:w.heap.size<=w8.heap.size:=by have:=J.size;have:=I.size;omega
    refine ja rfl 45 9 1 16 jL _ _ rfl w.heap.size u3 _ _ rfl CA b8 1 1 [.string (aD f.path)] rfl _ _ r8 rfl rfl (by simp[Value.oneCell']) ϖ ϖ ϖ h ?_;intro g' ab w9 IS f9 _;have Qp:=(J.trans I).trans f9 (by intro j B;right;simp at B;exact(CA.lt j B).1);clear Z CA r8 I f9 l8 J h c0 c1;go_wp2
    go_roundw
    case rel=>
     refine⟨k+1,by go_num,ϖ,Qp,?_⟩;rw[M.out];simpa [hU,aD] using IS
    case measure=>simp[intOf];omega
  .have HC:Hid (kH fs=(compact ((fq fs).mergeSort λx y=>decide (x<=y))).length):=rfl
   rw[θ ϖ] at z;have U:=xn fs;generalize fq fs=b at*;have Y:∀k,u3.ownBlock=some k->w.heap.size<=k/\k<wr.heap.size:=λk hk=>z.lt k hk
   rcases z.2 with⟨rfl,h0⟩|⟨g,c,s,rfl,hgb,hgh,hnc,_,r,d⟩
   .have aa:b=[]:=ϔ4.1 h0
    subst aa;have HZ:Hid (kH fs=0):=by show _=_;rw[HC.out,List.mergeSort_nil];rfl
    go_wp2_with fail;refine(Tryz.slices_Sort_string_none none 0 wr).mono ?_;rintro e n ⟨rfl,rfl⟩;go_wp2_with fail;refine(Tryz.slices_Compact_string_empty none 0 n).mono ?_;rintro e O ⟨rfl,rfl⟩;go_wp2;go_ret;exact⟨by rw[HZ.out];rfl,H⟩
   .have A:w.heap.size<=g:=hgb
    have o:g<wr.heap.size:=(Ψ.1 hgh).1;have V:Holds encStr wr g 0 b.toArray:=λj B=>by
     have K:j<b.length:=by simpa using B
     refine⟨?_,Lib.frozen_of_heap hgh _⟩;rw[Lib.cell_of_heap hgh];have h1:(s.toList.take (b.length*1))[j]? =(hU b)[j]? :=by rw[d]
     rw[List.getElem?_take_of_lt ϖ] at h1;rw[ϓ9,<-al1,h1,getElem!_pos b.toArray j B];simp[hU,K]
    clear z Y r d hgh;go_wp2_with fail;refine(Tryz.slices_Sort_string g 0 c b wr V o ϖ).mono ?_;rintro e n ⟨rfl,m,os,S⟩;have W:(b.mergeSort λx y=>decide (x<=y)).length=b.length:=List.length_mergeSort _;have C:Holds encStr n g 0 (b.mergeSort λx y=>decide (x<=y)).toArray:=by
     rw[S];exact holds_grow _ _ _ _ _ _ (by rw[size_putRow];exact o) (holds_putRow _ _ _ _ _ _ (holds_ahead _ _ _ _ _ _ V) ϛ)
    have f6:aQ [g] wr n:=by
     rw[S];exact(((rN wr m).mono (T:=[g]) ϛ).trans (po encStr _ g 0 _) (λi R=> .inl R)).trans (z4 ..)
    have tB:aQ [] w n:=H.trans f6 (by simpa using A);generalize (b.mergeSort λx y=>decide (x<=y))=qs at*;clear S V f6;go_wp2_with fail;have P:=Tryz.slices_Compact_string g 0 c qs n C ϖ ϖ;rw[W] at P;refine P.mono ?_;rintro e O ⟨rfl,q,D⟩;have f7:aQ [g] n O:=by
     rw[D];exact((rN n q).mono (T:=[g]) ϛ).trans (po encStr _ g 0 _) (λi R=> .inl R)
    have AP:aQ [] w O:=tB.trans f7 (by simpa using A);clear D f7 P C;go_wp2;go_ret;exact⟨by rw[HC.out];rfl,AP⟩
end
section
open Go.RowKit Go.Lib
def Bw:prog.built 103 [(0,.int .i64 3)]=some (dH 3 ⟨#[]⟩):=ϰ
def N4:Φ:= .agg (dH 0 ⟨#[]⟩)
def BG:(prog.info? 103).map (·.zero)=some (some N4):=ϰ
def DS.pending (x:DS)(n:Nat):Bool:=(x.content n 3 ⟨#[]⟩).isSome
def fY (w:Ω):Calls prog 93 #[] w λe w'=>e= .returned (.agg (dH 3 ⟨#[]⟩))/\aQ [] w w':=by
 go_enter func93,ntmps93;go_wp2_with (with_reducible first|refine aA rfl ?_|refine bM 103 rfl ?_|refine ai 103 rfl ?_);refine bj rfl 103 rfl N4 BG ?_;intro w1 b l1 h f;go_wp2_with (with_reducible first|refine aA rfl ?_|refine bM 103 rfl ?_|refine ai 103 rfl ?_)
 refine cT rfl (.agg (dH 3 ⟨#[]⟩)) w1 (iT _ _ rfl _ Bw) ?_;go_wp2_with (with_reducible refine ai 103 rfl ?_);refine bQ rfl 103 _ _ rfl _ 0 rfl _ rfl 2 dN ?_ ?_ _ _ f ?_ ?_
 .rfl
 .simp[dH,Value.oneCell']
 .decide
 intro g f2 a;rw[bL _ _ (by rfl)] at a;have c:Row g b (dH 3 ⟨#[]⟩) 103:=a;have d:=h.trans f2 (by simp;exact l1);clear a;go_wp2;exact mX rfl b rfl rfl _ _ c fl (by exact dN) ⟨rfl,d⟩
def qD (d bl n:Nat)(a:Φ)(x:DS)(w:Ω)(h:bG w d bl n a x):Calls prog 57 #[.pointer (some ⟨d,0,none⟩)] w λe w'=>e= .returned (.bool (x.pending n))/\aQ [] w w':=by
 have f:Hid (x.pending n=(x.content n 3 ⟨#[]⟩).isSome):=rfl;go_enter func57,ntmps57;go_wp2_with fail;refine(fY w).mono ?_;rintro e w1 ⟨rfl,b⟩;have h1:=h.new b;go_wp2_with fail;refine(oz d bl n a x 3 ⟨#[]⟩ w1 h1).mono ?_;rintro e g ⟨rfl,f2⟩;have c:=b.trans f2;generalize x.content n 3 ⟨#[]⟩=r at*;go_wp2;go_ret
 exact⟨by rw[f.out];rfl,c⟩
def IL (d bl n:Nat)(b:Φ)(x:DS)(w:Ω)(h:bG w d bl n b x)(a:x.pending n=false):Calls prog 106 #[.pointer (some ⟨d,0,none⟩)] w λe w'=>e= .returned (.bool true)/\aQ [] w w':=by
 have j:x.content n 3 ⟨#[]⟩=none:=by
  unfold DS.pending at a;cases g:x.content n 3 ⟨#[]⟩ with
  |none=>rfl
  |some c=>rw[g] at a;cases a
 go_enter func106,ntmps106;go_wp2_with fail;refine(fY w).mono ?_;rintro e w1 ⟨rfl,f⟩;have h1:=h.new f;go_wp2_with fail;refine(oz d bl n b x 3 ⟨#[]⟩ w1 h1).mono ?_;rintro e k ⟨rfl,f2⟩;have i:=f.trans f2;rw[j];go_wp2;go_ret;exact⟨rfl,i⟩
structure aE (w:Ω)(F:List Nat)(s d n:Nat)(x:DS):Prop where
 row:Row w s #[.pointer (some ⟨d,0,none⟩)] 96
 disk:bT w F d n x
 ne:s∉F
def aE.new {w w':Ω}{F:ϑ}{s d n:Nat}{x:DS}(h:aE w F s d n x)(f:aQ [] w w'):aE w' F s d n x:=
 ⟨f.row h.row,h.disk.new f,h.ne⟩
def aE.cell {w:Ω}{F:ϑ}{s d n:Nat}{x:DS}(h:aE w F s d n x):w.cell? ⟨s,0,none⟩=some (.pointer (some ⟨d,0,none⟩)):=by rw[h.row.cell];rfl
def aE.jG {w:Ω}{F:ϑ}{s d n:Nat}{x:DS}(h:aE w F s d n x):∃bl a,bG w d bl n a x:=by
 have⟨bl,a,h,_⟩:=h.disk;exact⟨bl,a,h⟩
def tv (n:Int)(w:Ω):Calls prog 71 #[.int .i64 n] w λe w'=>e= .returned (.bool (decide (16<=n)&&decide (n<=400)))/\w'=w:=by
 go_enter func71,ntmps71
 by_cases h1:16<=n<;>by_cases h2:n<=400
 all_goals
  have e1:Hid ((decide (16<=n)&&decide (n<=400))=(decide (16<=n)&&decide (n<=400))):=rfl;simp only[h1,h2,decide_true,decide_false] at e1⊢;go_wp2;go_ret;simp
def tx (n:Int)(w:Ω):Calls prog 74 #[.int .i64 n] w λe w'=>e= .returned (.bool (n==0||n==1))/\w'=w:=by
 go_enter func74,ntmps74;cases h1:(n==0)<;>cases h2:(n==1)
 all_goals
  go_wp2;go_ret;simp[h1,h2]
def gG (F:ϑ)(s d n:Nat)(x:DS)(w:Ω)(h:aE w F s d n x):Calls prog 44 #[.pointer (some ⟨s,0,none⟩)] w λe w'=>e= .returned (.bool false)/\w'=w:=by
 have c0:=h.cell;go_enter func44,ntmps44;go_wp2;go_ret;exact⟨rfl,rfl⟩
def kE (F:ϑ)(s d n:Nat)(x:DS)(w:Ω)(h:aE w F s d n x):Calls prog 46 #[.pointer (some ⟨s,0,none⟩)] w λe w'=>e= .returned (.bool x.failed)/\w'=w:=by
 have c0:=h.cell;have⟨bl,a,hd⟩:=h.jG;go_enter func46,ntmps46;go_wp2_with fail;refine(gG F s d n x w h).mono ?_;rintro e w1 ⟨rfl,rfl⟩;go_wp2_with fail;refine(I6 d bl n a x w1 hd).mono ?_;rintro e b ⟨rfl,rfl⟩;go_wp2;go_ret;exact⟨rfl,rfl⟩
def nJ (F:ϑ)(s d n:Nat)(x:DS)(w:Ω)(h:aE w F s d n x):Calls prog 54 #[.pointer (some ⟨s,0,none⟩)] w λe w'=>e= .returned (.int .i64 (if x.failed then 3 else if x.pending n then 4 else 0))/\aQ [] w w':=by
 have c0:=h.cell;have⟨bl,a,hd⟩:=h.jG;go_enter func54,ntmps54;go_wp2_with fail;refine(kE F s d n x w h).mono ?_;rintro e w1 ⟨rfl,rfl⟩;have g:Hid ((if x.failed then(3:Int) else if x.pending n then 4 else 0)=(if x.failed then(3:Int) else if x.pending n then 4 else 0)):=rfl;cases b:x.failed with
 |true=>
  go_wp2;go_ret;exact⟨ϛ,aQ.refl ..⟩
 |false=>
  go_wp2_with fail;refine(qD d bl n a x w1 hd).mono ?_;rintro e c ⟨rfl,f2⟩;cases f:x.pending n with
  |true=>
   go_wp2_with fail
   all_goals
    go_ret;exact⟨ϛ,f2⟩
  |false=>
   go_wp2_with fail
   all_goals
    go_ret;exact⟨ϛ,f2⟩
def kx (F:ϑ)(s d n:Nat)(x:DS)(w:Ω)(h:aE w F s d n x):Calls prog 26 #[.pointer (some ⟨s,0,none⟩)] w λe w'=>e= .returned (.string ⟨x.aB.toArray⟩)/\aQ [] w w':=by
 have c0:=h.cell;have⟨bl,a,hd⟩:=h.jG;go_enter func26,ntmps26;go_wp2_with fail;refine(gG F s d n x w h).mono ?_;rintro e w1 ⟨rfl,rfl⟩;go_wp2_with fail;refine(NB d bl n a x w1 hd).mono ?_;rintro e b ⟨rfl,f2⟩;go_wp2;go_ret;exact⟨rfl,f2⟩
def nZ (F:ϑ)(s d n:Nat)(x:DS)(w:Ω)(h:aE w F s d n x):Calls prog 18 #[.pointer (some ⟨s,0,none⟩)] w λe w'=>e= .returned (.int .i64 x.acts)/\w'=w:=by
 have c0:=h.cell;have⟨bl,a,hd⟩:=h.jG;go_enter func18,ntmps18;go_wp2_with fail;refine(gG F s d n x w h).mono ?_;rintro e w1 ⟨rfl,rfl⟩;go_wp2_with fail;refine(RG d bl n a x w1 hd).mono ?_;rintro e b ⟨rfl,rfl⟩;go_wp2;go_ret;exact⟨rfl,rfl⟩
def DS.tC (x:DS)(after keep:Int):DS×Int:=if x.failed then(x,3) else if after<0 then(x,1) else(x.script after keep,0)
def y9 (F:ϑ)(s d n:Nat)(x:DS)(after keep:Int)(w:Ω)(h:aE w F s d n x):Calls prog 20 #[.pointer (some ⟨s,0,none⟩),.int .i64 after,.int .i64 keep] w λe w'=>e= .returned (.int .i64 (x.tC after keep).2)/\aE w' F s d n (x.tC after keep).1/\aQ F w w':=by
 have c0:=h.cell;have b:Hid (x.tC after keep=if x.failed then(x,3) else if after<0 then(x,1) else(x.script after keep,0)):=rfl;go_enter func20,ntmps20;go_wp2_with fail;refine(kE F s d n x w h).mono ?_;rintro e w1 ⟨rfl,rfl⟩;cases c:x.failed with
 |true=>
  rw[c] at b;go_wp2_with fail
  all_goals
   go_ret;rw[b.out];exact⟨rfl,h,aQ.refl ..⟩
 |false=>
  rw[c] at b
  by_cases ha:after<0
  .have a:Hid (x.tC after keep=(x,1)):=by show _=_;rw[b.out];simp[ha]
   go_wp2_with fail
   all_goals
    go_ret;rw[a.out];exact⟨rfl,h,aQ.refl ..⟩
  .have a:Hid (x.tC after keep=(x.script after keep,0)):=by show _=_;rw[b.out];simp[ha]
   go_wp2_with fail;refine(MP F d n x after keep w1 h.disk).mono ?_;rintro e f ⟨rfl,h2,f2⟩;have g:aE f F s d n (x.script after keep):=⟨f2.row h.row h.ne,h2,h.ne⟩
   clear c0;go_wp2;go_ret;rw[a.out];exact⟨rfl,g,f2⟩
def DS.gO (x:DS)(n:Nat):Bool:=x.sound n&&decide (kH (aO x n)<=7)
def FW (F:ϑ)(s d n:Nat)(x:DS)(w:Ω)(h:aE w F s d n x)(l:x.pending n=false):Calls prog 73 #[.pointer (some ⟨s,0,none⟩)] w λe w'=>e= .returned (.bool (x.gO n))/\aQ [] w w':=by
 have c0:=h.cell;have⟨bl,f,hd⟩:=h.jG;have a:Hid (x.gO n=(x.sound n&&decide (kH (aO x n)<=7))):=rfl;have z:(aO x n).length<=54:=by unfold aO;rw[ah1];exact fy x n
 go_enter func73,ntmps73;go_wp2_with fail;refine(BT d bl n f x w hd).mono ?_;rintro e w1 ⟨rfl,c⟩;have h1:=h.new c;have i:=hd.new c;have c0:=h1.cell;cases o:x.sound n with
 |false=>
  rw[o] at a;go_wp2;go_ret;exact⟨by rw[a.out];rfl,c⟩
 |true=>
  rw[o] at a;go_wp2_with fail;refine(vq d bl n f x w1 i).mono ?_;rintro e q ⟨v,rfl,hv,f2⟩;go_wp2_with fail;refine(wv _ v (aO x n) q hv ϖ).mono ?_;rintro e y ⟨rfl,t⟩;have b:=(c.trans f2).trans t;generalize kH (aO x n)=m at*
  by_cases hm:m<=7
  .have g:Hid (x.gO n=true):=by show _=_;rw[a.out];simp[hm]
   have k:(m:Int)<=7:=ϖ
   have r:=h.new b;have j:=hd.new b;clear c0;have c0:=r.cell;go_wp2_with fail;refine(IL d bl n f x y j l).mono ?_;rintro e A ⟨rfl,u⟩;have p:=b.trans u;go_wp2;go_ret;exact⟨by rw[g.out];rfl,p⟩
  .have g:Hid (x.gO n=false):=by show _=_;rw[a.out];simp[hm]
   have k:¬(m:Int)<=7:=ϖ
   go_wp2;go_ret;refine⟨?_,b⟩;rw[g.out];rfl
def G0 (d:Nat):prog.built 96 [(0,.pointer (some ⟨d,0,none⟩))]=some #[.pointer (some ⟨d,0,none⟩)]:=ϰ
def oR (b:Ξ)(n:Nat)(w:Ω)(h:b.size=64*n)(c:16<=n)(i:n<=400):
  Calls prog 72 #[.string b] w λe w'=>∃s d F,e= .returned (.pointer (some ⟨s,0,none⟩))/\aE w' F s d n (DS.fresh b.data.toList)/\aQ [] w w'/\bC [] F w/\w.heap.size<=s:=by
 go_enter func72,ntmps72;go_wp2_with (with_reducible first|refine bM 96 rfl ?_|refine bA rfl ?_);refine(Gd b n w h c i).mono ?_;rintro e w1 ⟨d,F,rfl,hd,f,k⟩;go_wp2_with (with_reducible first|refine bM 96 rfl ?_|refine bA rfl ?_);refine cT rfl (.agg #[.pointer (some ⟨d,0,none⟩)]) w1 (iT _ _ rfl _ (G0 d)) ?_
 go_wp2_with (with_reducible refine bA rfl ?_);refine eQ rfl 96 _ rfl (.agg #[.pointer (some ⟨d,0,none⟩)]) rfl ?_;intro m s l2 f2 r2;have a:=hd.new f2;have g:=f.trans f2;have j:s∉F:=λl=>by have:=hd.lt s l;omega
 go_wp2;go_ret;exact⟨s,d,F,rfl,⟨r2,a,j⟩,g,k,by have:=f.size;omega⟩
def Bc (n:Nat)(h:1<=n):(ii n).length=64*n:=by
 unfold ii;rw[ah2,lK,Ϸ];omega
def TR (n:Nat)(w:Ω)(a:16<=n)(f:n<=400):
  Calls prog 40 #[.int .i64 n] w λe w'=>∃s d F,e= .returned (.tuple #[.pointer (some ⟨s,0,none⟩),.int .i64 0])/\aE w' F s d n (DS.fresh (ii n))/\aQ [] w w'/\bC [] F w/\w.heap.size<=s:=by
 go_enter func40,ntmps40;go_wp2_with fail;refine(tv n w).mono ?_;rintro e w1 ⟨rfl,rfl⟩;have e1:(decide (16<=(n:Int))&&decide ((n:Int)<=400))=true:=by
  rw[decide_eq_true ϖ,decide_eq_true ϖ];rfl
 rw[e1];go_wp2_with fail;refine(Nf n w1 ϖ f).mono ?_;rintro e o ⟨rfl,f2⟩;have m:=Bc n ϖ;go_wp2_with fail;refine(oR ⟨(ii n).toArray⟩ n o (by rw[<-m];rfl) a f).mono ?_;rintro e q ⟨s,d,F,rfl,g,j,c,r⟩;have k:=f2.trans j;have b:aE q F s d n (DS.fresh (ii n)):=g;have l:=f2.size
 have gw:bC [] F w1:=λi p=>(c i p).imp id (λh=>ϖ)
 clear g f2 j c;go_wp2_with fail
 all_goals
  go_ret2
  exact⟨s,d,F,rfl,b,k,gw,ϖ⟩
def Pu (b:Ξ)(n:Nat)(w:Ω)(a:b.size=64*n)(c:16<=n)(o:n<=400)(j:(DS.fresh b.data.toList).gO n=true)(h:(DS.fresh b.data.toList).pending n=false):
  Calls prog 38 #[.string b] w λe w'=>∃s d F,e= .returned (.tuple #[.pointer (some ⟨s,0,none⟩),.int .i64 0])/\aE w' F s d n (DS.fresh b.data.toList)/\aQ [] w w'/\bC [] F w/\w.heap.size<=s:=by
 have hr:(b.size:Int).tmod 64=0:=by rw[a];push_cast;exact Int.mul_tmod_right ..
 have p:(b.size:Int).tdiv 64=n:=by rw[a];push_cast;exact Int.mul_tdiv_cancel_left _ (by decide)
 go_enter func38,ntmps38;go_wp2_with fail;refine(tv n w).mono ?_;rintro e w1 ⟨rfl,rfl⟩;have e1:(decide (16<=(n:Int))&&decide ((n:Int)<=400))=true:=by
  rw[decide_eq_true ϖ,decide_eq_true ϖ];rfl
 rw[e1];go_wp2_with fail;refine(oR b n w1 a c o).mono ?_;rintro e m ⟨s,d,F,rfl,f,f2,l,l2⟩;go_wp2_with fail;refine(FW F s d n _ m f h).mono ?_;rintro e q ⟨rfl,g⟩;have i:=f.new g;have k:=f2.trans g;rw[j];clear f f2 g;go_wp2_with fail
 all_goals
  go_ret2
  exact⟨s,d,F,rfl,i,k,l,l2⟩
def Cv (n:Nat)(w:Ω)(a:n<=2):Calls prog 48 #[.int .i64 n] w λe w'=>e= .returned (.bool true)/\w'=w:=by
 go_enter func48,ntmps48;rcases(by omega:n=0\/n=1\/n=2) with rfl|rfl|rfl
 all_goals
  go_wp2_with fail;refine(tx _ w).mono ?_;rintro e w1 ⟨rfl,rfl⟩;go_wp2;go_ret;exact⟨rfl,rfl⟩
def DS.get (x:DS)(n s:Nat)(p:Ξ):Φ×Int:=if x.failed then(.string ⟨#[]⟩,3) else match x.content n s p with
 |none=>(.string ⟨#[]⟩,5)
 |some c=>(.string (aD c),0)
def Aw (s:Int)(p:Ξ):prog.built 103 [(0,.int .i64 s),(1,.string p)]=some (dH s p):=ϰ
def Kz (F:ϑ)(s d n:Nat)(x:DS)(a:Nat)(p:Ξ)(w:Ω)(h:aE w F s d n x)(v:a<=2)(u:cL p.data.toList=true)(q:p.size<=8):
  Calls prog 22 #[.pointer (some ⟨s,0,none⟩),.int .i64 a,.string p] w λe w'=>e= .returned (.tuple #[(x.get n a p).1,.int .i64 (x.get n a p).2])/\aQ [] w w':=by
 have c0:=h.cell;have⟨bl,o,hd⟩:=h.jG;have b:Hid (x.get n a p=(if x.failed then((Value.string ⟨#[]⟩,3):Φ×Int) else match x.content n a p with|none=>(Value.string ⟨#[]⟩,5)|some c=>(Value.string (aD c),0))):=rfl;go_enter func22,ntmps22;go_wp2_with fail;refine(gG F s d n x w h).mono ?_;rintro e w1 ⟨rfl,rfl⟩;go_wp2_with fail;refine(Cv a w1 v).mono ?_
 rintro e t ⟨rfl,rfl⟩;go_wp2_with fail;refine(mz p t ϖ).mono ?_;rintro e y ⟨rfl,f⟩;rw[u];have l:=h.new f;have g:=hd.new f;have c0:=l.cell;go_wp2_with fail;refine(kE F s d n x y l).mono ?_;rintro e j ⟨rfl,rfl⟩;cases k:x.failed with
 |true=>
  rw[k] at b;go_wp2_with fail
  all_goals
   go_ret2
   rw[b.out];exact⟨rfl,f⟩
 |false=>
  rw[k] at b;go_wp2_with (with_reducible refine bM 103 rfl ?_);refine cT rfl (.agg (dH a p)) j (iT _ _ rfl _ (Aw a p)) ?_;go_wp2_with fail;refine(oz d bl n o x a p j g).mono ?_;rintro e z ⟨rfl,m⟩;have i:=f.trans m;generalize x.content n a p=r at*;cases r with
  |none=>
   go_wp2_with fail
   all_goals
    go_ret2
    rw[b.out];exact⟨rfl,i⟩
  |some c=>
   go_wp2_with fail
   all_goals
    go_ret2
    rw[b.out];exact⟨rfl,i⟩
def DS.gh (x:DS)(n s:Nat)(p:Ξ):DS×Φ:=
 if x.failed then(x,.int .i64 3) else if x.pending n then(x,.int .i64 4) else x.remove n s p
def tX (F:ϑ)(s d n:Nat)(x:DS)(a:Nat)(p:Ξ)(w:Ω)(h:aE w F s d n x)(G:x.Fit 2)(D:x.waiting.length<60)(M:a<=1)(H:cL p.data.toList=true)(C:p.size<=8):
  Calls prog 42 #[.pointer (some ⟨s,0,none⟩),.int .i64 a,.string p] w λe w'=>e= .returned (x.gh n a p).2/\(∃v,aE w' v s d n (x.gh n a p).1/\bC F v w)/\aQ F w w':=by
 have c:Hid (x.gh n a p=if x.failed then(x,.int .i64 3) else if x.pending n then(x,.int .i64 4) else x.remove n a p):=rfl;have e1:((a:Int)==0||(a:Int)==1)=true:=by
  rcases(by omega:a=0\/a=1) with rfl|rfl<;>rfl
 go_enter func42,ntmps42;go_wp2_with fail;refine(gG F s d n x w h).mono ?_;rintro e w1 ⟨rfl,rfl⟩;go_wp2_with fail;refine(tx a w1).mono ?_;rintro e k ⟨rfl,rfl⟩;rw[e1];go_wp2_with fail;refine(mz p k ϖ).mono ?_;rintro e K ⟨rfl,z⟩;rw[H];have y:=h.new z;go_wp2_with fail;refine(nJ F s d n x K y).mono ?_;rintro e q ⟨rfl,A⟩
 have f:=y.new A;have j:=z.trans A;have c0:=f.cell;cases r:x.failed with
 |true=>
  rw[r] at c;have b:Hid (x.gh n a p=(x,.int .i64 3)):=by show _=_;rw[c.out];rfl
  simp only[if_true];go_wp2_with fail
  all_goals
   go_ret;rw[b.out];exact⟨rfl,⟨F,f,bC.refl _ _⟩,j.mono⟩
 |false=>
  rw[r] at c;cases g:x.pending n with
  |true=>
   rw[g] at c;have b:Hid (x.gh n a p=(x,.int .i64 4)):=by show _=_;rw[c.out];rfl
   simp only[if_true,ν,if_false];go_wp2_with fail
   all_goals
    go_ret;rw[b.out];exact⟨rfl,⟨F,f,bC.refl _ _⟩,j.mono⟩
  |false=>
   rw[g] at c;have b:Hid (x.gh n a p=x.remove n a p):=by show _=_;rw[c.out];rfl
   simp only[ν,if_false];go_wp2_with (with_reducible refine bM 103 rfl ?_);refine cT rfl (.agg (dH a p)) q (iT _ _ rfl _ (Aw a p)) ?_;go_wp2_with fail;refine(qA F d n x a p q f.disk G D).mono ?_;rintro e t ⟨rfl,u,B,o,E⟩;have gw:=(bC.refl F k).trans E j.size
   have m:aE t u s d n (x.remove n a p).1:=⟨o.row f.row f.ne,B,λI=>(gw s I).elim h.ne (λL=>by have:=h.row.lt;omega)⟩
   have l:aQ F k t:=(j.mono (T:=F) ϛ).trans o (λi J=> .inl J);go_wp2_with fail
   all_goals
    go_ret;rw[b.out];exact⟨rfl,⟨u,m,gw⟩,l⟩
end
section
open Go.RowKit Go.Lib Go.Sort
def bK (l:List dl)(s:Nat):List (List Γ):=(l.filter λf=>f.set==s).map (·.path)
def E4 (fs:List dl)(s k:Nat)(a:k<fs.length):bK (fs.take (k+1)) s=if fs[k].set=s then bK (fs.take k) s++[fs[k].path] else bK (fs.take k) s:=by
 unfold bK;rw[ac4 a,ϓ2,Ϙ6]
 by_cases h:fs[k].set=s
 .simp[h]
 .simp[h]
def y8 (l:List dl)(s:Nat):(bK l s).length<=l.length:=by unfold bK;rw[ah1];exact ϑ7 ..
def PO (F:ϑ)(s d n:Nat)(x:DS)(a:Nat)(w:Ω)(h:aE w F s d n x)(hs:a<=2):
  Calls prog 23 #[.pointer (some ⟨s,0,none⟩),.int .i64 a] w λe w'=>
   (∃ad cap,e= .returned (if x.failed then .tuple #[.slice none 0 0,.int .i64 3] else .tuple #[.slice ad (bK (aO x n) a).length cap,.int .i64 0]))/\aQ [] w w':=by
 have c0:=h.cell;have⟨bl,vw,hd⟩:=h.jG;have ak:(aO x n).length<=54:=by unfold aO;rw[ah1];exact fy x n
 go_enter func23,ntmps23;go_wp2_with fail;refine(gG F s d n x w h).mono ?_;rintro e w1 ⟨rfl,rfl⟩;go_wp2_with fail;refine(Cv a w1 hs).mono ?_;rintro e w2 ⟨rfl,rfl⟩;go_wp2_with fail;refine(kE F s d n x w2 h).mono ?_;rintro e P ⟨rfl,rfl⟩;cases hf:x.failed with
 |true=>
  go_wp2_with fail
  all_goals
   go_ret2
   refine⟨?_,aQ.refl ..⟩
   first|rfl|exact⟨none,0,rfl⟩
 |false=>
  go_wp2_with fail;refine(vq d bl n vw x P hd).mono ?_;rintro e C ⟨v,rfl,hv,fa⟩;generalize A:aO x n=fs at*;have E:Hid (aO x n=fs):=A;clear A;have⟨ad,cap,V⟩:=ce hv;subst V;have ae:P.heap.size<=C.heap.size:=fa.size;clear h hd c0;go_wp2_with fail
  go_loopw [6,22] (λu c wr=>∃k:Nat,c= .int .i64 k/\k<=fs.length/\aQ [] C wr/\wr.ownsRow C.heap.size 9 1 u (bK (fs.take k) a).length (hU (bK (fs.take k) a))) (λ_ c _=>fs.length-(intOf c).toNat)
  case atStart=>exact⟨0,rfl,ϖ,aQ.refl ..,World.ownsRow_nil ..⟩
  case round=>
   obtain⟨k,rfl,hk,O,J⟩:=hrel;have G:=O.owns hv
   by_cases H:k<fs.length
   .obtain⟨g,y,rfl,hg,ac,_,t,l⟩:=eT G
    have r:((y.toList.drop (k*3)).take 3)=cg fs[k].set fs[k].path fs[k].content:=by
     rw[cx l _ _,uT fs k H]
    have b:=E4 fs a k H;have X:(bK (fs.take k) a).length<=1000:=by have:=y8 (fs.take k) a;rw[ac8] at this;omega
    generalize fs[k]=f at r b;have q:Hid (bK (fs.take (k+1)) a=if f.set=a then bK (fs.take k) a++[f.path] else bK (fs.take k) a):=b;generalize bK (fs.take k) a=o at*;clear b t l;go_wp2_with (with_reducible first|refine au 107 rfl ?_|refine aA rfl ?_|refine ai 107 rfl ?_)
    refine bZ rfl 107 _ rfl g (k*3) rfl kZ 3 eZ _ _ hg (cg f.set f.path f.content) r rfl ?_;clear r hg;go_wp2_with (with_reducible first|refine aA rfl ?_|refine ai 107 rfl ?_);refine bj rfl 107 rfl yE lP ?_;intro w4 R l5 f4 r5;go_wp2_with (with_reducible first|refine aA rfl ?_|refine ai 107 rfl ?_)
    refine bQ rfl 107 _ _ rfl _ 0 rfl _ rfl 3 eZ ?_ ?_ _ _ r5 ?_ ?_
    .rfl
    .simp[cg,Value.oneCell']
    .decide
    intro Y f5 q5;rw[bL _ _ (by rfl)] at q5;have U:Row Y R (cg f.set f.path f.content).toArray 107:=q5;have z:=f4.trans f5 (by simpa using l5);have N:=O.trans z;have Z:=z.owns J;have c0:Y.cell? ⟨R,0,none⟩=some (.int .i64 f.set):=by rw[U.cell];rfl
    have c1:Y.cell? ⟨R,1,none⟩=some (.string (aD f.path)):=by rw[U.cell];rfl
    clear q5 r5 f4 f5 z O J l5 G U
    by_cases M:f.set=a
    .have S:Hid (bK (fs.take (k+1)) a=o++[f.path]):=by show _=_;rw[q.out,φ M]
     rw[M] at c0;clear q M;go_wp2_with (with_reducible first|refine bV rfl ?_|refine bW rfl ?_);refine iu rfl 45 9 1 16 jL _ rfl (.string (aD f.path)) rfl rfl ?_;intro w8 b8 l8 L r8;go_wp2_with (with_reducible first|refine bV rfl ?_|refine bW rfl ?_);have CA:=L.owns Z
     have p:C.heap.size<=w8.heap.size:=by have:=N.size;have:=L.size;omega
     refine ja rfl 45 9 1 16 jL _ _ rfl C.heap.size u6 _ _ rfl CA b8 1 1 [.string (aD f.path)] rfl _ _ r8 rfl rfl (by simp[Value.oneCell']) ϖ ϖ ϖ p ?_;intro g' ab w9 IS f9 _;have Qp:=(N.trans L).trans f9 (by intro j B;right;simp at B;exact(CA.lt j B).1);clear Z CA r8 L f9 l8 N p c0 c1;go_wp2
     go_roundw
     case rel=>
      refine⟨k+1,by go_num,ϖ,Qp,?_⟩;rw[S.out];simpa [hU,aD] using IS
     case measure=>simp[intOf];omega
    .have S:Hid (bK (fs.take (k+1)) a=o):=by show _=_;rw[q.out,ζ M]
     have ag:((f.set:Int)==(a:Int))=false:=by rw[ac3];omega
     clear q;go_wp2
     go_roundw
     case rel=>exact⟨k+1,by go_num,ϖ,N,by rw[S.out];exact Z⟩
     case measure=>simp[intOf];omega
   .rw[θ ϖ] at J
    have X:=y8 fs a;have fw:aQ [] P wr:=fa.trans O;generalize I:bK fs a=o at*;have D:Hid (bK fs a=o):=I;clear I;rcases J.2 with⟨rfl,h0⟩|⟨g,c,y,rfl,hgb,hgh,hnc,_,t,l⟩
    .have aa:o=[]:=ϔ4.1 h0
     subst aa;go_wp2_with fail;refine(Tryz.slices_Sort_string_none none 0 wr).mono ?_;rintro e W ⟨rfl,rfl⟩;go_wp2_with fail
     all_goals
      go_ret2
      exact⟨⟨none,0,by rw[E.out,D.out];rfl⟩,fw⟩
    .have K:g<wr.heap.size:=(Ψ.1 hgh).1
     have hH:Holds encStr wr g 0 o.toArray:=λj B=>by
      have Q:j<o.length:=by simpa using B
      refine⟨?_,Lib.frozen_of_heap hgh _⟩;rw[Lib.cell_of_heap hgh];have h1:(y.toList.take (o.length*1))[j]? =(hU o)[j]? :=by rw[l]
      rw[List.getElem?_take_of_lt ϖ] at h1;rw[ϓ9,<-al1,h1,getElem!_pos o.toArray j B];simp[hU,Q]
     clear J t l hgh;go_wp2_with fail;refine(Tryz.slices_Sort_string g 0 c o wr hH K ϖ).mono ?_;rintro e W ⟨rfl,m,os,R6⟩;have f6:aQ [g] wr W:=by
      rw[R6];exact(((rN wr m).mono (T:=[g]) ϛ).trans (po encStr _ g 0 _) (λi hi=> .inl hi)).trans (z4 ..)
     have tB:aQ [] P W:=fw.trans f6 (by simp;omega);clear R6 hH f6;go_wp2_with fail
     all_goals
      go_ret2
      exact⟨⟨some ⟨g,0,none⟩,c,by rw[E.out,D.out];rfl⟩,tB⟩
end
end
end Go.Proofs.YtchcmhodnkgojaaGreat
