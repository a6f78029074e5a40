/- On the way to the last text; put together and shortened by program. -/
import Derived.Test.YtchcmhodnkgojaaGreatPart8
set_option linter.all false
set_option maxRecDepth 100000
set_option maxHeartbeats 8000000
namespace Go.Proofs.YtchcmhodnkgojaaGreat
noncomputable section
section
open Go.Conc
open Go.ConcM (OsLater)
namespace aG
def OT (g:Ω):Ω:=A2 PP true 200 g
def OTn (n:Nat)(g:Ω):Ω:=A2 PP true n g
theorem bA {g:Ω}(h:∀ws:Nat->Θ,yz PP true 200 g ws=some (OT g,(List.range (bT PP true 200 g)).map ws)):au PP true g (OT g):=⟨200,_,h⟩
theorem bO {g g':Ω}(n m:Nat)(h:∀ws:Nat->Θ,yz PP true n g ws=some (g',(List.range m).map ws)):au PP true g g':=⟨n,m,h⟩
abbrev KO:η:=219
abbrev TWg:η:=225
def fd0 (M:Nat):Φ:= .agg #[.int .i32 0,.int .u32 0,.map (some M)]
section
variable (W F bw bf bd bs bs' M:Nat)(dv f:Φ)(fr:κ)(cs:List κ)(x:Int)(y:Nat->Φ)
def V2:Ω:=Nf 162 #[pb W,.int .i64 1] 115 fr cs
def ZR:Ω:=OT (V2 W fr cs)
theorem LB:au PP true (V2 W fr cs) (ZR W fr cs):=bA λws=>by kernel_rfl
theorem vC:aF (ZR W fr cs)=some (168,#[]):=by kernel_rfl
def sA2:Ω:=OT (resume (ZR W fr cs) U)
theorem LA:au PP true (resume (ZR W fr cs) U) (sA2 W fr cs):=bA λws=>by kernel_rfl
theorem GV:aF (sA2 W fr cs)=some (176,#[]):=by kernel_rfl
def ZQ:Ω:=OT (resume (sA2 W fr cs) (.bool false))
theorem Lz:au PP true (resume (sA2 W fr cs) (.bool false)) (ZQ W fr cs):=bA λws=>by kernel_rfl
theorem vB:aF (ZQ W fr cs)=some (213,#[pb W,.int .u64 4294967296]):=by kernel_rfl
def OY:Ω:=OT (resume (ZQ W fr cs) (.int .u64 4294967296))
theorem Ly:au PP true (resume (ZQ W fr cs) (.int .u64 4294967296)) (OY W fr cs):=bA λws=>by kernel_rfl
theorem Lx:aT (OY W fr cs)=some (.conv (zh (OY 0 default [])) (Ai (OY 0 default [])) (qv W)):=by kernel_rfl
theorem S6:PP.underlying (zh (OY 0 default []))=some (.pointer (Ah (OY 0 default []))):=by kernel_rfl
theorem S7:PP.underlying (Ai (OY 0 default []))=some .unsafePointer:=by kernel_rfl
theorem S5:(PP.info? (Ah (OY 0 default []))).map (λi=>decide (i.size=0))=some false:=by kernel_rfl
def ZP:Ω:=OT (resume (OY W fr cs) (qv W))
theorem Lw:au PP true (resume (OY W fr cs) (qv W)) (ZP W fr cs):=bA λws=>by kernel_rfl
theorem AO:aF (ZP W fr cs)=some (198,#[qv W]):=by kernel_rfl
def sA6:Ω:=OT (resume (ZP W fr cs) U)
theorem Lv:au PP true (resume (ZP W fr cs) U) (sA6 W fr cs):=bA λws=>by kernel_rfl
theorem Lu:iu (sA6 W fr cs)=some (170,#[]):=by kernel_rfl
theorem GU:au PP true (dc (sA6 W fr cs)) (cG fr cs U):=bO 1 (bT PP true 1 (dc (sA6 W fr cs))) λws=>by kernel_rfl
def sA7:Ω:=OT (resume (ZQ W fr cs) (.int .u64 8589934592))
theorem V1:au PP true (resume (ZQ W fr cs) (.int .u64 8589934592)) (sA7 W fr cs):=bA λws=>by kernel_rfl
theorem V0:iu (sA7 W fr cs)=some (170,#[]):=by kernel_rfl
theorem P0:au PP true (dc (sA7 W fr cs)) (cG fr cs U):=bO 1 (bT PP true 1 (dc (sA7 W fr cs))) λws=>by kernel_rfl
def ZN:Ω:=Nf 130 #[pb W,f] 5 fr cs
def sG1:Ω:=OT (ZN W f fr cs)
theorem VF:au PP true (ZN W f fr cs) (sG1 W f fr cs):=bA λws=>by kernel_rfl
theorem VE:aT (sG1 W f fr cs)=some (.box 249 (pb W)):=by kernel_rfl
def sG2:Ω:=OT (resume (sG1 W f fr cs) (pb bw))
theorem VD:au PP true (resume (sG1 W f fr cs) (pb bw)) (sG2 W bw f fr cs):=bA λws=>by kernel_rfl
theorem VC:aT (sG2 W bw f fr cs)=some (.box 1 f):=by kernel_rfl
def sG3:Ω:=OT (resume (sG2 W bw f fr cs) (pb bf))
theorem VB:au PP true (resume (sG2 W bw f fr cs) (pb bf)) (sG3 W bw bf f fr cs):=bA λws=>by kernel_rfl
theorem Vy:aT (sG3 W bw bf f fr cs)=some (.load 249 (pb bw)):=by kernel_rfl
def fG:κ:=(OTn 1 (resume (sG3 W bw bf f fr cs) (pb W))).callers.head?.getD default
theorem Vz:au PP true (resume (sG3 W bw bf f fr cs) (pb W)) (V2 W (fG W bw bf f fr cs) (fr::cs)):=bO 1 (bT PP true 1 (resume (sG3 W bw bf f fr cs) (pb W))) λws=>by kernel_rfl
def Vx:Ω:=OT (cG (fG W bw bf f fr cs) (fr::cs) U)
theorem Vw:au PP true (cG (fG W bw bf f fr cs) (fr::cs) U) (Vx W bw bf f fr cs):=bA λws=>by kernel_rfl
theorem PY:au PP true (resume (Vx W bw bf f fr cs) undef) (cG fr cs U):=bO 3 (bT PP true 3 (resume (Vx W bw bf f fr cs) undef)) λws=>by kernel_rfl
def sT0:Ω:=Nf 88 #[dv] 16 fr cs
def sT1:Ω:=OT (sT0 dv fr cs)
theorem UZ:au PP true (sT0 dv fr cs) (sT1 dv fr cs):=bA λws=>by kernel_rfl
theorem UY:aT (sT1 dv fr cs)=some (.box 94 dv):=by kernel_rfl
def sT2:Ω:=OT (resume (sT1 dv fr cs) (pb bd))
theorem UX:au PP true (resume (sT1 dv fr cs) (pb bd)) (sT2 bd dv fr cs):=bA λws=>by kernel_rfl
theorem UW:aT (sT2 bd dv fr cs)=some (.makeMap TM):=by kernel_rfl
def sT3:Ω:=OT (resume (sT2 bd dv fr cs) (.map (some M)))
theorem UV:au PP true (resume (sT2 bd dv fr cs) (.map (some M))) (sT3 bd M dv fr cs):=bA λws=>by kernel_rfl
theorem UU:aT (sT3 bd M dv fr cs)=some (.build KO #[(1,.map (some M))]):=by kernel_rfl
def sT4:Ω:=OT (resume (sT3 bd M dv fr cs) (fd0 M))
theorem UT:au PP true (resume (sT3 bd M dv fr cs) (fd0 M)) (sT4 bd M dv fr cs):=bA λws=>by kernel_rfl
theorem US:aT (sT4 bd M dv fr cs)=some (.alloc KO):=by kernel_rfl
def sT5:Ω:=OT (resume (sT4 bd M dv fr cs) (pb F))
theorem UR:au PP true (resume (sT4 bd M dv fr cs) (pb F)) (sT5 F bd M dv fr cs):=bA λws=>by kernel_rfl
theorem UQ:aT (sT5 F bd M dv fr cs)=some (.store KO (pb F) (fd0 M)):=by kernel_rfl
def ZM:Ω:=OT (resume (sT5 F bd M dv fr cs) undef)
theorem UP:au PP true (resume (sT5 F bd M dv fr cs) undef) (ZM F bd M dv fr cs):=bA λws=>by kernel_rfl
theorem UO:aT (ZM F bd M dv fr cs)=some (.alloc TWg):=by kernel_rfl
def sT7:Ω:=OT (resume (ZM F bd M dv fr cs) (pb W))
theorem UN:au PP true (resume (ZM F bd M dv fr cs) (pb W)) (sT7 W F bd M dv fr cs):=bA λws=>by kernel_rfl
theorem UM:aT (sT7 W F bd M dv fr cs)=some (.alloc 3):=by kernel_rfl
def sT8:Ω:=OT (resume (sT7 W F bd M dv fr cs) (pb bs))
theorem UL:au PP true (resume (sT7 W F bd M dv fr cs) (pb bs)) (sT8 W F bd bs M dv fr cs):=bA λws=>by kernel_rfl
theorem UJ:aT (sT8 W F bd bs M dv fr cs)=some (.store 3 (pb bs) (.int .i64 0)):=by kernel_rfl
def fT1:κ:=(OTn 4 (resume (sT8 W F bd bs M dv fr cs) undef)).callers.head?.getD default
theorem UK:au PP true (resume (sT8 W F bd bs M dv fr cs) undef) (ZN W (qB F bd bs) (fT1 W F bd bs M dv fr cs) (fr::cs)):=bO 4 (bT PP true 4 (resume (sT8 W F bd bs M dv fr cs) undef)) λws=>by kernel_rfl
def sS7:Ω:=OT (cG (fT1 W F bd bs M dv fr cs) (fr::cs) U)
theorem U5:au PP true (cG (fT1 W F bd bs M dv fr cs) (fr::cs) U) (sS7 W F bd bs M dv fr cs):=bA λws=>by kernel_rfl
theorem U4:aT (sS7 W F bd bs M dv fr cs)=some (.alloc 3):=by kernel_rfl
def sS8:Ω:=OT (resume (sS7 W F bd bs M dv fr cs) (pb bs'))
theorem U3:au PP true (resume (sS7 W F bd bs M dv fr cs) (pb bs')) (sS8 W F bd bs bs' M dv fr cs):=bA λws=>by kernel_rfl
theorem U1:aT (sS8 W F bd bs bs' M dv fr cs)=some (.store 3 (pb bs') (.int .i64 1)):=by kernel_rfl
def fT2:κ:=(OTn 4 (resume (sS8 W F bd bs bs' M dv fr cs) undef)).callers.head?.getD default
theorem U2:au PP true (resume (sS8 W F bd bs bs' M dv fr cs) undef) (ZN W (qB F bd bs') (fT2 W F bd bs bs' M dv fr cs) (fr::cs)):=bO 4 (bT PP true 4 (resume (sS8 W F bd bs bs' M dv fr cs) undef)) λws=>by kernel_rfl
def sW0:Ω:=Nf 133 #[pb W] 83 fr cs
def fT3:κ:=(OTn 17 (cG (fT2 W F bd bs bs' M dv fr cs) (fr::cs) U)).callers.head?.getD default
theorem U0:au PP true (cG (fT2 W F bd bs bs' M dv fr cs) (fr::cs) U) (sW0 W (fT3 W F bd bs bs' M dv fr cs) (fr::cs)):=bO 17 (bT PP true 17 (cG (fT2 W F bd bs bs' M dv fr cs) (fr::cs) U)) λws=>by kernel_rfl
def I2:Ω:=OT (sW0 W fr cs)
theorem EY:au PP true (sW0 W fr cs) (I2 W fr cs):=bA λws=>by kernel_rfl
theorem GR:aF (I2 W fr cs)=some (168,#[]):=by kernel_rfl
end
def aaK:List Item:=match(OT (resume (I2 0 default []) U)).callers with|f::_=>f.todo|[]=>[]
def agN (W:Nat):κ:=(OT (resume (I2 W default []) U)).frame
def sH (W:Nat)(tm:Array Φ)(fr:κ)(cs:List κ):Ω:=G (agN W) ((base 133).at ⟨tm,[]⟩ aaK::fr::cs)
structure HW (W:Nat)(tm:Array Φ):Prop where
 size:tm.size=84
 s0:tm[0]? =some (pb W)
def tmW (W:Nat)(y:Nat->Φ):Array Φ:=#[pb W,y 1,y 2,y 3,y 4,y 5,y 6,y 7,y 8,y 9,y 10,y 11,y 12,y 13,y 14,y 15,y 16,y 17,y 18,y 19,y 20,y 21,y 22,y 23,y 24,y 25,y 26,y 27,y 28,y 29,y 30,y 31,y 32,y 33,y 34,y 35,y 36,y 37,y 38,y 39,y 40,y 41,y 42,y 43,y 44,y 45,y 46,y 47,y 48,y 49,y 50,y 51,y 52,y 53,y 54,y 55,y 56,y 57,y 58,y 59,y 60,y 61,y 62,y 63,y 64,y 65,y 66,y 67,y 68,y 69,y 70,y 71,y 72,y 73,y 74,y 75,y 76,y 77,y 78,y 79,y 80,y 81,y 82,y 83]
theorem PA (tm:Array Φ)(h:tm.size=84):tm=#[tm.getD 0 undef,tm.getD 1 undef,tm.getD 2 undef,tm.getD 3 undef,tm.getD 4 undef,tm.getD 5 undef,tm.getD 6 undef,tm.getD 7 undef,tm.getD 8 undef,tm.getD 9 undef,tm.getD 10 undef,tm.getD 11 undef,tm.getD 12 undef,tm.getD 13 undef,tm.getD 14 undef,tm.getD 15 undef,tm.getD 16 undef,tm.getD 17 undef,tm.getD 18 undef,tm.getD 19 undef,tm.getD 20 undef,tm.getD 21 undef,tm.getD 22 undef,tm.getD 23 undef,tm.getD 24 undef,tm.getD 25 undef,tm.getD 26 undef,tm.getD 27 undef,tm.getD 28 undef,tm.getD 29 undef,tm.getD 30 undef,tm.getD 31 undef,tm.getD 32 undef,tm.getD 33 undef,tm.getD 34 undef,tm.getD 35 undef,tm.getD 36 undef,tm.getD 37 undef,tm.getD 38 undef,tm.getD 39 undef,tm.getD 40 undef,tm.getD 41 undef,tm.getD 42 undef,tm.getD 43 undef,tm.getD 44 undef,tm.getD 45 undef,tm.getD 46 undef,tm.getD 47 undef,tm.getD 48 undef,tm.getD 49 undef,tm.getD 50 undef,tm.getD 51 undef,tm.getD 52 undef,tm.getD 53 undef,tm.getD 54 undef,tm.getD 55 undef,tm.getD 56 undef,tm.getD 57 undef,tm.getD 58 undef,tm.getD 59 undef,tm.getD 60 undef,tm.getD 61 undef,tm.getD 62 undef,tm.getD 63 undef,tm.getD 64 undef,tm.getD 65 undef,tm.getD 66 undef,tm.getD 67 undef,tm.getD 68 undef,tm.getD 69 undef,tm.getD 70 undef,tm.getD 71 undef,tm.getD 72 undef,tm.getD 73 undef,tm.getD 74 undef,tm.getD 75 undef,tm.getD 76 undef,tm.getD 77 undef,tm.getD 78 undef,tm.getD 79 undef,tm.getD 80 undef,tm.getD 81 undef,tm.getD 82 undef,tm.getD 83 undef]:=by
 have e:tm=((List.range 84).map λi=>tm.getD i undef).toArray:=by
  apply Array.ext
  .simp[h]
  .intro i h1 h2
   simp[ac3,h1]
 exact e.trans (by kernel_rfl)
theorem HW.eq {W:Nat}{tm:Array Φ}(h:HW W tm):tm=tmW W λi=>tm.getD i undef:=by
 have h1:=PA tm h.size;rw[cq h.s0] at h1;exact h1
section
variable (W:Nat)(fr:κ)(cs:List κ)(y:Nat->Φ)
theorem Va:∃tm,HW W tm/\au PP true (resume (I2 W fr cs) U) (sH W tm fr cs):=⟨match(OT (resume (I2 W fr cs) U)).callers with|f::_=>f.tmps|[]=>#[],⟨by kernel_rfl,by kernel_rfl⟩,bO 200 (bT PP true 200 (resume (I2 W fr cs) U)) λws=>by kernel_rfl⟩
abbrev sh:Ω:=sH W (tmW W y) fr cs
theorem S2:aF (sh W fr cs y)=some (203,#[pb W]):=by kernel_rfl
def sE:Ω:=OT (resume (sh W fr cs y) (.int .u64 0))
theorem abe:au PP true (resume (sh W fr cs y) (.int .u64 0)) (sE W fr cs y):=bA λws=>by kernel_rfl
theorem abd:aF (sE W fr cs y)=some (170,#[]):=by kernel_rfl
def OV:Ω:=OT (resume (sE W fr cs y) U)
theorem VN:au PP true (resume (sE W fr cs y) U) (OV W fr cs y):=bA λws=>by kernel_rfl
theorem VM:aT (OV W fr cs y)=some (.conv (zh (OV 0 default [] λ_=>undef)) (Ai (OV 0 default [] λ_=>undef)) (pb W)):=by kernel_rfl
theorem abg:PP.underlying (zh (OV 0 default [] λ_=>undef))=some (.pointer (Ah (OV 0 default [] λ_=>undef))):=by kernel_rfl
theorem abh:PP.underlying (Ai (OV 0 default [] λ_=>undef))=some .unsafePointer:=by kernel_rfl
theorem abf:(PP.info? (Ah (OV 0 default [] λ_=>undef))).map (λi=>decide (i.size=0))=some false:=by kernel_rfl
def sEM:Ω:=OT (resume (OV W fr cs y) (pb W))
theorem VK:au PP true (resume (OV W fr cs y) (pb W)) (sEM W fr cs y):=bA λws=>by kernel_rfl
theorem VL:aF (sEM W fr cs y)=some (171,#[pb W]):=by kernel_rfl
theorem PZ:au PP true (resume (sEM W fr cs y) U) (cG fr cs U):=bO 20 (bT PP true 20 (resume (sEM W fr cs y) U)) λws=>by kernel_rfl
def VZ:Ω:=OT (resume (sh W fr cs y) (.int .u64 4294967296))
theorem VY:au PP true (resume (sh W fr cs y) (.int .u64 4294967296)) (VZ W fr cs y):=bA λws=>by kernel_rfl
theorem AN:aF (VZ W fr cs y)=some (204,#[pb W,.int .u64 4294967296,.int .u64 4294967297]):=by kernel_rfl
theorem VX:∃tm,HW W tm/\au PP true (resume (VZ W fr cs y) (.bool false)) (sH W tm fr cs):=⟨match(OT (resume (VZ W fr cs y) (.bool false))).callers with|f::_=>f.tmps|[]=>#[],⟨by kernel_rfl,by kernel_rfl⟩,bO 200 (bT PP true 200 (resume (VZ W fr cs y) (.bool false))) λws=>by kernel_rfl⟩
def OX:Ω:=OT (resume (VZ W fr cs y) (.bool true))
theorem VS:au PP true (resume (VZ W fr cs y) (.bool true)) (OX W fr cs y):=bA λws=>by kernel_rfl
theorem VR:aT (OX W fr cs y)=some (.conv (zh (OX 0 default [] λ_=>undef)) (Ai (OX 0 default [] λ_=>undef)) (qv W)):=by kernel_rfl
theorem abm:PP.underlying (zh (OX 0 default [] λ_=>undef))=some (.pointer (Ah (OX 0 default [] λ_=>undef))):=by kernel_rfl
theorem abn:PP.underlying (Ai (OX 0 default [] λ_=>undef))=some .unsafePointer:=by kernel_rfl
theorem abl:(PP.info? (Ah (OX 0 default [] λ_=>undef))).map (λi=>decide (i.size=0))=some false:=by kernel_rfl
def sFk:Ω:=OT (resume (OX W fr cs y) (qv W))
theorem VJ:au PP true (resume (OX W fr cs y) (qv W)) (sFk W fr cs y):=bA λws=>by kernel_rfl
theorem VI:aF (sFk W fr cs y)=some (175,#[qv W]):=by kernel_rfl
def sIk:Ω:=OT (resume (sFk W fr cs y) U)
theorem Vu:au PP true (resume (sFk W fr cs y) U) (sIk W fr cs y):=bA λws=>by kernel_rfl
theorem PX:aF (sIk W fr cs y)=some (177,#[qv W,.bool false]):=by kernel_rfl
def sJk:Ω:=OT (resume (sIk W fr cs y) U)
theorem Vs:au PP true (resume (sIk W fr cs y) U) (sJk W fr cs y):=bA λws=>by kernel_rfl
theorem Vr:aF (sJk W fr cs y)=some (203,#[pb W]):=by kernel_rfl
def sKk:Ω:=OT (resume (sJk W fr cs y) (.int .u64 0))
theorem Vh:au PP true (resume (sJk W fr cs y) (.int .u64 0)) (sKk W fr cs y):=bA λws=>by kernel_rfl
theorem Vg:aF (sKk W fr cs y)=some (170,#[]):=by kernel_rfl
def yQ:Ω:=OT (resume (sKk W fr cs y) U)
theorem PV:au PP true (resume (sKk W fr cs y) U) (yQ W fr cs y):=bA λws=>by kernel_rfl
theorem PU:aT (yQ W fr cs y)=some (.conv (zh (yQ 0 default [] λ_=>undef)) (Ai (yQ 0 default [] λ_=>undef)) (pb W)):=by kernel_rfl
theorem Vj:PP.underlying (zh (yQ 0 default [] λ_=>undef))=some (.pointer (Ah (yQ 0 default [] λ_=>undef))):=by kernel_rfl
theorem Vk:PP.underlying (Ai (yQ 0 default [] λ_=>undef))=some .unsafePointer:=by kernel_rfl
theorem Vi:(PP.info? (Ah (yQ 0 default [] λ_=>undef))).map (λi=>decide (i.size=0))=some false:=by kernel_rfl
def PT:Ω:=OT (resume (yQ W fr cs y) (pb W))
theorem PR:au PP true (resume (yQ W fr cs y) (pb W)) (PT W fr cs y):=bA λws=>by kernel_rfl
theorem PS:aF (PT W fr cs y)=some (171,#[pb W]):=by kernel_rfl
theorem Lp:au PP true (resume (PT W fr cs y) U) (cG fr cs U):=bO 10 (bT PP true 10 (resume (PT W fr cs y) U)) λws=>by kernel_rfl
def VW:Ω:=OT (resume (sh W fr cs y) (.int .u64 8589934592))
theorem VU:au PP true (resume (sh W fr cs y) (.int .u64 8589934592)) (VW W fr cs y):=bA λws=>by kernel_rfl
theorem AM:aF (VW W fr cs y)=some (204,#[pb W,.int .u64 8589934592,.int .u64 8589934593]):=by kernel_rfl
theorem VT:∃tm,HW W tm/\au PP true (resume (VW W fr cs y) (.bool false)) (sH W tm fr cs):=⟨match(OT (resume (VW W fr cs y) (.bool false))).callers with|f::_=>f.tmps|[]=>#[],⟨by kernel_rfl,by kernel_rfl⟩,bO 200 (bT PP true 200 (resume (VW W fr cs y) (.bool false))) λws=>by kernel_rfl⟩
def OW:Ω:=OT (resume (VW W fr cs y) (.bool true))
theorem VQ:au PP true (resume (VW W fr cs y) (.bool true)) (OW W fr cs y):=bA λws=>by kernel_rfl
theorem VP:aT (OW W fr cs y)=some (.conv (zh (OW 0 default [] λ_=>undef)) (Ai (OW 0 default [] λ_=>undef)) (qv W)):=by kernel_rfl
theorem abj:PP.underlying (zh (OW 0 default [] λ_=>undef))=some (.pointer (Ah (OW 0 default [] λ_=>undef))):=by kernel_rfl
theorem abk:PP.underlying (Ai (OW 0 default [] λ_=>undef))=some .unsafePointer:=by kernel_rfl
theorem abi:(PP.info? (Ah (OW 0 default [] λ_=>undef))).map (λi=>decide (i.size=0))=some false:=by kernel_rfl
def sFl:Ω:=OT (resume (OW W fr cs y) (qv W))
theorem VH:au PP true (resume (OW W fr cs y) (qv W)) (sFl W fr cs y):=bA λws=>by kernel_rfl
theorem VG:aF (sFl W fr cs y)=some (175,#[qv W]):=by kernel_rfl
def sIl:Ω:=OT (resume (sFl W fr cs y) U)
theorem Vt:au PP true (resume (sFl W fr cs y) U) (sIl W fr cs y):=bA λws=>by kernel_rfl
theorem PW:aF (sIl W fr cs y)=some (177,#[qv W,.bool false]):=by kernel_rfl
def sJl:Ω:=OT (resume (sIl W fr cs y) U)
theorem Vq:au PP true (resume (sIl W fr cs y) U) (sJl W fr cs y):=bA λws=>by kernel_rfl
theorem Vp:aF (sJl W fr cs y)=some (203,#[pb W]):=by kernel_rfl
def sKl:Ω:=OT (resume (sJl W fr cs y) (.int .u64 0))
theorem Vc:au PP true (resume (sJl W fr cs y) (.int .u64 0)) (sKl W fr cs y):=bA λws=>by kernel_rfl
theorem Vb:aF (sKl W fr cs y)=some (170,#[]):=by kernel_rfl
def yP:Ω:=OT (resume (sKl W fr cs y) U)
theorem PO:au PP true (resume (sKl W fr cs y) U) (yP W fr cs y):=bA λws=>by kernel_rfl
theorem PN:aT (yP W fr cs y)=some (.conv (zh (yP 0 default [] λ_=>undef)) (Ai (yP 0 default [] λ_=>undef)) (pb W)):=by kernel_rfl
theorem Ve:PP.underlying (zh (yP 0 default [] λ_=>undef))=some (.pointer (Ah (yP 0 default [] λ_=>undef))):=by kernel_rfl
theorem Vf:PP.underlying (Ai (yP 0 default [] λ_=>undef))=some .unsafePointer:=by kernel_rfl
theorem Vd:(PP.info? (Ah (yP 0 default [] λ_=>undef))).map (λi=>decide (i.size=0))=some false:=by kernel_rfl
def PM:Ω:=OT (resume (yP W fr cs y) (pb W))
theorem PK:au PP true (resume (yP W fr cs y) (pb W)) (PM W fr cs y):=bA λws=>by kernel_rfl
theorem PL:aF (PM W fr cs y)=some (171,#[pb W]):=by kernel_rfl
theorem Ln:au PP true (resume (PM W fr cs y) U) (cG fr cs U):=bO 10 (bT PP true 10 (resume (PM W fr cs y) U)) λws=>by kernel_rfl
end
theorem xRd:Ext PP 198 Tryz.f198:=⟨Tryz.func198,by kernel_rfl,by kernel_rfl,by kernel_rfl⟩
theorem fRd:Extern.find Tryz.f198=some (Extern.Race.marked .read):=by kernel_rfl
theorem xWr:Ext PP 175 Tryz.f175:=⟨Tryz.func175,by kernel_rfl,by kernel_rfl,by kernel_rfl⟩
theorem fWr:Extern.find Tryz.f175=some (Extern.Race.marked .write):=by kernel_rfl
theorem GF:Ext PP 204 Tryz.f204:=⟨Tryz.func204,by kernel_rfl,by kernel_rfl,by kernel_rfl⟩
theorem HU:Extern.find Tryz.f204=some (Extern.Atomic.casT (.int .u64)):=by kernel_rfl
theorem SO:Ext PP 177 Tryz.f177:=⟨Tryz.func177,by kernel_rfl,by kernel_rfl,by kernel_rfl⟩
theorem Vv (W bw bf:Nat)(f:Φ)(fr:κ)(cs:List κ)(w:Θ):stepG PP true (Vx W bw bf f fr cs) w= .spawn (resume (Vx W bw bf f fr cs) undef) (Z6 bw bf) w #[]:=by kernel_rfl
theorem GS (W bw bf:Nat)(f:Φ)(fr:κ)(cs:List κ):(Vx W bw bf f fr cs).status= .running/\(Vx W bw bf f fr cs).offers=none:=⟨by kernel_rfl,by kernel_rfl⟩
theorem TJ:Extern.find Tryz.f177=some Extern.Sync.semacquire:=by kernel_rfl
section
variable {P:ω}{main:Bool}{g:Ω}{f:aa9}{fn:Func}{w:Θ}
theorem IF (X:Ext P f fn)(he:Extern.find fn=some Extern.Sync.semacquire){ad:Addr}{n:Int}{u:Φ}(h:aF g=some (f,#[.pointer (some ad),u]))(hc:w.cell? ad=some (.int .u32 n))(hn:n≠0)(hz:w.frozen? ad=false):
  stepG P main g w= .go (resume g (.tuple #[])) (w.setCell ad (.int .u32 (n-1))) (semEvents ad):=by
 obtain⟨b,a,ops,i,rest,kk,cs,o,xs,ats,rfl,h2,h3,h4,h5,h6,h7⟩:=cX h;rw[h7];exact stepG_semacquire h2 h3 h4 h5 X.at_ X.name X.body X.next he (by rw[h6];rfl) hc hn hz
theorem EI (X:Ext P f fn)(he:Extern.find fn=some Extern.Sync.semacquire){ad:Addr}{u:Φ}(h:aF g=some (f,#[.pointer (some ad),u]))(hc:w.cell? ad=some (.int .u32 0)):
  stepG P main g w= .go {g with status:= .blocked} w #[]:=by
 obtain⟨b,a,ops,i,rest,kk,cs,o,xs,ats,rfl,h2,h3,h4,h5,h6,h7⟩:=cX h;exact stepG_semacquire_wait h2 h3 h5 X.at_ X.name X.body X.next he (by rw[h6];rfl) hc
end
section
variable {Δ:Type}{X:Cx Δ}{ro own:Nat->Prop}{Stop:(Nat->Prop)->Ω->Θ->Prop}{g:Ω}{w:Θ}{deaf:Bool}
theorem lL {s d t:η}{a:Addr}(h:aT g=some (.conv s d (.pointer (some a))))(h1:PP.underlying s=some (.pointer t))(h2:PP.underlying d=some .unsafePointer)
  (h3:(PP.info? t).map (λi=>decide (i.size=0))=some false) (hc:∀w₁,RX X ro own w w₁->∃v,w₁.cell? a=some v) (k:aD PP true (fq X deaf ro) Stop own (resume g (.pointer (some a))) w):aD PP true (fq X deaf ro) Stop own g w:=by
 refine aD.step (cY h).1 λw₁ hr=>?_
 obtain⟨v,hv⟩:=hc w₁ hr;obtain⟨es,e1,e2⟩:=mY (P:=PP) (main:=true) (w:=w₁) (w':=w₁) (x:= .pointer (some a)) h (by simp only[lu.sem,Sem.run_bind,run_convert_to_unsafe h1 h2 h3 hv];rfl);have e3:es=#[]:=Array.eq_empty_iff_forall_not_mem.2 λe he=>by
  have:=e2 e he;simp only[lu.sem,Sem.events_bind,run_convert_to_unsafe h1 h2 h3 hv,events_convert_to_unsafe h1 h2 h3 hv] at this;simp at this
 subst e3;refine⟨_,w₁,#[],e1,(jO deaf ro own w₁).1,?_⟩;have:=(jO (X:=X) deaf ro own w₁).2;rw[this];exact k.rely hr
theorem uG {f:aa9}{fn:Func}(hX:Ext PP f fn){v:Φ}(he:Extern.find fn=some (λ_=>pure v)){args:Array Φ}(hc:aF g=some (f,args))(go:aD PP true (fq X deaf ro) Stop own (resume g v) w):aD PP true (fq X deaf ro) Stop own g w:=by
 refine aD.step (aV hc).1 λw₁ hr=>⟨_,w₁,#[],zD hX v he hc,(jO _ _ own w₁).1,?_⟩
 have:=(jO (X:=X) deaf ro own w₁).2;rw[this];exact go.rely hr
theorem Du {t:η}{a:Addr}{v:Φ}(h:aT g=some (.load t (.pointer (some a))))(ha:(PP.underlying t).map (λd=>match d with|.struct _|.array _ _=>true|_=>false)=some false)(hb:own a.block\/ro a.block)(hc:w.cell? a=some v)
  (k:∀w',RX X ro own w w'->aD PP true (fq X false ro) Stop own (resume g v) w'):aD PP true (fq X false ro) Stop own g w:=by
 refine de h (x:=v) (λw₁ hr=>?_) k;have hlt:a.block<w.heap.size:=by
  unfold World.cell? at hc;cases hh:w.heap[a.block]? with
  |none=>rw[hh] at hc;simp at hc
  |some o=>exact lt_of_some hh
 have hc1:w₁.cell? a=some v:=by
  unfold World.cell? at hc⊢;rw[hr.keep a.block hlt hb];exact hc
 refine⟨w₁,#[⟨.cell a,false,false⟩],RT.eN (x:=v) ?_ (.pure _),rfl,rfl,rfl,rfl,λe he=>⟨a.block,by simp at he;subst he;exact iX rfl,hb.imp id λh=>⟨h,by simp at he;subst he;rfl⟩⟩⟩;show RT (do if<-isAgg t then Pure.pure (.agg (<-loadCells a (<-Go.sizeOf t))) else load a) _ _ _ _;refine(ib ha).aS ?_;simp only[ι,if_false];exact kh hc1
end
section
variable {Δ:Type}{X:Cx Δ}{Post:Gh Δ->Ω->Θ->Prop}{γ:Gh Δ}{k:Nat}{T T':Lo}{g:Ω}{w:Θ}
abbrev LS (X:Cx Δ)(Post:Gh Δ->Ω->Θ->Prop)(γ:Gh Δ)(k:Nat)(T:Lo)(g:Ω)(w:Θ):Prop:=aD PP true (fq X (eQ T.pc) γ.ro) (dR (zu X PP Post k) T γ) γ.own g w
theorem lU (h:∀k' w₁,k'<k->RR X γ w w₁->ZC X PP (zu X PP Post k') .m T γ g w₁)(hg:¬(T.pc= .g1\/T.pc= .g2):=by simp)(ha:T.pc≠.aq:=by simp):LS X Post γ k T g w:=by
 cases k with
 |zero=>exact aD.stop λw₁ hr=>⟨γ.mine,λ_=>rfl,trivial⟩
 |succ k=>
  refine aD.stop λw₁ hr=>⟨γ.mine,λ_=>rfl,?_⟩
  unfold zu;rw[ζ hg,ζ ha];exact h k w₁ (by omega) hr
variable (R:Room X γ)
include R
theorem kv (hg:¬(T.pc= .g1\/T.pc= .g2))(ha:T.pc≠.aq){g':Ω}{es:Array Event}(hrun:g.status= .running/\g.offers=none)(hst:∀w,stepG PP true g w= .go g' w es)
  (hmv:∀s,mv T s=[(T',s)]) (hev:EvStop X T T' es) (h1:T.pc≠.la) (h2:T.pc≠.ur) (h3:T'.pc≠.wk) (h4:T'.pc≠.quit) (h5:T.pc≠.us) (h6:T.pc≠.d4)
  (go:∀k' w',k'<k->RR X γ w w'->LS X Post γ k' T' g' w'):LS X Post γ k T g w:=by
 refine lU (hg:=hg) (ha:=ha) λk' w₁ hk hr=>Hf (g':=g') hrun hmv h1 h2 h3 h4 h5 h6 λs hsh=>?_
 exact⟨_,_,hst w₁,hsh,.refl _,hev,go k' _ hk hr⟩
theorem aeH (hc:aF g=some (171,#[pb X.Wg]))(hP:∀w' o,RR X γ w w'->w'.heap[X.M]? =some o->X.Dat (X.fin .a) (X.fin .b) o->Post γ (resume g U) w'):LS X Post γ k (at_ .aq 0) g w:=by
 cases k with
 |zero=>exact aD.stop λw₁ hr=>⟨γ.mine,λ_=>rfl,trivial⟩
 |succ k=>
  refine aD.stop λw₁ hr=>⟨γ.mine,λ_=>rfl,?_⟩
  unfold zu;rw[ζ (by simp),χ rfl];exact⟨(aV hc).1,(aV hc).2,λo ho hD=>⟨_,fU aao .acquire aei hc,hP w₁ o hr ho hD⟩⟩
theorem Bf {gE gL gM:Ω}(live:∃s,ShAt X w s)(hen:aF gE=some (170,#[]))(g1:au PP true (resume gE U) gL){s d t:η}(hv:aT gL=some (.conv s d (pb X.Wg)))(h1:PP.underlying s=some (.pointer t))
  (h2:PP.underlying d=some .unsafePointer) (h3:(PP.info? t).map (λi=>decide (i.size=0))=some false) (g2:au PP true (resume gL (pb X.Wg)) gM) (haq:aF gM=some (171,#[pb X.Wg]))
  (hP:∀w' o,RR X γ w w'->w'.heap[X.M]? =some o->X.Dat (X.fin .a) (X.fin .b) o->Post γ (resume gM U) w'):LS X Post γ k (at_ .ke 0) gE w:=by
 refine kv R (T':=at_ .aq 0) (g':=resume gE U) (by simp) (by simp) (aV hen) (λw=>jh ZK .enable fEn hen) (by simp[mv]) (by simp[EvStop,i7,qA]) (by simp) (by simp) (by simp) (by simp) (by simp) (by simp) λk' w' hk hr=>?_
 refine aC g1 (lL hv h1 h2 h3 (λw₁ hr'=>?_) (aC g2 (aeH R haq λw'' o h=>hP w'' o (hr.trans X h))));obtain⟨s,hs⟩:=(hr.trans X hr').live live;exact⟨_,hs.Ko⟩
theorem BY {x:Int}{gD gF gI gJ gK gL gM:Ω}(live:∃s,ShAt X w s){s d t:η}(hv:aT gD=some (.conv s d (qv X.Wg)))(h1:PP.underlying s=some (.pointer t))(h2:PP.underlying d=some .unsafePointer)(h3:(PP.info? t).map (λi=>decide (i.size=0))=some false)
  (g1:au PP true (resume gD (qv X.Wg)) gF) (hwr:aF gF=some (175,#[qv X.Wg])) (g2:au PP true (resume gF U) gI) (XH:aF gI=some (177,#[qv X.Wg,.bool false]))
  (g3:au PP true (resume gI U) gJ) (hld:aF gJ=some (203,#[pb X.Wg])) (g4:au PP true (resume gJ (.int .u64 0)) gK)
  (hK:∀k' w',RR X γ w w'->LS X Post γ k' (at_ .ke 0) gK w'):LS X Post γ k (at_ .pw 0) gD w:=by
 refine lL hv h1 h2 h3 (λw₁ hr'=>?_) (aC g1 ?_)
 .obtain⟨s,hs⟩:=hr'.live live
  exact⟨_,hs.cWs⟩
 refine kv R (T':=at_ .w3 0) (g':=resume gF U) (by simp) (by simp) (aV hwr) (λw=>fU xWr .write fWr hwr) (by simp[mv]) (by simp[EvStop,i7];rfl) (by simp) (by simp) (by simp) (by simp) (by simp) (by simp) λk1 w1 hk1 hr1=>?_
 refine aC g2 (lU λk2 w2 hk2 hr2=>dg (aV XH) (by simp) (by simp) (by simp) (by simp) (λs hsh hf hn=>?_) (λs hsh hf hne=>?_))
 .have h0:s.ws=0:=by
   by_cases h:s.ws=0
   .exact h
   .simp[mv,h] at hn
  exact EI SO TJ XH (by rw[<-h0];exact hsh.cWs)
 have h0:s.ws≠0:=λh=>hne (by simp[mv,h])
 have hsh':=hsh.setWs R.ne (s.ws-1);have ef:=ConcM.Eff.set (w:=w2) (Mu:=X.Fd) (Wg:=X.Wg) (KI X) (.int .u32 (s.ws-1)) (.inr rfl);refine⟨(at_ .w4 0,{s with ws:=s.ws-1}),by simp[mv,h0],λ_=>⟨_,_,_,IF (P:=PP) (main:=true) SO TJ XH hsh.cWs h0 (hsh.OU 1),hsh',ef,Bu (ab9 R.ne) rfl,?_⟩⟩;rw[ζ (by simp)]
 refine aC g3 (lU (T:=at_ .w4 0) λk3 w3 hk3 hr3=>dg (aV hld) (by simp) (by simp) (by simp) (by simp) (λs _ hf hn=>?_) (λs hsh hf _=>?_))
 .exfalso
  by_cases h:s.wg=0<;>simp[mv,h] at hn
 by_cases h:¬s.wg=0
 .exact⟨(at_ .bad 0,s),by simp[mv,h],λq=>absurd rfl q⟩
 have h:s.wg=0:=Decidable.not_not.1 h;have st:=qN (P:=PP) (main:=true) (w:=w3) (ad:=wA X) Uh .u64 Y1 hld hsh.Ko;rw[h] at st;refine⟨(at_ .ke 0,s),by simp[mv,h],λ_=>⟨_,_,_,st,hsh,.refl _,D3 (okW R.ne) rfl,?_⟩⟩;rw[ζ (by simp)];exact aC g4 (hK k3 w3 (((hr1.trans X hr2).trans X (R.rx ef hsh')).trans X hr3))
end
section
variable {Δ:Type}{X:Cx Δ}{Post:Gh Δ->Ω->Θ->Prop}{γ:Gh Δ}{w:Θ}{fr:κ}{cs:List κ}
theorem Iy (R:Room X γ)(live:∃s,ShAt X w s)(hP:∀w' o g,RR X γ w w'->w'.heap[X.M]? =some o->X.Dat (X.fin .a) (X.fin .b) o->au PP true g (cG fr cs U)->Post γ g w'):
  ∀(k:Nat) (tm:Array Φ) (w1:Θ),RR X γ w w1->HW X.Wg tm->LS X Post γ k (at_ .w1 0) (sH X.Wg tm fr cs) w1:=by
 intro k
 induction k using Nat.strongRecOn with
 |_ k ih=>
 intro tm w1 hr1 hH;rw[hH.eq];generalize hy:(λi=>tm.getD i undef)=y;refine lU λk2 w2 hk2 hr2=>dg (aV (S2 _ _ _ _)) (by simp) (by simp) (by simp) (by simp) (λs _ hf hn=>?_) (λs hsh hf _=>?_)
 .exfalso
  rcases hf.2.2.1 with h|h|h|h|h|h<;>simp[mv,h,KKi] at hn
 have st:=qN (P:=PP) (main:=true) (w:=w2) (ad:=wA X) Uh .u64 Y1 (S2 X.Wg fr cs y) hsh.Ko;have H2:=hr1.trans X hr2;have acD:=H2.live live;have miss:∀{k3:Nat} {w3:Θ} {g:Ω},k3<k->RR X γ w w3->(∃tm,HW X.Wg tm/\au PP true g (sH X.Wg tm fr cs))->LS X Post γ k3 (at_ .w1 0) g w3:=λhk hr ⟨tm,hH,hg⟩=>aC hg (ih _ hk tm _ hr hH)
 rcases hf.2.2.1 with h|h|h|h|h|h
 .rw[h] at st
  refine⟨(at_ .ke 0,s),by simp[mv,h],λ_=>⟨_,_,_,st,hsh,.refl _,D3 (okW R.ne) rfl,?_⟩⟩;rw[ζ (by simp)];exact aC (abe _ _ _ _) (Bf R acD (abd _ _ _ _) (VN _ _ _ _) (VM _ _ _ _) abg abh abf (VK _ _ _ _) (VL _ _ _ _) λw' o hr ho hD=>hP w' o _ (H2.trans X hr) ho hD (PZ _ _ _ _))
 .exact⟨(at_ .bad 0,s),by simp[mv,h,KKi],λq=>absurd rfl q⟩
 .rw[h] at st
  refine⟨({pc:= .w2,old:=s.wg},s),by simp[mv,h,KKi],λ_=>⟨_,_,_,st,hsh,.refl _,D3 (okW R.ne) rfl,?_⟩⟩;rw[ζ (by simp)];refine aC (VY _ _ _ _) (lU (T:={pc:= .w2,old:=s.wg}) λk3 w3 hk3 hr3=>dg (aV (AN _ _ _ _)) (by simp) (by simp) (by simp) (by simp) (λs' _ hf hn=>?_) (λs' hsh' hf' _=>?_))
  .exfalso
   by_cases q:s'.wg=s.wg<;>simp[mv,q] at hn
  by_cases q:s'.wg=s.wg
  .have hs2:=hsh'.setWg R.ne 4294967297
   have ef:=ConcM.Eff.set (w:=w3) (Mu:=X.Fd) (Wg:=X.Wg) (wA X) (.int .u64 4294967297) (.inr rfl);refine⟨(at_ .pw 0,{s' with wg:=s'.wg+1}),by simp[mv,q],λ_=>⟨_,_,_,mZ (P:=PP) (main:=true) GF .u64 HU (AN _ _ _ _) (by
    have:=hsh'.Ko;rw[q,h] at this;exact this) (hsh'.OU 0),?_,ef,pq (okW R.ne) rfl,?_⟩⟩
   .rw[q,h];exact hs2
   rw[ζ (by simp)];have H3:=(H2.trans X hr3).trans X (R.rx ef hs2);refine aC (VS _ _ _ _) (BY (x:=0) R (H3.live live) (VR _ _ _ _) abm abn abl (VJ _ _ _ _) (VI _ _ _ _) (Vu _ _ _ _) (PX _ _ _ _) (Vs _ _ _ _) (Vr _ _ _ _) (Vh _ _ _ _) (gL:=default) (gM:=default) λk' w' hr=>?_)
   exact Bf R ((H3.trans X hr).live live) (Vg _ _ _ _) (PV _ _ _ _) (PU _ _ _ _) Vj Vk Vi (PR _ _ _ _) (PS _ _ _ _) λw'' o hr' ho hD=>hP w'' o _ ((H3.trans X hr).trans X hr') ho hD (Lp _ _ _ _)
  .refine⟨(at_ .w1 0,s'),by simp[mv,q],λ_=>⟨_,_,_,lZ (P:=PP) (main:=true) GF .u64 HU (AN _ _ _ _) hsh'.Ko (hsh'.OU 0) (by rw[h] at q;exact q),hsh',.refl _,D3 (okW R.ne) rfl,?_⟩⟩
   rw[ζ (by simp)];exact miss (by omega) (H2.trans X hr3) (VX _ _ _ _)
 .exact⟨(at_ .bad 0,s),by simp[mv,h,KKi],λq=>absurd rfl q⟩
 .rw[h] at st
  refine⟨({pc:= .w2,old:=s.wg},s),by simp[mv,h,KKi],λ_=>⟨_,_,_,st,hsh,.refl _,D3 (okW R.ne) rfl,?_⟩⟩;rw[ζ (by simp)];refine aC (VU _ _ _ _) (lU (T:={pc:= .w2,old:=s.wg}) λk3 w3 hk3 hr3=>dg (aV (AM _ _ _ _)) (by simp) (by simp) (by simp) (by simp) (λs' _ hf hn=>?_) (λs' hsh' hf' _=>?_))
  .exfalso
   by_cases q:s'.wg=s.wg<;>simp[mv,q] at hn
  by_cases q:s'.wg=s.wg
  .have hs2:=hsh'.setWg R.ne 8589934593
   have ef:=ConcM.Eff.set (w:=w3) (Mu:=X.Fd) (Wg:=X.Wg) (wA X) (.int .u64 8589934593) (.inr rfl);refine⟨(at_ .pw 0,{s' with wg:=s'.wg+1}),by simp[mv,q],λ_=>⟨_,_,_,mZ (P:=PP) (main:=true) GF .u64 HU (AM _ _ _ _) (by
    have:=hsh'.Ko;rw[q,h] at this;exact this) (hsh'.OU 0),?_,ef,pq (okW R.ne) rfl,?_⟩⟩
   .rw[q,h];exact hs2
   rw[ζ (by simp)];have H3:=(H2.trans X hr3).trans X (R.rx ef hs2);refine aC (VQ _ _ _ _) (BY (x:=0) R (H3.live live) (VP _ _ _ _) abj abk abi (VH _ _ _ _) (VG _ _ _ _) (Vt _ _ _ _) (PW _ _ _ _) (Vq _ _ _ _) (Vp _ _ _ _) (Vc _ _ _ _) (gL:=default) (gM:=default) λk' w' hr=>?_)
   exact Bf R ((H3.trans X hr).live live) (Vb _ _ _ _) (PO _ _ _ _) (PN _ _ _ _) Ve Vf Vd (PK _ _ _ _) (PL _ _ _ _) λw'' o hr' ho hD=>hP w'' o _ ((H3.trans X hr).trans X hr') ho hD (Ln _ _ _ _)
  .refine⟨(at_ .w1 0,s'),by simp[mv,q],λ_=>⟨_,_,_,lZ (P:=PP) (main:=true) GF .u64 HU (AM _ _ _ _) hsh'.Ko (hsh'.OU 0) (by rw[h] at q;exact q),hsh',.refl _,D3 (okW R.ne) rfl,?_⟩⟩
   rw[ζ (by simp)];exact miss (by omega) (H2.trans X hr3) (VT _ _ _ _)
 .exact⟨(at_ .bad 0,s),by simp[mv,h,KKi],λq=>absurd rfl q⟩
theorem Iz (R:Room X γ)(live:∃s,ShAt X w s)(hP:∀w' o g,RR X γ w w'->w'.heap[X.M]? =some o->X.Dat (X.fin .a) (X.fin .b) o->au PP true g (cG fr cs U)->Post γ g w'){k:Nat}:LS X Post γ k (at_ .kw 0) (sW0 X.Wg fr cs) w:=by
 refine aC (EY _ _ _) (kv R (T':=at_ .w1 0) (g':=resume (I2 X.Wg fr cs) U) (by simp) (by simp) (aV (GR _ _ _)) (λw=>jh Ip .disable JU (GR _ _ _)) (by simp[mv]) (by simp[EvStop,i7,qA]) (by simp) (by simp) (by simp) (by simp) (by simp) (by simp) λk' w' hk hr=>?_);obtain⟨tm,hH,hg⟩:=Va X.Wg fr cs
 exact aC hg (Iy R live hP k' tm w' hr hH)
end
section
variable {Δ:Type}{X:Cx Δ}{Post:Gh Δ->Ω->Θ->Prop}{γ:Gh Δ}{w:Θ}{fr:κ}{cs:List κ}{k:Nat}
theorem Ox {T T':Lo}{g adR:Ω}(R:Room X γ)(hT:(T=at_ .e1 0/\T'=at_ .g1 0)\/(T=at_ .e2 0/\T'=at_ .g2 0))(hen:iu g=some (170,#[]))(hg:au PP true (dc g) adR)
  (go:∀k' w',RR X γ w w'->LS X Post γ k' T' adR w'):LS X Post γ k T g w:=by
 rcases hT with⟨rfl,rfl⟩|⟨rfl,rfl⟩
 .exact kv R (T':=at_ .g1 0) (g':=dc g) (by simp) (by simp) (pz hen) (λw=>ji ZK .enable (by simp) fEn hen) (by simp[mv]) (by simp[EvStop,i7,qA]) (by simp) (by simp) (by simp) (by simp) (by simp) (by simp) λk' w' _ hr=>aC hg (go k' w' hr)
 .exact kv R (T':=at_ .g2 0) (g':=dc g) (by simp) (by simp) (pz hen) (λw=>ji ZK .enable (by simp) fEn hen) (by simp[mv]) (by simp[EvStop,i7,qA]) (by simp) (by simp) (by simp) (by simp) (by simp) (by simp) λk' w' _ hr=>aC hg (go k' w' hr)
theorem add1 (R:Room X γ)(live:∃s,ShAt X w s)(go:∀k' w',RR X γ w w'->LS X Post γ k' (at_ .g1 0) (cG fr cs U) w'):LS X Post γ k (at_ .k1 0) (V2 X.Wg fr cs) w:=by
 refine aC (LB _ _ _) (kv R (T':=at_ .x1 0) (g':=resume (ZR X.Wg fr cs) U) (by simp) (by simp) (aV (vC _ _ _)) (λw=>jh Ip .disable JU (vC _ _ _)) (by simp[mv]) (by simp[EvStop,i7,qA]) (by simp) (by simp) (by simp) (by simp) (by simp) (by simp) λk1 w1 hk1 hr1=>?_)
 refine aC (LA _ _ _) (uG Ui Y5 (GV _ _ _) (aC (Lz _ _ _) ?_));refine lU (T:=at_ .x1 0) λk2 w2 hk2 hr2=>dg (aV (vB _ _ _)) (by simp) (by simp) (by simp) (by simp) (λs _ hf hn=>?_) (λs hsh hf _=>?_)
 .exfalso
  by_cases h:s.wg=0<;>simp[mv,h] at hn
 by_cases h:¬s.wg=0
 .exact⟨(at_ .bad 0,s),by simp[mv,h],λq=>absurd rfl q⟩
 have h:s.wg=0:=Decidable.not_not.1 h;have st:=rH (P:=PP) (main:=true) (w:=w2) (ad:=wA X) KS .u64 NI (vB X.Wg fr cs) hsh.Ko (hsh.OU 0);have hsh':=hsh.setWg R.ne 4294967296;have ef:=ConcM.Eff.set (w:=w2) (Mu:=X.Fd) (Wg:=X.Wg) (wA X) (.int .u64 4294967296) (.inr rfl);have e:IntKind.u64.wrap (s.wg+4294967296)=4294967296:=by rw[h];decide
 rw[e] at st;refine⟨(at_ .p1 0,{s with wg:=KKi}),by simp[mv,h],λ_=>⟨_,_,_,st,hsh',ef,pq (okW R.ne) rfl,?_⟩⟩;rw[ζ (by simp)];have H2:=(hr1.trans X hr2).trans X (R.rx ef hsh');refine aC (Ly _ _ _) (lL (Lx _ _ _) S6 S7 S5 (λw3 h3=>?_) (aC (Lw _ _ _) ?_))
 .obtain⟨s,hs⟩:=(H2.trans X h3).live live
  exact⟨_,hs.cWs⟩
 refine kv R (T':=at_ .e1 0) (g':=resume (ZP X.Wg fr cs) U) (by simp) (by simp) (aV (AO _ _ _)) (λw=>fU xRd .read fRd (AO _ _ _)) (by simp[mv]) (by simp[EvStop,i7];rfl) (by simp) (by simp) (by simp) (by simp) (by simp) (by simp) λk4 w4 hk4 hr4=>?_
 exact aC (Lv _ _ _) (Ox R (.inl ⟨rfl,rfl⟩) (Lu _ _ _) (GU _ _ _) λk5 w5 hr5=>go k5 w5 ((H2.trans X hr4).trans X hr5))
theorem aiG (R:Room X γ)(live:∃s,ShAt X w s)(go:∀k' w',RR X γ w w'->LS X Post γ k' (at_ .g2 0) (cG fr cs U) w'):LS X Post γ k (at_ .k2 0) (V2 X.Wg fr cs) w:=by
 refine aC (LB _ _ _) (kv R (T':=at_ .x2 0) (g':=resume (ZR X.Wg fr cs) U) (by simp) (by simp) (aV (vC _ _ _)) (λw=>jh Ip .disable JU (vC _ _ _)) (by simp[mv]) (by simp[EvStop,i7,qA]) (by simp) (by simp) (by simp) (by simp) (by simp) (by simp) λk1 w1 hk1 hr1=>?_)
 refine aC (LA _ _ _) (uG Ui Y5 (GV _ _ _) (aC (Lz _ _ _) ?_));refine lU (T:=at_ .x2 0) λk2 w2 hk2 hr2=>dg (aV (vB _ _ _)) (by simp) (by simp) (by simp) (by simp) (λs _ hf hn=>?_) (λs hsh hf _=>?_)
 .exfalso
  rcases hf.2.2.1 with h|h|h|h|h|h<;>simp[mv,h,KKi] at hn
 have st:=rH (P:=PP) (main:=true) (w:=w2) (ad:=wA X) KS .u64 NI (vB X.Wg fr cs) hsh.Ko (hsh.OU 0)
 by_cases h:s.wg=0
 .have hsh':=hsh.setWg R.ne 4294967296
  have ef:=ConcM.Eff.set (w:=w2) (Mu:=X.Fd) (Wg:=X.Wg) (wA X) (.int .u64 4294967296) (.inr rfl);have e:IntKind.u64.wrap (s.wg+4294967296)=4294967296:=by rw[h];decide
  rw[e] at st;refine⟨(at_ .p2 0,{s with wg:=KKi}),by simp[mv,h],λ_=>⟨_,_,_,st,hsh',ef,pq (okW R.ne) rfl,?_⟩⟩;rw[ζ (by simp)];have H2:=(hr1.trans X hr2).trans X (R.rx ef hsh');refine aC (Ly _ _ _) (lL (Lx _ _ _) S6 S7 S5 (λw3 h3=>?_) (aC (Lw _ _ _) ?_))
  .obtain⟨s,hs⟩:=(H2.trans X h3).live live
   exact⟨_,hs.cWs⟩
  refine kv R (T':=at_ .e2 0) (g':=resume (ZP X.Wg fr cs) U) (by simp) (by simp) (aV (AO _ _ _)) (λw=>fU xRd .read fRd (AO _ _ _)) (by simp[mv]) (by simp[EvStop,i7];rfl) (by simp) (by simp) (by simp) (by simp) (by simp) (by simp) λk4 w4 hk4 hr4=>?_
  exact aC (Lv _ _ _) (Ox R (.inr ⟨rfl,rfl⟩) (Lu _ _ _) (GU _ _ _) λk5 w5 hr5=>go k5 w5 ((H2.trans X hr4).trans X hr5))
 .by_cases h1:¬s.wg=KKi
  .exact⟨(at_ .bad 0,s),by simp[mv,h,h1],λq=>absurd rfl q⟩
  have h1:s.wg=KKi:=Decidable.not_not.1 h1;have hsh':=hsh.setWg R.ne 8589934592;have ef:=ConcM.Eff.set (w:=w2) (Mu:=X.Fd) (Wg:=X.Wg) (wA X) (.int .u64 8589934592) (.inr rfl);have e:IntKind.u64.wrap (s.wg+4294967296)=8589934592:=by rw[h1];decide
  rw[e] at st;refine⟨(at_ .e2 0,{s with wg:=2*KKi}),by simp[mv,h1,KKi],λ_=>⟨_,_,_,st,hsh',ef,pq (okW R.ne) rfl,?_⟩⟩;rw[ζ (by simp)];have H2:=(hr1.trans X hr2).trans X (R.rx ef hsh');exact aC (V1 _ _ _) (Ox R (.inr ⟨rfl,rfl⟩) (V0 _ _ _) (P0 _ _ _) λk5 w5 hr5=>go k5 w5 (H2.trans X hr5))
theorem aeE {T:Lo}{g:Ω}(hT:T.pc= .g1\/T.pc= .g2)(h:∀k' w₁,RR X γ w w₁->OM X PP (zu X PP Post k') T γ g w₁):LS X Post γ k T g w:=by
 cases k with
 |zero=>exact aD.stop λw₁ hr=>⟨γ.mine,λ_=>rfl,trivial⟩
 |succ k=>
  refine aD.stop λw₁ hr=>⟨γ.mine,λ_=>rfl,?_⟩
  unfold zu;rw[χ hT];exact h k w₁ hr
def ZA (X:Cx Δ)(Post:Gh Δ->Ω->Θ->Prop)(Tg:Lo)(γ:Gh Δ)(w:Θ)(f:Φ)(fr:κ)(cs:List κ):Prop:=
 ∀k' w' bw bf (own':Nat->Prop),(∀b,γ.own b->own' b)->(∀b,own' b->γ.own b\/w.heap.size<=b)->(∀b,own' b->b<w'.heap.size)->RR X γ w w'->own' bw->own' bf->w'.cell? ⟨bw,0,none⟩=some (pb X.Wg)->w'.cell? ⟨bf,0,none⟩=some f->
  (∀K,aD PP false (fq X false (given {γ with own:=own'}).ro) (dR (In X PP K (eY Tg.pc)) (at_ .out (X.N (eY Tg.pc))) {given {γ with own:=own'} with mine:=X.c0 (eY Tg.pc)}) (λ_=>False) (Z6 bw bf) w')/\
  aD PP true (fq X false (given {γ with own:=own'}).ro) (dR (zu X PP Post k') (il Tg.pc) (given {γ with own:=own'})) (λ_=>False) (cG fr cs U) w'
theorem Hs {Tk Tg:Lo}{f:Φ}(hTk:eQ Tk.pc=false)(hTg:Tg.pc= .g1\/Tg.pc= .g2)(R:Room X γ)(hlow:∀b,γ.own b\/γ.ro b->b<w.heap.size)(live:∃s,ShAt X w s)(hf:∃x,lz x=true/\f=x)
  (hadd:∀(γ':Gh Δ) (k:Nat) (w:Θ) (fr:κ) (cs:List κ),Room X γ'->(∃s,ShAt X w s)->(∀k' w',RR X γ' w w'->LS X Post γ' k' Tg (cG fr cs U) w')->LS X Post γ' k Tk (V2 X.Wg fr cs) w)
  (hcells:f.cells=#[f]) (hS:ZA X Post Tg γ w f fr cs):LS X Post γ k Tk (ZN X.Wg f fr cs) w:=by
 obtain⟨s0,hs0⟩:=live;have lf:=lt_of_some hs0.1;have lw:=lt_of_some hs0.2;show aD PP true (fq X (eQ Tk.pc) γ.ro) (dR (zu X PP Post k) Tk γ) γ.own (ZN X.Wg f fr cs) w;rw[hTk];refine aC (VF _ _ _ _) (gS (f:=λb=>pb b) (VE _ _ _ _) (λw1 h1=>⟨#[],wO _ _,by simp⟩) λw1 bw h1 hbw wbw=>?_)
 refine aC (VD _ bw _ _ _) (gS (f:=λb=>pb b) (VC _ _ _ _ _) (λw2 h2=>⟨#[],wO _ _,by simp⟩) λw2 bf h2 hbf wbf=>?_);have aaq:=aW h2 (.inl (.inr rfl)) wbw;have cbw:w2.cell? ⟨bw,0,none⟩=some (pb X.Wg):=by simp[World.cell?,aaq,pb,Value.cells]
 refine aC (VB _ _ bf _ _ _) (Du (Vy _ _ _ _ _ _) (by kernel_rfl) (.inl (.inl (.inr rfl))) cbw λw3 h3=>?_);have H3:RX X γ.ro γ.own w w3:=h1.trans X ((h2.sub λb e=> .inl e).trans X (h3.sub λb e=> .inl (.inl e)));have agr:=aW h3 (.inl (.inl (.inr rfl))) aaq;have agt:=aW h3 (.inl (.inr rfl)) wbf
 have R3:Room X {γ with own:=λb=>(γ.own b\/b=bw)\/b=bf}:=⟨R.ne,λb hb=>by
  have:=h1.size;have:=h2.size;rcases hb with((hb|rfl)|rfl)|hb
  .exact R.off b (.inl hb)
  .exact⟨by omega,by omega⟩
  .exact⟨by omega,by omega⟩
  .exact R.off b (.inr hb)⟩
 refine aC (Vz _ _ _ _ _ _) ?_;have key:LS X Post {γ with own:=λb=>(γ.own b\/b=bw)\/b=bf} k Tk (V2 X.Wg (fG X.Wg bw bf f fr cs) (fr::cs)) w3:=by
  refine hadd _ _ _ _ _ R3 (H3.live ⟨s0,hs0⟩) λk' w4 h4=>aC (Vw _ _ _ _ _ _) (aeE hTg λk5 w5 h5=>?_)
  have h45:=h4.trans X h5;have aap:=aW h45 (.inl (.inl (.inr rfl))) agr;have aar:=aW h45 (.inl (.inr rfl)) agt;have cbf:w5.cell? ⟨bf,0,none⟩=some f:=by simp[World.cell?,aar,hcells]
  have aiA:w5.cell? ⟨bw,0,none⟩=some (pb X.Wg):=by simp[World.cell?,aap,pb,Value.cells]
  have lbw:=lt_of_some aap;have lbf:=lt_of_some aar;obtain⟨c1,c2⟩:=hS k5 w5 bw bf (λb=>(γ.own b\/b=bw)\/b=bf) (λb h=> .inl (.inl h)) (λb h=>by
   rcases h with(h|rfl)|rfl
   .exact .inl h
   .exact .inr hbw
   .exact .inr (ae3 h1.size hbf)) (λb h=>by
   have:=(H3.trans X (h45.sub λb e=> .inl (.inl e))).size;rcases h with(h|rfl)|rfl
   .have:=hlow b (.inl h);omega
   .exact lbw
   .exact lbf) (H3.trans X (h45.sub λb e=> .inl (.inl e))) (.inl (.inr rfl)) (.inr rfl) aiA cbf
  refine⟨(GS _ _ _ _ _ _).1,(GS _ _ _ _ _ _).2,_,_,Vv _ _ _ _ _ _ _,c1,aC (PY _ _ _ _ _ _) c2⟩
 have:=key;unfold LS at this;rw[hTk] at this;exact this
end
structure Base (X:Cx iJ)(γ:Gh iJ)(w:Θ):Prop where
 dat:X.Dat=Ga
 room:Room X γ
 om:¬γ.own X.M
 rm:¬γ.ro X.M
 mf:X.M≠X.Fd
 mw:X.M≠X.Wg
 low:∀b,γ.own b\/γ.ro b->b<w.heap.size
 ml:X.M<w.heap.size
 live:∃s,ShAt X w s
section
variable {X:Cx iJ}{γ:Gh iJ}{w w':Θ}
theorem Base.rely (h:Base X γ w)(hr:RR X γ w w'):Base X γ w':=⟨h.dat,h.room,h.om,h.rm,h.mf,h.mw,λb hb=>ψ (h.low b hb) hr.size,ψ h.ml hr.size,hr.live h.live⟩
theorem Base.grow (h:Base X γ w)(hr:RR X γ w w'){own':Nat->Prop}(h1:∀b,own' b->γ.own b\/w.heap.size<=b)(h2:∀b,own' b->b<w'.heap.size):Base X {γ with own:=own'} w':=by
 obtain⟨s,hs⟩:=h.live;have lf:=lt_of_some hs.1;have lw:=lt_of_some hs.2;have lm:=h.ml;refine⟨h.dat,⟨h.room.ne,λb hb=>?_⟩,λhb=>?_,h.rm,h.mf,h.mw,λb hb=>?_,ψ h.ml hr.size,hr.live h.live⟩
 .rcases hb with hb|hb
  .rcases h1 b hb with hb|hb
   .exact h.room.off b (.inl hb)
   .exact⟨by omega,by omega⟩
  .exact h.room.off b (.inr hb)
 .rcases h1 _ hb with hb|hb
  .exact h.om hb
  .omega
 .rcases hb with hb|hb
  .exact h2 b hb
  .exact ψ (h.low b (.inr hb)) hr.size
theorem Base.given (h:Base X γ w):Base X (given γ) w:=
 ⟨h.dat,⟨h.room.ne,λb hb=>hb.elim False.elim λhb=>h.room.off b hb.symm⟩,id,λhb=>hb.elim h.rm h.om,h.mf,h.mw,λb hb=>hb.elim False.elim λhb=>h.low b hb.symm,h.ml,h.live⟩
theorem Base.now (h:Base X γ w){r:bg}(hr:r= .a\/r= .b)(m:iJ):Now X r {aG.given γ with mine:=m} w:=
 ⟨⟨h.dat,hr,⟨h.given.room.ne,h.given.room.off⟩,id,h.given.rm,h.mf,h.mw⟩,h.given.low,h.ml,h.live⟩
end
theorem SM:(PP.info? 3).bind (·.zero)=some (.int .i64 0):=by kernel_rfl
theorem Tw:(PP.info? 3).map (·.size)=some 1:=by kernel_rfl
section
variable {X:Cx iJ}{qJ O0:Nat->Prop}{w0:Θ}{gL gR gA:Ξ->Option Ξ}{dv:Φ}{K bd:Nat}{Rd:Θ->Prop}{fr:κ}{cs:List κ}
def vb (X:Cx iJ)(qJ O0:Nat->Prop)(w0:Θ)(bd:Nat)(dv:Φ)(fr:κ)(cs:List κ):Gh iJ->Ω->Θ->Prop:=λ_ g w=>
 (∃bs bs',au PP true g (cG (fT3 X.Wg X.Fd bd bs bs' X.M dv fr cs) (fr::cs) U))/\(∃o,w.heap[X.M]? =some o/\Ga (X.fin .a) (X.fin .b) o)/\RX X qJ O0 w0 w
structure Reads (X:Cx iJ)(qJ:Nat->Prop)(Rd:Θ->Prop)(dv:Φ)(gL gR gA:Ξ->Option Ξ)(K:Nat):Prop where
 keep:∀ro own w w',(∀b,qJ b->ro b)->Rd w->RX X ro own w w'->Rd w'
 ca:∀ro,(∀b,qJ b->ro b)->Cont X .a ro Rd dv 0 gL K
 cao:∀ro,(∀b,qJ b->ro b)->Cont X .a ro Rd dv 2 gA K
 cb:∀ro,(∀b,qJ b->ro b)->Cont X .b ro Rd dv 1 gR K
 cbo:∀ro,(∀b,qJ b->ro b)->Cont X .b ro Rd dv 2 gA K
 fa:X.fin .a=jQ gL gA
 fb:X.fin .b=jQ gR gA
 c0:∀r,X.c0 r=λ_=>none
 n:∀r,2*K<=X.N r
variable (hR:Reads X qJ Rd dv gL gR gA K)
include hR
theorem aa4 {γ:Gh iJ}{w:Θ}{bs bs':Nat}(hB:Base X γ w)(hro:∀b,qJ b->γ.ro b)(hO:∀b,O0 b\/qJ b->γ.own b\/γ.ro b)(hw:Rd w)(h0:RX X qJ O0 w0 w)(G6:γ.ro bd)(TS:w.cell? ⟨bd,0,none⟩=some dv)(obs:γ.own bs')(cbs:w.heap[bs']? =some (.cells #[.int .i64 1] 3 (0,0))):
  ZA X (vb X qJ O0 w0 bd dv fr cs) (at_ .g2 0) γ w (qB X.Fd bd bs') (fT2 X.Wg X.Fd bd bs bs' X.M dv fr cs) (fr::cs):=by
 intro k' w' bw bf own' a1 a2 a4 a3 ow of cw cf;have B':=hB.grow a3 a2 a4;have Od:w'.cell? ⟨bd,0,none⟩=some dv:=by
  unfold World.cell? at TS⊢;rw[a3.keep bd (hB.low bd (.inr G6)) (.inr G6)];exact TS
 have Zj:w'.cell? ⟨bs',0,none⟩=some (.int .i64 1):=by
  have:=aW a3 (.inl obs) cbs;simp[World.cell?,this]
 have Rw':Rd w':=hR.keep _ _ _ _ hro hw a3;have sub:∀b,qJ b->(given {γ with own:=own'}).ro b:=λb hb=> .inl (hro b hb)
 refine⟨λKk=>?_,?_⟩
 .have:=t7 (r:= .b) (k:=Kk) (n:=X.N .b) (λw w' own hw h=>hR.keep _ own w w' sub hw h) (hR.cb _ sub) (hR.cbo _ sub) (hR.n .b) (B'.now (.inr rfl) (X.c0 .b)) rfl Rw' (hR.c0 .b) hR.fb (bw:=bw) (bf:=bf) (bd:=bd) (bs:=bs') (.inr ow) (.inr of) (.inl G6) (.inr (a1 _ obs)) cw cf Od Zj
  exact this
 .refine aC (U0 _ _ _ _ _ _ _ _ _) ?_
  have B3:=B'.given;have key:=Iz (Post:=vb X qJ O0 w0 bd dv fr cs) (fr:=fT3 X.Wg X.Fd bd bs bs' X.M dv fr cs) (cs:=fr::cs) (k:=k') B3.room B3.live (λw'' o g h1 h2 h3 h4=>⟨⟨bs,bs',h4⟩,⟨o,h2,hB.dat▸h3⟩,?_⟩)
  .exact key
  .have h5:RX X qJ O0 w w':=⟨a3.tape,a3.output,a3.size,a3.os,λb hb ho=>a3.keep b hb (hO b ho),a3.live⟩
   have h6:RX X qJ O0 w' w'':=⟨h1.tape,h1.output,h1.size,h1.os,λb hb ho=>h1.keep b hb (.inr ((hO b ho).elim (λz=> .inr (a1 b z)) .inl)),h1.live⟩
   exact(h0.trans X h5).trans X h6
theorem aa5 {γ:Gh iJ}{w:Θ}{bs:Nat}(hB:Base X γ w)(hro:∀b,qJ b->γ.ro b)(hO:∀b,O0 b\/qJ b->γ.own b\/γ.ro b)(hw:Rd w)(h0:RX X qJ O0 w0 w)(G6:γ.own bd)(TS:w.cell? ⟨bd,0,none⟩=some dv)(obs:γ.own bs)(cbs:w.heap[bs]? =some (.cells #[.int .i64 0] 3 (0,0))):
  ZA X (vb X qJ O0 w0 bd dv fr cs) (at_ .g1 0) γ w (qB X.Fd bd bs) (fT1 X.Wg X.Fd bd bs X.M dv fr cs) (fr::cs):=by
 intro k' w' bw bf own' a1 a2 a4 a3 ow of cw cf;have B':=hB.grow a3 a2 a4;have Od:w'.cell? ⟨bd,0,none⟩=some dv:=by
  unfold World.cell? at TS⊢;rw[a3.keep bd (hB.low bd (.inl G6)) (.inl G6)];exact TS
 have Zj:w'.cell? ⟨bs,0,none⟩=some (.int .i64 0):=by
  have:=aW a3 (.inl obs) cbs;simp[World.cell?,this]
 have Rw':Rd w':=hR.keep _ _ _ _ hro hw a3;have sub:∀b,qJ b->(given {γ with own:=own'}).ro b:=λb hb=> .inl (hro b hb)
 refine⟨λKk=>?_,?_⟩
 .have:=t7 (r:= .a) (k:=Kk) (n:=X.N .a) (λw w' own hw h=>hR.keep _ own w w' sub hw h) (hR.ca _ sub) (hR.cao _ sub) (hR.n .a) (B'.now (.inl rfl) (X.c0 .a)) rfl Rw' (hR.c0 .a) hR.fa (bw:=bw) (bf:=bf) (bd:=bd) (bs:=bs) (.inr ow) (.inr of) (.inr (a1 _ G6)) (.inr (a1 _ obs)) cw cf Od Zj
  exact this
 .have B3:=B'.given
  have hO3:∀b,O0 b\/qJ b->(given {γ with own:=own'}).ro b:=λb hb=>(hO b hb).elim (λz=> .inr (a1 b z)) .inl
  have h5:RX X qJ O0 w0 w':=h0.trans X ⟨a3.tape,a3.output,a3.size,a3.os,λb hb ho=>a3.keep b hb (hO b ho),a3.live⟩;refine aC (U5 _ _ _ _ _ _ _ _) ?_;refine gS (f:=λb=>pb b) (U4 _ _ _ _ _ _ _ _) (λw1 h1=>⟨#[],mH SM,by simp⟩) λw1 bs' h1 hbs wbs=>?_
  refine aC (U3 _ _ _ _ bs' _ _ _ _) ?_;obtain⟨s,hs⟩:=B3.live;have n1:bs'≠X.Fd/\bs'≠X.Wg:=⟨λe=>by have:=lt_of_some hs.1;omega,λe=>by have:=lt_of_some hs.2;omega⟩
  have Mk:¬(given {γ with own:=own'}).ro bs':=λe=>by have:=B3.low bs' (.inr e);omega
  have o':(λb=>False\/b=bs') bs':= .inr rfl;refine jt (b:=bs') (A:=λo x=>x=undef/\o= .cells #[.int .i64 1] 3 (0,0)) o' n1 (U1 _ _ _ _ _ _ _ _ _) (λw2 h2=>?_) (λw2 o x _ w2s ha h2=>?_) Mk
  .obtain⟨w',ev,r1,r2,r3⟩:=fZ (t:=3) (off:=0) (v:= .int .i64 1) (aW h2 (.inl o') wbs) Tw (by simp[Value.cells]) (by simp[Value.cells,lz])
   exact⟨undef,_,w',ev,.inr ⟨r1,rfl⟩,r2,⟨rfl,rfl⟩,λe he=>⟨bs',r3 e he,.inl o'⟩⟩
  obtain⟨rfl,rfl⟩:=ha;have h12:RX X (given {γ with own:=own'}).ro (λ_=>False) w' w2:=h1.trans X (h2.sub λb e=>e.elim);have B2:Base X {given {γ with own:=own'} with own:=λb=>False\/b=bs'} w2:=B3.grow h12 (λb hb=>by
   rcases hb with hb|rfl
   .exact hb.elim
   .exact .inr hbs) (λb hb=>by
   rcases hb with hb|rfl
   .exact hb.elim
   .exact lt_of_some w2s)
  have Zk:w2.cell? ⟨bd,0,none⟩=some dv:=by
   unfold World.cell? at Od⊢;rw[h12.keep bd (B3.low bd (.inr (.inr (a1 _ G6)))) (.inr (.inr (a1 _ G6)))];exact Od
  refine aC (U2 _ _ _ _ _ _ _ _ _) ?_;have key:=Hs (Post:=vb X qJ O0 w0 bd dv fr cs) (Tk:=at_ .k2 0) (Tg:=at_ .g2 0) (k:=k') rfl (.inr rfl) B2.room B2.low B2.live (f:=qB X.Fd bd bs') (fr:=fT2 X.Wg X.Fd bd bs bs' X.M dv fr cs) (cs:=fr::cs) ⟨_,rfl,rfl⟩ (λγ' k w fr cs R live go=>aiG R live go) rfl
   (aa4 hR B2 (λb hb=>sub b hb) (λb hb=> .inr (hO3 b hb)) (hR.keep _ _ _ _ sub Rw' h12) (h5.trans X ⟨h12.tape,h12.output,h12.size,h12.os,λb hb ho=>h12.keep b hb (.inr (hO3 b ho)),h12.live⟩) (.inr (a1 _ G6)) Zk (.inr rfl) w2s)
  exact key
theorem Aw {γ:Gh iJ}{w:Θ}{k:Nat}(hB:Base X γ w)(hro:∀b,qJ b->γ.ro b)(hO:∀b,O0 b\/qJ b->γ.own b\/γ.ro b)(hw:Rd w)(h0:RX X qJ O0 w0 w)(G6:γ.own bd)(TS:w.cell? ⟨bd,0,none⟩=some dv):
  LS X (vb X qJ O0 w0 bd dv fr cs) γ k (at_ .k1 0) (resume (ZM X.Fd bd X.M dv fr cs) (pb X.Wg)) w:=by
 refine aC (UN _ _ _ _ _ _ _) ?_;refine gS (f:=λb=>pb b) (UM _ _ _ _ _ _ _) (λw1 h1=>⟨#[],mH SM,by simp⟩) λw1 bs h1 hbs wbs=>?_
 refine aC (UL _ _ _ bs _ _ _ _) ?_;obtain⟨s,hs⟩:=hB.live;have n1:bs≠X.Fd/\bs≠X.Wg:=⟨λe=>by have:=lt_of_some hs.1;omega,λe=>by have:=lt_of_some hs.2;omega⟩
 have Mk:¬γ.ro bs:=λe=>by have:=hB.low bs (.inr e);omega
 have now:∀b,γ.own b->b≠bs:=λb hb e=>by have:=hB.low b (.inl hb);omega
 have o':(λb=>γ.own b\/b=bs) bs:= .inr rfl;refine jt (b:=bs) (A:=λo x=>x=undef/\o= .cells #[.int .i64 0] 3 (0,0)) o' n1 (UJ _ _ _ _ _ _ _ _) (λw2 h2=>?_) (λw2 o x _ w2s ha h2=>?_) Mk
 .obtain⟨w',ev,r1,r2,r3⟩:=fZ (t:=3) (off:=0) (v:= .int .i64 0) (aW h2 (.inl o') wbs) Tw (by simp[Value.cells]) (by simp[Value.cells,lz])
  exact⟨undef,_,w',ev,.inr ⟨r1,rfl⟩,r2,⟨rfl,rfl⟩,λe he=>⟨bs,r3 e he,.inl o'⟩⟩
 obtain⟨rfl,rfl⟩:=ha;have h12:RX X γ.ro γ.own w w2:=h1.trans X (h2.sub λb e=>⟨.inl e,now b e⟩);have B2:Base X {γ with own:=λb=>γ.own b\/b=bs} w2:=hB.grow h12 (λb hb=>by
  rcases hb with hb|rfl
  .exact .inl hb
  .exact .inr hbs) (λb hb=>by
  rcases hb with hb|rfl
  .exact ψ (hB.low b (.inl hb)) h12.size
  .exact lt_of_some w2s)
 have Zk:w2.cell? ⟨bd,0,none⟩=some dv:=by
  unfold World.cell? at TS⊢;rw[h12.keep bd (hB.low bd (.inl G6)) (.inl G6)];exact TS
 refine aC (UK _ _ _ _ _ _ _ _) ?_;have key:=Hs (Post:=vb X qJ O0 w0 bd dv fr cs) (Tk:=at_ .k1 0) (Tg:=at_ .g1 0) (k:=k) rfl (.inl rfl) B2.room B2.low B2.live (f:=qB X.Fd bd bs) (fr:=fT1 X.Wg X.Fd bd bs X.M dv fr cs) (cs:=fr::cs) ⟨_,rfl,rfl⟩ (λγ' k w fr cs R live go=>add1 R live go) rfl
  (aa5 hR B2 hro (λb hb=>(hO b hb).imp .inl id) (hR.keep _ _ _ _ hro hw h12) (h0.trans X ⟨h12.tape,h12.output,h12.size,h12.os,λb hb ho=>h12.keep b hb (hO b ho),h12.live⟩) (.inl G6) Zk (.inr rfl) w2s)
 exact key
end
end aG
end
section
open Go.Conc Go.RowKit Go.Lib
open Go.ConcM (OsLater)
namespace aG
section
variable {X:Cx iJ}{ro:Nat->Prop}
theorem XI:ON (fq X false ro) (λs=>s) ro:=
 ⟨λs w w₁ h=>⟨h.size,h.tape,h.keep⟩,λs w w' es h=>⟨h.tape,h.output,h.size,by rw[h.os];exact .refl _,h.keep,λe he=>by
  rcases h.ev e he with⟨b,hb,hl⟩|⟨m,hm⟩
  .exact .inl ⟨b,hb,hl⟩
  .exact .inr (.inr ⟨m,hm⟩),by simp⟩,λs w w' b=>Iff.rfl⟩
theorem Dv {main:Bool}{Stop:(Nat->Prop)->Ω->Θ->Prop}{own:Nat->Prop}{w0:Θ}(hown:∀b,own b->b<w0.heap.size)(hF:X.Fd<w0.heap.size)(hW:X.Wg<w0.heap.size)(hro:∀b,ro b->b<w0.heap.size):
  ∀(r:Rk) {s:Nat->Prop} {g:Ω} {w:Θ},(∀b,s b->w0.heap.size<=b/\b<w.heap.size)->RX X ro own w0 w->hU PP main (fq X false ro) Stop r s g w->
   aD PP main (fq X false ro) (λo g w'=>∃s',o=(λb=>own b\/s' b)/\Stop s' g w'/\(∀b,s' b->w0.heap.size<=b/\b<w'.heap.size)/\RX X ro own w0 w') (λb=>own b\/s b) g w:=by
 intro r;have sub:∀{s:Nat->Prop} {w w₁:Θ},RX X ro (λb=>own b\/s b) w w₁->RX X ro s w w₁/\RX X ro own w w₁:=λh=>
  ⟨⟨h.tape,h.output,h.size,h.os,λb hb ho=>h.keep b hb (ho.imp .inr id),h.live⟩,⟨h.tape,h.output,h.size,h.os,λb hb ho=>h.keep b hb (ho.imp .inl id),h.live⟩⟩
 induction r with
 |zero=>
  intro s g w hs h0 h;refine .stop λw₁ hr=>?_
  have hr':RX X ro (λb=>own b\/s b) w w₁:=hr;exact⟨s,rfl,h w₁ (sub hr').1,λb hb=>⟨(hs b hb).1,ψ (hs b hb).2 hr'.size⟩,h0.trans X (sub hr').2⟩
 |mk f ih=>
  intro s g w hs h0 h;rcases h with h|⟨hrun,h⟩
  .refine .stop λw₁ hr=>?_
   have hr':RX X ro (λb=>own b\/s b) w w₁:=hr;exact⟨s,rfl,h w₁ (sub hr').1,λb hb=>⟨(hs b hb).1,ψ (hs b hb).2 hr'.size⟩,h0.trans X (sub hr').2⟩
  .refine aD.step hrun λw₁ hr=>?_
   have hr':RX X ro (λb=>own b\/s b) w w₁:=hr;obtain⟨g',w',es,h1,h2,h3⟩:=h w₁ (sub hr').1;have h2':DX X false ro s w₁ w' es:=h2;have h01:=h0.trans X (sub hr').2;have old:∀b,b<w0.heap.size->w'.heap[b]? =w₁.heap[b]? :=λb hb=>h2'.keep b (ψ hb h01.size) λhsb=>by have:=(hs b hsb).1;omega
   have h02:RX X ro own w0 w':=by
    refine h01.trans X ⟨h2'.tape,h2'.output,h2'.size,h2'.os,λb hb ho=>old b (ho.elim (hown b) (hro b)),λ⟨s,h1,h2⟩=>⟨s,?_,?_⟩⟩
    .rw[old _ hF];exact h1
    .rw[old _ hW];exact h2
   have hup:(fq X false ro).up (λb=>own b\/s b) w₁ w'=λb=>own b\/(fq X false ro).up s w₁ w' b:=funext λb=>propext or_assoc
   refine⟨g',w',es,h1,⟨h2'.tape,h2'.output,h2'.size,h2'.os,λb hb ho=>h2'.keep b hb λx=>ho (.inr x),λe he=>?_,h2'.mute⟩,?_⟩
   .rcases h2'.ev e he with⟨c,hc,hl⟩|h
    .exact .inl ⟨c,hc.imp .inr id,hl⟩
    .exact .inr h
   .rw[hup]
    refine ih w₁ (λb hb=>?_) h02 h3;rcases hb with hb|hb
    .exact⟨(hs b hb).1,ψ (ψ (hs b hb).2 hr'.size) h2'.size⟩
    .exact⟨ae3 h01.size hb.1,hb.2⟩
end
structure fQ (d bl n:Nat)(x:DS)(w:Θ):Prop where
 row:∃f,w.heap[d]? =some (.cells (iC bl n (.slice none 0 0) x) 134 f)
 last:∃f,w.heap[bl]? =some (.cells (byteCells x.aJ).toArray 148 f)
 y8:∃c t f,w.heap[0]? =some (.cells c t f)/\∀v∈c,∀r,¬Value.Has r v
 len:x.aJ.length=64*n
 lo:16<=n
 hi:n<=400
 none:x.waiting=[]
def va (d bl:Nat)(b:Nat):Prop:=b=0\/b=d\/b=bl
theorem fQ.keep {X:Cx iJ}{ro own:Nat->Prop}{d bl n:Nat}{x:DS}{w w':Θ}(h:fQ d bl n x w)(hro:∀b,va d bl b->ro b)(hr:RX X ro own w w'):fQ d bl n x w':=by
 have k:∀b o,va d bl b->w.heap[b]? =some o->w'.heap[b]? =some o:=λb o hb ho=>by rw[hr.keep b (Ψ.1 ho).1 (.inr (hro b hb))];exact ho
 obtain⟨⟨f1,h1⟩,⟨f2,h2⟩,⟨c,t,f3,h3,h4⟩,a,b,c',e⟩:=h;exact⟨⟨f1,k _ _ (.inr (.inl rfl)) h1⟩,⟨f2,k _ _ (.inr (.inr rfl)) h2⟩,⟨c,t,f3,k _ _ (.inl rfl) h3,h4⟩,a,b,c',e⟩
section
variable (w:Θ)(d bl:Nat)
open Classical in
def mask:Θ:={w with heap:=w.heap.mapIdx λb o=>if va d bl b then(match o with|.cells c t _=> .cells c t (0,c.size)|o=>o) else .cells #[] 1000000 (0,0)}
theorem tH:(mask w d bl).heap.size=w.heap.size:=by simp[mask]
theorem Mt {b:Nat}{o:Obj}(hb:¬va d bl b)(h:(mask w d bl).heap[b]? =some o):o= .cells #[] 1000000 (0,0):=by
 simp only[mask,Array.getElem?_mapIdx,ζ hb] at h;obtain⟨_,_,rfl⟩:=τ.1 h;rfl
theorem sn {b:Nat}{c:Array Φ}{t:η}{f:Nat×Nat}(hb:va d bl b)(h:w.heap[b]? =some (.cells c t f)):(mask w d bl).heap[b]? =some (.cells c t (0,c.size)):=by
 simp only[mask,Array.getElem?_mapIdx,χ hb,h,ε]
end
def EA (w:Θ)(d bl:Nat)(b:Nat):Prop:=b<w.heap.size/\¬va d bl b
theorem Am {l:List Γ}{v:Φ}(h:v∈(byteCells l).toArray):∀r,¬Value.Has r v:=by
 simp only[List.mem_toArray,byteCells,ae0] at h;obtain⟨b,_,rfl⟩:=h;intro r hr;cases hr
section
variable {d bl n:Nat}{x:DS}{w:Θ}
theorem fQ.cells (h:fQ d bl n x w){b:Nat}(hb:va d bl b):∃c t f,w.heap[b]? =some (.cells c t f)/\∀v∈c,∀r,Value.Has r v->va d bl r:=by
 obtain⟨⟨f1,h1⟩,⟨f2,h2⟩,⟨c,t,f3,h3,h4⟩,_⟩:=h;rcases hb with rfl|rfl|rfl
 .exact⟨c,t,f3,h3,λv hv r hr=>absurd hr (h4 v hv r)⟩
 .refine⟨_,_,f1,h1,λv hv r hr=>?_⟩
  simp only[iC,List.mem_toArray,ab8,List.not_mem_nil,or_false] at hv;rcases hv with rfl|rfl|rfl|rfl|rfl|rfl|rfl<;>cases hr
  rename_i e;exact .inr (.inr e.symm)
 .exact⟨_,_,f2,h2,λv hv r hr=>absurd hr (Am hv r)⟩
theorem fQ.size (h:fQ d bl n x w){b:Nat}(hb:va d bl b):b<w.heap.size:=by
 obtain⟨c,t,f,h1,_⟩:=h.cells hb;exact(Ψ.1 h1).1
theorem Jp (h:fQ d bl n x w){ro:Nat->Prop}(hro:∀b,va d bl b->ro b):Link (EA w d bl) (va d bl) (λ_=>False) ro id (mask w d bl) w:=by
 have hz:∀b,va d bl b->¬EA w d bl b:=λb hb hh=>hh.2 hb
 have sz:=tH w d bl;have cas:∀b,b<w.heap.size->EA w d bl b\/va d bl b:=λb hb=>by
  by_cases hr:va d bl b
  .exact .inr hr
  .exact .inl ⟨hb,hr⟩
 have lw:Go.Proofs.YtchcmhodnkgojaaGreat.LW (EA w d bl) (va d bl) (mask w d bl):=by
  refine⟨λb o hb h1 h2=>?_,λb o hb hh=>Mt w d bl hh.2 hb,λb o hb hZ=>?_,λb hb=>?_,hz,⟨?_,hz 0 (.inl rfl)⟩,λb o hb hH r hr=>?_⟩
  .exact absurd (cas b (sz▸(Ψ.1 hb).1)) (by simp[h1,h2])
  .obtain⟨c,t,f,h1,_⟩:=h.cells hZ
   rw[sn w d bl hZ h1] at hb;exact⟨c,t,(ae7 hb).symm⟩
  .rw[sz];exact hb.elim (·.1) h.size
  .rw[sz];exact h.size (.inl rfl)
  .have hZ:va d bl b:=(cas b (sz▸(Ψ.1 hb).1)).resolve_left hH
   obtain⟨c,t,f,h1,h2⟩:=h.cells hZ;rw[sn w d bl hZ h1] at hb;obtain rfl:=ae7 hb;cases hr with
   |cells hv hr=>
    have:=h2 _ hv _ hr;exact⟨by rw[sz];exact h.size this,hz _ this⟩
 refine⟨λi j e=>e,rfl,λb hb=>by rw[<-sz];exact hb,lw,⟨λi j e=>e,rfl,rfl,λb hb _=>by rw[<-sz];exact hb,λb o hb h1 h2=>?_,lw.hid,λb o hb hZ=>?_,lw.low,λb o hb i hi=>?_⟩,λb hb hZ=>?_,hro⟩
 .exact absurd (cas b (sz▸(Ψ.1 hb).1)) (by simp[h1,h2])
 .obtain⟨c,t,f,h1,_⟩:=h.cells hZ
  have hb':(mask w d bl).heap[b]? =some o:=hb;rw[sn w d bl hZ h1] at hb';refine⟨c,t,f,(ae7 hb').symm,?_⟩;rw[cx (f:=Value.ren id) λv _=>e9 v λr _=>rfl];exact h1
 .exfalso
  by_cases hH:EA w d bl b
  .rw[lw.hid b o hb hH] at hi;exact hi
  .obtain⟨c,t,rfl⟩:=lw.oq b o hb ((cas b (sz▸(Ψ.1 hb).1)).resolve_left hH)
   exact hi
 .exact absurd (cas b (sz▸hb.1)) (by simp[hb.2,hZ])
theorem QI (h:fQ d bl n x w):fR (mask w d bl) d bl n (.slice none 0 0) x:=by
 obtain⟨⟨f1,h1⟩,⟨f2,h2⟩,_,a,b,c,e⟩:=h;exact⟨⟨_,sn w d bl (.inr (.inl rfl)) h1⟩,⟨_,sn w d bl (.inr (.inr rfl)) h2⟩,a,b,c,rfl,e,⟨none,0,by rw[e];rfl⟩⟩
theorem _root_.Go.Proofs.YtchcmhodnkgojaaGreat.fR.az {w:Θ}{d bl n:Nat}{vw:Φ}{x:DS}(h:fR w d bl n vw x)(t:dZ)(k:Nat):fR (az w t k) d bl n vw x:=⟨h.row,h.last,h.len,h.lo,h.hi,h.nil,h.none,h.vw⟩
end
def NY (set:Int)(x:DS)(n n0:Nat)(e:Exit)(a:Act)(w':Θ):Prop:=
 (e= .normal\/e= .ret)/\∃m es c,a.tmps.getD 4 undef= .map (some m)/\n0<=m/\w'.heap[m]? =some (.map es c)/\dk es c (uI (qE set (aM x n)))/\es.size<=54
theorem NX (set:Int)(x:DS)(n n0:Nat):QOk none (NY set x n n0):=⟨λe a w t d=>Iff.rfl,λe a w h=>h.1.elim .inl λh=> .inr (.inl h)⟩
theorem R9:xg PP S1 (λ_=>false) false (rq 166)=true:=by kernel_rfl
theorem x6:Tryz.f166.results=#[.tmp 4]:=by kernel_rfl
theorem Kf {set:Int}{x:DS}{n:Nat}{w:Θ}{e:Exit}{a:Act}{w':Θ}(h:bodyPost PP Tryz.f166 (x7 set x n w) e a w'):NY set x n w.heap.size e a w':=by
 have go:∀{v},(results Tryz.f166 a.tmps).run PP w'= .ok v w'->x7 set x n w (.returned v) w'->∃m es c,a.tmps.getD 4 undef= .map (some m)/\w.heap.size<=m/\w'.heap[m]? =some (.map es c)/\dk es c (uI (qE set (aM x n)))/\es.size<=54:=by
  rintro v hr ⟨m,es,c,h1,h2,h3,h4,h5,_⟩;rw[results_tmp x6] at hr;cases hr;exact⟨m,es,c,Ending.returned.inj h1,h2,h3,h4,h5⟩
 cases e with
 |normal=>obtain⟨_,v,hr,hR⟩:=h;exact⟨.inl rfl,go hr hR⟩
 |ret=>obtain⟨_,v,hr,hR⟩:=h;exact⟨.inr rfl,go hr hR⟩
 |panic ch=>obtain⟨_,m,es,c,h1,_⟩:=h;cases h1
 |outgrown=>obtain⟨m,es,c,h1,_⟩:=h;cases h1
 |_=>exact h.elim
theorem Q6 {es:Array af5}{c:Nat}{g:Ξ->Option Ξ}(h:dk es c (uI g))(π:Nat->Nat):es.map (mh π)=es:=by
 have:∀e∈es,mh π e=e:=λe he=>by
  obtain⟨s,hs⟩:=iG (h.keys e (by simpa using he));have hv:=(h.has s e.val).2 ⟨e,by simpa using he,hs,rfl⟩;unfold uI at hv;obtain⟨b,_,hb⟩:=τ.1 hv;obtain⟨k,v,bo⟩:=e;simp only at hs hb;subst hs;subst hb;simp[mh,aG.hv]
 conv=>rhs;rw[<-Array.map_id es]
 exact Array.map_congr_left λe he=>this e he
theorem p9 {X:Cx iJ}{d bl n:Nat}{x:DS}{ro:Nat->Prop}(hro:∀b,va d bl b->ro b)(r:bg)(set:Int):Cont X r ro (fQ d bl n x) (.pointer (some ⟨d,0,none⟩)) set (qE set (aM x n)) 54:=by
 intro γ k T w fr cs hT hN ahD hw hk;subst ahD;obtain⟨s0,hs0⟩:=hN.live;have hfz:=QI hw;have hbody:Tryz.f166.body=some (rq 166):=by kernel_rfl
 let act:Act:={tmps:=#[.pointer (some ⟨d,0,none⟩),.int .i64 set]++Array.replicate 28 undef,defers:=[]}
 have hwp:∀t k,WpT PP [.code (rq 166)] (NY set x n w.heap.size) act (az (mask w d bl) t k):=λt k=>by
  obtain⟨cd,h1,h2⟩:=zi (Wb (hfz.az t k)) set (az (mask w d bl) t k) (hfz.az t k);rw[hbody] at h1;obtain rfl:=ae7 h1;intro b kk css;obtain⟨e,a',w',q,hr⟩:=h2 b kk css;have q':=Kf q;have e0:(az (mask w d bl) t k).heap.size=w.heap.size:=tH w d bl;rw[e0] at q';exact⟨e,a',w',q',hr⟩
 have FE:∀v∈act.tmps,VV (gV (EA w d bl) (mask w d bl)) v:=λv hv=>by
  rcases af6.1 hv with hv|hv
  .simp only[List.mem_toArray,ab8,List.not_mem_nil,or_false] at hv
   rcases hv with rfl|rfl
   .intro r hr
    cases hr with
    |ptr e=>subst e;exact⟨by rw[tH];exact hw.size (.inr (.inl rfl)),λhh=>hh.2 (.inr (.inl rfl))⟩
   .intro r hr;cases hr
  .rw[(Array.mem_replicate.1 hv).2];exact fT
 have key:=MD aa0 (H:=EA w d bl) (Z:=va d bl) (by simp) (f0:=166) ⟨_,Tryz.func166⟩ (XI (X:=X) (ro:=γ.ro)) (NX set x n w.heap.size) (B:=base 166) (D0:=[]) (CS:=fr::cs) (kT:=[]) rfl (by simp[base]) (by simp)
  (t0:=[.code (rq 166)]) (λit hit=>by
   simp at hit;subst hit;exact R9) (a:=act) (s:=λ_=>False) (Jp hw hro) FE rfl hwp (main:=false)
 obtain⟨rk,key⟩:=key;have hfresh:=Dv (X:=X) (own:=γ.own) (ro:=γ.ro) (w0:=w) (λb hb=>hN.low b (.inl hb)) (lt_of_some hs0.1) (lt_of_some hs0.2) (λb hb=>hN.low b (.inr hb)) rk (s:=λ_=>False) (by simp) (RX.refl X _ _ w) key;have e1:(λb=>γ.own b\/False)=γ.own:=funext λb=>by simp
 rw[e1] at hfresh;have e2:G ((base 166).at (aY id act []) ([.code (rq 166)]++[])) (fr::cs)=gC0 (.pointer (some ⟨d,0,none⟩)) set fr cs:=by
  unfold aY;rw[cx (f:=Value.ren id) λv _=>e9 v λr _=>rfl];rfl
 rw[e2] at hfresh;show aD PP false (fq X (eQ T.pc) γ.ro) _ γ.own _ w;rw[hT];refine hfresh.bind ?_;rintro o g w' ⟨s',rfl,⟨e,a,bI,π,⟨adl,m,es,c,hm,hn0,hrow,his,hsz⟩,hl,hd,hvv,hg,hag,hsize⟩,hs',hrx⟩;have hmv:gV (EA w d bl) bI m:=⟨(Ψ.1 hrow).1,λhh=>by have:=hh.1;omega⟩
 have hmz:¬va d bl m:=λhz=>by have:=hw.size hz;omega
 have hown:s' (π m):=hl.own m hmv hmz;have hrow':w'.heap[π m]? =some (.map es c):=by
  have:=(hl.wr.ok m _ hrow hmv.2 hmz).2;simp only[dE,Q6 his] at this;exact this
 have cont:=hk w' (π m) es c (λb=>γ.own b\/s' b) (λb hb=> .inl hb) (λb hb=>hb.imp id λh=>(hs' b h).1) (λb hb=>hb.elim (λh=>ψ (hN.low b (.inl h)) hrx.size) λh=>(hs' b h).2) hrx (.inr hown)
  (λhb=>by have:=(hs' _ hown).1;have:=hN.low _ (.inl hb);omega) hrow' his hsz
 have cont':aD PP false (fq X false γ.ro) (dR (In X PP k r) T γ) (λb=>γ.own b\/s' b) (G (fr.finish (.map (some (π m)))) cs) w':=by
  have c2:aD PP false (fq X (eQ T.pc) γ.ro) (dR (In X PP k r) T γ) (λb=>γ.own b\/s' b) (G (fr.finish (.map (some (π m)))) cs) w':=cont;rw[hT] at c2;exact c2
 have ret:∀todo,aD PP false (fq X false γ.ro) (dR (In X PP k r) T γ) (λb=>γ.own b\/s' b) (G {(base 166).at (aY π a []) todo with mode:= .returning} (fr::cs)) w':=λtodo=>by
  refine aD.silent rfl (λw₁=>?_) (λw₁ _=>(jO (X:=X) false γ.ro _ w₁).1) (λw₁=>(jO (X:=X) false γ.ro _ w₁).2) cont';have hres:(results Tryz.f166 (aY π a []).tmps).run PP w₁= .ok (.map (some (π m))) w₁:=by
   rw[results_tmp x6];show Result.ok ((a.tmps.map (Value.ren π)).getD 4 undef) w₁=_;rw[jP,hm];simp
  have hev:(results Tryz.f166 (aY π a []).tmps).events PP w₁ #[]=#[]:=by
   have e:results Tryz.f166 (aY π a []).tmps=pure ((aY π a []).tmps.getD 4 undef):=by simp[results,x6]
   rw[e];rfl
  exact stepG_leave (b:=base 166) (a:=aY π a []) (todo:=todo) rfl rfl Tryz.func166 hres hev
 rcases adl with rfl|rfl
 .obtain rfl:g=_:=hg
  exact aD.silent rfl (λw₁=>stepG_end) (λw₁ _=>(jO (X:=X) false γ.ro _ w₁).1) (λw₁=>(jO (X:=X) false γ.ro _ w₁).2) (ret _)
 .obtain⟨todo,rfl⟩:=hg
  exact ret todo
end aG
end
section
open Go.Conc Go.RowKit Go.Lib
open Go.ConcM (OsLater)
open Go.ConcN (sumTo)
namespace aG
section
variable {own:Nat->Prop}{w:Θ}{g g':Ω}{v:lu}{Stop:(Nat->Prop)->Ω->Θ->Prop}
theorem qx (own:Nat->Prop)(w:Θ):kx own (λ_=>False) w w #[]:=⟨φ _,λ_ _ _=>rfl,rfl,rfl,rfl,by simp⟩
theorem idle0:Idle ly:=λs w=>⟨qx s w,funext λb=>propext ⟨λh=>h.elim id λh=>by omega,.inl⟩⟩
theorem ej (h:au PP true g g')(k:aD PP true ly Stop own g' w):aD PP true ly Stop own g w:=jY idle0 h k
theorem Mn {o:Obj}{f:Nat->Φ}(h:aT g=some v)(hr:∀w,RT v.sem w (.value (f w.heap.size)) {w with heap:=w.heap.push o} #[])
  (k:∀w',w'.heap=w.heap.push o->w'.os=w.os->w'.tape=w.tape->aD PP true ly Stop (λb=>own b\/b=w.heap.size) (resume g (f w.heap.size)) w'):aD PP true ly Stop own g w:=by
 refine aD.step (cY h).1 λw₁ h1=>?_
 obtain⟨d,rfl⟩:=h1;obtain⟨es,e1,e2⟩:=fA (main:=true) h (hr (w.at d));have hup:ly.up own (w.at d) {w.at d with heap:=(w.at d).heap.push o}=λb=>own b\/b=w.heap.size:=by
  funext b
  refine propext (or_congr Iff.rfl ?_);show(w.heap.size<=b/\b<(w.heap.push o).size)↔_;simp;omega
 refine⟨_,_,es,e1,⟨by show w.heap.size<=(w.heap.push o).size;simp,λb hb _=>?_,rfl,rfl,rfl,λe he=>by have:=e2 e he;simp at this⟩,?_⟩
 .have hb':b<w.heap.size:=hb
  show(w.heap.push o)[b]? =w.heap[b]?;rw[ac2 hb'];exact(ν hb').symm
 .rw[hup]
  exact k _ rfl rfl rfl
theorem agx {x:Φ}(h:aT g=some v)(hr:∀w,RT v.sem w (.value x) w #[])(k:aD PP true ly Stop own (resume g x) w):aD PP true ly Stop own g w:=by
 refine aD.step (cY h).1 λw₁ h1=>?_
 obtain⟨es,e1,e2⟩:=fA (main:=true) h (hr w₁);have e0:es=#[]:=by
  apply Array.eq_empty_of_size_eq_zero
  refine Nat.eq_zero_of_not_pos λhp=>?_
  have:=e2 es[0] (Array.getElem_mem hp);simp at this
 subst e0;refine⟨_,_,_,e1,qx _ _,?_⟩;rw[(idle0 own w₁).2];exact k.rely h1
theorem agz {b:Nat}{o:Obj}(hb:own b)(h:aT g=some v)
  (hr:∀d,∃w' ev,RT v.sem (w.at d) .skip w' ev/\zq b o (w.at d) w'/\∀e∈ev,EvB b e)
  (k:∀w',w'.heap.size=w.heap.size->w'.heap[b]? =some o->(∀c,c≠b->w'.heap[c]? =w.heap[c]?)->w'.os=w.os->w'.tape=w.tape->aD PP true ly Stop own (resume g undef) w'):aD PP true ly Stop own g w:=by
 refine aD.step (cY h).1 λw₁ h1=>?_
 obtain⟨d,rfl⟩:=h1;obtain⟨w',ev,r,u,a5⟩:=hr d;obtain⟨es,e1,e2⟩:=Cl (main:=true) h r;have hup:ly.up own (w.at d) w'=own:=funext λc=>propext ⟨λx=>x.elim id λx=>by have:=u.size;omega,.inl⟩
 refine⟨_,w',es,e1,⟨by rw[u.size];exact φ _,λc _ hc=>u.rest c λe=>hc (e▸hb),u.os,u.output,u.tape,λe he=> .inl ⟨b,.inl hb,(a5 e (e2 e he)).2⟩⟩,?_⟩;rw[hup];exact k w' u.size u.at_ u.rest u.os u.tape
end
theorem Ug:(PP.info? KO).bind (·.zero)=some (.agg #[.int .i32 0,.int .u32 0,.map none]):=by kernel_rfl
theorem Uf:(PP.info? TWg).bind (·.zero)=some (.agg #[.int .u64 0,.int .u32 0]):=by kernel_rfl
theorem XC:(PP.info? KO).map (·.size)=some 3:=by kernel_rfl
theorem abq (M:Nat)(w:Θ):RT (lu.build KO #[(1,.map (some M))]).sem w (.value (fd0 M)) w #[]:=λes=>by
 have:(lu.build KO #[(1,.map (some M))]).sem.runT PP w es=(.ok (.value (fd0 M)) w,es):=by kernel_rfl
 rw[this,Array.append_empty]
structure Laid (d:Nat)(w w':Θ):Prop where
 size:w'.heap.size=w.heap.size+4
 box:w'.heap[w.heap.size]? =some (.cells #[pb d] 94 (0,0))
 map:w'.heap[w.heap.size+1]? =some (.map #[] 0)
 fd:w'.heap[w.heap.size+2]? =some (.cells #[.int .i32 0,.int .u32 0,.map (some (w.heap.size+1))] KO (0,0))
 wg:w'.heap[w.heap.size+3]? =some (.cells #[.int .u64 0,.int .u32 0] TWg (0,0))
 old:∀b,b<w.heap.size->w'.heap[b]? =w.heap[b]?
 os:w'.os=w.os
 tape:w'.tape=w.tape
theorem JA {own:Nat->Prop}{d:Nat}{w:Θ}{fr:κ}{cs:List κ}:
  aD PP true ly (λs g w'=>s=(λb=>own b\/(w.heap.size<=b/\b<w.heap.size+4))/\g=resume (ZM (w.heap.size+2) w.heap.size (w.heap.size+1) (pb d) fr cs) (pb (w.heap.size+3))/\Laid d w w') own (sT0 (pb d) fr cs) w:=by
 refine ej (UZ _ _ _) (Mn (f:=pb) (UY _ _ _) (λw=>wO _ _) λw1 h1 o1 t1=>?_);refine ej (UX _ _ _ _) (Mn (f:=λb=> .map (some b)) (UW _ _ _ _) (λw=>E2 _) λw2 h2 o2 t2=>?_);have s1:w1.heap.size=w.heap.size+1:=by rw[h1];simp
 have s2:w2.heap.size=w.heap.size+2:=by rw[h2];simp[s1]
 rw[s1];refine ej (UV _ _ _ _ _) (agx (UU _ _ _ _ _) (λw=>abq _ w) ?_);refine ej (UT _ _ _ _ _) (Mn (f:=pb) (US _ _ _ _ _) (λw=>mH Ug) λw3 h3 o3 t3=>?_);have s3:w3.heap.size=w.heap.size+3:=by rw[h3];simp[s2]
 rw[s2];refine ej (UR _ _ _ _ _ _) (agz (b:=w.heap.size+2) (o:= .cells #[.int .i32 0,.int .u32 0,.map (some (w.heap.size+1))] KO (0,0)) (.inr rfl) (UQ _ _ _ _ _ _) (λd=>?_) λw4 s4 r4 k4 o4 t4=>?_)
 .have h3':(w3.at d).heap[w.heap.size+2]? =some (.cells #[.int .i32 0,.int .u32 0,.map none] KO (0,0)):=by
   show w3.heap[w.heap.size+2]? =_;rw[h3,<-s2];simp[Value.cells]
  obtain⟨w',ev,r1,r2,r3⟩:=fZ (t:=KO) (off:=0) (v:=fd0 (w.heap.size+1)) h3' XC (by simp[fd0,Value.cells]) (by simp[fd0,Value.cells,lz]);exact⟨w',ev,r1,r2,r3⟩
 refine ej (UP _ _ _ _ _ _) (Mn (f:=pb) (UO _ _ _ _ _ _) (λw=>mH Uf) λw5 h5 o5 t5=>?_);rw[s4,s3];refine .stop λw₁ ⟨d,e⟩=>?_
 subst e;have WD:∀b,b<w2.heap.size->w5.heap[b]? =w2.heap[b]? :=λb hb=>by
  rw[h5,ac2 (by omega),<-ν,k4 b (by omega),h3,ac2 hb,<-ν]
 refine⟨funext λb=>propext (by constructor<;>intro h<;>(by_cases ho:own b<;>simp[ho] at h⊢<;>omega)),rfl,⟨by show w5.heap.size=_;rw[h5];simp[s4,s3],?_,?_,?_,?_,λb hb=>?_,by show w5.os=_;rw[o5,o4,o3,o2,o1],by show w5.tape=_;rw[t5,t4,t3,t2,t1]⟩⟩
 .show w5.heap[w.heap.size]? =_
  rw[WD _ (by omega),h2,ac2 (by omega),<-ν,h1];simp[pb,Value.cells]
 .show w5.heap[w.heap.size+1]? =_
  rw[WD _ (by omega),h2,<-s1];simp
 .show w5.heap[w.heap.size+2]? =_
  rw[h5,ac2 (by omega),<-ν];exact r4
 .show w5.heap[w.heap.size+3]? =_
  rw[h5,show w.heap.size+3=w4.heap.size by omega];simp[Value.cells]
 .show w5.heap[b]? =_
  rw[WD _ (by omega),h2,ac2 (by omega),<-ν,h1,ac2 hb,<-ν]
abbrev no:Nat->Prop:=λ_=>False
section
variable {Δ:Type}{X:Cx Δ}{P:ω}{Post:Gh Δ->Ω->Θ->Prop}{Shun:Loc->Prop}{own:Nat->Prop}{M:Machine}{t:Trace}{g:Ω}{w:Θ}{γ:Gh Δ}
def T0 (X:Cx Δ):bg->Lo
 |.m=>at_ .k1 0
 |r=>at_ .un (X.N r)
def O7 (X:Cx Δ)(γ:Gh Δ):bg->Gh Δ
 |.m=>{γ with mine:=X.c0 .m}
 |r=>⟨no,no,X.c0 r,X.c0 r⟩
def Gz (Shun:Loc->Prop)(b:Nat):Prop:=∃l,Shun l/\lX b l
theorem Ou {r:bg}:born (T0 X) r↔r= .m:=by cases r<;>simp[born,T0]
theorem ahf (hA:Apart Shun own w)(hn:X.Fd≠X.Wg)(hfm:X.Fd≠X.M)(hmw:X.M≠X.Wg)(hoF:own X.Fd)(hoW:own X.Wg)(xD:own X.M)
  (hin:∀b,γ.own b\/γ.ro b->own b/\b≠X.Fd/\b≠X.Wg/\b≠X.M) (hd:∀b,γ.own b->¬γ.ro b):Lay X (Gz Shun) (O7 X γ) (T0 X) w.heap.size:=by
 have nS:∀b,own b->¬Gz Shun b:=λb hb ⟨l,h1,h2⟩=>hA.off b hb l h2 h1
 have gm:∀r c,(O7 X γ r).own c\/(O7 X γ r).ro c->r= .m/\(γ.own c\/γ.ro c):=λr c h=>by
  cases r with
  |m=>exact⟨rfl,h⟩
  |a=>exact h.elim False.elim False.elim
  |b=>exact h.elim False.elim False.elim
 refine⟨λr c h=>?_,λr h=>?_,λr=>⟨λh=>?_,λh=>?_⟩,λr r' c h h'=>?_,λr r' c h h'=>?_,λr c h=>?_,hfm,hn,hmw,λc hc=>?_,hA.lt _ hoF,hA.lt _ xD,hA.lt _ hoW⟩
 .obtain⟨rfl,h⟩:=gm r c h
  obtain⟨h1,h2,h3,h4⟩:=hin c h;exact⟨h2,h3,nS c h1,hA.lt c h1⟩
 .exact(hin _ (gm r _ (.inr h)).2).2.2.2 rfl
 .exact absurd rfl (hin _ (gm r _ (.inl h)).2).2.2.2
 .cases r<;>cases h
 .rw[(gm r c (.inl h)).1,(gm r' c (.inl h')).1]
 .obtain⟨rfl,_⟩:=gm r c (.inl h)
  obtain⟨rfl,_⟩:=gm r' c (.inr h');exact hd c h h'
 .exact Ou.2 (gm r c h).1
 .have hlt:c<w.heap.size:=by obtain⟨l,h1,h2⟩:=hc;exact hA.low l c h1 h2
  exact⟨hlt,λe=>nS _ hoF (e▸hc),λe=>nS _ xD (e▸hc),λe=>nS _ hoW (e▸hc)⟩
theorem JD (hz:Zero P Shun M t g w)(hA:Apart Shun own w)(hn:X.Fd≠X.Wg)(hfm:X.Fd≠X.M)(hmw:X.M≠X.Wg)(hoF:own X.Fd)(hoW:own X.Wg)(xD:own X.M)
  (hin:∀b,γ.own b\/γ.ro b->own b/\b≠X.Fd/\b≠X.Wg/\b≠X.M) (hd:∀b,γ.own b->¬γ.ro b) (hsh:ShAt X w ⟨0,0,0,0⟩) {o:Obj} (hM:w.heap[X.M]? =some o) (hD:X.Dat (X.c0 .a) (X.c0 .b) o)
  (Qz:NoRelease (mA X) t) (nrW:NoRelease (wA X) t) (hm:γ.mine=X.c0 .m)
  (hL:∀k,aD P true (fq X (eQ .k1) γ.ro) (dR (zu X P Post k) (at_ .k1 0) γ) γ.own g w):
  ∃n0 μ,BJ X P Post (Gz Shun) n0 μ M t:=by
 obtain⟨gs,sl,q,rfl,hg,hV,hI⟩:=hz.ex;have hP:=hz.past;obtain⟨ρ,hρ⟩:=hL (oo (T0 X) 0 15+1);have eγ:O7 X γ .m=γ:=by show({γ with mine:=X.c0 .m}:Gh Δ)=γ;rw[<-hm]
 have JO:0<gs.size:=(Ψ.1 hg).1;have bl:=λr (h:born (T0 X) r)=>Ou.1 h
 let C:Cf Δ:=⟨gs.size,T0 X,O7 X γ,λ_=>oo (T0 X) 0 15+1,λ_=>ρ,λ_=>1,λ_=>0,q,⟨0,0,0,0⟩,0,15⟩
 have k6:∀{a:Addr},lX a.block (.cell a):=fun {a}=> .inl ⟨a,rfl,rfl⟩
 have toSh:∀l,Shun l->yC X (Gz Shun) l:=λl hl=>by
  obtain⟨a,rfl⟩:=hA.cell l hl;exact⟨a,rfl,.inl ⟨_,hl,k6⟩⟩
 have kn:∀b,own b->∀i x,touchAt t i=some x->lX b x.loc->Knows t 0 i:=λb hb i x hx hl=>(hP.known i x hx hl.mem).elim id λh=>absurd h.1 (hA.off b hb _ hl)
 have adG:∀r c,(O7 X γ r).own c\/(O7 X γ r).ro c->r= .m/\(γ.own c\/γ.ro c):=λr c h=>by
  cases r with
  |m=>exact⟨rfl,h⟩
  |a=>exact h.elim False.elim False.elim
  |b=>exact h.elim False.elim False.elim
 refine⟨gs.size,C.ms gs.size,C,gs,w,sl,rfl,rfl,⟨JO,rfl,⟨JG,by show(0:Nat)<27;omega,JH,rfl,rfl,rfl⟩,λr h=>Nat.lt_succ_self _,hsh,λr h=>?_,λr h=>?_,λi g' h0 h1 hgi=>hV.old i g' h0 hgi,hV.above,λr h=>?_,λh1 h2=>⟨o,hM,hD⟩,λr h=>?_,λr h=>?_,λr h=>?_,ahf hA hn hfm hmw hoF hoW xD hin hd,?_⟩,rfl⟩
 .obtain rfl:=bl r h
  refine⟨g,hg,.inl ⟨by simp[C,T0],rfl,rfl,?_⟩⟩;show hU P true (fq X (eQ .k1) (O7 X γ .m).ro) (dR (AtR X P Post _ .m) (at_ .k1 0) (O7 X γ .m)) ρ (O7 X γ .m).own g w;rw[eγ];exact hρ
 .cases r with
  |m=>exact absurd (Ou.2 rfl) h
  |a=>exact⟨rfl,rfl⟩
  |b=>exact⟨rfl,rfl⟩
 .obtain rfl:=bl r h
  exact hP.hears
 .cases r<;>cases h
 .cases r<;>cases h
 .cases r<;>cases h
 .refine⟨hP.clean,λi x hx hs=>?_,λr c ho i x hx hb=>?_,λr i x hx hr hw=>?_,λ_ i x hx hb=> .inl λr hr=>?_,λi x hx hm=>?_,λi x hx hm r hr h _=>absurd (bl r h) hr,λi g' hg' h0 hc=> .inr (hP.over i g' hg' h0 hc),λi g' hg' hge=>?_,Qz,nrW,hP.seen⟩
  .rcases hP.known i x hx (GQ hs) with h|h
   .exact .inr (.inr λr hr=>by obtain rfl:=bl r hr;exact h)
   .exact .inl h.2
  .obtain⟨rfl,h⟩:=adG r c (.inl ho)
   exact kn c (hin c h).1 i x hx hb
  .obtain⟨hb,h|⟨sp,h⟩⟩:=hr
   .obtain rfl:=bl r hb
    obtain⟨c,hc,hl⟩:=h;exact kn c (hin c (adG .m c (.inr hc)).2).1 i x hx hl
   .obtain rfl:=bl r hb
    exact kn X.Fd hoF i x hx (by rw[h];exact k6)
  .obtain rfl:=bl r hr
   exact kn X.M xD i x hx hb
  .rcases hP.known i x hx hm with h|h
   .exact .inr (.inl h)
   .exact .inr (.inr ⟨toSh _ h.1,h.2⟩)
  .obtain⟨op,ho,e⟩:=τ.1 hg'
   have:=hI op (mem_of_getElem? ho);have e':gs.size<=g':=hge;omega
end
theorem Joined.zero {Δ:Type}{X:Cx Δ}{P:ω}{Post:Gh Δ->Ω->Θ->Prop}{S0:Nat->Prop}{n0:Nat}{gs:Array Ω}{w:Θ}{t:Trace}{sl:Option (Nat×Nat)}(h:Joined X P Post S0 n0 gs w t):
  ∃g γ,Zero P (yC X S0) (crowd gs w sl) t g w/\Post γ g w:=by
 obtain⟨g,γ,h0,hp⟩:=h.post;obtain⟨q,hq⟩:=h.ahe;exact⟨g,γ,⟨⟨gs,sl,q,rfl,h0,hq,λop ho=>by rw[h.size];exact h.ids op ho⟩,h.past⟩,hp⟩
abbrev OJ:η:=153
section
variable (W F bd bs bs' M:Nat)(dv:Φ)(fr:κ)(cs:List κ)
def sX1:Ω:=OT (cG (fT3 W F bd bs bs' M dv fr cs) (fr::cs) U)
theorem UI:au PP true (cG (fT3 W F bd bs bs' M dv fr cs) (fr::cs) U) (sX1 W F bd bs bs' M dv fr cs):=bA λws=>by kernel_rfl
theorem UH:aT (sX1 W F bd bs bs' M dv fr cs)=some (.load OJ (.pointer (some ⟨F,2,none⟩))):=by kernel_rfl
theorem PJ (M':Nat):au PP true (resume (sX1 W F bd bs bs' M dv fr cs) (.map (some M'))) (cG fr cs (.map (some M'))):=bO 4 (bT PP true 4 (resume (sX1 W F bd bs bs' M dv fr cs) (.map (some M')))) λws=>by kernel_rfl
end
section
variable {Shun:Loc->Prop}{Stop:Unit->Ω->Θ->Prop}{g g':Ω}{w:Θ}
theorem FQ (h:au PP true g g')(k:aD PP true (O8 Shun) Stop () g' w):aD PP true (O8 Shun) Stop () g w:=jY (acP Shun) h k
theorem acA {t:η}{a:Addr}{v:Φ}(h:aT g=some (.load t (.pointer (some a))))(ha:(PP.underlying t).map (λd=>match d with|.struct _|.array _ _=>true|_=>false)=some false)(hS:¬Shun (.cell a))(hc:w.cell? a=some v)
  (k:aD PP true (O8 Shun) Stop () (resume g v) w):aD PP true (O8 Shun) Stop () g w:=by
 have hlt:a.block<w.heap.size:=by
  unfold World.cell? at hc;cases hh:w.heap[a.block]? with
  |none=>rw[hh] at hc;simp at hc
  |some o=>exact lt_of_some hh
 refine aD.step (cY h).1 λw₁ h1=>?_
 obtain⟨d,rfl⟩:=h1;have hr:RT (lu.load t (.pointer (some a))).sem (w.at d) (.value v) (w.at d) #[⟨.cell a,false,false⟩]:=by
  refine RT.eN (x:=v) ?_ (.pure _);show RT (do if<-isAgg t then Pure.pure (.agg (<-loadCells a (<-Go.sizeOf t))) else load a) _ _ _ _;refine(ib ha).aS ?_;simp only[ι,if_false];exact kh hc
 obtain⟨es,e1,e2⟩:=fA (main:=true) h hr;refine⟨_,_,es,e1,⟨φ _,rfl,λe he=>?_,λe he a'=>?_⟩,?_⟩
 .have:=e2 e he
  simp at this;subst this;refine⟨λx hx hs=>?_,by simp,by simp,hlt⟩;simp[MemAct.ofEvent,MemAct.touch?] at hx;subst hx;exact absurd hs hS
 .have:=e2 e he
  simp at this;subst this;simp
 .exact(k.rely (⟨d,rfl⟩:AtRel w (w.at d)))
theorem JV {X:Cx iJ}{S0:Nat->Prop}{bd:Nat}{dv:Φ}{fr:κ}{cs:List κ}{qJ O0:Nat->Prop}{w0:Θ}{γ:Gh iJ}{s:Sh}(hP:vb X qJ O0 w0 bd dv fr cs γ g w)(hF:ShAt X w s)(hn:X.Fd≠X.Wg)(h0:¬S0 X.Fd):
  aD PP true (O8 (yC X S0)) (λ_ g' w'=>g'=cG fr cs (.map (some X.M))/\w'.heap=w.heap/\w'.output=w.output) () g w:=by
 obtain⟨⟨bs,bs',hg⟩,_⟩:=hP;refine FQ hg (FQ (UI _ _ _ _ _ _ _ _ _) (acA (UH _ _ _ _ _ _ _ _ _) (by kernel_rfl) (v:= .map (some X.M)) ?_ ?_ (FQ (PJ _ _ _ _ _ _ _ _ _ _) (.stop λw₁ h1=>⟨rfl,by obtain⟨d,rfl⟩:=h1;rfl,by obtain⟨d,rfl⟩:=h1;rfl⟩))))
 .rintro⟨a,e,ha⟩
  cases e;rcases ha with ha|ha|ha
  .exact h0 ha
  .exact hn ha
  .exact ha.2 rfl
 .have:=hF.1
  simp[World.cell?,this]
end
theorem xo {H own:Nat->Prop}{π:Nat->Nat}{wL w w':Θ}{m:Nat}{o0:Obj}(h:Link H no own no π wL w)(hs:w.heap.size<=w'.heap.size)(hk:∀b,own b->w'.heap[b]? =w.heap[b]?)
  (hm:w.heap.size<=m) (hm':m<w'.heap.size) (hrow:w'.heap[m]? =some o0) (hok:nY o0) (noH:∀r,¬j3 r o0) (hin:∀i,¬inner o0 i):
  ∃cu,Link H no (λb=>own b\/b=m) no cu {wL with heap:=wL.heap.push o0} w'/\(∀b,b<wL.heap.size->cu b=π b)/\cu wL.heap.size=m:=by
 let cu:Nat->Nat:=λi=>if i<wL.heap.size then π i else if i=wL.heap.size then m else w'.heap.size+i
 have e1:∀b,b<wL.heap.size->cu b=π b:=λb hb=>χ hb
 have e2:cu wL.heap.size=m:=by show(if _ then _ else _)=_;rw[ζ (by omega),χ rfl]
 have lo:∀b,H b\/no b->b<wL.heap.size:=h.lw.low;have hz0:0<wL.heap.size:=h.lw.zero.1;have e3:∀i,wL.heap.size<i->cu i=w'.heap.size+i:=λi hi=>by show(if _ then _ else _)=_;rw[ζ (by omega),ζ (by omega)]
 have hinj:∀i j,cu i=cu j->i=j:=λi j hij=>by
  have hi:=h.lt i;have hj:=h.lt j;rcases Nat.lt_trichotomy i wL.heap.size with a1|rfl|a1<;>rcases Nat.lt_trichotomy j wL.heap.size with a2|a2|a2
  .rw[e1 i a1,e1 j a2] at hij;exact h.inj _ _ hij
  .subst a2;rw[e1 i a1,e2] at hij;have:=hi a1;omega
  .rw[e1 i a1,e3 j a2] at hij;have:=hi a1;omega
  .rw[e2,e1 j a2] at hij;have:=hj a2;omega
  .omega
  .rw[e2,e3 j a2] at hij;omega
  .rw[e3 i a1,e1 j a2] at hij;have:=hj a2;omega
  .subst a2;rw[e3 i a1,e2] at hij;omega
  .rw[e3 i a1,e3 j a2] at hij;omega
 have old:∀b o,(wL.heap.push o0)[b]? =some o->(b<wL.heap.size/\wL.heap[b]? =some o)\/(b=wL.heap.size/\o=o0):=λb o hb=>by
  rw[Array.getElem?_push] at hb;split at hb
  .exact .inr ⟨by assumption,(ae7 hb).symm⟩
  .exact .inl ⟨(Ψ.1 hb).1,hb⟩
 have sz:(wL.heap.push o0).size=wL.heap.size+1:=by simp
 have vis:∀r,gV H wL r->gV H {wL with heap:=wL.heap.push o0} r:=λr hr=>⟨by show r<(wL.heap.push o0).size;rw[sz];have:=hr.1;omega,hr.2⟩
 have nH:¬H wL.heap.size:=λhh=>by have:=lo _ (.inl hh);omega
 have rn:∀b o,wL.heap[b]? =some o->¬H b->dE cu o=dE π o:=λb o hb hH=>wR λr hr=>e1 r (h.lw.Sa b o hb hH r hr).1
 refine⟨cu,⟨hinj,by rw[e1 0 hz0];exact h.zero,λb hb=>?_,?_,?_,λb hb _=>?_,λb hb=>hb.elim⟩,e1,e2⟩
 .have hb:b<(wL.heap.push o0).size:=hb
  rw[sz] at hb;rcases Nat.lt_or_ge b wL.heap.size with hl|hl
  .rw[e1 b hl];have:=h.lt b hl;omega
  .rw[show b=wL.heap.size by omega,e2];exact hm'
 .refine⟨λb o hb h1 h2=>?_,λb o hb h1=>?_,λb o hb h1=>h1.elim,λb hb=>?_,λb hb=>hb.elim,vis 0 h.lw.zero,λb o hb h1 r hr=>?_⟩
  .rcases old b o hb with⟨_,hb⟩|⟨_,rfl⟩
   .exact h.lw.ok b o hb h1 h2
   .exact hok
  .rcases old b o hb with⟨_,hb⟩|⟨rfl,rfl⟩
   .exact h.lw.hid b o hb h1
   .exact absurd h1 nH
  .show b<(wL.heap.push o0).size
   rw[sz];have:=lo b hb;omega
  .rcases old b o hb with⟨_,hb⟩|⟨rfl,rfl⟩
   .exact vis r (h.lw.Sa b o hb h1 r hr)
   .exact absurd hr (noH r)
 .refine⟨hinj,rfl,rfl,λb hb hH=>?_,λb o hb h1 h2=>?_,λb o hb h1=>?_,λb o hb h1=>h1.elim,λb hb=>?_,λb o hb i hi=>?_⟩
  .have hb:b<(wL.heap.push o0).size:=hb
   rw[sz] at hb;rcases Nat.lt_or_ge b wL.heap.size with hl|hl
   .rw[e1 b hl];have:=h.lt b hl;omega
   .rw[show b=wL.heap.size by omega,e2];exact hm'
  .rcases old b o hb with⟨hl,hb⟩|⟨rfl,rfl⟩
   .obtain⟨r1,r2⟩:=h.wr.ok b o hb h1 h2
    refine⟨r1,?_⟩;rw[e1 b hl,rn b o hb h1,hk _ (h.own b ⟨hl,h1⟩ id)];exact r2
   .refine⟨hok,?_⟩
    rw[e2,oT λr hr=>absurd hr (noH r)];exact hrow
  .rcases old b o hb with⟨_,hb⟩|⟨rfl,rfl⟩
   .exact h.lw.hid b o hb h1
   .exact absurd h1 nH
  .show b<(wL.heap.push o0).size
   rw[sz];have:=lo b hb;omega
  .rcases old b o hb with⟨_,hb⟩|⟨rfl,rfl⟩
   .have:=h.wr.yx b o hb i hi
    exact⟨by show i<(wL.heap.push o0).size;rw[sz];have h3:i<wL.heap.size:=this.1;omega,this.2⟩
   .exact absurd hi (hin i)
 .rcases Nat.lt_or_ge b wL.heap.size with hl|hl
  .rw[e1 b hl];exact .inl (h.own b ⟨hl,hb.2⟩ id)
  .have hb:b<(wL.heap.push o0).size:=hb.1
   rw[sz] at hb;rw[show b=wL.heap.size by omega,e2];exact .inr rfl
theorem Jx {H own:Nat->Prop}{π:Nat->Nat}{wL w w':Θ}{m:Nat}{es:Array af5}{c:Nat}(h:Link H no own no π wL w)(hs:w.heap.size<=w'.heap.size)(hk:∀b,own b->w'.heap[b]? =w.heap[b]?)
  (hm:w.heap.size<=m) (hm':m<w'.heap.size) (hrow:w'.heap[m]? =some (.map es c)) (hfix:∀e∈es,∀r,¬Value.Has r e.key/\¬Value.Has r e.val):
  ∃cu,Link H no (λb=>own b\/b=m) no cu {wL with heap:=wL.heap.push (.map es c)} w'/\(∀b,b<wL.heap.size->cu b=π b)/\cu wL.heap.size=m:=
 xo h hs hk hm hm' hrow trivial (λr hr=>by
  cases hr with
  |key he hh=>exact(hfix _ he r).1 hh
  |val he hh=>exact(hfix _ he r).2 hh) λi hi=>hi
theorem fQ.ren {H own:Nat->Prop}{π:Nat->Nat}{wL w:Θ}{d bl n:Nat}{x:DS}(h:fQ d bl n x wL)(hl:Link H no own no π wL w)(hd:gV H wL d):gV H wL bl/\fQ (π d) (π bl) n x w:=by
 obtain⟨⟨f1,h1⟩,⟨f2,h2⟩,⟨c,t,f3,h3,h4⟩,a,b,c',e⟩:=h;have hb:gV H wL bl:=hl.lw.Sa d _ h1 hd.2 bl (.cells (v:= .slice (some ⟨bl,0,Option.none⟩) n n) (by simp[iC]) (.slice rfl));refine⟨hb,⟨f1,?_⟩,⟨f2,?_⟩,⟨c,t,f3,?_,h4⟩,a,b,c',e⟩
 .rw[(hl.wr.ok d _ h1 hd.2 id).2]
  simp[dE,iC,aZ]
 .rw[(hl.wr.ok bl _ h2 hb.2 id).2]
  simp only[dE];rw[cx λv hv=>e9 v λr hr=>absurd hr (Am hv r)]
 .have:=(hl.wr.ok 0 _ h3 hl.lw.zero.2 id).2
  rw[hl.zero] at this;rw[this];simp only[dE];rw[cx λv hv=>e9 v λr hr=>absurd hr (h4 v hv r)]
theorem Ea {a b:iJ}{es:Array af5}{c:Nat}(h:Ga a b (.map es c)):∀e∈es,∀r,¬Value.Has r e.key/\¬Value.Has r e.val:=by
 obtain⟨es',c',f,e0,h1,h2⟩:=h;cases e0;intro e he r;obtain⟨s,hs⟩:=iG (h1.keys e (by simpa using he));have hv:=(h1.has s e.val).2 ⟨e,by simpa using he,hs,rfl⟩;rw[h2] at hv;refine⟨λhr=>by(rw[hs] at hr;cases hr),λhr=>?_⟩;unfold comb at hv;split at hv
 .rw[<-ae7 hv] at hr
  cases hr with
  |agg hm hr=>
   simp only[bR,List.mem_toArray,ab8,List.not_mem_nil,or_false] at hm;rcases hm with rfl|rfl|rfl|rfl|rfl|rfl<;>cases hr
 .cases hv
def aeO (x:DS)(n:Nat)(wL:Θ)(v:Φ)(w':Θ):Prop:=∃es c,v= .map (some wL.heap.size)/\(∃t d,w'=az {wL with heap:=wL.heap.push (.map es c)} t d)/\
 Ga (jQ (qE 0 (aM x n)) (qE 2 (aM x n))) (jQ (qE 1 (aM x n)) (qE 2 (aM x n))) (.map es c)
theorem ze (v:Φ)(c:κ)(CS:List κ):G (Frame.enter PP 88 #[v] .normal) (c::CS)=sT0 v c CS:=by
 unfold sT0 Nf;rfl
theorem Gk {E:av.Env}{wL:Θ}{d bl n:Nat}{x:DS}(hd:fQ d bl n x wL):av.CC E 88 #[.pointer (some ⟨d,0,none⟩)] (aeO x n wL) wL:=by
 intro c CS π M tr hp ha hk;obtain⟨Shun,Wu,w,hz,hl0,Z3,ho,KN⟩:=hp.ex
 let KK:Nat->Prop:=λq=>∃o,E.K q=some o
 have kk:∀q,KK q->q<w.heap.size/\∀l,lX q l->¬Shun l:=λq ⟨o,hq⟩=>⟨(Ψ.1 (KN q o hq).2.1).1,(KN q o hq).2.2⟩
 obtain⟨own,hown⟩:∃own:Nat->Prop,own=λb=>Wu b\/KK b:=⟨_,rfl⟩
 have hl:Link E.H av.no own av.no π wL w:=by rw[hown];exact hl0.wider λb hb=> .inl hb
 have hA:Apart Shun own w:=by rw[hown];exact Z3.union KK kk
 have Ma:∀q,KK q->own q:=λq hq=>by rw[hown];exact .inr hq
 have hvd:gV E.H wL d:=ha (.pointer (some ⟨d,0,none⟩)) (by simp) d (.ptr rfl);obtain⟨hvb,hR1⟩:=hd.ren hl hvd;have NS:(#[Value.pointer (some ⟨d,0,none⟩)]:Array Φ).map (Value.ren π)=#[pb (π d)]:=by simp[aZ,pb]
 rw[NS,ze] at hz;have rdo:∀b,va (π d) (π bl) b->own b:=λb hb=>by
  rcases hb with rfl|rfl|rfl
  .have:=hl.own 0 hl.lw.zero id;rwa [hl.zero] at this
  .exact hl.own d hvd id
  .exact hl.own bl hvb id
 obtain⟨N1,M1,t1,g1,w1,r1,hz1,⟨s,⟨⟨rfl,rfl,hL⟩,_,u1⟩,hA1⟩,o1,nr1⟩:=kY hz (vI (pn (λ_=>False) JA λ_ h=>h.elim) hA);have yS:∀b,own b->b<w.heap.size:=hA.lt;have aaZ:∀b,own b->w1.heap[b]? =w.heap[b]? :=λb hb=>hL.old b (yS b hb)
 have hR2:fQ (π d) (π bl) n x w1:=by
  have k:∀b o,va (π d) (π bl) b->w.heap[b]? =some o->w1.heap[b]? =some o:=λb o hb hbo=>by rw[aaZ b (rdo b hb)];exact hbo
  obtain⟨⟨f1,h1⟩,⟨f2,h2⟩,⟨c,t,f3,h3,h4⟩,a,b,c',e⟩:=hR1;exact⟨⟨f1,k _ _ (.inr (.inl rfl)) h1⟩,⟨f2,k _ _ (.inr (.inr rfl)) h2⟩,⟨c,t,f3,k _ _ (.inl rfl) h3,h4⟩,a,b,c',e⟩
 let X:Cx iJ:={Fd:=w.heap.size+2,M:=w.heap.size+1,Wg:=w.heap.size+3,tF:=KO,tW:=TWg,Dat:=Ga,fin:=λr=>match r with|.b=>jQ (qE 1 (aM x n)) (qE 2 (aM x n))|_=>jQ (qE 0 (aM x n)) (qE 2 (aM x n)),c0:=λ_ _=>none,N:=λ_=>108}
 let γ:Gh iJ:=⟨va (π d) (π bl),λb=>(own b\/b=w.heap.size)/\¬va (π d) (π bl) b,λ_=>none,λ_=>none⟩
 have ol:∀b,γ.own b\/γ.ro b->own b\/b=w.heap.size:=λb hb=>hb.elim (·.1) λh=> .inl (rdo b h)
 have ol1:∀b,γ.own b\/γ.ro b->b<w.heap.size+1:=λb hb=>(ol b hb).elim (λh=>by have:=yS b h;omega) λh=>by omega
 have hsh:ShAt X w1 ⟨0,0,0,0⟩:=⟨hL.fd,hL.wg⟩
 have ahX:Reads X (va (π d) (π bl)) (fQ (π d) (π bl) n x) (pb (π d)) (qE 0 (aM x n)) (qE 1 (aM x n)) (qE 2 (aM x n)) 54:=
  ⟨λro own w w' hro h hr=>h.keep hro hr,λro hro=>p9 hro .a 0,λro hro=>p9 hro .a 2,λro hro=>p9 hro .b 1,λro hro=>p9 hro .b 2,rfl,rfl,λ_=>rfl,λ_=>φ _⟩
 have hB:Base X γ w1:=⟨rfl,⟨by show w.heap.size+2≠w.heap.size+3;omega,λb hb=>by
   have:=ol1 b hb;exact⟨by show b≠w.heap.size+2;omega,by show b≠w.heap.size+3;omega⟩⟩,λhb=>by have:=ol1 _ (.inl hb);simp[X] at this,λhb=>by have:=ol1 _ (.inr hb);simp[X] at this,by show w.heap.size+1≠w.heap.size+2;omega,by show w.heap.size+1≠w.heap.size+3;omega,λb hb=>by
   have:=ol1 b hb;have:=hL.size;omega,by show w.heap.size+1<_;have:=hL.size;omega,⟨_,hsh⟩⟩
 have acn:∀a:Addr,w.heap.size<=a.block->NoRelease a t1:=λa hlow i hi=>by
  obtain⟨op,hop,e⟩:=τ.1 hi;rcases nr1 op (mem_of_getElem? hop) with h|h
  .have:=hz.past.seen op h
   rw[e] at this;have:a.block<w.heap.size:=this;omega
  .exact h a e
 have s1:w1.heap.size=w.heap.size+4:=hL.size;obtain⟨n0,μ,hI⟩:=JD (X:=X) (γ:=γ) (Post:=vb X (va (π d) (π bl)) γ.own w1 w.heap.size (pb (π d)) c CS) hz1 hA1 (by show w.heap.size+2≠w.heap.size+3;omega) (by show w.heap.size+2≠w.heap.size+1;omega) (by show w.heap.size+1≠w.heap.size+3;omega)
  (.inr ⟨by show w.heap.size<=w.heap.size+2;omega,by show w.heap.size+2<_;omega⟩) (.inr ⟨by show w.heap.size<=w.heap.size+3;omega,by show w.heap.size+3<_;omega⟩) (.inr ⟨by show w.heap.size<=w.heap.size+1;omega,by show w.heap.size+1<_;omega⟩)
  (λb hb=>by
   have h1:=ol b hb;have h2:=ol1 b hb;exact⟨h1.imp id λe=>⟨by omega,by omega⟩,by show b≠w.heap.size+2;omega,by show b≠w.heap.size+3;omega,by show b≠w.heap.size+1;omega⟩)
  (λb hb=>hb.2) hsh hL.map ⟨#[],0,λ_=>none,rfl,.empty 0,λ_=>rfl⟩ (acn _ (by show w.heap.size<=w.heap.size+2;omega)) (acn _ (by show w.heap.size<=w.heap.size+3;omega)) rfl
  (λk=>Aw ahX hB (λb hb=>hb) (λb hb=>hb) hR2 (.refl X _ _ w1) ⟨.inr rfl,λhb=>by have:=yS _ (rdo _ hb);omega⟩ (by show w1.cell? ⟨w.heap.size,0,none⟩=_;simp[World.cell?,hL.box,pb]))
 obtain⟨N2,gs2,w2,sl2,t2,r2,hJ⟩:=IC μ M1 t1 hI;obtain⟨g2,γ2,hz2,hP⟩:=hJ.zero (sl:=sl2);have hrx:=hP.2.2;obtain⟨s2,hs2⟩:=hrx.live ⟨_,hsh⟩;obtain⟨o,xD,hoD⟩:=hP.2.1;obtain⟨es,cl,f,rfl,hM1,hM2⟩:=hoD;have nS:∀b,own b\/(w.heap.size<=b/\b<w.heap.size+4)->¬Gz Shun b:=λb hb ⟨l,h1,h2⟩=>hA1.off b hb l h2 h1
 obtain⟨N3,M3,t3,g3,w3,r3,hz3,⟨rfl,hw3,u3⟩,o3,_⟩:=kY hz2 (JV hP hs2 (by show w.heap.size+2≠w.heap.size+3;omega) (nS _ (.inr ⟨by show w.heap.size<=w.heap.size+2;omega,by show w.heap.size+2<_;omega⟩)));have s2':w1.heap.size<=w2.heap.size:=hrx.size
 have dF:Ga (jQ (qE 0 (aM x n)) (qE 2 (aM x n))) (jQ (qE 1 (aM x n)) (qE 2 (aM x n))) (.map es cl):=⟨es,cl,f,rfl,hM1,hM2⟩
 have Tu:∀b,own b->w3.heap[b]? =w.heap[b]? :=(λb hb=>by
   rw[hw3,hrx.keep b (by have:=yS b hb;omega) (by
    by_cases hr:va (π d) (π bl) b
    .exact .inr hr
    .exact .inl ⟨.inl hb,hr⟩)]
   exact aaZ b hb)
 obtain⟨cu,hl',ag,em⟩:=Jx (m:=w.heap.size+1) hl (w':=w3) (by rw[hw3];omega) Tu (by omega) (by rw[hw3];omega) (by rw[hw3];exact xD) (Ea dF);have fin:=hk (.map (some wL.heap.size)) {wL with heap:=wL.heap.push (.map es cl)} cu M3 t3 ⟨wL.tape,wL.drawn,es,cl,rfl,⟨wL.tape,wL.drawn,rfl⟩,dF⟩ ?_ ?_ ag (by simp)
 .exact E.back _ _ _ _ _ r1 (E.back _ _ _ _ _ r2 (E.back _ _ _ _ _ r3 fin))
 .have FE:∀b,gV E.H {wL with heap:=wL.heap.push (.map es cl)} b->¬KK (cu b):=λb hb hq=>by
   have hb1:b<wL.heap.size+1:=by have:=hb.1;simpa using this
   have hlt:=(kk _ hq).1
   by_cases hlt2:b<wL.heap.size
   .rw[ag b hlt2] at hq
    obtain⟨o',hq⟩:=hq;exact(KN _ o' hq).1 (hl0.own b ⟨hlt2,hb.2⟩ id)
   .have:b=wL.heap.size:=by omega
    rw[this,em] at hlt;omega
  have hAp:Apart (yC X (Gz Shun)) (λb=>own b\/b=w.heap.size+1) w3:=by
   refine⟨λb hb l hlb hS=>?_,λb hb=>?_,λl b hS hlb=>?_,λl hS=>?_⟩
   .obtain⟨a,rfl,ha⟩:=hS
    have eb:=k6 hlb;have hb':own b\/(w.heap.size<=b/\b<w.heap.size+4):=hb.imp id λe=>⟨by omega,by omega⟩
    have lt1:b<=w.heap.size+1:=hb.elim (λh=>by have:=yS b h;omega) λe=>by omega
    rcases ha with ha|ha|ha
    .rw[eb] at ha;exact nS b hb' ha
    .have:a.block=w.heap.size+3:=ha;omega
    .have:a.block=w.heap.size+2:=ha.1;omega
   .rw[hw3]
    rcases hb with hb|hb
    .have:=yS b hb;omega
    .omega
   .obtain⟨a,rfl,ha⟩:=hS
    have eb:=k6 hlb;rw[hw3];rcases ha with ha|ha|ha
    .obtain⟨l',h1,h2⟩:=ha
     have:=hA.low l' _ h1 h2;omega
    .have:a.block=w.heap.size+3:=ha;omega
    .have:a.block=w.heap.size+2:=ha.1;omega
   .obtain⟨a,rfl,_⟩:=hS
    exact⟨a,rfl⟩
  refine⟨yC X (Gz Shun),_,w3,?_,hl'.less KK FE,hAp.part λb hb=>hb.1,?_,λq o hq=>⟨λhb=>hb.2 ⟨o,hq⟩,(Tu q (Ma q ⟨o,hq⟩)).trans (KN q o hq).2.1,λl hl=>hAp.off q (.inl (Ma q ⟨o,hq⟩)) l hl⟩⟩
  .have e:Value.ren cu (.map (some wL.heap.size))= .map (some (w.heap.size+1)):=by simp[em]
   rw[e];exact hz3
  .refine⟨?_,u3.trans (hrx.output.trans (u1.trans ho.2))⟩
   rw[o3];have h1:OsLater E.os w1.os:=by rw[o1];exact ho.1
   exact h1.trans hrx.os
 .intro r hr
  cases hr;exact⟨by show wL.heap.size<(wL.heap.push _).size;simp,λhh=>by have:=hl.lw.low _ (.inl hh);omega⟩
end aG
end
section
open Go.Conc
open Go.ConcM (OsLater)
namespace aG
section
variable {P:ω}{main:Bool}{b:κ}{a:Act}{k:List Item}{cs:List κ}{w w':Θ}{l:Nat}{mark:List Deferred}
theorem vE {w:Θ}{l:Nat}{r:Loop}(h:w.heap[l]? =some (.loop r)):RT (Instr.getLoop l) w r w #[⟨.obj l,false,false⟩]:=RT.eN (x:= .loop r) (gG h) (.pure _)
theorem LF {w:Θ}{l:Nat}{r:Loop}(h:w.heap[l]? =some (.loop r))(hr:r.state= .ready):RT (Instr.beginRound l) w () {w with heap:=w.heap.setIfInBounds l (.loop {r with state:= .busy})} #[⟨.obj l,false,false⟩,⟨.obj l,true,false⟩]:=by
 refine RT.bind (x:=r) (e1:=#[⟨.obj l,false,false⟩]) (e2:=#[⟨.obj l,true,false⟩]) (vE h) ?_;refine RT.eN (x:=()) (jl h) ?_;rw[hr];exact .pure _
theorem P3 {w:Θ}{l:Nat}{r:Loop}(h:w.heap[l]? =some (.loop r)):RT (Instr.endRound l none) w (.bool true) {w with heap:=w.heap.setIfInBounds l (.loop {r with state:= .ready,pending:=none})} #[⟨.obj l,false,false⟩,⟨.obj l,true,false⟩]:=by
 refine RT.bind (x:=r) (e1:=#[⟨.obj l,false,false⟩]) (e2:=#[⟨.obj l,true,false⟩]) (vE h) ?_;exact RT.eN (x:=()) (jl h) (.pure _)
theorem P4 {w:Θ}{l:Nat}{r:Loop}(h:w.heap[l]? =some (.loop r))(hr:r.state= .ready):RT (Instr.endLoop l) w r.pending {w with heap:=w.heap.setIfInBounds l (.loop {r with state:= .exhausted})} #[⟨.obj l,false,false⟩,⟨.obj l,true,false⟩]:=by
 refine RT.bind (x:=r) (e1:=#[⟨.obj l,false,false⟩]) (e2:=#[⟨.obj l,true,false⟩]) (vE h) ?_;have hb:(r.state==LoopState.busy)=false:=by rw[hr];rfl
 rw[hb];exact RT.eN (x:=()) (jl h) (.pure _)
theorem P1 {w:Θ}{D:Nat}(h:w.heap[D]? =some (.deferred (some []))):RT (Instr.takeDeferred D) w [] {w with heap:=w.heap.setIfInBounds D (.deferred none)} #[⟨.obj D,false,false⟩,⟨.obj D,true,false⟩]:=by
 refine RT.bind (x:= .deferred (some [])) (e1:=#[⟨.obj D,false,false⟩]) (e2:=#[⟨.obj D,true,false⟩]) (gG h) ?_;exact RT.eN (x:=()) (jl h) (.pure _)
theorem LC {w:Θ}{l:Nat}{r:Loop}{args:Array Φ}(h:w.heap[l]? =some (.loop r))(hs:args.size=r.params.size):
  RT (Instr.yield l args) w (.round l r.fn ((r.params.zip args).foldl (λtmps (t,a)=>tmps.setIfInBounds t a) r.tmps) r.assign r.body) w #[⟨.obj l,false,false⟩]:=by
 refine RT.eN (x:=r) (vE h) ?_;rw[ζ (by simpa using hs)];exact .pure _
theorem AQ (fn:aa9)(tmps:Array Φ)(ps:Array Tmp)(assign body:Code):
  RT (Instr.enterLoop fn tmps ps assign body none) w (w.heap.size+1,[{target:= .collected w.heap.size,args:=#[]}])
   {w with heap:=(w.heap.push (.deferred (some []))).push (.loop {state:= .ready,pending:=none,fn,tmps,params:=ps,assign,body,defers:=w.heap.size})} #[]:=by
 have h2:=oN (w:={w with heap:=w.heap.push (.deferred (some []))}) (.loop {state:= .ready,pending:=none,fn,tmps,params:=ps,assign,body,defers:=w.heap.size});have e:(w.heap.push (.deferred (some []))).size=w.heap.size+1:=by simp
 rw[e] at h2;exact RT.aS (x:=w.heap.size) (oN _) (RT.aS (x:=(w.heap.size,[({target:= .collected w.heap.size,args:=#[]}:Deferred)])) (.pure _) (RT.aS h2 (.pure _)))
theorem vJ:(CallKind.normal==CallKind.early)=false:=rfl
theorem ifT {α:Type}(a b:α):(if(true=true) then a else b)=a:=χ rfl
section
variable {fr:κ}{s:Sem Next}{ev:Array Event}{listen:Bool}
theorem Ev {f:aa9}{args:Array Φ}(h:RT s w (.enter f args) w' ev)(hk:fr.kind= .normal)(ht:∀d r x k,fr.todo≠.call d true r x::k):
  stepG.apply PP true fr cs none s w= .go (G (Frame.enter PP f args .normal) (fr::cs)) w' (seen PP fr.fn ev):=by
 have h1:=h #[];rw[Array.empty_append] at h1;unfold stepG.apply;simp only[ifT,h1,hk,vJ];have:(match fr.todo with|.call _ true _ _::_=>CallKind.wrapped|_=> .normal)= .normal:=by
  split
  .exact absurd (by assumption) (ht _ _ _ _)
  .rfl
 simp[GStep.after,G]
theorem pF {v:Φ}(h:RT s w (.value v) w' ev)(hk:fr.kind= .normal):stepG.apply PP true fr cs none s w= .go (G (fr.finish v) cs) w' (seen PP fr.fn ev):=by
 have h1:=h #[];rw[Array.empty_append] at h1;unfold stepG.apply;simp only[ifT,h1,hk,vJ];simp[GStep.after,G]
theorem ym (h:RT s w .skip w' ev)(hk:fr.kind= .normal):stepG.apply PP true fr cs none s w= .go (G (fr.finish undef) cs) w' (seen PP fr.fn ev):=by
 have h1:=h #[];rw[Array.empty_append] at h1;unfold stepG.apply;simp only[ifT,h1,hk,vJ];simp[GStep.after,G]
theorem Eu {f:aa9}{tm:Array Φ}{vS body:Code}(h:RT s w (.round l f tm vS body) w' ev)(hk:fr.kind= .normal):stepG.apply PP true fr cs none s w= .go (G (Frame.round l f tm vS body .normal) (fr::cs)) w' (seen PP fr.fn ev):=by
 have h1:=h #[];rw[Array.empty_append] at h1;unfold stepG.apply;simp only[ifT,h1,hk,vJ];simp[GStep.after,G]
end
theorem yI {g:aa8}{ps:Array Tmp}{vS body:Code}{gf:Nat}{lb:Array Φ}{fn:Func}(hg:a.eval g= .func (.func gf) #[] lb)(hf:PP.funcs[gf]? =some fn)(hb:fn.body.isNone=false)(hn:(fn.name== "runtime.NumGoroutine")=false)(hk:b.kind= .normal)
  (h:RT (Instr.enterLoop b.fn a.tmps ps vS body none) w (l,mark) w' #[]):
  stepG PP main (G (b.at a (.code (.rangeFunc g ps vS body)::k)) cs) w= .go (G (Frame.enter PP gf (#[.func (.yield l) #[] #[]]++lb) .normal) (b.at {a with defers:=mark++a.defers} (.inRangeFunc l::k)::cs)) w' #[]:=by
 have h1:=h #[];have hev:Frame.eval {fn:=b.fn,tmps:=a.tmps,todo:= .inRangeFunc l::k,defers:=mark++a.defers,mode:= .run,kind:=b.kind} g= .func (.func gf) #[] lb:=by
  rw[<-hg];cases g<;>rfl
 have h2:RT (callFunc gf (#[.func (.yield l) #[] #[]]++lb)) w' (.enter gf (#[.func (.yield l) #[] #[]]++lb)) w' #[]:=by
  refine gh.aS ?_;rw[hf];simp only[hn,hb];exact .pure _
 have h3:RT (do let d <-resolve (Frame.eval {fn:=b.fn,tmps:=a.tmps,todo:= .inRangeFunc l::k,defers:=mark++a.defers,mode:= .run,kind:=b.kind}) {callee:= .value g,args:=#[.const (.func (.yield l) #[] #[])],argTypes:=#[]} 0;invoke d.target d.args) w' (.enter gf (#[.func (.yield l) #[] #[]]++lb)) w' #[]:=by
  refine RT.aS (x:={target:= .fn (.func gf) lb,args:=#[.func (.yield l) #[] #[]]}) ?_ (show RT (invoke (.fn (.func gf) lb) #[.func (.yield l) #[] #[]]) _ _ _ _ from h2);unfold resolve;simp only[List.map_toArray,List.map_cons,List.map_nil,hev];exact .pure _
 rw[Array.append_empty] at h1;unfold stepG stepG.exec;simp only[G,Frame.at];rw[h1];dsimp only;have h5:=Ev (cs:=cs) (fr:={fn:=b.fn,tmps:=a.tmps,todo:= .inRangeFunc l::k,defers:=mark++a.defers,mode:= .run,kind:=b.kind}) h3 hk (by simp);rw[h5];simp[seen_none,GStep.after,G]
section
variable {fr:κ}{ev:Array Event}{c:κ}
theorem stepG_op {ops:Array Oper}{i:Nat}{rest:List Nat}{o:Oper}(hm:fr.mode= .run)(ht:fr.todo= .inRegion ops (i::rest)::k)(ho:ops[i]? =some o)(hw:Region.wanted o (yielded ops fr.tmps)=true)(hnd:∀c,o.op≠.defer c):
  stepG PP main (G fr cs) w=stepG.apply PP true fr cs none (execOp fr.eval o) w:=by
 have h1:fr.oper? =some o:=by simp[Frame.oper?,ht,ho]
 unfold stepG stepG.exec;simp only[G,hm,ht,ho,ε,hw,Option.getD_some,if_true];unfold stepG.oper;rw[h1];dsimp only;split
 .exact absurd (by assumption) (hnd _)
 .rfl
theorem Cn (hm:fr.mode= .run)(ht:fr.todo= .beginRound::k)(hr:fr.roundOf=some l)(hk:fr.kind= .normal)(h:RT (Instr.beginRound l) w () w' ev):
  stepG PP main (G fr cs) w= .go (G (fr.finish undef) cs) w' (seen PP fr.fn ev):=by
 unfold stepG stepG.exec;simp only[G,hm,ht,hr,Option.elim_some];exact ym (RT.eN h (.pure _)) hk
theorem EK (hm:fr.mode= .run)(ht:fr.todo=[])(hr:fr.roundOf=some l)(hk:fr.kind= .normal)(h:RT (Instr.endRound l none) w (.bool true) w' ev):
  stepG PP main (G fr (c::cs)) w= .go (G (c.finish (.bool true)) cs) w' (seen PP fr.fn ev):=by
 have h1:=h #[];rw[Array.empty_append] at h1;unfold stepG stepG.exec;simp only[G,hm,ht,hr,h1,doReturn,hk,GStep.after];simp
theorem EL (hm:fr.mode= .run)(ht:fr.todo= .endRangeFunc l::k)(h:RT (Instr.endLoop l) w none w' ev):
  stepG PP main (G fr cs) w= .go (G {fr with todo:=k} cs) w' (seen PP fr.fn ev):=by
 have h1:=h #[];rw[Array.empty_append] at h1;unfold stepG stepG.exec;simp only[G,hm,ht,h1,GStep.after];simp
theorem EJ {D:Nat}{ar:Array Φ}{ds calls:List Deferred}(hm:fr.mode= .returning)(hd:fr.defers={target:= .collected D,args:=ar}::ds)(h:RT (Instr.takeDeferred D) w calls w' ev):
  stepG PP main (G fr cs) w= .go (G {fr with defers:=calls++ds} cs) w' (seen PP fr.fn ev):=by
 have h1:=h #[];rw[Array.empty_append] at h1;unfold stepG unwind;simp only[G,hm,hd,h1,GStep.after];simp
end
end
abbrev jR:η:=9
abbrev lW:η:=45
theorem Ca:PP.underlying lW=some (.slice jR):=by kernel_rfl
theorem Bh:(PP.info? jR).map (·.size)=some 1:=by kernel_rfl
theorem GD:(PP.info? jR).bind (·.zero)=some (.string ⟨#[]⟩):=by kernel_rfl
def Hi:TypeInfo:=(PP.info? jR).getD default
theorem xA:PP.info? jR=some Hi:=by kernel_rfl
theorem uH:Hi.bytes=16:=by kernel_rfl
section
variable {w:Θ}{k:Ξ}
theorem CR:RT (Instr.buildSlice lW 1 #[(0,.string k)]) w (.slice (some ⟨w.heap.size,0,none⟩) 1 1) {w with heap:=w.heap.push (.cells #[.string k] jR (0,0))} #[]:=by
 unfold Instr.buildSlice;refine(fY Ca).aS ?_;dsimp only;refine(pM Bh).aS ?_;simp only[Nat.reduceMul,Nat.reducePow,Nat.reduceGT,if_false,Nat.reduceEqDiff,Nat.one_ne_zero];refine(vD GD).aS (RT.aS (x:=#[.string ⟨#[]⟩]) (.pure _) ?_)
 have h3:Instr.fill (λi=>some (i*1,1)) ((Array.range 1).map (λx=>(#[(.string ⟨#[]⟩:Φ)]:Array Φ)[x%(#[(.string ⟨#[]⟩:Φ)]:Array Φ).size]!)) [(0,.string k)]=some #[.string k]:=by
  have e:(Array.map (λx=>(#[(.string ⟨#[]⟩:Φ)]:Array Φ)[x%(#[(.string ⟨#[]⟩:Φ)]:Array Φ).size]!) (Array.range 1))=#[.string ⟨#[]⟩]:=by
   rw[show Array.range 1=#[0] from Array.ext (by simp) λi h1 h2=>by simp at h1;subst h1;simp];simp
  rw[e];simp[Instr.fill,Value.cells]
 rw[h3];exact RT.aS (x:=⟨w.heap.size,0,none⟩) (RT.aS (oN _) (.pure _)) (.pure _)
def Strs (w:Θ)(own:Nat->Prop)(v:Φ)(ks:List Ξ):Prop:=
 (v= .slice none 0 0/\ks=[])\/∃sk cap,v= .slice (some ⟨sk,0,none⟩) ks.length cap/\own sk/\ks.length<=cap/\w.heap[sk]? =some (.cells (ks.map Value.string++List.replicate (cap-ks.length) (Value.string ⟨#[]⟩)).toArray jR (0,0))
structure App (own:Nat->Prop)(ks:List Ξ)(w:Θ)(v:Φ)(w':Θ)(ev:Array Event):Prop where
 tape:w'.tape=w.tape
 output:w'.output=w.output
 os:w'.os=w.os
 size:w.heap.size<=w'.heap.size
 keep:∀b,b<w.heap.size->¬own b->w'.heap[b]? =w.heap[b]?
 strs:Strs w' (λb=>own b\/(w.heap.size<=b/\b<w'.heap.size)) v ks
 ev:∀e∈ev,(∃b,own b/\EvB b e)\/∃m,e.loc= .mark m/\pi m
theorem EV (cs:Array Φ)(v:Φ)(i:Nat):kQ cs [v] i=cs.setIfInBounds i v:=rfl
theorem um {b:Nat}{f:Nat×Nat}(h:w.heap[b]? =some (.cells #[.string k] jR f)):∃ev,RT (Builtin.firstCells 1 1 (.slice (some ⟨b,0,none⟩) 1 1)) w #[.string k] w ev/\∀e∈ev,EvB b e:=by
 obtain⟨ev,h1,h2⟩:=kg h 0 1 0 #[] (by simp);refine⟨ev,?_,λe he=>?_⟩
 .have e1:(#[]:Array Φ)++(#[Value.string k]:Array Φ).extract (0+0) (0+0+1)=#[.string k]:=by simp
  rw[e1] at h1;exact h1
 .obtain⟨a,rfl,ha⟩:=h2 e he
  exact iX ha
theorem CQ {b n cap:Nat}{cs:Array Φ}{f:Nat×Nat}(h:w.heap[b]? =some (.cells cs jR f))(hn:n<=cs.size):∃ev,RT (Builtin.firstCells 1 n (.slice (some ⟨b,0,none⟩) n cap)) w (cs.extract 0 n) w ev/\∀e∈ev,EvB b e:=by
 obtain⟨ev,h1,h2⟩:=kg h 0 n 0 #[] (by omega);refine⟨ev,?_,λe he=>?_⟩
 .have e1:(#[]:Array Φ)++cs.extract (0+0) (0+0+n)=cs.extract 0 n:=by simp
  rw[e1] at h1;show RT (loadCells ⟨b,0,none⟩ (n*1)) _ _ _ _;rw[Nat.mul_one];exact h1
 .obtain⟨a,rfl,ha⟩:=h2 e he
  exact iX ha
theorem GZ {a:Option Addr}{n c:Nat}:RT (Builtin.lenOf (.slice a n c)) w n w #[]:= .pure _
theorem Kz {base:Option Addr}{n cap xb:Nat}{ty:η}{sv:Φ}{w':Θ}{ev:Array Event}(hc:n+1<=cap)
  (h:RT (do
    let new <-Builtin.firstCells 1 1 (.slice (some ⟨xb,0,none⟩) 1 1)
    if let some a:=base then storeCells (a.add (n*1)) new.toList
    pure (.slice base (n+1) cap)) w sv w' ev):
  RT (Builtin.append_ #[lW,lW] ty #[.slice base n cap,.slice (some ⟨xb,0,none⟩) 1 1]) w sv w' ev:=by
 unfold Builtin.append_;show RT (underlying lW>>=_) _ _ _ _;refine(fY Ca).aS ?_;dsimp only;refine(pM Bh).aS ?_;show RT (underlying lW>>=_) _ _ _ _;refine(fY Ca).aS ?_;refine RT.aS (x:=false) (.pure _) ?_;simp only[ι,if_false,Bool.not_false,if_true];refine GZ.aS ?_;rw[χ hc];exact h
theorem Gv {base:Option Addr}{n cap xb:Nat}{ty:η}{sv:Φ}{w':Θ}{ev:Array Event}(hc:¬n+1<=cap)(hl:n<2^40)(hcap:cap<=n)
  (h:RT (do
    let newCap <-choose (.appendCap (n+1) cap jR)
    askRoom (newCap*(<-typeInfo jR).bytes)
    let old <-Builtin.firstCells 1 n (.slice base n cap)
    let new <-Builtin.firstCells 1 1 (.slice (some ⟨xb,0,none⟩) 1 1)
    let rest:=Builtin.zeroCells (<-zeroValue jR).cells (newCap-(n+1))
    pure (.slice (some (<-newRow jR (old++new++rest))) (n+1) newCap)) w sv w' ev):
  RT (Builtin.append_ #[lW,lW] ty #[.slice base n cap,.slice (some ⟨xb,0,none⟩) 1 1]) w sv w' ev:=by
 unfold Builtin.append_;show RT (underlying lW>>=_) _ _ _ _;refine(fY Ca).aS ?_;dsimp only;refine(pM Bh).aS ?_;show RT (underlying lW>>=_) _ _ _ _;refine(fY Ca).aS ?_;refine RT.aS (x:=false) (.pure _) ?_;simp only[ι,if_false,Bool.not_false,if_true,false_or];refine GZ.aS ?_;rw[ζ hc];refine(rW xA).aS ?_
 have hcap2:Builtin.nextslicecap (n+1) cap*Hi.bytes<=2^48:=by
  rw[uH];unfold Builtin.nextslicecap;have g:∀(r c:Nat),c<=2^41->Builtin.growBy (n+1) r c<=2^42:=by
   intro r
   induction r with
   |zero=>intro c hc';unfold Builtin.growBy;omega
   |succ r ih=>
    intro c hc';unfold Builtin.growBy;split
    .omega
    .refine ih _ ?_;omega
  split
  .omega
  .split
   .omega
   .have:=g 4 cap (by omega);omega
 rw[ζ (by rw[uH];omega)];refine(rW xA).aS ?_;rw[ζ (by omega)];exact h
theorem set_mid {α:Type}(A:List α)(b c:α)(B:List α):(A++b::B).set A.length c=A++c::B:=by
 induction A with
 |nil=>rfl
 |cons x A ih=>simp[ih]
theorem yE (m:Nat):Builtin.zeroCells #[.string ⟨#[]⟩] m=Array.replicate m (Value.string ⟨#[]⟩):=by
 unfold Builtin.zeroCells
 apply Array.ext
 .simp
 .intro i h1 h2
  simp[Nat.mod_one]
theorem I4 {own:Nat->Prop}{s:Φ}{ks:List Ξ}{xb:Nat}{f:Nat×Nat}(ty:η)(hs:Strs w own s ks)(hx:w.heap[xb]? =some (.cells #[.string k] jR f))(ox:own xb)(hl:ks.length<2^40):
  ∃v w' ev,RT (Builtin.append_ #[lW,lW] ty #[s,.slice (some ⟨xb,0,none⟩) 1 1]) w v w' ev/\App own (ks++[k]) w v w' ev:=by
 have grow:∀{base:Option Addr} {cap:Nat} {ev0:Array Event},¬ks.length+1<=cap->cap<=ks.length->(∀w1,w1.heap=w.heap->∃ev0,RT (Builtin.firstCells 1 ks.length (.slice base ks.length cap)) w1 (ks.map Value.string).toArray w1 ev0/\∀e∈ev0,∃b,own b/\EvB b e)->
   ∃v w' ev,RT (Builtin.append_ #[lW,lW] ty #[.slice base ks.length cap,.slice (some ⟨xb,0,none⟩) 1 1]) w v w' ev/\App own (ks++[k]) w v w' ev:=by
  intro base cap ev0 hc hcap hold;obtain⟨c0,w1,hch,t1,o1,s1,h1,hcut⟩:=pO (w:=w) (q:= .appendCap (ks.length+1) cap jR);have adq:ks.length+1<=c0:=by
   rcases hcut with⟨hf,_⟩|⟨x,rfl⟩
   .simp[Question.forced] at hf
   .simp[Question.cut]
  obtain⟨ev1,r1,e1⟩:=hold w1 h1;obtain⟨ev2,r2,e2⟩:=um (w:=w1) (by rw[h1];exact hx);have room:∃ev,RT (askRoom (c0*Hi.bytes)) w1 () w1 ev/\∀e∈ev,∃m,e.loc= .mark m/\pi m:=by
   unfold askRoom;split
   .exact⟨#[⟨.mark .noRoom,false,true⟩],λes=>by show(Result.ok () w1,es.push _)=_;simp,λe he=>by simp at he;subst he;exact⟨_,rfl,trivial⟩⟩
   .exact⟨#[],.pure _,by simp⟩
  obtain⟨ev3,r3,e3⟩:=room;have hrow:=oN (w:=w1) (.cells ((ks.map Value.string).toArray++#[.string k]++Array.replicate (c0-(ks.length+1)) (Value.string ⟨#[]⟩)) jR (0,0))
  refine⟨.slice (some ⟨w1.heap.size,0,none⟩) (ks.length+1) c0,{w1 with heap:=w1.heap.push (.cells ((ks.map Value.string).toArray++#[.string k]++Array.replicate (c0-(ks.length+1)) (Value.string ⟨#[]⟩)) jR (0,0))},ev3++(ev1++ev2),Gv hc hl hcap ?_,?_⟩
  .refine hch.aS ((rW xA).aS (r3.bind (r1.bind ?_)))
   refine RT.eN (x:=#[.string k]) r2 ?_;refine(vD GD).aS ?_;show RT (newRow jR ((ks.map Value.string).toArray++#[.string k]++Builtin.zeroCells #[.string ⟨#[]⟩] (c0-(ks.length+1)))>>=_) _ _ _ _;rw[yE];exact RT.aS (x:=⟨w1.heap.size,0,none⟩) (RT.aS hrow (.pure _)) (.pure _)
  .refine⟨t1,o1,s1,by show w.heap.size<=(w1.heap.push _).size;rw[h1];simp,λb hb _=>by show(w1.heap.push _)[b]? =_;rw[h1,ac2 hb];exact(ν hb).symm,.inr ⟨w1.heap.size,c0,by simp,.inr ⟨by rw[h1];exact φ _,by show _<(w1.heap.push _).size;simp⟩,by simpa using adq,?_⟩,λe he=>?_⟩
   .show(w1.heap.push _)[w1.heap.size]? =_
    simp
   .rcases af6.1 he with he|he
    .exact .inr (e3 e he)
    .rcases af6.1 he with he|he
     .exact .inl (e1 e he)
     .exact .inl ⟨xb,ox,e2 e he⟩
 rcases hs with⟨rfl,rfl⟩|⟨sk,cap,rfl,osk,hle,hsk⟩
 .exact grow (base:=none) (cap:=0) (ev0:=#[]) (by simp) (by simp) λw1 _=>⟨#[],.pure _,by simp⟩
 .by_cases hc:ks.length+1<=cap
  .obtain⟨ev2,r2,e2⟩:=um hx
   obtain⟨w',ev,r3,u,e3⟩:=mg (ks.length*1) [.string k] 0 hsk (by simp;omega) (by simp[lz]);refine⟨.slice (some ⟨sk,0,none⟩) (ks.length+1) cap,w',ev2++ev,Kz hc (r2.bind ?_),?_⟩
   .show RT (storeCells (Addr.add ⟨sk,0,none⟩ (ks.length*1)) [.string k]>>=_) _ _ _ _
    rw[yp,Nat.zero_add];exact RT.eN (x:=()) r3 (.pure _)
   .refine⟨u.tape,u.output,u.os,by rw[u.size];exact φ _,λb _ hb=>u.rest b λe=>hb (e▸osk),.inr ⟨sk,cap,by simp,.inl osk,by simpa using hc,?_⟩,λe he=>?_⟩
    .rw[u.at_,EV]
     congr 2
     apply Array.ext'
     simp only[Nat.mul_one,Nat.add_zero,List.setIfInBounds_toArray];obtain⟨m,hm⟩:∃m,cap-ks.length=m+1:=⟨cap-ks.length-1,by omega⟩
     have hm2:cap-(ks++[k]).length=m:=by simp;omega
     rw[hm,hm2,List.replicate_succ];have:=set_mid (ks.map Value.string) (Value.string ⟨#[]⟩) (Value.string k) (List.replicate m (Value.string ⟨#[]⟩));rw[ag0] at this;rw[this];simp
    .rcases af6.1 he with he|he
     .exact .inl ⟨xb,ox,e2 e he⟩
     .obtain⟨a,rfl,ha⟩:=e3 e he
      exact .inl ⟨sk,osk,iX ha⟩
  .have hcap:cap=ks.length:=by omega
   refine grow (base:=some ⟨sk,0,none⟩) (cap:=cap) (ev0:=#[]) hc (by omega) λw1 hw1=>?_
   obtain⟨ev,r,e⟩:=CQ (w:=w1) (n:=ks.length) (cap:=cap) (by rw[hw1];exact hsk) (by simp);refine⟨ev,?_,λx hx=>⟨sk,osk,e x hx⟩⟩;have:((ks.map Value.string++List.replicate (cap-ks.length) (Value.string ⟨#[]⟩)).toArray).extract 0 ks.length=(ks.map Value.string).toArray:=by
    apply Array.ext'
    rw[hcap];simp[List.extract_eq_drop_take,θ]
   rw[this] at r;exact r
end
namespace Sq
abbrev DY:Nat:=178
abbrev TL:Nat:=135
def ci (tm:Array Φ)(vS body:Code)(st:LoopState)(D:Nat):Loop:={state:=st,pending:=none,fn:=DY,tmps:=tm,params:=#[7],assign:=vS,body:=body,defers:=D}
section
variable {tm:Array Φ}{vS body:Code}{D l:Nat}{w:Θ}{st:LoopState}
theorem Io {x:Φ}(h:w.heap[l]? =some (.loop (ci tm vS body st D))):RT (Instr.yield l #[x]) w (.round l DY (tm.setIfInBounds 7 x) vS body) w #[⟨.obj l,false,false⟩]:=by
 have:=LC (args:=#[x]) h rfl;simpa [ci] using this
theorem Kw (h:w.heap[l]? =some (.loop (ci tm vS body .ready D))):RT (Instr.beginRound l) w () {w with heap:=w.heap.setIfInBounds l (.loop (ci tm vS body .busy D))} #[⟨.obj l,false,false⟩,⟨.obj l,true,false⟩]:=LF h rfl
theorem NM (h:w.heap[l]? =some (.loop (ci tm vS body .busy D))):RT (Instr.endRound l none) w (.bool true) {w with heap:=w.heap.setIfInBounds l (.loop (ci tm vS body .ready D))} #[⟨.obj l,false,false⟩,⟨.obj l,true,false⟩]:=P3 h
theorem NN (h:w.heap[l]? =some (.loop (ci tm vS body .ready D))):RT (Instr.endLoop l) w none {w with heap:=w.heap.setIfInBounds l (.loop (ci tm vS body .exhausted D))} #[⟨.obj l,false,false⟩,⟨.obj l,true,false⟩]:=P4 h rfl
theorem JZ (tm:Array Φ)(vS body:Code):RT (Instr.enterLoop DY tm #[7] vS body none) w (w.heap.size+1,[{target:= .collected w.heap.size,args:=#[]}]) {w with heap:=(w.heap.push (.deferred (some []))).push (.loop (ci tm vS body .ready w.heap.size))} #[]:=AQ DY tm #[7] vS body
end
def ng (bx:Nat):Φ:= .func (.func TL) #[] #[pb bx]
section
variable (bx bS M it D l:Nat)(k:Ξ)(v:Φ)(fr:κ)(cs:List κ)(y:Nat->Φ)
def sQ0:Ω:=Nf DY #[.slice none 0 0,ng bx] 11 fr cs
def I2:Ω:=OT (sQ0 bx fr cs)
theorem EY:au PP true (sQ0 bx fr cs) (I2 bx fr cs):=bA λws=>by kernel_rfl
theorem U9:aT (I2 bx fr cs)=some (.box lW (.slice none 0 0)):=by kernel_rfl
def U8:Ω:=OT (resume (I2 bx fr cs) (pb bS))
theorem U7:au PP true (resume (I2 bx fr cs) (pb bS)) (U8 bx bS fr cs):=bA λws=>by kernel_rfl
def OB:Code:=match(U8 0 0 default []).frame.todo with|.code (.rangeFunc _ _ a _)::_=>a|_=> .skip
def Kv:Code:=match(U8 0 0 default []).frame.todo with|.code (.rangeFunc _ _ _ b)::_=>b|_=> .skip
def G0:List Item:=(U8 0 0 default []).frame.todo.tail
def tmS:Array Φ:=(U8 bx bS default []).frame.tmps
theorem U6:U8 bx bS fr cs=G ((base DY).at ⟨tmS bx bS,[]⟩ (.code (.rangeFunc (.tmp 6) #[7] OB Kv)::G0)) (fr::cs):=by kernel_rfl
theorem Pk:(⟨tmS bx bS,[]⟩:Act).eval (.tmp 6)= .func (.func TL) #[] #[pb bx]:=by kernel_rfl
def mi (st:LoopState)(bx bS D:Nat):Loop:=ci (tmS bx bS) OB Kv st D
def Hz:κ:=(base DY).at ⟨tmS bx bS,[{target:= .collected D,args:=#[]}]⟩ (.inRangeFunc l::G0)
def sK0:Ω:=G (Frame.enter PP TL #[.func (.yield l) #[] #[],pb bx] .normal) (Hz bx bS D l::fr::cs)
def sK1:Ω:=OT (sK0 bx bS D l fr cs)
theorem Vo:au PP true (sK0 bx bS D l fr cs) (sK1 bx bS D l fr cs):=bA λws=>by kernel_rfl
theorem Lr:aT (sK1 bx bS D l fr cs)=some (.load OJ (pb bx)):=by kernel_rfl
def Vn:Ω:=OT (resume (sK1 bx bS D l fr cs) (.map (some M)))
theorem Vm:au PP true (resume (sK1 bx bS D l fr cs) (.map (some M))) (Vn bx bS M D l fr cs):=bA λws=>by kernel_rfl
theorem Lq:aT (Vn bx bS M D l fr cs)=some (.range OJ (.map (some M))):=by kernel_rfl
end
def aaO:List Item:=(OT (resume (Vn 0 0 0 0 0 default []) (pb 0))).frame.todo
def gK (tm:Array Φ)(F1:κ)(cs1:List κ):Ω:=G ((base TL).at ⟨tm,[]⟩ aaO) (F1::cs1)
structure HK (l it:Nat)(tm:Array Φ):Prop where
 size:tm.size=14
 s0:tm[0]? =some (.func (.yield l) #[] #[])
 s5:tm[5]? =some (pb it)
section
variable (bx bS M it D l xb:Nat)(k:Ξ)(v sv nv:Φ)(fr F1:κ)(cs cs1:List κ)(y:Nat->Φ)
def tmK:Array Φ:=#[.func (.yield l) #[] #[],y 1,y 2,y 3,y 4,pb it,y 6,y 7,y 8,y 9,y 10,y 11,y 12,y 13]
theorem PB (tm:Array Φ)(h:tm.size=14):tm=#[tm.getD 0 undef,tm.getD 1 undef,tm.getD 2 undef,tm.getD 3 undef,tm.getD 4 undef,tm.getD 5 undef,tm.getD 6 undef,tm.getD 7 undef,tm.getD 8 undef,tm.getD 9 undef,tm.getD 10 undef,tm.getD 11 undef,tm.getD 12 undef,tm.getD 13 undef]:=by
 have e:tm=((List.range 14).map λi=>tm.getD i undef).toArray:=by
  apply Array.ext
  .simp[h]
  .intro i h1 h2
   simp[ac3,h1]
 exact e.trans (by kernel_rfl)
theorem HK.eq {l it:Nat}{tm:Array Φ}(h:HK l it tm):tm=tmK it l λi=>tm.getD i undef:=by
 have h1:=PB tm h.size;rw[cq h.s0,cq h.s5] at h1;exact h1
theorem Vl:∃tm,HK l it tm/\au PP true (resume (Vn bx bS M D l fr cs) (pb it)) (gK tm (Hz bx bS D l) (fr::cs)):=
 ⟨(OT (resume (Vn bx bS M D l fr cs) (pb it))).frame.tmps,⟨by kernel_rfl,by kernel_rfl,by kernel_rfl⟩,bO 200 (bT PP true 200 (resume (Vn bx bS M D l fr cs) (pb it))) λws=>by kernel_rfl⟩
abbrev kl:Ω:=gK (tmK it l y) F1 cs1
def nxK:η:=match aT (kl 0 0 default [] λ_=>undef) with|some (.next _ _ t)=>t|_=>0
theorem acI:aT (kl it l F1 cs1 y)=some (.next (pb it) false nxK):=by kernel_rfl
def kA:Ω:=OT (resume (kl it l F1 cs1 y) (.tuple #[.bool true,.string k,v]))
theorem acL:au PP true (resume (kl it l F1 cs1 y) (.tuple #[.bool true,.string k,v])) (kA it l k v F1 cs1 y):=bA λws=>by kernel_rfl
theorem acK:aT (kA it l k v F1 cs1 y)=some (.entry (pb it)):=by kernel_rfl
def FB:κ:=(OT (resume (kA it l k v default [] y) (.tuple #[.string k,v]))).frame
theorem acJ:au PP true (resume (kA it l k v F1 cs1 y) (.tuple #[.string k,v])) (G (FB it l k v y) (F1::cs1)):=bO 200 (bT PP true 200 (resume (kA it l k v F1 cs1 y) (.tuple #[.string k,v]))) λws=>by kernel_rfl
theorem SK:∃tm,HK l it tm/\au PP true (G ((FB it l k v y).finish (.bool true)) (F1::cs1)) (gK tm F1 cs1):=
 ⟨(OT (G ((FB it l k v y).finish (.bool true)) (F1::cs1))).frame.tmps,⟨by kernel_rfl,by kernel_rfl,by kernel_rfl⟩,bO 200 (bT PP true 200 (G ((FB it l k v y).finish (.bool true)) (F1::cs1))) λws=>by kernel_rfl⟩
end
section
variable (bx bS M it D l xb:Nat)(k:Ξ)(v sv nv:Φ)(fr F1:κ)(cs cs1:List κ)(y:Nat->Φ)
theorem QY:au PP true (resume (kl it l F1 cs1 y) (.tuple #[.bool false])) (cG F1 cs1 U):=bO 7 (bT PP true 7 (resume (kl it l F1 cs1 y) (.tuple #[.bool false]))) λws=>by kernel_rfl
def Qo:Array Oper:=match(FB 0 0 ⟨#[]⟩ undef λ_=>undef).todo with|.inRegion ops _::_=>ops|_=>#[]
def iB:Nat:=match(FB 0 0 ⟨#[]⟩ undef λ_=>undef).todo with|.inRegion _ (i::_)::_=>i|_=>0
def rB:List Nat:=match(FB 0 0 ⟨#[]⟩ undef λ_=>undef).todo with|.inRegion _ (_::r)::_=>r|_=>[]
def kB:List Item:=(FB 0 0 ⟨#[]⟩ undef λ_=>undef).todo.tail
def oY:Oper:=(Qo[iB]?).getD default
theorem SI:(FB it l k v y).mode= .run:=by kernel_rfl
theorem SJ:(FB it l k v y).kind= .normal:=by kernel_rfl
theorem SH:(FB it l k v y).todo= .inRegion Qo (iB::rB)::kB:=by kernel_rfl
theorem aci:Qo[iB]? =some oY:=by kernel_rfl
theorem Qu:Region.wanted oY (yielded Qo (FB it l k v y).tmps)=true:=by kernel_rfl
theorem Td:oY.op= .call {callee:= .value (.tmp 10),args:=#[.tmp 11],argTypes:=#[9]}:=by kernel_rfl
theorem aeX:(FB it l k v y).eval (.tmp 10)= .func (.yield l) #[] #[]:=by kernel_rfl
theorem aeW:(FB it l k v y).eval (.tmp 11)= .string k:=by kernel_rfl
def SW:Array Φ:=(tmS bx bS).setIfInBounds 7 (.string k)
def gR0:Ω:=G (Frame.round l DY (SW bx bS k) OB Kv .normal) (F1::cs1)
def O2:κ:=(OT (gR0 bx bS l k default [])).frame
theorem Yu:au PP true (gR0 bx bS l k F1 cs1) (G (O2 bx bS l k) (F1::cs1)):=bO 200 (bT PP true 200 (gR0 bx bS l k F1 cs1)) λws=>by kernel_rfl
theorem NF:(O2 bx bS l k).mode= .run:=by kernel_rfl
theorem NG:(O2 bx bS l k).kind= .normal:=by kernel_rfl
theorem NE:(O2 bx bS l k).todo= .beginRound::[.code Kv]:=by kernel_rfl
theorem JT:(O2 bx bS l k).roundOf=some l:=by kernel_rfl
end
section
variable (bx bS M it D l xb:Nat)(k:Ξ)(v sv nv:Φ)(fr F1:κ)(cs cs1:List κ)(y:Nat->Φ)
def DW:κ:=(OT (G ((O2 bx bS l k).finish undef) (default::[]))).frame
theorem Y0:au PP true (G ((O2 bx bS l k).finish undef) (F1::cs1)) (G (DW bx bS l k) (F1::cs1)):=bO 200 (bT PP true 200 (G ((O2 bx bS l k).finish undef) (F1::cs1))) λws=>by kernel_rfl
def Qs:Array Oper:=match(DW 0 0 0 ⟨#[]⟩).todo with|.inRegion ops _::_=>ops|_=>#[]
def i2:Nat:=match(DW 0 0 0 ⟨#[]⟩).todo with|.inRegion _ (i::_)::_=>i|_=>0
def r2:List Nat:=match(DW 0 0 0 ⟨#[]⟩).todo with|.inRegion _ (_::r)::_=>r|_=>[]
def k2:List Item:=(DW 0 0 0 ⟨#[]⟩).todo.tail
def o2:Oper:=(Qs[i2]?).getD default
theorem NC:(DW bx bS l k).mode= .run:=by kernel_rfl
theorem ND:(DW bx bS l k).kind= .normal:=by kernel_rfl
theorem NB:(DW bx bS l k).todo= .inRegion Qs (i2::r2)::k2:=by kernel_rfl
theorem acm:Qs[i2]? =some o2:=by kernel_rfl
theorem Qy:Region.wanted o2 (yielded Qs (DW bx bS l k).tmps)=true:=by kernel_rfl
theorem Ti:o2.op= .load lW (.tmp 2):=by kernel_rfl
theorem aeg:(DW bx bS l k).eval (.tmp 2)=pb bS:=by kernel_rfl
def BR:κ:=(OT (G ((DW bx bS l k).finish sv) (default::[]))).frame
theorem YZ:au PP true (G ((DW bx bS l k).finish sv) (F1::cs1)) (G (BR bx bS l k sv) (F1::cs1)):=bO 200 (bT PP true 200 (G ((DW bx bS l k).finish sv) (F1::cs1))) λws=>by kernel_rfl
def Qr:Array Oper:=match(BR 0 0 0 ⟨#[]⟩ undef).todo with|.inRegion ops _::_=>ops|_=>#[]
def i3:Nat:=match(BR 0 0 0 ⟨#[]⟩ undef).todo with|.inRegion _ (i::_)::_=>i|_=>0
def r3:List Nat:=match(BR 0 0 0 ⟨#[]⟩ undef).todo with|.inRegion _ (_::r)::_=>r|_=>[]
def k3:List Item:=(BR 0 0 0 ⟨#[]⟩ undef).todo.tail
def o3:Oper:=(Qr[i3]?).getD default
theorem Nz:(BR bx bS l k sv).mode= .run:=by kernel_rfl
theorem NA:(BR bx bS l k sv).kind= .normal:=by kernel_rfl
theorem Ny:(BR bx bS l k sv).todo= .inRegion Qr (i3::r3)::k3:=by kernel_rfl
theorem acl:Qr[i3]? =some o3:=by kernel_rfl
theorem Qx:Region.wanted o3 (yielded Qr (BR bx bS l k sv).tmps)=true:=by kernel_rfl
theorem Th:o3.op= .buildSlice lW 1 #[(0,.tmp 9)]:=by kernel_rfl
theorem aef:(BR bx bS l k sv).eval (.tmp 9)= .string k:=by kernel_rfl
def Bt:κ:=(OT (G ((BR bx bS l k sv).finish (.slice (some ⟨xb,0,none⟩) 1 1)) (default::[]))).frame
theorem YX:au PP true (G ((BR bx bS l k sv).finish (.slice (some ⟨xb,0,none⟩) 1 1)) (F1::cs1)) (G (Bt bx bS l xb k sv) (F1::cs1)):=bO 200 (bT PP true 200 (G ((BR bx bS l k sv).finish (.slice (some ⟨xb,0,none⟩) 1 1)) (F1::cs1))) λws=>by kernel_rfl
def Qq:Array Oper:=match(Bt 0 0 0 0 ⟨#[]⟩ undef).todo with|.inRegion ops _::_=>ops|_=>#[]
def i4:Nat:=match(Bt 0 0 0 0 ⟨#[]⟩ undef).todo with|.inRegion _ (i::_)::_=>i|_=>0
def r4:List Nat:=match(Bt 0 0 0 0 ⟨#[]⟩ undef).todo with|.inRegion _ (_::r)::_=>r|_=>[]
def k4:List Item:=(Bt 0 0 0 0 ⟨#[]⟩ undef).todo.tail
def o4:Oper:=(Qq[i4]?).getD default
theorem Nv:(Bt bx bS l xb k sv).mode= .run:=by kernel_rfl
theorem Nw:(Bt bx bS l xb k sv).kind= .normal:=by kernel_rfl
theorem Nu:(Bt bx bS l xb k sv).todo= .inRegion Qq (i4::r4)::k4:=by kernel_rfl
theorem ack:Qq[i4]? =some o4:=by kernel_rfl
theorem Qw:Region.wanted o4 (yielded Qq (Bt bx bS l xb k sv).tmps)=true:=by kernel_rfl
theorem Tf:o4.op= .call {callee:= .builtin .append,args:=#[.tmp 8,.tmp 10],argTypes:=#[lW,lW]}:=by kernel_rfl
theorem aee:(Bt bx bS l xb k sv).eval (.tmp 8)=sv:=by kernel_rfl
theorem YY:(Bt bx bS l xb k sv).eval (.tmp 10)= .slice (some ⟨xb,0,none⟩) 1 1:=by kernel_rfl
def BQ:κ:=(OT (G ((Bt bx bS l xb k sv).finish nv) (default::[]))).frame
theorem YV:au PP true (G ((Bt bx bS l xb k sv).finish nv) (F1::cs1)) (G (BQ bx bS l xb k sv nv) (F1::cs1)):=bO 200 (bT PP true 200 (G ((Bt bx bS l xb k sv).finish nv) (F1::cs1))) λws=>by kernel_rfl
def Qp:Array Oper:=match(BQ 0 0 0 0 ⟨#[]⟩ undef undef).todo with|.inRegion ops _::_=>ops|_=>#[]
def i5:Nat:=match(BQ 0 0 0 0 ⟨#[]⟩ undef undef).todo with|.inRegion _ (i::_)::_=>i|_=>0
def r5:List Nat:=match(BQ 0 0 0 0 ⟨#[]⟩ undef undef).todo with|.inRegion _ (_::r)::_=>r|_=>[]
def k5:List Item:=(BQ 0 0 0 0 ⟨#[]⟩ undef undef).todo.tail
def o5:Oper:=(Qp[i5]?).getD default
theorem Ns:(BQ bx bS l xb k sv nv).mode= .run:=by kernel_rfl
theorem Nt:(BQ bx bS l xb k sv nv).kind= .normal:=by kernel_rfl
theorem Nq:(BQ bx bS l xb k sv nv).todo= .inRegion Qp (i5::r5)::k5:=by kernel_rfl
theorem acj:Qp[i5]? =some o5:=by kernel_rfl
theorem Qv:Region.wanted o5 (yielded Qp (BQ bx bS l xb k sv nv).tmps)=true:=by kernel_rfl
theorem Te:o5.op= .store lW (.tmp 2) (.tmp 11):=by kernel_rfl
theorem aed:(BQ bx bS l xb k sv nv).eval (.tmp 2)=pb bS:=by kernel_rfl
theorem YW:(BQ bx bS l xb k sv nv).eval (.tmp 11)=nv:=by kernel_rfl
def fR6:κ:=(A2 PP true 2 (G ((BQ bx bS l xb k sv nv).finish undef) (default::[]))).frame
theorem YU:au PP true (G ((BQ bx bS l xb k sv nv).finish undef) (F1::cs1)) (G (fR6 bx bS l xb k sv nv) (F1::cs1)):=bO 2 (bT PP true 2 (G ((BQ bx bS l xb k sv nv).finish undef) (F1::cs1))) λws=>by kernel_rfl
theorem No:(fR6 bx bS l xb k sv nv).mode= .run:=by kernel_rfl
theorem Np:(fR6 bx bS l xb k sv nv).kind= .normal:=by kernel_rfl
theorem Nn:(fR6 bx bS l xb k sv nv).todo=[]:=by kernel_rfl
theorem JS:(fR6 bx bS l xb k sv nv).roundOf=some l:=by kernel_rfl
def fE0:κ:={(Hz bx bS D l).finish U with todo:=G0}
theorem RM:((Hz bx bS D l).finish U).todo= .endRangeFunc l::G0:=by kernel_rfl
theorem RP:((Hz bx bS D l).finish U).mode= .run:=by kernel_rfl
def ZO:Ω:=OT (G (fE0 bx bS D l) (fr::cs))
theorem VO:au PP true (G (fE0 bx bS D l) (fr::cs)) (ZO bx bS D l fr cs):=bA λws=>by kernel_rfl
theorem Ls:aT (ZO bx bS D l fr cs)=some (.load lW (pb bS)):=by kernel_rfl
def Y4:κ:=(OT (resume (ZO bx bS D l default []) sv)).frame
theorem Y3:au PP true (resume (ZO bx bS D l fr cs) sv) (G (Y4 bx bS D l sv) (fr::cs)):=bO 200 (bT PP true 200 (resume (ZO bx bS D l fr cs) sv)) λws=>by kernel_rfl
theorem NH:(Y4 bx bS D l sv).mode= .returning:=by kernel_rfl
theorem FY:(Y4 bx bS D l sv).defers=[{target:= .collected D,args:=#[]}]:=by kernel_rfl
theorem Y2:au PP true (G {Y4 bx bS D l sv with defers:=[]} (fr::cs)) (cG fr cs sv):=bO 1 (bT PP true 1 (G {Y4 bx bS D l sv with defers:=[]} (fr::cs))) λws=>by kernel_rfl
end
end Sq
end aG
end
section
open Go.Conc
open Go.MapKept
open Go.ConcM (OsLater)
namespace aG
namespace Sq
section
variable {own:Nat->Prop}{w:Θ}{g g':Ω}{Stop:(Nat->Prop)->Ω->Θ->Prop}
theorem uN {O:Nat->Prop}{n n' b:Nat}{e:Event}(hb:O b)(h:EvB b e):TY O no n n' e:= .inl ⟨b,.inl hb,h.2⟩
theorem EG (hs:g.status= .running)(h:∀d,∃es,stepG PP true g (w.at d)= .go g' (w.at d) es/\∀e∈es,∃b,own b/\EvB b e)(k:aD PP true ly Stop own g' w):aD PP true ly Stop own g w:=by
 refine aD.step hs λw₁ h1=>?_
 obtain⟨d,rfl⟩:=h1;obtain⟨es,e1,e2⟩:=h d;refine⟨_,_,es,e1,⟨φ _,λ_ _ _=>rfl,rfl,rfl,rfl,λe he=>by obtain⟨b,h1,h2⟩:=e2 e he;exact uN h1 h2⟩,?_⟩;rw[(idle0 own (w.at d)).2];exact k.rely ⟨d,rfl⟩
theorem agy {b:Nat}{o:Obj}(hs:g.status= .running)(hb:own b)(h:∀d,∃w' es,stepG PP true g (w.at d)= .go g' w' es/\zq b o (w.at d) w'/\∀e∈es,∃b,own b/\EvB b e)
  (k:∀w',w'.heap.size=w.heap.size->w'.heap[b]? =some o->(∀c,c≠b->w'.heap[c]? =w.heap[c]?)->w'.os=w.os->aD PP true ly Stop own g' w'):aD PP true ly Stop own g w:=by
 refine aD.step hs λw₁ h1=>?_
 obtain⟨d,rfl⟩:=h1;obtain⟨w',es,e1,u,e2⟩:=h d;have hup:ly.up own (w.at d) w'=own:=funext λc=>propext ⟨λx=>x.elim id λx=>by have:=u.size;omega,.inl⟩
 refine⟨_,w',es,e1,⟨by rw[u.size];exact φ _,λc _ hc=>u.rest c λe=>hc (e▸hb),u.os,u.output,u.tape,λe he=>by obtain⟨b,h1,h2⟩:=e2 e he;exact uN h1 h2⟩,?_⟩;rw[hup];exact k w' u.size u.at_ u.rest u.os
theorem new1 {os:List Obj}(hs:g.status= .running)(h:∀d,stepG PP true g (w.at d)= .go g' {w.at d with heap:=os.foldl Array.push (w.at d).heap} #[])
  (k:∀w',w'.heap=os.foldl Array.push w.heap->w'.os=w.os->aD PP true ly Stop (λb=>own b\/(w.heap.size<=b/\b<w'.heap.size)) g' w'):aD PP true ly Stop own g w:=by
 have hsz:∀(l:List Obj) (a:Array Obj),a.size<=(l.foldl Array.push a).size:=λl=>by
  induction l with
  |nil=>intro a;exact φ _
  |cons x l ih=>intro a;exact ae3 (by simp) (ih (a.push x))
 have hget:∀(l:List Obj) (a:Array Obj) (b:Nat),b<a.size->(l.foldl Array.push a)[b]? =a[b]? :=λl=>by
  induction l with
  |nil=>intro a b _;rfl
  |cons x l ih=>intro a b hb;exact(ih (a.push x) b (by simp;omega)).trans (by rw[ac2 hb];exact(ν hb).symm)
 refine aD.step hs λw₁ h1=>?_
 obtain⟨d,rfl⟩:=h1;refine⟨_,_,_,h d,⟨hsz os _,λb hb _=>hget os _ b hb,rfl,rfl,rfl,by simp⟩,?_⟩;exact k _ rfl rfl
theorem app1 {mine:Nat->Prop}{ks:List Ξ}(hs:g.status= .running)(hm:∀b,mine b->own b){gx:Φ->Ω}(h:∀d,∃v w' es ev,stepG PP true g (w.at d)= .go (gx v) w' es/\(∀e∈es,e∈ev)/\App mine ks (w.at d) v w' ev)
  (k:∀v w',w.heap.size<=w'.heap.size->(∀b,b<w.heap.size->¬mine b->w'.heap[b]? =w.heap[b]?)->Strs w' (λb=>mine b\/(w.heap.size<=b/\b<w'.heap.size)) v ks->w'.os=w.os->aD PP true ly Stop (λb=>own b\/(w.heap.size<=b/\b<w'.heap.size)) (gx v) w'):aD PP true ly Stop own g w:=by
 refine aD.step hs λw₁ h1=>?_
 obtain⟨d,rfl⟩:=h1;obtain⟨v,w',es,ev,e1,e2,a⟩:=h d;refine⟨_,w',es,e1,⟨a.size,λb hb ho=>a.keep b hb λx=>ho (hm b x),a.os,a.output,a.tape,λe he=>?_⟩,k v w' a.size a.keep a.strs a.os⟩;rcases a.ev e (e2 e he) with⟨b,h1,h2⟩|h
 .exact uN (hm b h1) h2
 .exact .inr h
end
section
variable {bx bS D l it xb:Nat}{k:Ξ}{v sv nv:Φ}{F1:κ}{cs0:List κ}{y:Nat->Φ}{w:Θ}{st:LoopState}
theorem A4 {b:Nat}{es:Array Event}{f:aa9}{x y:Bool}(h:es=seen PP f #[⟨.obj b,x,false⟩,⟨.obj b,y,false⟩]):∀e∈es,EvB b e:=by
 intro e he;subst h;have:=mem_seen he;simp at this;rcases this with rfl|rfl<;>exact dU
theorem Lb (hl:w.heap[l]? =some (.loop (mi st bx bS D))):∃es,stepG PP true (G (FB it l k v y) cs0) w= .go (G (Frame.round l DY (SW bx bS k) OB Kv .normal) (FB it l k v y::cs0)) w es/\∀e∈es,EvB l e:=by
 have h1:RT (execOp (FB it l k v y).eval oY) w (.round l DY (SW bx bS k) OB Kv) w #[⟨.obj l,false,false⟩]:=by
  have e:execOp (FB it l k v y).eval oY=(do let d <-resolve (FB it l k v y).eval {callee:= .value (.tmp 10),args:=#[.tmp 11],argTypes:=#[9]} oY.type;invoke d.target d.args):=by
   unfold execOp;rw[Td]
  rw[e];refine RT.aS (w1:=w) (x:={target:= .fn (.yield l) #[],args:=#[.string k]}) ?_ ?_
  .unfold resolve
   simp only[List.map_toArray,List.map_cons,List.map_nil,aeX,aeW];exact .pure _
  .unfold mi at hl
   unfold SW;exact Io hl
 refine⟨_,(stepG_op (SI it l k v y) (SH it l k v y) aci (Qu it l k v y) (by rw[Td];simp)).trans (Eu h1 (SJ it l k v y)),λe he=>?_⟩;have:=mem_seen he;simp at this;subst this;exact dU
theorem Lf (hl:w.heap[l]? =some (.loop (mi .ready bx bS D))):∃w' es,stepG PP true (G (O2 bx bS l k) cs0) w= .go (G ((O2 bx bS l k).finish undef) cs0) w' es/\zq l (.loop (mi .busy bx bS D)) w w'/\∀e∈es,EvB l e:=by
 unfold mi at hl⊢;have h:=Kw hl;exact⟨_,_,Cn (NF bx bS l k) (NE bx bS l k) (JT bx bS l k) (NG bx bS l k) h,mW hl,A4 rfl⟩
theorem Pv (hb:w.heap[bS]? =some (.cells #[sv] lW (0,0))):∃es,stepG PP true (G (DW bx bS l k) cs0) w= .go (G ((DW bx bS l k).finish sv) cs0) w es/\∀e∈es,EvB bS e:=by
 have h1:RT (execOp (DW bx bS l k).eval o2) w (.value sv) w #[⟨.cell ⟨bS,0,none⟩,false,false⟩]:=by
  have e:execOp (DW bx bS l k).eval o2=(do pure (.value (<-Instr.loadAt lW (pb bS)))):=by
   unfold execOp;rw[Ti];simp only[aeg]
  rw[e];refine RT.eN (x:=sv) ?_ (.pure _);show RT (do if<-isAgg lW then Pure.pure (.agg (<-loadCells ⟨bS,0,none⟩ (<-Go.sizeOf lW))) else load ⟨bS,0,none⟩) _ _ _ _;refine(ib (b:=false) (by kernel_rfl)).aS ?_;simp only[ι,if_false];exact kh (cell_of hb rfl)
 refine⟨_,(stepG_op (NC ..) (NB ..) acm (Qy bx bS l k) (by rw[Ti];simp)).trans (pF h1 (ND ..)),λe he=>?_⟩;have:=mem_seen he;simp at this;subst this;exact iX rfl
theorem Le:stepG PP true (G (BR bx bS l k sv) cs0) w= .go (G ((BR bx bS l k sv).finish (.slice (some ⟨w.heap.size,0,none⟩) 1 1)) cs0) {w with heap:=w.heap.push (.cells #[.string k] jR (0,0))} #[]:=by
 have h1:RT (execOp (BR bx bS l k sv).eval o3) w (.value (.slice (some ⟨w.heap.size,0,none⟩) 1 1)) {w with heap:=w.heap.push (.cells #[.string k] jR (0,0))} #[]:=by
  have e:execOp (BR bx bS l k sv).eval o3=(do pure (.value (<-Instr.buildSlice lW 1 #[(0,.string k)]))):=by
   unfold execOp;rw[Th];simp only[List.map_toArray,List.map_cons,List.map_nil,aef]
  rw[e];exact RT.aS CR (.pure _)
 have:=(stepG_op (main:=true) (cs:=cs0) (w:=w) (Nz bx bS l k sv) (Ny bx bS l k sv) acl (Qx bx bS l k sv) (by rw[Th];simp)).trans (pF h1 (NA ..));rw[seen_none] at this;exact this
theorem II {mine:Nat->Prop}{ks:List Ξ}{f:Nat×Nat}(hs:Strs w mine sv ks)(hx:w.heap[xb]? =some (.cells #[.string k] jR f))(ox:mine xb)(hl:ks.length<2^40):
  ∃v w' es ev,stepG PP true (G (Bt bx bS l xb k sv) cs0) w= .go (G ((Bt bx bS l xb k sv).finish v) cs0) w' es/\(∀e∈es,e∈ev)/\App mine (ks++[k]) w v w' ev:=by
 obtain⟨v,w',ev,h1,h2⟩:=I4 o4.type hs hx ox hl;have h3:RT (execOp (Bt bx bS l xb k sv).eval o4) w (.value v) w' ev:=by
  have e:execOp (Bt bx bS l xb k sv).eval o4=(do let d <-resolve (Bt bx bS l xb k sv).eval {callee:= .builtin .append,args:=#[.tmp 8,.tmp 10],argTypes:=#[lW,lW]} o4.type;invoke d.target d.args):=by
   unfold execOp;rw[Tf]
  rw[e];refine RT.aS (w1:=w) (x:={target:= .builtin .append #[lW,lW] o4.type #[false,false],args:=#[sv,.slice (some ⟨xb,0,none⟩) 1 1]}) ?_ ?_
  .unfold resolve
   simp only[List.map_toArray,List.map_cons,List.map_nil,aee,YY];exact .pure _
  .show RT (do Pure.pure (Next.value (<-Builtin.append_ #[lW,lW] o4.type #[sv,.slice (some ⟨xb,0,none⟩) 1 1]))) _ _ _ _
   exact RT.eN h1 (.pure _)
 exact⟨v,w',_,ev,(stepG_op (Nv ..) (Nu ..) ack (Qw bx bS l xb k sv) (by rw[Tf];simp)).trans (pF h3 (Nw ..)),λe he=>mem_seen he,h2⟩
theorem XA:(PP.info? lW).map (·.size)=some 1:=by kernel_rfl
theorem Ld {ov:Φ}(hb:w.heap[bS]? =some (.cells #[ov] lW (0,0)))(h1:nv.cells=#[nv])(h2:lz nv=true):∃w' es,stepG PP true (G (BQ bx bS l xb k sv nv) cs0) w= .go (G ((BQ bx bS l xb k sv nv).finish undef) cs0) w' es/\zq bS (.cells #[nv] lW (0,0)) w w'/\∀e∈es,EvB bS e:=by
 obtain⟨w',ev,r1,r2,r3⟩:=fZ (t:=lW) (off:=0) (v:=nv) hb (by rw[h1];exact XA) (by rw[h1];simp) (by rw[h1];simpa using h2);have h3:RT (execOp (BQ bx bS l xb k sv nv).eval o5) w .skip w' ev:=by
  have e:execOp (BQ bx bS l xb k sv nv).eval o5=(lu.store lW (pb bS) nv).sem:=by
   unfold execOp;rw[Te];simp only[aed,YW];rfl
  rw[e];exact r1
 refine⟨w',_,(stepG_op (Ns ..) (Nq ..) acj (Qv bx bS l xb k sv nv) (by rw[Te];simp)).trans (ym h3 (Nt ..)),?_,λe he=>r3 e (mem_seen he)⟩;rw[h1] at r2;simpa [kQ] using r2
theorem Pw (hl:w.heap[l]? =some (.loop (mi .busy bx bS D))){c:κ}:∃w' es,stepG PP true (G (fR6 bx bS l xb k sv nv) (c::cs0)) w= .go (G (c.finish (.bool true)) cs0) w' es/\zq l (.loop (mi .ready bx bS D)) w w'/\∀e∈es,EvB l e:=by
 unfold mi at hl⊢;have h:=NM hl;exact⟨_,_,EK (No bx bS l xb k sv nv) (Nn bx bS l xb k sv nv) (JS bx bS l xb k sv nv) (Np bx bS l xb k sv nv) h,mW hl,A4 rfl⟩
theorem Px (hl:w.heap[l]? =some (.loop (mi .ready bx bS D))):∃w' es,stepG PP true (G ((Hz bx bS D l).finish U) cs0) w= .go (G (fE0 bx bS D l) cs0) w' es/\zq l (.loop (mi .exhausted bx bS D)) w w'/\∀e∈es,EvB l e:=by
 unfold mi at hl⊢;have h:=NN hl;exact⟨_,_,EL (RP bx bS D l) (RM bx bS D l) h,mW hl,A4 rfl⟩
theorem Pu (hD:w.heap[D]? =some (.deferred (some []))):∃w' es,stepG PP true (G (Y4 bx bS D l sv) cs0) w= .go (G {Y4 bx bS D l sv with defers:=[]} cs0) w' es/\zq D (.deferred none) w w'/\∀e∈es,EvB D e:=
 ⟨_,_,EJ (NH bx bS D l sv) (FY bx bS D l sv) (P1 hD),mW hD,A4 rfl⟩
theorem XD {tm:Array Φ}{vS body:Code}{k:List Item}{cs:List κ}(hseq:(⟨tm,[]⟩:Act).eval (.tmp 6)= .func (.func TL) #[] #[pb bx]):
  stepG PP true (G ((base DY).at ⟨tm,[]⟩ (.code (.rangeFunc (.tmp 6) #[7] vS body)::k)) cs) w= .go (G (Frame.enter PP TL #[.func (.yield (w.heap.size+1)) #[] #[],pb bx] .normal) ((base DY).at ⟨tm,[{target:= .collected w.heap.size,args:=#[]}]⟩ (.inRangeFunc (w.heap.size+1)::k)::cs))
   {w with heap:=(w.heap.push (.deferred (some []))).push (.loop (ci tm vS body .ready w.heap.size))} #[]:=by
 have h:=JZ (w:=w) tm vS body;have key:=yI (main:=true) (b:=base DY) (k:=k) (cs:=cs) (gf:=TL) (lb:=#[pb bx]) hseq Tryz.func135 (by kernel_rfl) (by kernel_rfl) rfl h;have e1:(#[.func (.yield (w.heap.size+1)) #[] #[]]++#[pb bx]:Array Φ)=#[.func (.yield (w.heap.size+1)) #[] #[],pb bx]:=by simp
 rw[e1] at key;exact key
theorem aa1 {fr:κ}{cs:List κ}:stepG PP true (U8 bx bS fr cs) w= .go (sK0 bx bS w.heap.size (w.heap.size+1) fr cs) {w with heap:=(w.heap.push (.deferred (some []))).push (.loop (mi .ready bx bS w.heap.size))} #[]:=by
 rw[U6];unfold mi sK0 Hz;exact XD (Pk bx bS)
end
theorem _root_.Go.Proofs.YtchcmhodnkgojaaGreat.aG.Strs.keep {w w':Θ}{own own':Nat->Prop}{v:Φ}{ks:List Ξ}(h:Strs w own v ks)(hk:∀b,own b->w'.heap[b]? =w.heap[b]?)(ho:∀b,own b->own' b):Strs w' own' v ks:=by
 rcases h with h|⟨sk,cap,h1,h2,h3,h4⟩
 .exact .inl h
 .exact .inr ⟨sk,cap,h1,ho sk h2,h3,by rw[hk sk h2];exact h4⟩
theorem _root_.Go.Proofs.YtchcmhodnkgojaaGreat.aG.Strs.one {w:Θ}{own:Nat->Prop}{v:Φ}{ks:List Ξ}(h:Strs w own v ks):v.cells=#[v]/\lz v=true:=by
 rcases h with⟨rfl,_⟩|⟨sk,cap,rfl,_⟩<;>exact⟨rfl,rfl⟩
def iQ (O0:Nat->Prop)(n0:Nat)(w:Θ):Nat->Prop:=λb=>O0 b\/(n0<=b/\b<w.heap.size)
theorem tE {O0:Nat->Prop}{n0:Nat}{w w':Θ}(h0:n0<=w.heap.size)(h:w.heap.size<=w'.heap.size):(λb=>iQ O0 n0 w b\/(w.heap.size<=b/\b<w'.heap.size))=iQ O0 n0 w':=funext λb=>propext (by
 unfold iQ;constructor
 .rintro((h|h)|h)
  .exact .inl h
  .exact .inr ⟨h.1,by omega⟩
  .exact .inr ⟨by omega,h.2⟩
 .rintro(h|h)
  .exact .inl (.inl h)
  .by_cases hb:b<w.heap.size
   .exact .inl (.inr ⟨h.1,hb⟩)
   .exact .inr ⟨by omega,h.2⟩)
theorem L7 {O0:Nat->Prop}{n0:Nat}{w w':Θ}(h:w'.heap.size=w.heap.size):iQ O0 n0 w'=iQ O0 n0 w:=by unfold iQ;rw[h]
section
variable (O0:Nat->Prop)(w0:Θ)(bx M c:Nat)(f:Ξ->Option Φ)(fr:κ)(cs:List κ)
structure J (st:LoopState)(sv:Φ)(ks:List Ξ)(seen:Array Nat)(w:Θ):Prop where
 hs:w0.heap.size+4<=w.heap.size
 old:∀b,b<w0.heap.size->w.heap[b]? =w0.heap[b]?
 os:w.os=w0.os
 box:w.heap[w0.heap.size]? =some (.cells #[sv] lW (0,0))
 Zc:w.heap[w0.heap.size+1]? =some (.deferred (some []))
 lop:w.heap[w0.heap.size+2]? =some (.loop (mi st bx w0.heap.size (w0.heap.size+1)))
 Xz:w.heap[w0.heap.size+3]? =some (.mapIter (some M) c seen c)
 strs:Strs w (λb=>w0.heap.size+4<=b/\b<w.heap.size) sv ks
def Fin (s:Nat->Prop)(g:Ω)(w:Θ):Prop:=∃sv ks,g=cG fr cs sv/\s=iQ O0 w0.heap.size w/\w0.heap.size<=w.heap.size/\(∀b,b<w0.heap.size->w.heap[b]? =w0.heap[b]?)/\w.os=w0.os/\
 Strs w (λb=>w0.heap.size+4<=b/\b<w.heap.size) sv ks/\ks.Nodup/\∀s,s∈ks↔f s≠none
end
section
variable {O0:Nat->Prop}{w0 w w':Θ}{bx M c:Nat}{es:Array af5}{f:Ξ->Option Φ}{fr:κ}{cs:List κ}{st st':LoopState}{sv nv:Φ}{ks:List Ξ}{seen:Array Nat}
theorem J.at (h:J w0 bx M c st sv ks seen w)(d:Nat):J w0 bx M c st sv ks seen (w.at d):=⟨h.hs,h.old,h.os,h.box,h.Zc,h.lop,h.Xz,h.strs⟩
theorem J.loop (h:J w0 bx M c st sv ks seen w)(h1:w'.heap.size=w.heap.size)(h2:w'.heap[w0.heap.size+2]? =some (.loop (mi st' bx w0.heap.size (w0.heap.size+1))))(h3:∀b,b≠w0.heap.size+2->w'.heap[b]? =w.heap[b]?)(h4:w'.os=w.os):J w0 bx M c st' sv ks seen w':=
 ⟨by rw[h1];exact h.hs,λb hb=>by rw[h3 b (by omega)];exact h.old b hb,h4.trans h.os,by rw[h3 _ (by omega)];exact h.box,by rw[h3 _ (by omega)];exact h.Zc,h2,by rw[h3 _ (by omega)];exact h.Xz,h.strs.keep (λb hb=>h3 b (by omega)) λb hb=>by rw[h1];exact hb⟩
theorem J.next {seen':Array Nat}(h:J w0 bx M c st sv ks seen w)(h1:w'.heap.size=w.heap.size)(h2:w'.heap[w0.heap.size+3]? =some (.mapIter (some M) c seen' c))(h3:∀b,b≠w0.heap.size+3->w'.heap[b]? =w.heap[b]?)(h4:w'.os=w.os):J w0 bx M c st sv ks seen' w':=
 ⟨by rw[h1];exact h.hs,λb hb=>by rw[h3 b (by omega)];exact h.old b hb,h4.trans h.os,by rw[h3 _ (by omega)];exact h.box,by rw[h3 _ (by omega)];exact h.Zc,by rw[h3 _ (by omega)];exact h.lop,h2,h.strs.keep (λb hb=>h3 b (by omega)) λb hb=>by rw[h1];exact hb⟩
theorem J.push {o:Obj}(h:J w0 bx M c st sv ks seen w)(h1:w'.heap=w.heap.push o)(h4:w'.os=w.os):J w0 bx M c st sv ks seen w':=by
 have hs:=h.hs;have hk:∀b,b<w.heap.size->w'.heap[b]? =w.heap[b]? :=λb hb=>by rw[h1,ac2 hb];exact(ν hb).symm
 have sz:w'.heap.size=w.heap.size+1:=by rw[h1];simp
 exact⟨by omega,λb hb=>by rw[hk b (by omega)];exact h.old b hb,h4.trans h.os,by rw[hk _ (by omega)];exact h.box,by rw[hk _ (by omega)];exact h.Zc,by rw[hk _ (by omega)];exact h.lop,by rw[hk _ (by omega)];exact h.Xz,h.strs.keep (λb hb=>hk b hb.2) λb hb=>⟨hb.1,by omega⟩⟩
theorem vZ {b:Nat}{o:Obj}{g g':Ω}{Stop:(Nat->Prop)->Ω->Θ->Prop}(hs:g.status= .running)(hb:iQ O0 w0.heap.size w b)(h:∀d,∃w' es,stepG PP true g (w.at d)= .go g' w' es/\zq b o (w.at d) w'/\∀e∈es,EvB b e)
  (k:∀w',w'.heap.size=w.heap.size->w'.heap[b]? =some o->(∀c,c≠b->w'.heap[c]? =w.heap[c]?)->w'.os=w.os->aD PP true ly Stop (iQ O0 w0.heap.size w') g' w'):aD PP true ly Stop (iQ O0 w0.heap.size w) g w:=
 agy hs hb (λd=>by obtain⟨w',es,h1,h2,h3⟩:=h d;exact⟨w',es,h1,h2,λe he=>⟨b,hb,h3 e he⟩⟩) λw' h1 h2 h3 h4=>by
  have:=k w' h1 h2 h3 h4
  rwa [L7 h1] at this
theorem wl {b:Nat}{g g':Ω}{Stop:(Nat->Prop)->Ω->Θ->Prop}(hs:g.status= .running)(hb:iQ O0 w0.heap.size w b)(h:∀d,∃es,stepG PP true g (w.at d)= .go g' (w.at d) es/\∀e∈es,EvB b e)
  (k:aD PP true ly Stop (iQ O0 w0.heap.size w) g' w):aD PP true ly Stop (iQ O0 w0.heap.size w) g w:=
 EG hs (λd=>by obtain⟨es,h1,h2⟩:=h d;exact⟨es,h1,λe he=>⟨b,hb,h2 e he⟩⟩) k
theorem Mb (hJ:J w0 bx M c .ready sv ks seen w)(hn:ks.Nodup)(hm:∀s,s∈ks↔f s≠none):
  aD PP true ly (Fin O0 w0 f fr cs) (iQ O0 w0.heap.size w) (cG (Hz bx w0.heap.size (w0.heap.size+1) (w0.heap.size+2)) (fr::cs) U) w:=by
 have hs:=hJ.hs;have nw:∀{w':Θ} {b:Nat},w0.heap.size+4<=w'.heap.size->w0.heap.size<=b->b<w0.heap.size+4->iQ O0 w0.heap.size w' b:=λa b c=> .inr ⟨b,by omega⟩
 refine vZ (o:= .loop (mi .exhausted bx w0.heap.size (w0.heap.size+1))) rfl (nw hs (by omega) (by omega):iQ O0 w0.heap.size w (w0.heap.size+2)) (λd=>Px (hJ.at d).lop) λw1 a1 a2 a3 a4=>?_
 have J1:=hJ.loop a1 a2 a3 a4;refine ej (VO _ _ _ _ _ _) ?_;refine wl (b:=w0.heap.size) (g':=resume (ZO bx w0.heap.size (w0.heap.size+1) (w0.heap.size+2) fr cs) sv) (cY (Ls _ _ _ _ _ _)).1 (nw J1.hs (by omega) (by omega)) (λd=>?_) ?_
 .have hr:RT (lu.load lW (pb w0.heap.size)).sem (w1.at d) (.value sv) (w1.at d) #[⟨.cell ⟨w0.heap.size,0,none⟩,false,false⟩]:=by
   refine RT.eN (x:=sv) ?_ (.pure _);show RT (do if<-isAgg lW then Pure.pure (.agg (<-loadCells ⟨w0.heap.size,0,none⟩ (<-Go.sizeOf lW))) else load ⟨w0.heap.size,0,none⟩) _ _ _ _;refine(ib (b:=false) (by kernel_rfl)).aS ?_;simp only[ι,if_false];exact kh (cell_of (J1.at d).box rfl)
  obtain⟨es,e1,e2⟩:=fA (main:=true) (Ls _ _ _ _ _ _) hr;refine⟨es,e1,λe he=>?_⟩;have:=e2 e he;simp at this;subst this;exact iX rfl
 refine ej (Y3 _ _ _ _ _ _ _) ?_;refine vZ (o:= .deferred none) rfl (nw J1.hs (by omega) (by omega):iQ O0 w0.heap.size w1 (w0.heap.size+1)) (λd=>Pu (J1.at d).Zc) λw2 b1 b2 b3 b4=>?_
 refine ej (Y2 _ _ _ _ _ _ _) (.stop λw3 h3=>?_);obtain⟨d,rfl⟩:=h3;refine⟨sv,ks,rfl,rfl,by show _<=w2.heap.size;omega,λb hb=>?_,by show w2.os=_;rw[b4];exact J1.os,?_,hn,hm⟩
 .show w2.heap[b]? =_
  rw[b3 b (by omega)];exact J1.old b hb
 .exact J1.strs.keep (λb hb=>b3 b (by omega)) λb hb=>⟨hb.1,by show b<w2.heap.size;omega⟩
theorem rounds (hO:∀b,O0 b->b<w0.heap.size)(oM:O0 M)(hM:w0.heap[M]? =some (.map es c))(hm:dk es c f)(hes:es.size<2^40)(L:Nat):∀(seen:Array Nat) (w:Θ) (tm:Array Φ) (sv:Φ) (ks:List Ξ),(leftOf es seen).size=L->J w0 bx M c .ready sv ks seen w->
  ks.Nodup->(∀s,s∈ks↔BG es seen s)->ks.length+L<=es.size->HK (w0.heap.size+2) (w0.heap.size+3) tm->
  aD PP true ly (Fin O0 w0 f fr cs) (iQ O0 w0.heap.size w) (gK tm (Hz bx w0.heap.size (w0.heap.size+1) (w0.heap.size+2)) (fr::cs)) w:=by
 induction L using Nat.strongRecOn with
 |_ L ih=>
 intro seen w tm sv ks hL hJ hn hk hlen hH;have nw:∀{w':Θ} {b:Nat},w0.heap.size+4<=w'.heap.size->w0.heap.size<=b->b<w0.heap.size+4->iQ O0 w0.heap.size w' b:=λa b c=> .inr ⟨b,by omega⟩
 have nM:∀{w':Θ},iQ O0 w0.heap.size w' M:= .inl oM;have Mlt:=hO M oM;rw[hH.eq]
 have nx:=acI (w0.heap.size+3) (w0.heap.size+2) (Hz bx w0.heap.size (w0.heap.size+1) (w0.heap.size+2)) (fr::cs) λi=>tm.getD i undef
 refine aD.step (cY nx).1 λw1 h1=>?_
 obtain⟨d,rfl⟩:=h1;have hMw:(w.at d).heap[M]? =some (.map es c):=(hJ.old M Mlt).trans hM;rcases GX (w:=w.at d) (ty:=nxK) (hJ.at d).Xz hMw hm with⟨hl,w',ev,rt,a1,a2,a3,a4,a5⟩|⟨e,he,w',ev,rt,u,a5⟩
 .obtain⟨es',e1,e2⟩:=fA (main:=true) nx rt
  have sz:w'.heap.size=(w.at d).heap.size:=by rw[a4]
  refine⟨_,w',es',e1,⟨by rw[sz];exact φ _,λb _ _=>by rw[a4],a3,a2,a1,λx hx=>?_⟩,?_⟩
  .rcases(a5 x (e2 x hx)).1 with q|q
   .exact uN (nw hJ.hs (by omega) (by omega)) q
   .exact uN nM q
  .have hup:ly.up (iQ O0 w0.heap.size w) (w.at d) w'=iQ O0 w0.heap.size w':=tE (w:=w) (by have:=hJ.hs;omega) (by show(w.at d).heap.size<=_;rw[sz];exact φ _)
   rw[hup];refine ej (QY _ _ _ _ _) ?_;have J':J w0 bx M c .ready sv ks seen w':=⟨by rw[sz];exact hJ.hs,λb hb=>by rw[a4];exact hJ.old b hb,a3.trans hJ.os,by rw[a4];exact hJ.box,by rw[a4];exact hJ.Zc,by rw[a4];exact hJ.lop,by rw[a4];exact hJ.Xz,hJ.strs.keep (λb _=>by rw[a4];rfl) λb hb=>by rw[sz];exact hb⟩
   refine Mb J' hn λs=>(hk s).trans ⟨λ⟨x,hx,h1,_⟩=>?_,λhs=>As hm hl hs⟩
   rw[(hm.has s x.val).2 ⟨x,hx,h1,rfl⟩];simp
 .obtain⟨es',e1,e2⟩:=fA (main:=true) nx rt
  have hmem:=xq he;obtain⟨path,hkey⟩:=iG (hm.keys e hmem);have hless:=tL he;have hV:=λs=>vY (seen:=seen) hm hmem hkey s
  have hnew:path∉ks:=λhin=>by
   obtain⟨x,hx,h1,h2⟩:=(hk path).1 hin;have:=hm.uniq hx hmem (by rw[h1,hkey]);subst this;have:=(Array.mem_filter.1 he).2;simp[h2] at this
  have J1:J w0 bx M c .ready sv ks (seen.push e.born) w':=(hJ.at d).next u.size u.at_ u.rest u.os;refine⟨_,w',es',e1,⟨by rw[u.size];exact φ _,λb _ hb=>u.rest b λq=>hb (q▸nw hJ.hs (by omega) (by omega)),u.os,u.output,u.tape,λx hx=>?_⟩,?_⟩
  .rcases a5 x (e2 x hx) with q|q
   .exact uN (nw hJ.hs (by omega) (by omega)) q
   .exact uN nM q.1
  have hup:ly.up (iQ O0 w0.heap.size w) (w.at d) w'=iQ O0 w0.heap.size w':=tE (w:=w) (by have:=hJ.hs;omega) (by show(w.at d).heap.size<=_;rw[u.size];exact φ _);rw[hup,hkey];clear hup e1 e2 rt hMw
  refine ej (acL _ _ _ _ _ _ _) ?_;have hMw:∀d,(w'.at d).heap[M]? =some (.map es c):=λd=>(J1.old M Mlt).trans hM
  have en:=acK (w0.heap.size+3) (w0.heap.size+2) path e.val (Hz bx w0.heap.size (w0.heap.size+1) (w0.heap.size+2)) (fr::cs) λi=>tm.getD i undef
  refine EG (cY en).1 (g':=resume (kA (w0.heap.size+3) (w0.heap.size+2) path e.val (Hz bx w0.heap.size (w0.heap.size+1) (w0.heap.size+2)) (fr::cs) λi=>tm.getD i undef) (.tuple #[.string path,e.val])) (λd=>?_) ?_
  .have hr:=wN (J1.at d).Xz (hMw d) hm hmem
   rw[hkey] at hr;obtain⟨es',e1,e2⟩:=fA (main:=true) en hr;refine⟨es',e1,λx hx=>?_⟩;have:=e2 x hx;simp at this;rcases this with rfl|rfl
   .exact⟨_,nw J1.hs (by omega) (by omega),dU⟩
   .exact⟨M,nM,dU⟩
  refine ej (acJ _ _ _ _ _ _ _) ?_
  refine wl (b:=w0.heap.size+2) rfl (nw J1.hs (by omega) (by omega)) (λd=>Lb (J1.at d).lop) ?_;refine ej (Yu _ _ _ _ _ _) ?_;refine vZ (o:= .loop (mi .busy bx w0.heap.size (w0.heap.size+1))) rfl (nw J1.hs (by omega) (by omega):iQ O0 w0.heap.size w' (w0.heap.size+2)) (λd=>Lf (J1.at d).lop) λw2 b1 b2 b3 b4=>?_
  have J2:=J1.loop b1 b2 b3 b4;clear J1 b1 b2 b3 b4 hMw hJ u;refine ej (Y0 _ _ _ _ _ _) ?_;refine wl (b:=w0.heap.size) rfl (nw J2.hs (by omega) (by omega)) (λd=>Pv (J2.at d).box) ?_;refine ej (YZ _ _ _ _ _ _ _) ?_
  refine new1 (g':=G ((BR bx w0.heap.size (w0.heap.size+2) path sv).finish (.slice (some ⟨w2.heap.size,0,none⟩) 1 1)) (FB (w0.heap.size+3) (w0.heap.size+2) path e.val (λi=>tm.getD i undef)::Hz bx w0.heap.size (w0.heap.size+1) (w0.heap.size+2)::fr::cs)) (os:=[.cells #[.string path] jR (0,0)]) rfl (λd=>Le (w:=w2.at d)) λw3 a1 a2=>?_
  have J3:=J2.push a1 a2;have sz3:w3.heap.size=w2.heap.size+1:=by rw[a1];simp
  have hs2:=J2.hs;rw[tE (by omega) (by omega)];have hx:w3.heap[w2.heap.size]? =some (.cells #[.string path] jR (0,0)):=by rw[a1];simp
  refine ej (YX _ _ _ _ _ _ _ _) ?_;refine app1 (ks:=ks++[path]) (mine:=λb=>w0.heap.size+4<=b/\b<w3.heap.size) rfl (λb hb=> .inr ⟨by omega,hb.2⟩) (λd=>II (J3.at d).strs hx ⟨hs2,by omega⟩ (by omega)) λnv w4 c1 c2 c3 c4=>?_
  rw[tE (by omega) c1];have J4:Strs w4 (λb=>w0.heap.size+4<=b/\b<w4.heap.size) nv (ks++[path]):=c3.keep (λ_ _=>rfl) λb hb=>by omega
  have k4:∀b,b<w0.heap.size+4->w4.heap[b]? =w3.heap[b]? :=λb hb=>c2 b (by omega) λq=>by omega
  have b4:w4.heap[w0.heap.size]? =some (.cells #[sv] lW (0,0)):=by rw[k4 _ (by omega)];exact J3.box
  refine ej (YV _ _ _ _ _ _ _ _ _) ?_;refine vZ (o:= .cells #[nv] lW (0,0)) rfl (.inr ⟨φ _,by omega⟩:iQ O0 w0.heap.size w4 w0.heap.size) (λd=>Ld (w:=w4.at d) b4 J4.one.1 J4.one.2) λw5 d1 d2 d3 d4=>?_
  have J5:J w0 bx M c .busy nv (ks++[path]) (seen.push e.born) w5:=by
   have r:∀b,b<w0.heap.size+4->b≠w0.heap.size->w5.heap[b]? =w3.heap[b]? :=λb hb hne=>by rw[d3 b hne,k4 b hb]
   refine⟨by omega,λb hb=>?_,by rw[d4,c4,J3.os],d2,?_,?_,?_,J4.keep (λb hb=>d3 b (by omega)) λb hb=>⟨hb.1,by rw[d1];exact hb.2⟩⟩
   .rw[r b (by omega) (by omega)];exact J3.old b hb
   .rw[r _ (by omega) (by omega)];exact J3.Zc
   .rw[r _ (by omega) (by omega)];exact J3.lop
   .rw[r _ (by omega) (by omega)];exact J3.Xz
  clear J2 J3 J4 k4 b4 d1 d2 d3 d4 c1 c2 c3 c4 hx;refine ej (YU _ _ _ _ _ _ _ _ _) ?_;refine vZ (o:= .loop (mi .ready bx w0.heap.size (w0.heap.size+1))) rfl (nw J5.hs (by omega) (by omega):iQ O0 w0.heap.size w5 (w0.heap.size+2)) (λd=>Pw (J5.at d).lop) λw6 f1 f2 f3 f4=>?_
  have J6:=J5.loop f1 f2 f3 f4;obtain⟨tm',JN,hg⟩:=SK (w0.heap.size+3) (w0.heap.size+2) path e.val (Hz bx w0.heap.size (w0.heap.size+1) (w0.heap.size+2)) (fr::cs) λi=>tm.getD i undef
  refine ej hg (ih _ (hL▸hless) (seen.push e.born) w6 tm' nv (ks++[path]) rfl J6 ?_ (λs=>?_) ?_ JN)
  .rw[List.nodup_append]
   exact⟨hn,by simp,λa ha b hb=>by simp at hb;subst hb;exactλq=>hnew (q▸ha)⟩
  .rw[ag8,hV s,hk s];simp
  .simp;omega
end
section
variable {own:Nat->Prop}{w:Θ}{g g':Ω}{Stop:(Nat->Prop)->Ω->Θ->Prop}
theorem new2 {o:Obj}(hs:g.status= .running)(h:∀d,∃es,stepG PP true g (w.at d)= .go g' {w.at d with heap:=(w.at d).heap.push o} es/\∀e∈es,∃b,own b/\EvB b e)
  (k:∀w',w'.heap=w.heap.push o->w'.os=w.os->aD PP true ly Stop (λb=>own b\/(w.heap.size<=b/\b<w'.heap.size)) g' w'):aD PP true ly Stop own g w:=by
 refine aD.step hs λw₁ h1=>?_
 obtain⟨d,rfl⟩:=h1;obtain⟨es,e1,e2⟩:=h d;refine⟨_,_,es,e1,⟨by show w.heap.size<=(w.heap.push o).size;simp,λb hb _=>by show(w.heap.push o)[b]? =w.heap[b]?;rw[ac2 (show b<w.heap.size from hb)];exact(ν _).symm,rfl,rfl,rfl,λe he=>by obtain⟨b,h1,h2⟩:=e2 e he;exact uN h1 h2⟩,?_⟩;exact k _ rfl rfl
end
section
variable {O0:Nat->Prop}{w0:Θ}{bx M c:Nat}{es:Array af5}{f:Ξ->Option Φ}{fr:κ}{cs:List κ}
theorem Ll (hO:∀b,O0 b->b<w0.heap.size)(oM:O0 M)(obx:O0 bx){tt:η}{ff:Nat×Nat}(hbx:w0.heap[bx]? =some (.cells #[.map (some M)] tt ff))(hM:w0.heap[M]? =some (.map es c))(hm:dk es c f)(hes:es.size<2^40):
  aD PP true ly (Fin O0 w0 f fr cs) O0 (sQ0 bx fr cs) w0:=by
 have lbx:=hO bx obx;have lM:=hO M oM;refine ej (EY _ _ _) (Mn (f:=pb) (U9 _ _ _) (λw=>wO _ _) λw1 h1 o1 t1=>?_);have s1:w1.heap.size=w0.heap.size+1:=by rw[h1];simp
 have e1:(λb=>O0 b\/b=w0.heap.size)=iQ O0 w0.heap.size w1:=funext λb=>propext (by
  unfold iQ;exact or_congr Iff.rfl ⟨λh=>⟨by omega,by omega⟩,λh=>by omega⟩)
 rw[e1];refine ej (U7 _ _ _ _) ?_;refine new1 (g':=sK0 bx w0.heap.size (w0.heap.size+1) (w0.heap.size+2) fr cs) (os:=[.deferred (some []),.loop (mi .ready bx w0.heap.size (w0.heap.size+1))]) rfl (λd=>?_) λw2 h2 o2=>?_
 .have:=aa1 (bx:=bx) (bS:=w0.heap.size) (w:=w1.at d) (fr:=fr) (cs:=cs)
  have e:(w1.at d).heap.size=w0.heap.size+1:=s1;rw[e] at this;exact this
 have h2':w2.heap=(w1.heap.push (.deferred (some []))).push (.loop (mi .ready bx w0.heap.size (w0.heap.size+1))):=h2;have s2:w2.heap.size=w0.heap.size+3:=by rw[h2'];simp[s1]
 rw[tE (by omega) (by omega)];have WE:∀b,b<w0.heap.size->w2.heap[b]? =w0.heap[b]? :=λb hb=>by
  rw[h2',ac2 (by simp;omega),<-ν,ac2 (by omega),<-ν,h1,ac2 hb,<-ν]
 have r0:w2.heap[w0.heap.size]? =some (.cells #[.slice none 0 0] lW (0,0)):=by
  rw[h2',ac2 (by simp;omega),<-ν,ac2 (by omega),<-ν,h1];simp[Value.cells]
 have r1:w2.heap[w0.heap.size+1]? =some (.deferred (some [])):=by
  rw[h2',ac2 (by simp;omega),<-ν,<-s1];simp
 have r2:w2.heap[w0.heap.size+2]? =some (.loop (mi .ready bx w0.heap.size (w0.heap.size+1))):=by
  have e:w0.heap.size+2=(w1.heap.push (Obj.deferred (some []))).size:=by simp[s1]
  rw[h2',e];exact Array.getElem?_push_size
 refine ej (Vo _ _ _ _ _ _) ?_;refine EG (g':=resume (sK1 bx w0.heap.size (w0.heap.size+1) (w0.heap.size+2) fr cs) (.map (some M))) (cY (Lr _ _ _ _ _ _)).1 (λd=>?_) ?_
 .have hr:RT (lu.load OJ (pb bx)).sem (w2.at d) (.value (.map (some M))) (w2.at d) #[⟨.cell ⟨bx,0,none⟩,false,false⟩]:=by
   refine RT.eN (x:= .map (some M)) ?_ (.pure _);show RT (do if<-isAgg OJ then Pure.pure (.agg (<-loadCells ⟨bx,0,none⟩ (<-Go.sizeOf OJ))) else load ⟨bx,0,none⟩) _ _ _ _;refine(ib (b:=false) (by kernel_rfl)).aS ?_;simp only[ι,if_false];exact kh (cell_of (w:=w2.at d) ((WE bx lbx).trans hbx) rfl)
  obtain⟨es,e1,e2⟩:=fA (main:=true) (Lr _ _ _ _ _ _) hr;refine⟨es,e1,λe he=>?_⟩;have:=e2 e he;simp at this;subst this;exact⟨bx,.inl obx,iX rfl⟩
 refine ej (Vm _ _ _ _ _ _ _) ?_;refine new2 (o:= .mapIter (some M) c #[] c) (g':=resume (Vn bx w0.heap.size M (w0.heap.size+1) (w0.heap.size+2) fr cs) (pb (w0.heap.size+3))) (cY (Lq _ _ _ _ _ _ _)).1 (λd=>?_) λw3 h3 o3=>?_
 .have hr:=wK (w:=w2.at d) (t:=OJ) (kt:=9) (vt:=164) (by kernel_rfl) ((WE M lM).trans hM)
  have e:(w2.at d).heap.size=w0.heap.size+3:=s2;rw[e] at hr;obtain⟨es,e1,e2⟩:=fA (main:=true) (Lq _ _ _ _ _ _ _) hr;refine⟨es,e1,λx hx=>?_⟩;have:=e2 x hx;simp at this;subst this;exact⟨M,.inl oM,dU⟩
 have s3:w3.heap.size=w0.heap.size+4:=by rw[h3];simp[s2]
 rw[tE (by omega) (by omega)];obtain⟨tm,hH,hg⟩:=Vl bx w0.heap.size M (w0.heap.size+3) (w0.heap.size+1) (w0.heap.size+2) fr cs;have k3:∀b,b<w0.heap.size+3->w3.heap[b]? =w2.heap[b]? :=λb hb=>by rw[h3,ac2 (by omega)];exact(ν (by omega)).symm
 refine ej hg (rounds hO oM hM hm hes es.size #[] w3 tm (.slice none 0 0) [] (by simp[leftOf]) ⟨by omega,λb hb=>by rw[k3 b (by omega)];exact WE b hb,by rw[o3,o2,o1],by rw[k3 _ (by omega)];exact r0,by rw[k3 _ (by omega)];exact r1,by rw[k3 _ (by omega)];exact r2,by rw[h3,<-s2];simp,.inl ⟨rfl,rfl⟩⟩ (by simp) (λs=>by simp;exact Ar s) (by simp) hH)
end
theorem Jy {H own:Nat->Prop}{π:Nat->Nat}{wL w w':Θ}(h:Link H no own no π wL w)(hs:w.heap.size<=w'.heap.size)(hk:∀b,own b->w'.heap[b]? =w.heap[b]?):
  ∃cu,Link H no own no cu wL w'/\∀b,b<wL.heap.size->cu b=π b:=by
 obtain⟨cu,h1,h2,_⟩:=h.rely (w₁:={w' with tape:=w.tape}) hs rfl λb _ hb=>hb.elim (hk b) False.elim
 exact⟨cu,⟨h1.inj,h1.zero,h1.lt,h1.lw,⟨h1.wr.inj,rfl,rfl,h1.wr.lt,h1.wr.ok,h1.wr.hid,h1.wr.oq,h1.wr.low,h1.wr.yx⟩,h1.own,h1.ro⟩,λb hb=>(h2 b hb).symm⟩
def KD (f:Ξ->Option Φ)(wL:Θ)(v:Φ)(w':Θ):Prop:=∃ks:List Ξ,ks.Nodup/\(∀s,s∈ks↔f s≠none)/\
 ((
   v= .slice none 0 0/\ks=[]/\∃t d,w'=az wL t d)\/∃cap,v= .slice (some ⟨wL.heap.size,0,none⟩) ks.length cap/\ks.length<=cap/\
   ∃t d,w'=az {wL with heap:=wL.heap.push (.cells (ks.map Value.string++List.replicate (cap-ks.length) (Value.string ⟨#[]⟩)).toArray jR (0,0))} t d)
theorem JY (bx:Nat)(c:κ)(CS:List κ):G (Frame.enter PP DY #[.slice none 0 0,ng bx] .normal) (c::CS)=sQ0 bx c CS:=by
 unfold sQ0 Nf;rfl
theorem Zh {E:av.Env}{wL:Θ}{bx m c:Nat}{es:Array af5}{f:Ξ->Option Φ}{tt:η}{ff:Nat×Nat}(hbx:wL.heap[bx]? =some (.cells #[.map (some m)] tt ff))(hM:wL.heap[m]? =some (.map es c))(hm:dk es c f)
  (hfix:∀e∈es,∀r,¬Value.Has r e.key/\¬Value.Has r e.val) (hes:es.size<2^40):av.CC E DY #[.slice none 0 0,ng bx] (KD f wL) wL:=by
 intro fr CS π M tr hp ha hk;have vbx:gV E.H wL bx:=ha (ng bx) (by simp) bx (.Gn (x:=pb bx) (by simp) (.ptr rfl));have NS:(#[.slice none 0 0,ng bx]:Array Φ).map (Value.ren π)=#[.slice none 0 0,ng (π bx)]:=by simp[ng,oU,aZ,pb]
 rw[NS,JY] at hp;obtain⟨Shun,Wu,w,hz,hl0,Z3,ho,KN⟩:=hp.ex
 let KK:Nat->Prop:=λq=>∃o,E.K q=some o
 have kk:∀q,KK q->q<w.heap.size/\∀l,lX q l->¬Shun l:=λq ⟨o,hq⟩=>⟨(Ψ.1 (KN q o hq).2.1).1,(KN q o hq).2.2⟩
 obtain⟨own,hown⟩:∃own:Nat->Prop,own=λb=>Wu b\/KK b:=⟨_,rfl⟩
 have hl:Link E.H av.no own av.no π wL w:=by rw[hown];exact hl0.wider λb hb=> .inl hb
 have hA:Apart Shun own w:=by rw[hown];exact Z3.union KK kk
 have Ma:∀q,KK q->own q:=λq hq=>by rw[hown];exact .inr hq
 have vm:gV E.H wL m:=hl.lw.Sa bx _ hbx vbx.2 m (.cells (v:= .map (some m)) (by simp) .map);have ahT:=(hl.wr.ok bx _ hbx vbx.2 id).2;have hM':=(hl.wr.ok m _ hM vm.2 id).2;rw[oT (o:= .map es c) λr hr=>absurd hr (by
  intro hr;cases hr with
  |key he h=>exact(hfix _ he r).1 h
  |val he h=>exact(hfix _ he r).2 h)] at hM'
 have ahS:w.heap[π bx]? =some (.cells #[.map (some (π m))] tt ff):=by rw[ahT];simp[dE]
 obtain⟨N1,M1,t1,g1,w1,r1,hz1,⟨s,⟨⟨sv,ks,rfl,rfl,hsz,hold,hos,hstr,hn,hmem⟩,_,u1⟩,hA1⟩,o1,_⟩:=kY hz (vI (pn (λ_=>False) (Ll (f:=f) (fr:=fr) (cs:=CS) hA.lt (hl.own m vm id) (hl.own bx vbx id) ahS hM' hm hes) λ_ h=>h.elim) hA);have hk1:∀b,own b->w1.heap[b]? =w.heap[b]? :=λb hb=>hold b (hA.lt b hb)
 have ab7:∀(cu:Nat->Nat),(∀b,b<wL.heap.size->cu b=π b)->∀b,b<wL.heap.size->¬E.H b->¬KK (cu b):=λcu ag b hb hh ⟨o,hq⟩=>by
  rw[ag b hb] at hq;exact(KN _ o hq).1 (hl0.own b ⟨hb,hh⟩ id)
 rcases hstr with⟨rfl,rfl⟩|⟨sk,cap,rfl,hsk,hle,hrow⟩
 .obtain⟨cu,hl',ag⟩:=Jy hl hsz hk1
  have fin:=hk (.slice none 0 0) wL cu M1 t1 ⟨wL.tape,wL.drawn,[],hn,hmem,.inl ⟨rfl,rfl,wL.tape,wL.drawn,rfl⟩⟩ ⟨Shun,_,w1,(by
   have e:Value.ren cu (.slice none 0 0)= .slice none 0 0:=by simp
   rw[e];exact hz1),(hl'.wider (λb hb=> .inl hb)).less KK (λb hb=>ab7 cu ag b hb.1 hb.2),hA1.part (λb hb=>hb.1),⟨by rw[o1];exact ho.1,u1.trans ho.2⟩,λq o hq=>⟨λhb=>hb.2 ⟨o,hq⟩,(hk1 q (Ma q ⟨o,hq⟩)).trans (KN q o hq).2.1,(KN q o hq).2.2⟩⟩ (λr hr=>by cases hr) ag (φ _)
  exact E.back _ _ _ _ _ r1 fin
 .obtain⟨cu,hl',ag,em⟩:=xo (m:=sk) hl hsz hk1 (by omega) hsk.2 hrow trivial (λr hr=>by
   cases hr with
   |cells hv h=>
    simp only[List.mem_toArray,ag8,ae0,List.mem_replicate] at hv;rcases hv with⟨x,_,rfl⟩|⟨_,rfl⟩<;>cases h) (λi hi=>hi)
  have fin:=hk (.slice (some ⟨wL.heap.size,0,none⟩) ks.length cap) _ cu M1 t1 ⟨wL.tape,wL.drawn,ks,hn,hmem,.inr ⟨cap,rfl,hle,wL.tape,wL.drawn,rfl⟩⟩ ⟨Shun,_,w1,(by
   have e:Value.ren cu (.slice (some ⟨wL.heap.size,0,none⟩) ks.length cap)= .slice (some ⟨sk,0,none⟩) ks.length cap:=by simp[aZ,em]
   rw[e];exact hz1),(hl'.wider (λb hb=>hb.elim .inl λe=> .inr ⟨by omega,e▸hsk.2⟩)).less KK (λb hb hq=>by
    have hb1:b<wL.heap.size+1:=by have:=hb.1;simpa using this
    have hlt:=(kk _ hq).1
    by_cases hlt2:b<wL.heap.size
    .exact ab7 cu ag b hlt2 hb.2 hq
    .have:b=wL.heap.size:=by omega
     rw[this,em] at hlt;omega),hA1.part (λb hb=>hb.1),⟨by rw[o1];exact ho.1,u1.trans ho.2⟩,λq o hq=>⟨λhb=>hb.2 ⟨o,hq⟩,(hk1 q (Ma q ⟨o,hq⟩)).trans (KN q o hq).2.1,(KN q o hq).2.2⟩⟩ (λr hr=>by
    cases hr with
    |slice e=>
     have e:wL.heap.size=r:=e;subst e;exact⟨by show wL.heap.size<(wL.heap.push _).size;simp,λhh=>by have:=hl.lw.low _ (.inl hh);omega⟩) ag (by simp)
  exact E.back _ _ _ _ _ r1 fin
theorem fu {E:av.Env}{f:aa9}{k:List Item}{R:Act->Θ->Prop}{a:Act}{wL:Θ}{ops:Array Oper}{i:Nat}{rest:List Nat}{o:Oper}(x:aa8)(ho:ops[i]? =some o)(hop:o.op= .assign x\/o.op= .move x)(hg:o.guard=none)(h:av.CI E f (.inRegion ops rest::k) R (a.put o.dst (a.eval x)) wL)(s9:mj PP S0 E0 true o=true:=by kernel_rfl):av.CI E f (.inRegion ops (i::rest)::k) R a wL:=by
 refine av.TR ho s9 hg λt d=>?_
 have e:(execOp a.eval o).run PP (az wL t d)= .ok (.value (a.eval x)) (az wL t d):=by
  unfold execOp;rcases hop with hop|hop<;>rw[hop]<;>rfl
 rw[e];exact(av.nL t d).2 h
theorem lp {E:av.Env}{f:aa9}{k:List Item}{R:Act->Θ->Prop}{a:Act}{wL:Θ}{ops:Array Oper}{i:Nat}{rest:List Nat}{o:Oper}{f2:aa9}(xs:Array aa8)(args:Array Φ){R2:Φ->Θ->Prop}(ho:ops[i]? =some o)(hg:o.guard=none)(hxs:xs.all nX=true)
  (hrun:∀(b:Act) (w:Θ),(execOp b.eval o).runT PP w #[]=(.ok (.enter f2 (xs.map b.eval)) w,#[])) (ha:xs.map a.eval=args) (hcc:av.CC E f2 args R2 wL)
  (h:∀v w',R2 v w'->wL.heap.size<=w'.heap.size->av.CI E f (.inRegion ops rest::k) R (a.put o.dst v) w'):av.CI E f (.inRegion ops (i::rest)::k) R a wL:=
 av.Se ho hg hxs hrun (ha▸hcc) h
theorem Gl {E:av.Env}{wL:Θ}{bx:Nat}{f:Ξ->Option Φ}(h:av.CC E DY #[.slice none 0 0,ng bx] (KD f wL) wL):av.CC E 134 #[ng bx] (KD f wL) wL:=by
 refine av.lq Tryz.func134 rfl ?_;refine av.ep (av.d9 (fu _ rfl (.inl rfl) rfl (av.cJ ?_)));refine av.ep (av.d9 (fu _ rfl (.inr rfl) rfl ?_))
 refine lp (f2:=DY) #[.const (.slice none 0 0),.tmp 3] #[.slice none 0 0,ng bx] (R2:=KD f wL) rfl rfl (by kernel_rfl) (λe w=>by kernel_rfl) (by kernel_rfl) h λv w' hR _=>?_
 refine fu _ rfl (.inl rfl) rfl (av.cJ (av.Gf ?_));exact⟨v,by kernel_rfl,hR⟩
end Sq
end aG
end
section
open Go.RowKit Go.Lib
theorem IL (d bl n:Nat)(vw:Φ)(x:DS)(w:Θ)(h:bv w d bl n vw x):
  Calls Tryz.prog 105 #[.pointer (some ⟨d,0,none⟩)] w λe w'=>e= .returned (.bool (x.sound n))/\aO [] w w':=by
 have HS:Hid (x.sound n=(x.tz n&&(x.nm n&&x.ei n))):=rfl;go_enter Tryz.func105,Tryz.ntmps105;go_wp2_with fail;refine(yL d bl n vw x w h).mono ?_;rintro e w1 ⟨rfl,f1⟩;have h1:=h.new f1;cases hr:x.tz n with
 |false=>
  rw[hr] at HS;go_wp2_with fail;go_ret;exact⟨by rw[HS.out];rfl,f1⟩
 |true=>
  rw[hr] at HS;go_wp2_with fail;refine(th d bl n vw x w1 h1).mono ?_;rintro e w2 ⟨rfl,f2⟩;have h2:=h1.new f2;have fw:=f1.trans f2;cases hc:x.nm n with
  |false=>
   rw[hc] at HS;go_wp2_with fail;go_ret;exact⟨by rw[HS.out];rfl,fw⟩
  |true=>
   rw[hc] at HS;go_wp2_with fail;refine(wo d bl n vw x w2 h2).mono ?_;rintro e w3 ⟨rfl,f3⟩;have vp:=fw.trans f3;go_wp2_with fail;go_ret;exact⟨by rw[HS.out];rfl,vp⟩
end
section
open Go.RowKit Go.Lib Go.Sort
def dI (l:List cH):List (List Γ):=(l.filter λf=>f.set !=3).map (·.path)
def fx (l:List (List Γ)):List Φ:=l.map encStr
def jw (l:List cH):Nat:=(compact ((dI l).mergeSort λx y=>decide (x<=y))).length
theorem iH:Elem Tryz.prog 45 9 1 16:=⟨Tryz.underlying45,by kernel_rfl,by omega⟩
theorem AY (fs:List cH)(k:Nat)(hk:k<fs.length):dI (fs.take (k+1))=if fs[k].set=3 then dI (fs.take k) else dI (fs.take k)++[fs[k].path]:=by
 unfold dI;rw[ac0 hk,List.filter_append,List.map_append]
 by_cases h:fs[k].set=3
 .simp[h]
 .simp[h]
theorem uy (l:List cH):(dI l).length<=l.length:=by unfold dI;rw[ag0];exact List.length_filter_le _ _
theorem xI (w:Θ)(os:Array Obj):aO [] w (grow w os):=
 ⟨rfl,rfl,rfl,by simp[grow],λk hk _=>by simp only[grow];rw[Array.getElem?_append_left hk]⟩
theorem pZ (w:Θ)(n:Nat):aO [] w (Sort.ahead w n):=⟨rfl,rfl,rfl,φ _,λ_ _ _=>rfl⟩
theorem nA {α:Type}[Inhabited α](enc:α->Φ)(w:Θ)(blk off:Nat)(d:Array α):aO [blk] w (putRow enc w blk off d):=
 ⟨rfl,rfl,rfl,by rw[size_putRow];exact φ _,λk hk hS=>by
  simp only[putRow,mapBlock,ag3];rw[ζ (by simpa usingλe=>hS (by simp[e]))]⟩
theorem Ak (base:Nat)(v:Φ)(fs:List cH)(w:Θ)(hv:w.ownsRow base 107 3 v fs.length (ii fs))(hl:fs.length<=1000):
  Calls Tryz.prog 75 #[v] w λe w'=>e= .returned (.int .i64 (jw fs))/\aO [] w w':=by
 obtain⟨ad,cap,hv'⟩:=bM hv;subst hv';go_enter Tryz.func75,Tryz.ntmps75;go_wp2_with fail
 go_loopw [3,8] (λu c wr=>∃k:Nat,c= .int .i64 k/\k<=fs.length/\aO [] w wr/\wr.ownsRow w.heap.size 9 1 u (dI (fs.take k)).length (fx (dI (fs.take k)))) (λ_ c _=>fs.length-(intOf c).toNat)
 case atStart=>exact⟨0,rfl,by omega,aO.refl _ _,World.ownsRow_nil _ _ _ _⟩
 case round=>
  obtain⟨k,rfl,hk,fk,ho⟩:=hrel;have hvk:=fk.owns hv
  by_cases hlt:k<fs.length
  .obtain⟨g,cur,rfl,hg,hle,_,hcs,htk⟩:=dL hvk
   have hat:((cur.toList.drop (k*3)).take 3)=bR fs[k].set fs[k].path fs[k].content:=by
    rw[bX htk _ _,sG fs k hlt]
   have hstep:=AY fs k hlt;have hpl:(dI (fs.take k)).length<=1000:=by have:=uy (fs.take k);rw[ae1] at this;omega
   generalize fs[k]=f at hat hstep;have HST:Hid (dI (fs.take (k+1))=if f.set=3 then dI (fs.take k) else dI (fs.take k)++[f.path]):=hstep;generalize dI (fs.take k)=ps at*;clear hstep hcs htk;go_wp2_with (with_reducible first|refine ax 107 rfl ?_|refine ay rfl ?_|refine ah 107 rfl ?_)
   refine ai.go (bV rfl 107 _ rfl g (k*3) rfl jM 3 d8 _ _ hg (bR f.set f.path f.content) hat rfl ?_);clear hat hg;go_wp2_with (with_reducible first|refine ay rfl ?_|refine ah 107 rfl ?_);refine ai.go (bh rfl 107 rfl vU ky ?_);intro w4 b5 l5 f4 r5;go_wp2_with (with_reducible first|refine ay rfl ?_|refine ah 107 rfl ?_)
   refine ai.go (bP rfl 107 _ _ rfl _ 0 rfl _ rfl 3 d8 ?_ ?_ _ _ r5 ?_ ?_)
   .rfl
   .simp[bR,Value.oneCell']
   .decide
   intro w5 f5 q5;rw[bG _ _ (by rfl)] at q5;have kE:Row w5 b5 (bR f.set f.path f.content).toArray 107:=q5;have f45:=f4.trans f5 (by simpa using l5);have jT:=fk.trans f45;have y6:=f45.owns ho;have c0:w5.cell? ⟨b5,0,none⟩=some (.int .i64 f.set):=by rw[kE.cell];rfl
   have c1:w5.cell? ⟨b5,1,none⟩=some (.string (aB f.path)):=by rw[kE.cell];rfl
   clear q5 r5 f4 f5 f45 fk ho l5 hvk kE
   by_cases h3:f.set=3
   .have GB:Hid (dI (fs.take (k+1))=ps):=by show _=_;rw[HST.out,χ h3]
    have h3':((f.set:Int))=3:=by omega
    rw[h3'] at c0;clear HST;go_wp2_with fail
    go_roundw
    case rel=>exact⟨k+1,by go_num,by omega,jT,by rw[GB.out];exact y6⟩
    case measure=>simp[intOf];omega
   .have GB:Hid (dI (fs.take (k+1))=ps++[f.path]):=by show _=_;rw[HST.out,ζ h3]
    have h3':((f.set:Int)==3)=false:=by rw[ae8];omega
    clear HST;go_wp2_with (with_reducible first|refine bq rfl ?_|refine br rfl ?_);refine ai.go (fj rfl 45 9 1 16 iH _ rfl (.string (aB f.path)) rfl rfl ?_);intro w8 b8 l8 f8 r8;go_wp2_with (with_reducible first|refine bq rfl ?_|refine br rfl ?_);have z9:=f8.owns y6
    have hbase:w.heap.size<=w8.heap.size:=by have:=jT.size;have:=f8.size;omega
    refine ai.go (fK rfl 45 9 1 16 iH _ _ rfl w.heap.size u3 _ _ rfl z9 b8 1 1 [.string (aB f.path)] rfl _ _ r8 rfl rfl (by simp[Value.oneCell']) (by omega) (by omega) (by omega) hbase ?_);intro g' cap' w9 BP f9 _;have JQ:=(jT.trans f8).trans f9 (by intro j hj;right;simp at hj;exact(z9.lt j hj).1);clear y6 z9 r8 f8 f9 l8 jT hbase c0 c1;go_wp2_with fail
    go_roundw
    case rel=>
     refine⟨k+1,by go_num,by omega,JQ,?_⟩;rw[GB.out];simpa [fx,aB] using BP
    case measure=>simp[intOf];omega
  .have HC:Hid (jw fs=(compact ((dI fs).mergeSort λx y=>decide (x<=y))).length):=rfl
   rw[θ (by omega)] at ho;have hpl:=uy fs;generalize dI fs=ps at*;have hsz:∀k,u3.ownBlock=some k->w.heap.size<=k/\k<wr.heap.size:=λk hk=>ho.lt k hk
   rcases ho.2 with⟨rfl,h0⟩|⟨g,c,cur,rfl,hgb,hgh,hnc,_,hcs,htk⟩
   .have hp0:ps=[]:=List.length_eq_zero_iff.1 h0
    subst hp0;have HZ:Hid (jw fs=0):=by show _=_;rw[HC.out,List.mergeSort_nil];rfl
    go_wp2_with fail;refine(Tryz.slices_Sort_string_none none 0 wr).mono ?_;rintro e w6 ⟨rfl,rfl⟩;go_wp2_with fail;refine(Tryz.slices_Compact_string_empty none 0 w6).mono ?_;rintro e w7 ⟨rfl,rfl⟩;go_wp2_with fail;go_ret;exact⟨by rw[HZ.out];rfl,fk⟩
   .have hfg:w.heap.size<=g:=hgb
    have hlt2:g<wr.heap.size:=(Ψ.1 hgh).1;have hH:Holds encStr wr g 0 ps.toArray:=λj hj=>by
     have hj':j<ps.length:=by simpa using hj
     refine⟨?_,Lib.frozen_of_heap hgh _⟩;rw[Lib.cell_of_heap hgh];have h1:(cur.toList.take (ps.length*1))[j]? =(fx ps)[j]? :=by rw[htk]
     rw[ah8 (by omega)] at h1;rw[Nat.zero_add,<-ah9,h1,getElem!_pos ps.toArray j hj];simp[fx,hj']
    clear ho hsz hcs htk hgh;go_wp2_with fail;refine(Tryz.slices_Sort_string g 0 c ps wr hH hlt2 (by omega)).mono ?_;rintro e w6 ⟨rfl,m,os,OZ⟩;have hsl:(ps.mergeSort λx y=>decide (x<=y)).length=ps.length:=List.length_mergeSort _;have hH6:Holds encStr w6 g 0 (ps.mergeSort λx y=>decide (x<=y)).toArray:=by
     rw[OZ];exact holds_grow _ _ _ _ _ _ (by rw[size_putRow];exact hlt2) (holds_putRow _ _ _ _ _ _ (holds_ahead _ _ _ _ _ _ hH) (by simp))
    have f6:aO [g] wr w6:=by
     rw[OZ];exact(((pZ wr m).mono (T:=[g]) (by simp)).trans (nA encStr _ g 0 _) (λi hi=> .inl hi)).trans (xI _ _)
    have qZ:aO [] w w6:=fk.trans f6 (by simpa using hfg);generalize (ps.mergeSort λx y=>decide (x<=y))=qs at*;clear OZ hH f6;go_wp2_with fail;have hc:=Tryz.slices_Compact_string g 0 c qs w6 hH6 (by omega) (by omega);rw[hsl] at hc;refine hc.mono ?_;rintro e w7 ⟨rfl,q,hw7⟩;have f7:aO [g] w6 w7:=by
     rw[hw7];exact((pZ w6 q).mono (T:=[g]) (by simp)).trans (nA encStr _ g 0 _) (λi hi=> .inl hi)
    have yA:aO [] w w7:=qZ.trans f7 (by simpa using hfg);clear hw7 f7 hc hH6;go_wp2_with fail;go_ret;exact⟨by rw[HC.out];rfl,yA⟩
end
section
open Go.RowKit Go.Lib
theorem zm:Tryz.prog.built 103 [(0,.int .i64 3)]=some (cZ 3 ⟨#[]⟩):=by kernel_rfl
def KR:Φ:= .agg (cZ 0 ⟨#[]⟩)
theorem zw:(Tryz.prog.info? 103).map (·.zero)=some (some KR):=by kernel_rfl
def DS.pending (x:DS)(n:Nat):Bool:=(x.content n 3 ⟨#[]⟩).isSome
theorem eS (w:Θ):Calls Tryz.prog 93 #[] w λe w'=>e= .returned (.agg (cZ 3 ⟨#[]⟩))/\aO [] w w':=by
 go_enter Tryz.func93,Tryz.ntmps93;go_wp2_with (with_reducible first|refine ay rfl ?_|refine bE 103 rfl ?_|refine ah 103 rfl ?_);refine ai.go (bh rfl 103 rfl KR zw ?_);intro w1 b l1 f1 r1;go_wp2_with (with_reducible first|refine ay rfl ?_|refine bE 103 rfl ?_|refine ah 103 rfl ?_)
 refine ai.go (bN rfl (.agg (cZ 3 ⟨#[]⟩)) w1 (ij _ _ rfl _ zm) ?_);go_wp2_with (with_reducible first|refine ah 103 rfl ?_);refine ai.go (bP rfl 103 _ _ rfl _ 0 rfl _ rfl 2 dh ?_ ?_ _ _ r1 ?_ ?_)
 .rfl
 .simp[cZ,Value.oneCell']
 .decide
 intro w2 f2 q2;rw[bG _ _ (by rfl)] at q2;have q2':Row w2 b (cZ 3 ⟨#[]⟩) 103:=q2;have fw:=f1.trans f2 (by simp;exact l1);clear q2;go_wp2_with fail;exact lH rfl b rfl rfl _ _ q2' ee (by exact dh) ⟨rfl,fw⟩
theorem o6 (d bl n:Nat)(vw:Φ)(x:DS)(w:Θ)(h:bv w d bl n vw x):Calls Tryz.prog 57 #[.pointer (some ⟨d,0,none⟩)] w λe w'=>e= .returned (.bool (x.pending n))/\aO [] w w':=by
 have HP:Hid (x.pending n=(x.content n 3 ⟨#[]⟩).isSome):=rfl;go_enter Tryz.func57,Tryz.ntmps57;go_wp2_with fail;refine(eS w).mono ?_;rintro e w1 ⟨rfl,f1⟩;have h1:=h.new f1;go_wp2_with fail;refine(mS d bl n vw x 3 ⟨#[]⟩ w1 h1).mono ?_;rintro e w2 ⟨rfl,f2⟩;have fw:=f1.trans f2;generalize x.content n 3 ⟨#[]⟩=r at*;go_wp2_with fail;go_ret
 exact⟨by rw[HP.out];rfl,fw⟩
theorem FC (d bl n:Nat)(vw:Φ)(x:DS)(w:Θ)(h:bv w d bl n vw x)(hp:x.pending n=false):Calls Tryz.prog 106 #[.pointer (some ⟨d,0,none⟩)] w λe w'=>e= .returned (.bool true)/\aO [] w w':=by
 have hc:x.content n 3 ⟨#[]⟩=none:=by
  unfold DS.pending at hp;cases hq:x.content n 3 ⟨#[]⟩ with
  |none=>rfl
  |some c=>rw[hq] at hp;cases hp
 go_enter Tryz.func106,Tryz.ntmps106;go_wp2_with fail;refine(eS w).mono ?_;rintro e w1 ⟨rfl,f1⟩;have h1:=h.new f1;go_wp2_with fail;refine(mS d bl n vw x 3 ⟨#[]⟩ w1 h1).mono ?_;rintro e w2 ⟨rfl,f2⟩;have fw:=f1.trans f2;rw[hc];go_wp2_with fail;go_ret;exact⟨rfl,fw⟩
structure aP (w:Θ)(F:List Nat)(s d n:Nat)(x:DS):Prop where
 row:Row w s #[.pointer (some ⟨d,0,none⟩)] 96
 disk:bJ w F d n x
 ne:s∉F
theorem aP.new {w w':Θ}{F:List Nat}{s d n:Nat}{x:DS}(h:aP w F s d n x)(f:aO [] w w'):aP w' F s d n x:=
 ⟨f.row h.row,h.disk.new f,h.ne⟩
theorem aP.cell {w:Θ}{F:List Nat}{s d n:Nat}{x:DS}(h:aP w F s d n x):w.cell? ⟨s,0,none⟩=some (.pointer (some ⟨d,0,none⟩)):=by rw[h.row.cell];rfl
theorem aP.nF {w:Θ}{F:List Nat}{s d n:Nat}{x:DS}(h:aP w F s d n x):∃bl vw,bv w d bl n vw x:=by
 obtain⟨bl,vw,h,_⟩:=h.disk;exact⟨bl,vw,h⟩
theorem xw (n:Int)(w:Θ):Calls Tryz.prog 71 #[.int .i64 n] w λe w'=>e= .returned (.bool (decide (16<=n)&&decide (n<=400)))/\w'=w:=by
 go_enter Tryz.func71,Tryz.ntmps71
 by_cases h1:16<=n<;>by_cases h2:n<=400
 all_goals
  have e1:Hid ((decide (16<=n)&&decide (n<=400))=(decide (16<=n)&&decide (n<=400))):=rfl;simp only[h1,h2,decide_true,decide_false] at e1⊢;go_wp2_with fail;go_ret;simp
theorem qW (n:Int)(w:Θ):Calls Tryz.prog 74 #[.int .i64 n] w λe w'=>e= .returned (.bool (n==0||n==1))/\w'=w:=by
 go_enter Tryz.func74,Tryz.ntmps74;cases h1:(n==0)<;>cases h2:(n==1)
 all_goals
  go_wp2_with fail;go_ret;simp[h1,h2]
theorem fL (F:List Nat)(s d n:Nat)(x:DS)(w:Θ)(h:aP w F s d n x):Calls Tryz.prog 44 #[.pointer (some ⟨s,0,none⟩)] w λe w'=>e= .returned (.bool false)/\w'=w:=by
 have c0:=h.cell;go_enter Tryz.func44,Tryz.ntmps44;go_wp2_with fail;go_ret;exact⟨rfl,rfl⟩
theorem kZ (F:List Nat)(s d n:Nat)(x:DS)(w:Θ)(h:aP w F s d n x):Calls Tryz.prog 46 #[.pointer (some ⟨s,0,none⟩)] w λe w'=>e= .returned (.bool x.failed)/\w'=w:=by
 have c0:=h.cell;obtain⟨bl,vw,hd⟩:=h.nF;go_enter Tryz.func46,Tryz.ntmps46;go_wp2_with fail;refine(fL F s d n x w h).mono ?_;rintro e w1 ⟨rfl,rfl⟩;go_wp2_with fail;refine(FX d bl n vw x w1 hd).mono ?_;rintro e w2 ⟨rfl,rfl⟩;go_wp2_with fail;go_ret;exact⟨rfl,rfl⟩
theorem mm (F:List Nat)(s d n:Nat)(x:DS)(w:Θ)(h:aP w F s d n x):Calls Tryz.prog 54 #[.pointer (some ⟨s,0,none⟩)] w λe w'=>e= .returned (.int .i64 (if x.failed then 3 else if x.pending n then 4 else 0))/\aO [] w w':=by
 have c0:=h.cell;obtain⟨bl,vw,hd⟩:=h.nF;go_enter Tryz.func54,Tryz.ntmps54;go_wp2_with fail;refine(kZ F s d n x w h).mono ?_;rintro e w1 ⟨rfl,rfl⟩;have HO:Hid ((if x.failed then(3:Int) else if x.pending n then 4 else 0)=(if x.failed then(3:Int) else if x.pending n then 4 else 0)):=rfl;cases hf:x.failed with
 |true=>
  go_wp2_with fail;go_ret;exact⟨by simp,aO.refl _ _⟩
 |false=>
  go_wp2_with fail;refine(o6 d bl n vw x w1 hd).mono ?_;rintro e w2 ⟨rfl,f2⟩;cases hp:x.pending n with
  |true=>
   go_wp2_with fail
   all_goals
    go_ret;exact⟨by simp,f2⟩
  |false=>
   go_wp2_with fail
   all_goals
    go_ret;exact⟨by simp,f2⟩
theorem EX (F:List Nat)(s d n:Nat)(x:DS)(w:Θ)(h:aP w F s d n x):Calls Tryz.prog 26 #[.pointer (some ⟨s,0,none⟩)] w λe w'=>e= .returned (.string ⟨x.aJ.toArray⟩)/\aO [] w w':=by
 have c0:=h.cell;obtain⟨bl,vw,hd⟩:=h.nF;go_enter Tryz.func26,Tryz.ntmps26;go_wp2_with fail;refine(fL F s d n x w h).mono ?_;rintro e w1 ⟨rfl,rfl⟩;go_wp2_with fail;refine(Kt d bl n vw x w1 hd).mono ?_;rintro e w2 ⟨rfl,f2⟩;go_wp2_with fail;go_ret;exact⟨rfl,f2⟩
def DS.mX (x:DS)(n:Nat):Bool:=x.sound n&&decide (jw (aM x n)<=7)
theorem Em (d:Nat):Tryz.prog.built 96 [(0,.pointer (some ⟨d,0,none⟩))]=some #[.pointer (some ⟨d,0,none⟩)]:=by kernel_rfl
theorem rR (b:Ξ)(n:Nat)(w:Θ)(hb:b.size=64*n)(h16:16<=n)(Bk:n<=400):
  Calls Tryz.prog 72 #[.string b] w λe w'=>∃s d F,e= .returned (.pointer (some ⟨s,0,none⟩))/\aP w' F s d n (DS.fresh b.data.toList)/\aO [] w w'/\bZ [] F w/\w.heap.size<=s:=by
 go_enter Tryz.func72,Tryz.ntmps72;go_wp2_with (with_reducible first|refine bE 96 rfl ?_|refine bC rfl ?_);refine(DH b n w hb h16 Bk).mono ?_;rintro e w1 ⟨d,F,rfl,hd,f1,g1⟩;go_wp2_with (with_reducible first|refine bE 96 rfl ?_|refine bC rfl ?_);refine ai.go (bN rfl (.agg #[.pointer (some ⟨d,0,none⟩)]) w1 (ij _ _ rfl _ (Em d)) ?_)
 go_wp2_with (with_reducible first|refine bC rfl ?_);refine ai.go (fN rfl 96 _ rfl (.agg #[.pointer (some ⟨d,0,none⟩)]) rfl ?_);intro w2 s l2 f2 r2;have hd2:=hd.new f2;have fw:=f1.trans f2;have hs:s∉F:=λhF=>by have:=hd.lt s hF;omega
 go_wp2_with fail;go_ret;exact⟨s,d,F,rfl,⟨r2,hd2,hs⟩,fw,g1,by have:=f1.size;omega⟩
theorem y5 (n:Nat)(h:1<=n):(fD n).length=64*n:=by
 unfold fD;rw[af1,ko,List.length_replicate];omega
theorem QA (n:Nat)(w:Θ)(h16:16<=n)(Bk:n<=400):
  Calls Tryz.prog 40 #[.int .i64 n] w λe w'=>∃s d F,e= .returned (.tuple #[.pointer (some ⟨s,0,none⟩),.int .i64 0])/\aP w' F s d n (DS.fresh (fD n))/\aO [] w w'/\bZ [] F w/\w.heap.size<=s:=by
 go_enter Tryz.func40,Tryz.ntmps40;go_wp2_with fail;refine(xw n w).mono ?_;rintro e w1 ⟨rfl,rfl⟩;have e1:(decide (16<=(n:Int))&&decide ((n:Int)<=400))=true:=by
  rw[decide_eq_true (by omega),decide_eq_true (by omega)];rfl
 rw[e1];go_wp2_with fail;refine(J7 n w1 (by omega) Bk).mono ?_;rintro e w2 ⟨rfl,f2⟩;have hl:=y5 n (by omega);go_wp2_with fail;refine(rR ⟨(fD n).toArray⟩ n w2 (by rw[<-hl];rfl) h16 Bk).mono ?_;rintro e w3 ⟨s,d,F,rfl,hs,f3,g3,l3⟩;have fw:=f2.trans f3;have hs':aP w3 F s d n (DS.fresh (fD n)):=hs;have hsz:=f2.size
 have gw:bZ [] F w1:=λi hi=>(g3 i hi).imp id (λh=>by omega)
 clear hs f2 f3 g3;go_wp2_with fail
 all_goals
  go_ret2
  exact⟨s,d,F,rfl,hs',fw,gw,by omega⟩
theorem z7 (n:Nat)(w:Θ)(hn:n<=2):Calls Tryz.prog 48 #[.int .i64 n] w λe w'=>e= .returned (.bool true)/\w'=w:=by
 go_enter Tryz.func48,Tryz.ntmps48;rcases(by omega:n=0\/n=1\/n=2) with rfl|rfl|rfl
 all_goals
  go_wp2_with fail;refine(qW _ w).mono ?_;rintro e w1 ⟨rfl,rfl⟩;go_wp2_with fail;go_ret;exact⟨rfl,rfl⟩
def DS.get (x:DS)(n s:Nat)(p:Ξ):Φ×Int:=if x.failed then(.string ⟨#[]⟩,3) else match x.content n s p with
 |none=>(.string ⟨#[]⟩,5)
 |some c=>(.string (aB c),0)
theorem yf (s:Int)(p:Ξ):Tryz.prog.built 103 [(0,.int .i64 s),(1,.string p)]=some (cZ s p):=by kernel_rfl
theorem Hu (F:List Nat)(s d n:Nat)(x:DS)(side:Nat)(p:Ξ)(w:Θ)(h:aP w F s d n x)(hs:side<=2)(hp:bQ p.data.toList=true)(hpl:p.size<=8):
  Calls Tryz.prog 22 #[.pointer (some ⟨s,0,none⟩),.int .i64 side,.string p] w λe w'=>e= .returned (.tuple #[(x.get n side p).1,.int .i64 (x.get n side p).2])/\aO [] w w':=by
 have c0:=h.cell;obtain⟨bl,vw,hd⟩:=h.nF;have HG:Hid (x.get n side p=(if x.failed then((Value.string ⟨#[]⟩,3):Φ×Int) else match x.content n side p with|none=>(Value.string ⟨#[]⟩,5)|some c=>(Value.string (aB c),0))):=rfl;go_enter Tryz.func22,Tryz.ntmps22;go_wp2_with fail;refine(fL F s d n x w h).mono ?_;rintro e w1 ⟨rfl,rfl⟩;go_wp2_with fail;refine(z7 side w1 hs).mono ?_
 rintro e w2 ⟨rfl,rfl⟩;go_wp2_with fail;refine(ju p w2 (by omega)).mono ?_;rintro e w3 ⟨rfl,f3⟩;rw[hp];have h3:=h.new f3;have hd3:=hd.new f3;have c0:=h3.cell;go_wp2_with fail;refine(kZ F s d n x w3 h3).mono ?_;rintro e w4 ⟨rfl,rfl⟩;cases hf:x.failed with
 |true=>
  rw[hf] at HG;go_wp2_with fail
  all_goals
   go_ret2
   rw[HG.out];exact⟨rfl,f3⟩
 |false=>
  rw[hf] at HG;go_wp2_with (with_reducible first|refine bE 103 rfl ?_);refine ai.go (bN rfl (.agg (cZ side p)) w4 (ij _ _ rfl _ (yf side p)) ?_);go_wp2_with fail;refine(mS d bl n vw x side p w4 hd3).mono ?_;rintro e w5 ⟨rfl,f5⟩;have fw:=f3.trans f5;generalize x.content n side p=r at*;cases r with
  |none=>
   go_wp2_with fail
   all_goals
    go_ret2
    rw[HG.out];exact⟨rfl,fw⟩
  |some c=>
   go_wp2_with fail
   all_goals
    go_ret2
    rw[HG.out];exact⟨rfl,fw⟩
def DS.gB (x:DS)(n s:Nat)(p:Ξ):DS×Φ:=
 if x.failed then(x,.int .i64 3) else if x.pending n then(x,.int .i64 4) else x.remove n s p
theorem AA (F:List Nat)(s d n:Nat)(x:DS)(side:Nat)(p:Ξ)(w:Θ)(h:aP w F s d n x)(hx:x.Fit 2)(eZ:x.waiting.length<60)(hs:side<=1)(hp:bQ p.data.toList=true)(hpl:p.size<=8):
  Calls Tryz.prog 42 #[.pointer (some ⟨s,0,none⟩),.int .i64 side,.string p] w λe w'=>e= .returned (x.gB n side p).2/\(∃F',aP w' F' s d n (x.gB n side p).1/\bZ F F' w)/\aO F w w':=by
 have HG:Hid (x.gB n side p=if x.failed then(x,.int .i64 3) else if x.pending n then(x,.int .i64 4) else x.remove n side p):=rfl;have e1:((side:Int)==0||(side:Int)==1)=true:=by
  rcases(by omega:side=0\/side=1) with rfl|rfl<;>rfl
 go_enter Tryz.func42,Tryz.ntmps42;go_wp2_with fail;refine(fL F s d n x w h).mono ?_;rintro e w1 ⟨rfl,rfl⟩;go_wp2_with fail;refine(qW side w1).mono ?_;rintro e w2 ⟨rfl,rfl⟩;rw[e1];go_wp2_with fail;refine(ju p w2 (by omega)).mono ?_;rintro e w3 ⟨rfl,f3⟩;rw[hp];have h3:=h.new f3;go_wp2_with fail;refine(mm F s d n x w3 h3).mono ?_;rintro e w4 ⟨rfl,f4⟩
 have h4:=h3.new f4;have fw:=f3.trans f4;have c0:=h4.cell;cases hf:x.failed with
 |true=>
  rw[hf] at HG;have HG2:Hid (x.gB n side p=(x,.int .i64 3)):=by show _=_;rw[HG.out];rfl
  simp only[if_true];go_wp2_with fail
  all_goals
   go_ret;rw[HG2.out];exact⟨rfl,⟨F,h4,bZ.refl _ _⟩,fw.mono⟩
 |false=>
  rw[hf] at HG;cases hpd:x.pending n with
  |true=>
   rw[hpd] at HG;have HG2:Hid (x.gB n side p=(x,.int .i64 4)):=by show _=_;rw[HG.out];rfl
   simp only[if_true,ι,if_false];go_wp2_with fail
   all_goals
    go_ret;rw[HG2.out];exact⟨rfl,⟨F,h4,bZ.refl _ _⟩,fw.mono⟩
  |false=>
   rw[hpd] at HG;have HG2:Hid (x.gB n side p=x.remove n side p):=by show _=_;rw[HG.out];rfl
   simp only[ι,if_false];go_wp2_with (with_reducible first|refine bE 103 rfl ?_);refine ai.go (bN rfl (.agg (cZ side p)) w4 (ij _ _ rfl _ (yf side p)) ?_);go_wp2_with fail;refine(oV F d n x side p w4 h4.disk hx eZ).mono ?_;rintro e w5 ⟨rfl,F5,h5,f5,g5⟩;have gw:=(bZ.refl F w2).trans g5 fw.size
   have hs5:aP w5 F5 s d n (x.remove n side p).1:=⟨f5.row h4.row h4.ne,h5,λhF=>(gw s hF).elim h.ne (λhh=>by have:=h.row.lt;omega)⟩
   have f15:aO F w2 w5:=(fw.mono (T:=F) (by simp)).trans f5 (λi hi=> .inl hi);go_wp2_with fail
   all_goals
    go_ret;rw[HG2.out];exact⟨rfl,⟨F5,hs5,gw⟩,f15⟩
end
section
open Go.RowKit Go.Lib Go.Sort
def cg (l:List cH)(s:Nat):List (List Γ):=(l.filter λf=>f.set==s).map (·.path)
theorem CL (fs:List cH)(s k:Nat)(hk:k<fs.length):cg (fs.take (k+1)) s=if fs[k].set=s then cg (fs.take k) s++[fs[k].path] else cg (fs.take k) s:=by
 unfold cg;rw[ac0 hk,List.filter_append,List.map_append]
 by_cases h:fs[k].set=s
 .simp[h]
 .simp[h]
theorem wI (l:List cH)(s:Nat):(cg l s).length<=l.length:=by unfold cg;rw[ag0];exact List.length_filter_le _ _
theorem MC (F:List Nat)(s d n:Nat)(x:DS)(side:Nat)(w:Θ)(h:aP w F s d n x)(hs:side<=2):
  Calls Tryz.prog 23 #[.pointer (some ⟨s,0,none⟩),.int .i64 side] w λe w'=>
   (∃ad cap,e= .returned (if x.failed then .tuple #[.slice none 0 0,.int .i64 3] else .tuple #[.slice ad (cg (aM x n) side).length cap,.int .i64 0]))/\aO [] w w':=by
 have c0:=h.cell;obtain⟨bl,vw,hd⟩:=h.nF;have hfl:(aM x n).length<=54:=by unfold aM;rw[ag0];exact eR x n
 go_enter Tryz.func23,Tryz.ntmps23;go_wp2_with fail;refine(fL F s d n x w h).mono ?_;rintro e w1 ⟨rfl,rfl⟩;go_wp2_with fail;refine(z7 side w1 hs).mono ?_;rintro e w2 ⟨rfl,rfl⟩;go_wp2_with fail;refine(kZ F s d n x w2 h).mono ?_;rintro e w3 ⟨rfl,rfl⟩;cases hf:x.failed with
 |true=>
  go_wp2_with fail
  all_goals
   go_ret2
   refine⟨?_,aO.refl _ _⟩
   first|rfl|exact⟨none,0,rfl⟩
 |false=>
  go_wp2_with fail;refine(vT d bl n vw x w3 hd).mono ?_;rintro e wa ⟨v,rfl,hv,fa⟩;generalize hfs:aM x n=fs at*;have HFS:Hid (aM x n=fs):=hfs;clear hfs;obtain⟨ad,cap,hv'⟩:=bM hv;subst hv';have hba:w3.heap.size<=wa.heap.size:=fa.size;clear h hd c0;go_wp2_with fail
  go_loopw [6,22] (λu c wr=>∃k:Nat,c= .int .i64 k/\k<=fs.length/\aO [] wa wr/\wr.ownsRow wa.heap.size 9 1 u (cg (fs.take k) side).length (fx (cg (fs.take k) side))) (λ_ c _=>fs.length-(intOf c).toNat)
  case atStart=>exact⟨0,rfl,by omega,aO.refl _ _,World.ownsRow_nil _ _ _ _⟩
  case round=>
   obtain⟨k,rfl,hk,fk,ho⟩:=hrel;have hvk:=fk.owns hv
   by_cases hlt:k<fs.length
   .obtain⟨g,cur,rfl,hg,hle,_,hcs,htk⟩:=dL hvk
    have hat:((cur.toList.drop (k*3)).take 3)=bR fs[k].set fs[k].path fs[k].content:=by
     rw[bX htk _ _,sG fs k hlt]
    have hstep:=CL fs side k hlt;have hpl:(cg (fs.take k) side).length<=1000:=by have:=wI (fs.take k) side;rw[ae1] at this;omega
    generalize fs[k]=f at hat hstep;have HST:Hid (cg (fs.take (k+1)) side=if f.set=side then cg (fs.take k) side++[f.path] else cg (fs.take k) side):=hstep;generalize cg (fs.take k) side=ps at*;clear hstep hcs htk;go_wp2_with (with_reducible first|refine ax 107 rfl ?_|refine ay rfl ?_|refine ah 107 rfl ?_)
    refine ai.go (bV rfl 107 _ rfl g (k*3) rfl jM 3 d8 _ _ hg (bR f.set f.path f.content) hat rfl ?_);clear hat hg;go_wp2_with (with_reducible first|refine ay rfl ?_|refine ah 107 rfl ?_);refine ai.go (bh rfl 107 rfl vU ky ?_);intro w4 b5 l5 f4 r5;go_wp2_with (with_reducible first|refine ay rfl ?_|refine ah 107 rfl ?_)
    refine ai.go (bP rfl 107 _ _ rfl _ 0 rfl _ rfl 3 d8 ?_ ?_ _ _ r5 ?_ ?_)
    .rfl
    .simp[bR,Value.oneCell']
    .decide
    intro w5 f5 q5;rw[bG _ _ (by rfl)] at q5;have kE:Row w5 b5 (bR f.set f.path f.content).toArray 107:=q5;have f45:=f4.trans f5 (by simpa using l5);have jT:=fk.trans f45;have y6:=f45.owns ho;have c0:w5.cell? ⟨b5,0,none⟩=some (.int .i64 f.set):=by rw[kE.cell];rfl
    have c1:w5.cell? ⟨b5,1,none⟩=some (.string (aB f.path)):=by rw[kE.cell];rfl
    clear q5 r5 f4 f5 f45 fk ho l5 hvk kE
    by_cases h3:f.set=side
    .have GB:Hid (cg (fs.take (k+1)) side=ps++[f.path]):=by show _=_;rw[HST.out,χ h3]
     rw[h3] at c0;clear HST h3;go_wp2_with (with_reducible first|refine bq rfl ?_|refine br rfl ?_);refine ai.go (fj rfl 45 9 1 16 iH _ rfl (.string (aB f.path)) rfl rfl ?_);intro w8 b8 l8 f8 r8;go_wp2_with (with_reducible first|refine bq rfl ?_|refine br rfl ?_);have z9:=f8.owns y6
     have hbase:wa.heap.size<=w8.heap.size:=by have:=jT.size;have:=f8.size;omega
     refine ai.go (fK rfl 45 9 1 16 iH _ _ rfl wa.heap.size u6 _ _ rfl z9 b8 1 1 [.string (aB f.path)] rfl _ _ r8 rfl rfl (by simp[Value.oneCell']) (by omega) (by omega) (by omega) hbase ?_);intro g' cap' w9 BP f9 _;have JQ:=(jT.trans f8).trans f9 (by intro j hj;right;simp at hj;exact(z9.lt j hj).1);clear y6 z9 r8 f8 f9 l8 jT hbase c0 c1;go_wp2_with fail
     go_roundw
     case rel=>
      refine⟨k+1,by go_num,by omega,JQ,?_⟩;rw[GB.out];simpa [fx,aB] using BP
     case measure=>simp[intOf];omega
    .have GB:Hid (cg (fs.take (k+1)) side=ps):=by show _=_;rw[HST.out,ζ h3]
     have h3':((f.set:Int)==(side:Int))=false:=by rw[ae8];omega
     clear HST;go_wp2_with fail
     go_roundw
     case rel=>exact⟨k+1,by go_num,by omega,jT,by rw[GB.out];exact y6⟩
     case measure=>simp[intOf];omega
   .rw[θ (by omega)] at ho
    have hpl:=wI fs side;have fw:aO [] w3 wr:=fa.trans fk;generalize hps:cg fs side=ps at*;have HPS:Hid (cg fs side=ps):=hps;clear hps;rcases ho.2 with⟨rfl,h0⟩|⟨g,c,cur,rfl,hgb,hgh,hnc,_,hcs,htk⟩
    .have hp0:ps=[]:=List.length_eq_zero_iff.1 h0
     subst hp0;go_wp2_with fail;refine(Tryz.slices_Sort_string_none none 0 wr).mono ?_;rintro e w6 ⟨rfl,rfl⟩;go_wp2_with fail
     all_goals
      go_ret2
      exact⟨⟨none,0,by rw[HFS.out,HPS.out];rfl⟩,fw⟩
    .have hlt2:g<wr.heap.size:=(Ψ.1 hgh).1
     have hH:Holds encStr wr g 0 ps.toArray:=λj hj=>by
      have hj':j<ps.length:=by simpa using hj
      refine⟨?_,Lib.frozen_of_heap hgh _⟩;rw[Lib.cell_of_heap hgh];have h1:(cur.toList.take (ps.length*1))[j]? =(fx ps)[j]? :=by rw[htk]
      rw[ah8 (by omega)] at h1;rw[Nat.zero_add,<-ah9,h1,getElem!_pos ps.toArray j hj];simp[fx,hj']
     clear ho hcs htk hgh;go_wp2_with fail;refine(Tryz.slices_Sort_string g 0 c ps wr hH hlt2 (by omega)).mono ?_;rintro e w6 ⟨rfl,m,os,OZ⟩;have f6:aO [g] wr w6:=by
      rw[OZ];exact(((pZ wr m).mono (T:=[g]) (by simp)).trans (nA encStr _ g 0 _) (λi hi=> .inl hi)).trans (xI _ _)
     have qZ:aO [] w3 w6:=fw.trans f6 (by simp;omega);clear OZ hH f6;go_wp2_with fail
     all_goals
      go_ret2
      exact⟨⟨some ⟨g,0,none⟩,c,by rw[HFS.out,HPS.out];rfl⟩,qZ⟩
end
end
end Go.Proofs.YtchcmhodnkgojaaGreat
