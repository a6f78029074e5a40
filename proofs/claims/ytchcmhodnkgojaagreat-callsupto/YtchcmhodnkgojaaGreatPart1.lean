/- A part. -/
import Derived.Conc.LockTrace
set_option linter.all false
set_option maxRecDepth 100000
set_option maxHeartbeats 8000000
namespace Go.Proofs.YtchcmhodnkgojaaGreat
noncomputable section
abbrev Ω:=Goroutine
abbrev Θ:=Value
abbrev Φ:=World
abbrev Ψ:=@Array.getElem?_eq_some_iff
abbrev Ξ:=ByteArray
abbrev Γ:=@if_neg
abbrev η:=UInt8
abbrev ζ:=@Array.getElem?_setIfInBounds_ne
abbrev θ:=TypeId
abbrev κ:=@if_pos
abbrev ν:=@List.take_of_length_le
abbrev τ:=@Array.getElem?_eq_getElem
abbrev φ:=Frame
abbrev χ:=@Bool.and_eq_true
abbrev ψ:=@Option.map_eq_some_iff
abbrev ω:=@Nat.lt_of_lt_of_le
abbrev ξ:=@List.mem_singleton
abbrev ε:=@Nat.le_refl
abbrev ι:=@Option.map_some
abbrev aa1:=Program
abbrev ab6:=@Bool.false_eq_true
abbrev ab9:=@List.size_toArray
abbrev ac0:=@List.take_succ_eq_append_getElem
abbrev ac1:=@Array.getElem?_setIfInBounds_self_of_lt
abbrev ac2:=@List.mem_cons
abbrev ac3:=@Nat.le_trans
abbrev ac4:=Operand
abbrev ac5:=FuncId
abbrev ac6:=@Array.getElem?_push_lt
abbrev ac7:=@List.drop_eq_getElem_cons
abbrev ac8:=@List.length_take
abbrev ac9:=@List.mem_map
abbrev ad2:=@Classical.byContradiction
abbrev ae7:=@List.all_eq_true
abbrev ae8:=@Array.all_eq_true_iff_forall_mem
abbrev ae9:=@beq_eq_false_iff_ne
abbrev af0:=@List.length_append
abbrev af2:=@List.length_map
abbrev af9:=@List.mem_cons_of_mem
abbrev ag0:=@Option.some.injEq
abbrev ag1:=@Array.getD_eq_getD_getElem?
abbrev ag2:=@Option.some.inj
abbrev ag4:=@List.mem_append
abbrev ag5:=@List.getElem_mem
abbrev ag8:=@Array.getElem?_map
abbrev ah9:=@List.mem_range
abbrev ai0:=@decide_eq_true_eq
abbrev ai1:=@Array.mem_append
abbrev ai2:=MapEntry
abbrev ai3:=@List.mem_filter
abbrev ai4:=@List.mem_cons_self
abbrev ai5:=@beq_iff_eq
abbrev ai6:=@Prod.mk.injEq
abbrev ai7:=@List.getElem?_eq_none
abbrev ai8:=@Array.getElem?_toList
abbrev ai9:=@List.getElem?_take
abbrev aj0:=@List.mem_of_getElem?
abbrev aj1:=@List.getElem?_drop
abbrev aj3:=@Array.getElem?_modify
abbrev aj6:=@Array.length_toList
abbrev aj8:=@List.not_mem_nil
abbrev aj9:=@List.drop_of_length_le
abbrev ak2:=@List.getElem?_take_of_lt
abbrev ak6:=@List.length_replicate
abbrev ak7:=@Bool.or_eq_true
abbrev al0:=@Array.map_congr_left
abbrev al2:=@Nat.le_of_eq
abbrev al3:=@List.getElem?_eq_getElem
abbrev al4:=@Array.mem_of_getElem?
abbrev al8:=@List.getD_eq_getElem?_getD
abbrev al9:=@getElem!_pos
abbrev am0:=@Nat.lt_or_ge
abbrev am1:=@List.length_drop
abbrev am2:=@Array.toList_map
abbrev am3:=@Array.getElem?_push
abbrev am4:=@Bool.eq_iff_iff
abbrev am5:=@Array.append_empty
abbrev am6:=@List.mem_iff_getElem
abbrev am7:=@Except.ok.injEq
abbrev am8:=@List.pairwise_iff_getElem
abbrev am9:=@Array.mem_iff_getElem
abbrev an0:=@Array.empty_append
abbrev an1:=@Array.size_setIfInBounds
abbrev an2:=@List.ext_getElem?
abbrev an3:=@Int.toNat_natCast
abbrev an4:=Machine
abbrev an5:=@Array.ext_getElem?
abbrev an6:=@List.getElem?_append
theorem ϰ{p:Prop}(h:p:=by kernel_rfl):p:=h
theorem ϛ{p:Prop}(h:p:=by simp):p:=h
theorem ϖ{p:Prop}(h:p:=by omega):p:=h
abbrev ϐ:=Array Θ
abbrev ϑ:=List η
abbrev ϒ:=Nat->Prop
abbrev ϓ:=List Nat
abbrev ϔ:=Exit->Act->Φ->Prop
abbrev ϕ:=List Item
abbrev Ϙ:=List φ
abbrev ϙ:=Nat->Nat
abbrev Ϛ:=Array Event
abbrev Ϝ:=Array Oper
abbrev ϝ:=List Θ
abbrev Ϟ:=Option Tmp
abbrev Ϡ:=Nat->Θ
abbrev ϡ:=Option Nat
abbrev Ϣ:=Option Addr
abbrev ϣ:=Φ->Prop
abbrev Ϥ:=ac5->Bool
abbrev ϥ:=Act->Φ->Prop
abbrev Ϧ:=Array ai2
abbrev ϧ:=Loc->Prop
abbrev Ϩ:=List Oper
abbrev ϩ:=Array Nat
abbrev Ϫ:=Θ->Φ->Prop
abbrev ϫ:=Array θ
abbrev Ϭ:=Ending->Φ->Prop
abbrev ϭ:=Nat->Φ
abbrev Ϯ:=Array Bool
abbrev ϯ:=Array Ω
abbrev ϱ:=Option Θ
abbrev ϲ:=@List.length_cons
abbrev ϳ:=@List.drop_zero
abbrev ϴ:=@List.map_cons
abbrev ϵ:=@List.take_append_of_le_length
abbrev Ϸ:=@Option.isSome_none
abbrev ϸ:=@List.nil_append
abbrev Ϲ:=@List.foldl_cons
abbrev Ϻ:=@List.length_eq_zero_iff
abbrev ϻ:=@List.cons_append
abbrev ϐ1:=@List.mem_append_right
abbrev ϐ2:=@List.length_filter_le
abbrev ϐ3:=@List.pairwise_cons
abbrev ϐ4:=@List.mem_flatMap
abbrev ϐ5:=@List.filter_cons_of_pos
abbrev ϐ6:=@List.flatMap_cons
abbrev ϐ7:=@List.length_range
abbrev ϐ8:=@List.map_toArray
abbrev ϐ9:=@Nat.zero_add
abbrev ϑ1:=@List.length_mergeSort
abbrev ϑ2:=@Option.isSome_some
abbrev ϑ3:=@Option.isNone_iff_eq_none
abbrev ϑ4:=@List.lt_irrefl
abbrev ϑ5:=@List.mem_append_left
abbrev ϑ6:=@Bool.not_eq_true'
abbrev ϑ7:=@Nat.lt_trichotomy
abbrev ϑ8:=@Array.getElem_mem
abbrev ϑ9:=@List.foldl_append
abbrev ϒ1:=@Nat.min_eq_left
abbrev ϒ2:=@List.map_append
abbrev ϒ3:=@List.pairwise_map
abbrev ϒ4:=@List.nodup_cons
abbrev ϒ5:=@List.length_filterMap_le
abbrev ϒ6:=@Int.add_zero
abbrev ϒ7:=@Option.bind_eq_some_iff
abbrev ϒ8:=@Array.map_setIfInBounds
abbrev ϒ9:=@List.all_cons
abbrev ϓ1:=@List.filter_cons_of_neg
abbrev ϓ2:=@List.take_length
abbrev ϓ3:=@List.mem_toArray
abbrev ϓ4:=@Array.sizeOf_lt_of_mem
abbrev ϓ5:=@List.mem_filterMap
abbrev ϓ6:=@Bool.and_eq_false_iff
abbrev ϓ7:=@List.map_nil
abbrev ϓ8:=@Decidable.not_not
abbrev ϓ9:=@List.setIfInBounds_toArray
abbrev ϔ1:=@Int.tdiv_eq_ediv_of_nonneg
abbrev ϔ2:=@List.mem_of_mem_take
abbrev ϔ3:=@Array.mapM_eq_mapM_toList
abbrev ϔ4:=@List.extract_eq_drop_take
abbrev ϔ5:=@Option.bind_some
abbrev ϔ6:=@List.drop_append
abbrev ϔ7:=@Array.mem_replicate
abbrev ϔ8:=@ByteArray.toList_eq
abbrev ϔ9:=@Nat.add_zero
abbrev ϕ1:=@Array.map_map
abbrev ϕ2:=@Array.mem_map
abbrev ϕ3:=@Nat.eq_zero_or_pos
abbrev ϕ4:=@List.filter_append
abbrev ϕ5:=@List.mem_mergeSort
abbrev ϕ6:=@Nat.zero_le
abbrev ϕ7:=@List.take_take
abbrev ϗ:=undef
section
namespace gz
inductive Pc where
 |un|out|l0|r0|sq|r1|c2|s1|t2|r2|a1|r3|le|la|ur|ud|u0|uc|ul|us|ue|wk|d1|d2|d3|d4|quit|bad
 |k1|x1|p1|e1|g1|k2|x2|p2|e2|g2|kw|w1|w2|pw|w3|w4|ke|aq|fin
 deriving DecidableEq,Repr
structure Lo where
 pc:Pc
 old:Int:=0
 nw:Int:=0
 aw:Bool:=false
 sv:Bool:=false
 it:Int:=0
 n:Nat:=0
 deriving DecidableEq,Repr
structure Sh where
 mu:Int
 ms:Int
 wg:Int
 ws:Int
 deriving DecidableEq,Repr
abbrev at_ (p:Pc)(n:Nat):Lo:={pc:=p,n:=n}
def KKi:Int:=4294967296
def hd(T:Lo):Lo:=
 if T.old=0/\T.aw=false/\T.sv=false then{T with pc:=.c2,nw:=1}
 else if T.old=1/\T.aw=false/\T.sv=false then{T with pc:=.sq,nw:=0}
 else if T.old=2/\T.aw=true then{T with pc:=.c2,nw:=1}
 else if T.old=2/\T.aw=false/\T.sv=false then{T with pc:=.c2,nw:=3}
 else if T.old=3/\T.aw=true then{T with pc:=.sq,nw:=0}
 else if T.old=12/\T.aw=false/\T.sv=false then{T with pc:=.c2,nw:=20}
 else at_ .bad T.n
def cl(T:Lo):Lo:=
 if T.old=1 then{T with pc:=.c2,nw:=9}
 else if T.sv=true then{T with pc:=.c2,nw:=13} else{T with pc:=.c2,nw:=9}
def mv(T:Lo)(s:Sh):List (Lo×Sh):=
 match T.pc with
 |.out=>(at_ .wk T.n,s)::(if 0<T.n then[(at_ .l0 (T.n-1),s)]else[])
 |.l0=>if s.mu=0 then[(at_ .le T.n,{s with mu:=1})]else[(at_ .r0 T.n,s)]
 |.r0=>[(hd {pc:=.r0,old:=s.mu,n:=T.n},s)]
 |.sq=>(cl T,s)::(if T.it<4 then[({T with pc:=.r1,old:=0,nw:=0},s)]else[])
 |.r1=>[(hd {T with old:=s.mu,it:=IntKind.i64.wrap (T.it+1)},s)]
 |.c2=>if s.mu=T.old then(if T.old=0\/T.old=2 then[(at_ .le T.n,{s with mu:=T.nw})]else[({pc:=.s1,sv:=T.sv,n:=T.n},{s with mu:=T.nw})])else[({T with pc:=.r3,old:=0,nw:=0},s)]
 |.s1=>if s.ms=0 then[]else[({T with pc:=if T.sv then .r2 else .t2},{s with ms:=s.ms-1})]
 |.t2=>[({T with pc:=.r2},s),({T with pc:=.r2,sv:=true},s)]
 |.r2=>if s.mu=2\/s.mu=3 then[(hd {T with old:=s.mu,aw:=true,it:=0},s)]
   else if s.mu=12 then[({pc:=.a1,nw:=-11,n:=T.n},s)]
   else if s.mu=20 then[({pc:=.a1,nw:=if T.sv then -7 else -11,n:=T.n},s)]else[(at_ .bad T.n,s)]
 |.a1=>if(s.mu=12/\T.nw=-11)\/(s.mu=20/\(T.nw=-7\/T.nw=-11))then[(at_ .le T.n,{s with mu:=s.mu+T.nw})]else[(at_ .bad T.n,s)]
 |.r3=>[(hd {T with old:=s.mu},s)]
 |.le=>[(at_ .la T.n,s)]
 |.la=>[(at_ .ur T.n,s)]
 |.ur=>[(at_ .ud T.n,s)]
 |.ud=>[(at_ .u0 T.n,s)]
 |.u0=>if s.mu=1 then[(at_ .ue T.n,{s with mu:=0})]else if s.mu=3 then[(at_ .ue T.n,{s with mu:=2})]
   else if s.mu=9 then[({pc:=.uc,old:=8,nw:=2,n:=T.n},{s with mu:=8})]else if s.mu=13 then[(at_ .us T.n,{s with mu:=12})]else[(at_ .bad T.n,s)]
 |.uc=>if s.mu=8 then[(at_ .us T.n,{s with mu:=2})]else[(at_ .bad T.n,s)]
 |.ul=>[(at_ .bad T.n,s)]
 |.us=>[(at_ .ue T.n,{s with ms:=s.ms+1})]
 |.ue=>[(at_ .out T.n,s)]
 |.wk=>[(at_ .d1 T.n,s)]
 |.d1=>if s.wg=KKi then[(at_ .quit T.n,{s with wg:=0})]else if s.wg=2*KKi then[(at_ .quit T.n,{s with wg:=KKi})]
   else if s.wg=2*KKi+1 then[(at_ .quit T.n,{s with wg:=KKi+1})]else if s.wg=KKi+1 then[(at_ .d2 T.n,{s with wg:=1})]else[(at_ .bad T.n,s)]
 |.d2=>if s.wg=1 then[(at_ .d3 T.n,s)]else[(at_ .bad T.n,s)]
 |.d3=>if s.wg=1 then[(at_ .d4 T.n,{s with wg:=0})]else[(at_ .bad T.n,s)]
 |.d4=>[(at_ .quit T.n,{s with ws:=s.ws+1})]
 |.k1=>[(at_ .x1 0,s)]
 |.x1=>if s.wg=0 then[(at_ .p1 0,{s with wg:=KKi})]else[(at_ .bad 0,s)]
 |.p1=>[(at_ .e1 0,s)]
 |.e1=>[(at_ .g1 0,s)]
 |.k2=>[(at_ .x2 0,s)]
 |.x2=>if s.wg=0 then[(at_ .p2 0,{s with wg:=KKi})]else if s.wg=KKi then[(at_ .e2 0,{s with wg:=2*KKi})]else[(at_ .bad 0,s)]
 |.p2=>[(at_ .e2 0,s)]
 |.e2=>[(at_ .g2 0,s)]
 |.kw=>[(at_ .w1 0,s)]
 |.w1=>if s.wg=0 then[(at_ .ke 0,s)]else if s.wg=KKi\/s.wg=2*KKi then[({pc:=.w2,old:=s.wg},s)]else[(at_ .bad 0,s)]
 |.w2=>if s.wg=T.old then[(at_ .pw 0,{s with wg:=s.wg+1})]else[(at_ .w1 0,s)]
 |.pw=>[(at_ .w3 0,s)]
 |.w3=>if s.ws=0 then[]else[(at_ .w4 0,{s with ws:=s.ws-1})]
 |.w4=>if s.wg=0 then[(at_ .ke 0,s)]else[(at_ .bad 0,s)]
 |.ke=>[(at_ .aq 0,s)]
 |.g1|.g2|.aq|.fin|.un|.quit|.bad=>[]
def Sh.fits(s:Sh):Prop:=(s.mu=0\/s.mu=1\/s.mu=2\/s.mu=3\/s.mu=8\/s.mu=9\/s.mu=12\/s.mu=13\/s.mu=20)/\(s.ms=0\/s.ms=1)/\
 (s.wg=0\/s.wg=1\/s.wg=KKi\/s.wg=KKi+1\/s.wg=2*KKi\/s.wg=2*KKi+1)/\(s.ws=0\/s.ws=1)
instance (s:Sh):Decidable s.fits:=by unfold Sh.fits;infer_instance
def pm(T:Lo):Lo:=
 match T.pc with
 |.un|.out|.ue|.wk|.d1|.d2|.d3|.d4|.quit=>{pc:=.out}
 |.le|.la|.ur|.ud|.u0=>{pc:=.u0}
 |_=>{T with n:=0}
def pw(T:Lo):Lo:=
 match T.pc with
 |.un=>{pc:=.un}
 |.d2=>{pc:=.d2}
 |.d3=>{pc:=.d3}
 |.d4=>{pc:=.d4}
 |.quit=>{pc:=.quit}
 |.bad=>{pc:=.bad}
 |_=>{pc:=.out}
def p0(T:Lo):Lo:=
 match T.pc with
 |.k1|.x1=>{pc:=.x1}
 |.p1|.e1|.g1=>{pc:=.g1}
 |.k2|.x2=>{pc:=.x2}
 |.p2|.e2|.g2=>{pc:=.g2}
 |.kw|.w1=>{pc:=.w1}
 |.w2=>{pc:=.w2,old:=T.old}
 |.pw|.w3=>{pc:=.w3}
 |.w4=>{pc:=.w4}
 |.bad=>{pc:=.bad}
 |_=>{pc:=.fin}
structure GM where
 a:Lo
 b:Lo
 mu:Int
 ms:Int
 deriving DecidableEq,Repr
structure GG where
 m:Lo
 a:Lo
 b:Lo
 wg:Int
 ws:Int
 deriving DecidableEq,Repr
def AB(T:Lo)(a ms:Int):List (Lo×Int×Int):=
 ((mv {T with n:=1} ⟨a,ms,0,0⟩).filter λr=>r.1.pc !=.wk).map λr=>(pm r.1,r.2.mu,r.2.ms)
def GM.succs(G:GM):List GM:=((AB G.a G.mu G.ms).map λr=>{a:=r.1,b:=G.b,mu:=r.2.1,ms:=r.2.2})++((AB G.b G.mu G.ms).map λr=>{a:=G.a,b:=r.1,mu:=r.2.1,ms:=r.2.2})
def GM.fresh(G:GM):List Bool:=((AB G.a G.mu G.ms).map λ_=>G.a.pc==.out)++((AB G.b G.mu G.ms).map λ_=>G.b.pc==.out)
def gw(T:Lo):Lo:=if T.pc=.out then{pc:=.d1} else T
def WG(T:Lo)(b a:Int):List (Lo×Int×Int):=(mv (gw T) ⟨0,0,b,a⟩).map λr=>(pw r.1,r.2.wg,r.2.ws)
def mv0(T:Lo)(b a:Int):List (Lo×Int×Int):=(mv T ⟨0,0,b,a⟩).map λr=>(p0 r.1,r.2.wg,r.2.ws)
def GG.succs(G:GG):List GG:=
 (if G.m.pc=.g1 then[{G with m:={pc:=.x2},a:={pc:=.out}}]else[])++(if G.m.pc=.g2 then[{G with m:={pc:=.w1},b:={pc:=.out}}]else[])++
 ((mv0 G.m G.wg G.ws).map λr=>{G with m:=r.1,wg:=r.2.1,ws:=r.2.2})++
 ((WG G.a G.wg G.ws).map λr=>{G with a:=r.1,wg:=r.2.1,ws:=r.2.2})++((WG G.b G.wg G.ws).map λr=>{G with b:=r.1,wg:=r.2.1,ws:=r.2.2})
def Lo.waits(T:Lo)(ms:Int):Bool:=T.pc==.s1&&ms==0
def GM.safe(G:GM):Bool:=
 G.succs.all (λH=>H.a.pc !=.bad&&H.b.pc !=.bad)&&G.a.pc !=.bad&&G.b.pc !=.bad&&
 !(G.a.waits G.ms&&(G.b.waits G.ms||G.b.pc==.out))&&!(G.b.waits G.ms&&G.a.pc==.out)&&!(G.a.pc==.u0&&G.b.pc==.u0)&&
 ((AB G.a G.mu G.ms).all λr=>!G.b.waits G.ms||G.b.waits r.2.2||G.a.pc==.us)&&((AB G.b G.mu G.ms).all λr=>!G.a.waits G.ms||G.a.waits r.2.2||G.b.pc==.us)&&
 (Sh.fits ⟨G.mu,G.ms,0,0⟩:Bool)
def live(T:Lo):Bool:=T.pc !=.un&&T.pc !=.quit
def GG.safe(G:GG):Bool:=
 G.succs.all (λH=>H.m.pc !=.bad&&H.a.pc !=.bad&&H.b.pc !=.bad)&&G.m.pc !=.bad&&G.a.pc !=.bad&&G.b.pc !=.bad&&
 (G.m.pc !=.fin||(G.a.pc==.quit&&G.b.pc==.quit))&&(!(G.m.pc==.w3&&G.ws==0)||live G.a||live G.b)&&
 (!(G.m.pc==.w3&&G.ws==0)||(((WG G.a G.wg G.ws).all λr=>r.2.2==0||G.a.pc==.d4)&&((WG G.b G.wg G.ws).all λr=>r.2.2==0||G.b.pc==.d4)))&&
 (!(G.m.pc==.x1||G.m.pc==.g1)||(G.a.pc==.un&&G.b.pc==.un))&&(!(G.m.pc==.x2||G.m.pc==.g2)||(G.a.pc !=.un&&G.b.pc==.un))&&
 ((G.m.pc==.x1||G.m.pc==.g1)||G.a.pc !=.un)&&((G.m.pc==.x1||G.m.pc==.g1||G.m.pc==.x2||G.m.pc==.g2)||G.b.pc !=.un)&&
 (Sh.fits ⟨0,0,G.wg,G.ws⟩:Bool)
def PCS:List Pc:=[.un,.out,.l0,.r0,.sq,.r1,.c2,.s1,.t2,.r2,.a1,.r3,.le,.la,.ur,.ud,.u0,.uc,.ul,.us,.ue,.wk,.d1,.d2,.d3,.d4,.quit,.bad,.k1,.x1,.p1,.e1,.g1,.k2,.x2,.p2,.e2,.g2,.kw,.w1,.w2,.pw,.w3,.w4,.ke,.aq,.fin]
def VALS:List Int:=[0,1,2,3,4,5,8,9,10,11,12,13,16,17,20,21,-7,-11,4294967296,4294967297,8589934592,8589934593]
def Lo.dec(c:Nat):Lo:={pc:=PCS.getD (c%64) .bad,old:=VALS.getD (c/64%32) 0,nw:=VALS.getD (c/2048%32) 0,aw:=c/65536%2==1,sv:=c/131072%2==1,it:=(c/262144%8:Nat)}
def GM.dec(c:Nat):GM:={a:=Lo.dec (c%2097152),b:=Lo.dec (c/2097152%2097152),mu:=VALS.getD (c/4398046511104%32) 0,ms:=(c/140737488355328%4:Nat)}
def GG.dec(c:Nat):GG:={m:=Lo.dec (c%2097152),a:=Lo.dec (c/2097152%2097152),b:=Lo.dec (c/4398046511104%2097152),wg:=VALS.getD (c/9223372036854775808%32) 0,ws:=(c/295147905179352825856%4:Nat)}
def yc(a:List (List (List Nat)))(j:Nat):Option (List Nat):=(a[j/32]?).bind λc=>c[j%32]?
def yB(a:List (List (List Nat)))(r:Nat):List GM->List Bool->List Nat->Bool
 |[],[],[]=>true
 |H::hs,f::fs,j::js=>(match yc a j with|some (c::r'::_)=>decide (GM.dec c=H)&&(f||decide (r'<r))&&decide (r'<27)|_=>false)&&yB a r hs fs js
 |_,_,_=>false
def qG(a:List (List (List Nat))):List Nat->Bool
 |c::r::js=>(GM.dec c).safe&&yB a r (GM.dec c).succs (GM.dec c).fresh js
 |_=>false
def Bu(a:List (List (List Nat)))(r:Nat):List GG->List Nat->Bool
 |[],[]=>true
 |H::hs,j::js=>(match yc a j with|some (c::r'::_)=>decide (GG.dec c=H)&&decide (r'<r)|_=>false)&&Bu a r hs js
 |_,_=>false
def Id(a:List (List (List Nat))):List Nat->Bool
 |c::r::js=>(GG.dec c).safe&&Bu a r (GG.dec c).succs js
 |_=>false
end gz
end
end
end Go.Proofs.YtchcmhodnkgojaaGreat
