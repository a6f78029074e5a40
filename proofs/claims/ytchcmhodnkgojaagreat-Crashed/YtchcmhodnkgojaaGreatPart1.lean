/- On the way to the last text; put together and shortened by program. -/
import Derived.Conc.LockTrace
set_option linter.all false
set_option maxRecDepth 100000
set_option maxHeartbeats 8000000
namespace Go.Proofs.YtchcmhodnkgojaaGreat
noncomputable section
abbrev Ω:=World
abbrev Θ:=Goroutine
abbrev Φ:=Value
abbrev Ψ:=@Array.getElem?_eq_some_iff
abbrev Ξ:=ByteArray
abbrev Γ:=UInt8
abbrev η:=TypeId
abbrev ζ:=@if_neg
abbrev θ:=@List.take_of_length_le
abbrev κ:=Frame
abbrev ν:=@Bool.false_eq_true
abbrev τ:=@Array.getElem?_eq_getElem
abbrev φ:=@if_pos
abbrev χ:=@Option.map_eq_some_iff
abbrev ψ:=@Nat.lt_of_lt_of_le
abbrev ω:=Program
abbrev ξ:=@Option.map_some
abbrev ε:=@Bool.and_eq_true
abbrev ι:=@Nat.le_refl
abbrev ab1:=@Array.getElem?_setIfInBounds_ne
abbrev ab3:=@List.size_toArray
abbrev ab7:=Operand
abbrev ac0:=FuncId
abbrev ac1:=@List.mem_cons
abbrev ac2:=@Option.some.inj
abbrev ac3:=@beq_eq_false_iff_ne
abbrev ac4:=@List.take_succ_eq_append_getElem
abbrev ac5:=@Array.getElem?_push_lt
abbrev ac6:=@Array.getD_eq_getD_getElem?
abbrev ac7:=@Nat.le_trans
abbrev ac8:=@List.length_take
abbrev ac9:=@Classical.byContradiction
abbrev ad1:=@List.mem_map
abbrev ad2:=@List.mem_filter
abbrev ad6:=@List.all_eq_true
abbrev ae1:=@List.mem_singleton
abbrev ae2:=@List.mem_range
abbrev ae3:=@Array.getElem?_setIfInBounds_self_of_lt
abbrev ae5:=@List.drop_eq_getElem_cons
abbrev af5:=@Option.some.injEq
abbrev af8:=@Array.all_eq_true_iff_forall_mem
abbrev af9:=@Array.length_toList
abbrev ah1:=@List.length_map
abbrev ah2:=@List.length_append
abbrev ai0:=@Array.getElem?_map
abbrev ai1:=@Prod.mk.injEq
abbrev ai2:=@List.getElem_mem
abbrev ai3:=MapEntry
abbrev ai4:=@Array.mem_append
abbrev ai5:=@List.getElem?_eq_none
abbrev ai6:=@List.getElem?_drop
abbrev ai7:=@beq_iff_eq
abbrev ai8:=@Nat.le_of_eq
abbrev ai9:=@List.mem_of_getElem?
abbrev ak9:=@List.mem_cons_of_mem
abbrev al1:=@Array.getElem?_toList
abbrev al6:=@Array.getElem?_modify
abbrev al7:=@List.not_mem_nil
abbrev al8:=@List.getElem?_take
theorem ϰ{p:Prop}(h:p:=by kernel_rfl):p:=h
theorem ϛ{p:Prop}(h:p:=by simp):p:=h
theorem ϖ{p:Prop}(h:p:=by omega):p:=h
abbrev ϐ:=Array Φ
abbrev ϑ:=List Nat
abbrev ϒ:=Nat->Prop
abbrev ϓ:=List Γ
abbrev ϔ:=Exit->Act->Ω->Prop
abbrev ϕ:=List Item
abbrev Ϙ:=Array Oper
abbrev ϙ:=List κ
abbrev Ϛ:=Nat->Nat
abbrev Ϝ:=Array Event
abbrev ϝ:=Act->Ω->Prop
abbrev Ϟ:=Nat->Φ
abbrev Ϡ:=Option Addr
abbrev ϡ:=List Φ
abbrev Ϣ:=ac0->Bool
abbrev ϣ:=Option Nat
abbrev Ϥ:=Ω->Prop
abbrev ϥ:=Φ->Ω->Prop
abbrev Ϧ:=Array ai3
abbrev ϧ:=List Oper
abbrev Ϩ:=Option Tmp
abbrev ϩ:=Loc->Prop
abbrev Ϫ:=Array Nat
abbrev ϫ:=Array η
abbrev Ϭ:=Nat->Ω
abbrev ϭ:=Array Bool
abbrev Ϯ:=Array Θ
abbrev ϯ:=Option Φ
abbrev ϱ:=List Ξ
abbrev ϲ:=@List.drop_zero
abbrev ϳ:=@List.length_cons
abbrev ϴ:=@List.map_cons
abbrev ϵ:=@Array.mem_of_getElem?
abbrev Ϸ:=@List.length_replicate
abbrev ϸ:=@Array.map_congr_left
abbrev Ϲ:=@Bool.or_eq_true
abbrev Ϻ:=@Option.isSome_none
abbrev ϻ:=@List.getD_eq_getElem?_getD
abbrev ϐ1:=@List.mem_append
abbrev ϐ2:=@Bool.eq_iff_iff
abbrev ϐ3:=@List.length_drop
abbrev ϐ4:=@List.mem_toArray
abbrev ϐ5:=@Nat.lt_or_ge
abbrev ϐ6:=@Option.isSome_iff_exists
abbrev ϐ7:=@List.mem_iff_getElem
abbrev ϐ8:=@Array.append_empty
abbrev ϐ9:=@Array.empty_append
abbrev ϑ1:=@Option.isSome_some
abbrev ϑ2:=@List.drop_of_length_le
abbrev ϑ3:=@List.pairwise_iff_getElem
abbrev ϑ4:=@Array.toList_map
abbrev ϑ5:=@Array.size_setIfInBounds
abbrev ϑ6:=@Array.mem_iff_getElem
abbrev ϑ7:=@List.length_filter_le
abbrev ϑ8:=@List.pairwise_map
abbrev ϑ9:=@Array.ext_getElem?
abbrev ϒ1:=@List.foldl_cons
abbrev ϒ2:=@List.mem_cons_self
abbrev ϒ3:=@List.cons_append
abbrev ϒ4:=@Int.toNat_natCast
abbrev ϒ5:=@List.ext_getElem?
abbrev ϒ6:=@Option.bind_some
abbrev ϒ7:=@List.map_toArray
abbrev ϒ8:=@List.all_cons
abbrev ϒ9:=@List.mem_append_right
abbrev ϓ1:=@List.mem_filterMap
abbrev ϓ2:=@List.filter_append
abbrev ϓ3:=@Option.isNone_iff_eq_none
abbrev ϓ4:=@List.mem_of_mem_take
abbrev ϓ5:=@Bool.not_eq_true'
abbrev ϓ6:=@Nat.lt_trichotomy
abbrev ϓ7:=@Array.getElem_mem
abbrev ϓ8:=@List.nil_append
abbrev ϓ9:=@Nat.zero_add
abbrev ϔ1:=@Option.bind_eq_some_iff
abbrev ϔ2:=@Array.map_setIfInBounds
abbrev ϔ3:=@ByteArray.toList_eq
abbrev ϔ4:=@List.length_eq_zero_iff
abbrev ϔ5:=@List.take_append_of_le_length
abbrev ϔ6:=@Array.sizeOf_lt_of_mem
abbrev ϔ7:=@List.pairwise_lt_range
abbrev ϔ8:=@List.pairwise_cons
abbrev ϔ9:=@Bool.and_eq_false_iff
abbrev ϕ1:=@Nat.add_zero
abbrev ϕ2:=@List.flatMap_cons
abbrev ϕ3:=@List.foldl_append
abbrev ϕ4:=@Decidable.not_not
abbrev ϕ5:=@Bool.true_and
abbrev ϕ6:=@List.mem_append_left
abbrev ϕ7:=@Array.mapM_eq_mapM_toList
abbrev ϕ8:=@List.extract_eq_drop_take
abbrev ϕ9:=@Option.getD_some
abbrev Ϙ1:=@Array.mem_replicate
abbrev Ϙ2:=@List.map_nil
abbrev Ϙ3:=@Array.map_map
abbrev Ϙ4:=@Array.mem_map
abbrev Ϙ5:=@Nat.eq_zero_or_pos
abbrev Ϙ6:=@List.map_append
abbrev Ϙ7:=@List.lt_irrefl
abbrev ϗ:=undef
section
namespace aI
inductive Pc where
 |un|out|l0|r0|sq|r1|c2|s1|t2|r2|a1|r3|le|la|ur|ud|u0|uc|ul|us|ue|wk|d1|d2|d3|d4|quit|bad
 |k1|x1|p1|e1|g1|k2|x2|p2|e2|g2|kw|w1|w2|pw|w3|w4|ke|aq|fin
 deriving DecidableEq,Repr
structure Lo where
 pc:Pc
 old:Int:=0
 nw:Int:=0
 aw:Bool:=false
 sv:Bool:=false
 it:Int:=0
 n:Nat:=0
 deriving DecidableEq,Repr
structure Sh where
 mu:Int
 ms:Int
 wg:Int
 ws:Int
 deriving DecidableEq,Repr
abbrev at_ (p:Pc)(n:Nat):Lo:={pc:=p,n:=n}
def KKi:Int:=4294967296
def hd (T:Lo):Lo:=
 if T.old=0/\T.aw=false/\T.sv=false then {T with pc:= .c2,nw:=1}
 else if T.old=1/\T.aw=false/\T.sv=false then {T with pc:= .sq,nw:=0}
 else if T.old=2/\T.aw=true then {T with pc:= .c2,nw:=1}
 else if T.old=2/\T.aw=false/\T.sv=false then {T with pc:= .c2,nw:=3}
 else if T.old=3/\T.aw=true then {T with pc:= .sq,nw:=0}
 else if T.old=12/\T.aw=false/\T.sv=false then {T with pc:= .c2,nw:=20}
 else at_ .bad T.n
def cl (T:Lo):Lo:=
 if T.old=1 then {T with pc:= .c2,nw:=9}
 else if T.sv=true then {T with pc:= .c2,nw:=13} else {T with pc:= .c2,nw:=9}
def mv (T:Lo)(s:Sh):List (Lo×Sh):=
 match T.pc with
 |.out=>(at_ .wk T.n,s)::(if 0<T.n then [(at_ .l0 (T.n-1),s)] else [])
 |.l0=>if s.mu=0 then [(at_ .le T.n,{s with mu:=1})] else [(at_ .r0 T.n,s)]
 |.r0=>[(hd {pc:= .r0,old:=s.mu,n:=T.n},s)]
 |.sq=>(cl T,s)::(if T.it<4 then [({T with pc:= .r1,old:=0,nw:=0},s)] else [])
 |.r1=>[(hd {T with old:=s.mu,it:=IntKind.i64.wrap (T.it+1)},s)]
 |.c2=>if s.mu=T.old then(if T.old=0\/T.old=2 then [(at_ .le T.n,{s with mu:=T.nw})] else [({pc:= .s1,sv:=T.sv,n:=T.n},{s with mu:=T.nw})]) else [({T with pc:= .r3,old:=0,nw:=0},s)]
 |.s1=>if s.ms=0 then [] else [({T with pc:=if T.sv then .r2 else .t2},{s with ms:=s.ms-1})]
 |.t2=>[({T with pc:= .r2},s),({T with pc:= .r2,sv:=true},s)]
 |.r2=>if s.mu=2\/s.mu=3 then [(hd {T with old:=s.mu,aw:=true,it:=0},s)]
   else if s.mu=12 then [({pc:= .a1,nw:=-11,n:=T.n},s)]
   else if s.mu=20 then [({pc:= .a1,nw:=if T.sv then -7 else -11,n:=T.n},s)] else [(at_ .bad T.n,s)]
 |.a1=>if(s.mu=12/\T.nw=-11)\/(s.mu=20/\(T.nw=-7\/T.nw=-11)) then [(at_ .le T.n,{s with mu:=s.mu+T.nw})] else [(at_ .bad T.n,s)]
 |.r3=>[(hd {T with old:=s.mu},s)]
 |.le=>[(at_ .la T.n,s)]
 |.la=>[(at_ .ur T.n,s)]
 |.ur=>[(at_ .ud T.n,s)]
 |.ud=>[(at_ .u0 T.n,s)]
 |.u0=>if s.mu=1 then [(at_ .ue T.n,{s with mu:=0})] else if s.mu=3 then [(at_ .ue T.n,{s with mu:=2})]
   else if s.mu=9 then [({pc:= .uc,old:=8,nw:=2,n:=T.n},{s with mu:=8})] else if s.mu=13 then [(at_ .us T.n,{s with mu:=12})] else [(at_ .bad T.n,s)]
 |.uc=>if s.mu=8 then [(at_ .us T.n,{s with mu:=2})] else [(at_ .bad T.n,s)]
 |.ul=>[(at_ .bad T.n,s)]
 |.us=>[(at_ .ue T.n,{s with ms:=s.ms+1})]
 |.ue=>[(at_ .out T.n,s)]
 |.wk=>[(at_ .d1 T.n,s)]
 |.d1=>if s.wg=KKi then [(at_ .quit T.n,{s with wg:=0})] else if s.wg=2*KKi then [(at_ .quit T.n,{s with wg:=KKi})]
   else if s.wg=2*KKi+1 then [(at_ .quit T.n,{s with wg:=KKi+1})] else if s.wg=KKi+1 then [(at_ .d2 T.n,{s with wg:=1})] else [(at_ .bad T.n,s)]
 |.d2=>if s.wg=1 then [(at_ .d3 T.n,s)] else [(at_ .bad T.n,s)]
 |.d3=>if s.wg=1 then [(at_ .d4 T.n,{s with wg:=0})] else [(at_ .bad T.n,s)]
 |.d4=>[(at_ .quit T.n,{s with ws:=s.ws+1})]
 |.k1=>[(at_ .x1 0,s)]
 |.x1=>if s.wg=0 then [(at_ .p1 0,{s with wg:=KKi})] else [(at_ .bad 0,s)]
 |.p1=>[(at_ .e1 0,s)]
 |.e1=>[(at_ .g1 0,s)]
 |.k2=>[(at_ .x2 0,s)]
 |.x2=>if s.wg=0 then [(at_ .p2 0,{s with wg:=KKi})] else if s.wg=KKi then [(at_ .e2 0,{s with wg:=2*KKi})] else [(at_ .bad 0,s)]
 |.p2=>[(at_ .e2 0,s)]
 |.e2=>[(at_ .g2 0,s)]
 |.kw=>[(at_ .w1 0,s)]
 |.w1=>if s.wg=0 then [(at_ .ke 0,s)] else if s.wg=KKi\/s.wg=2*KKi then [({pc:= .w2,old:=s.wg},s)] else [(at_ .bad 0,s)]
 |.w2=>if s.wg=T.old then [(at_ .pw 0,{s with wg:=s.wg+1})] else [(at_ .w1 0,s)]
 |.pw=>[(at_ .w3 0,s)]
 |.w3=>if s.ws=0 then [] else [(at_ .w4 0,{s with ws:=s.ws-1})]
 |.w4=>if s.wg=0 then [(at_ .ke 0,s)] else [(at_ .bad 0,s)]
 |.ke=>[(at_ .aq 0,s)]
 |.g1|.g2|.aq|.fin|.un|.quit|.bad=>[]
def Sh.fits (s:Sh):Prop:=(s.mu=0\/s.mu=1\/s.mu=2\/s.mu=3\/s.mu=8\/s.mu=9\/s.mu=12\/s.mu=13\/s.mu=20)/\(s.ms=0\/s.ms=1)/\
 (s.wg=0\/s.wg=1\/s.wg=KKi\/s.wg=KKi+1\/s.wg=2*KKi\/s.wg=2*KKi+1)/\(s.ws=0\/s.ws=1)
instance (s:Sh):Decidable s.fits:=by unfold Sh.fits;infer_instance
def pm (T:Lo):Lo:=
 match T.pc with
 |.un|.out|.ue|.wk|.d1|.d2|.d3|.d4|.quit=>{pc:= .out}
 |.le|.la|.ur|.ud|.u0=>{pc:= .u0}
 |_=>{T with n:=0}
def pw (T:Lo):Lo:=
 match T.pc with
 |.un=>{pc:= .un}
 |.d2=>{pc:= .d2}
 |.d3=>{pc:= .d3}
 |.d4=>{pc:= .d4}
 |.quit=>{pc:= .quit}
 |.bad=>{pc:= .bad}
 |_=>{pc:= .out}
def p0 (T:Lo):Lo:=
 match T.pc with
 |.k1|.x1=>{pc:= .x1}
 |.p1|.e1|.g1=>{pc:= .g1}
 |.k2|.x2=>{pc:= .x2}
 |.p2|.e2|.g2=>{pc:= .g2}
 |.kw|.w1=>{pc:= .w1}
 |.w2=>{pc:= .w2,old:=T.old}
 |.pw|.w3=>{pc:= .w3}
 |.w4=>{pc:= .w4}
 |.bad=>{pc:= .bad}
 |_=>{pc:= .fin}
structure GM where
 a:Lo
 b:Lo
 mu:Int
 ms:Int
 deriving DecidableEq,Repr
structure GG where
 m:Lo
 a:Lo
 b:Lo
 wg:Int
 ws:Int
 deriving DecidableEq,Repr
def AL (T:Lo)(a ms:Int):List (Lo×Int×Int):=
 ((mv {T with n:=1} ⟨a,ms,0,0⟩).filter (λr=>r.1.pc != .wk)).map λr=>(pm r.1,r.2.mu,r.2.ms)
def GM.succs (G:GM):List GM:=((AL G.a G.mu G.ms).map λr=>{a:=r.1,b:=G.b,mu:=r.2.1,ms:=r.2.2})++((AL G.b G.mu G.ms).map λr=>{a:=G.a,b:=r.1,mu:=r.2.1,ms:=r.2.2})
def GM.fresh (G:GM):List Bool:=((AL G.a G.mu G.ms).map λ_=>G.a.pc== .out)++((AL G.b G.mu G.ms).map λ_=>G.b.pc== .out)
def gw (T:Lo):Lo:=if T.pc= .out then {pc:= .d1} else T
def Wo (T:Lo)(a b:Int):List (Lo×Int×Int):=(mv (gw T) ⟨0,0,a,b⟩).map λr=>(pw r.1,r.2.wg,r.2.ws)
def mv0 (T:Lo)(a b:Int):List (Lo×Int×Int):=(mv T ⟨0,0,a,b⟩).map λr=>(p0 r.1,r.2.wg,r.2.ws)
def GG.succs (G:GG):List GG:=
 (if G.m.pc= .g1 then [{G with m:={pc:= .x2},a:={pc:= .out}}] else [])++(if G.m.pc= .g2 then [{G with m:={pc:= .w1},b:={pc:= .out}}] else [])++
 ((mv0 G.m G.wg G.ws).map λr=>{G with m:=r.1,wg:=r.2.1,ws:=r.2.2})++
 ((Wo G.a G.wg G.ws).map λr=>{G with a:=r.1,wg:=r.2.1,ws:=r.2.2})++((Wo G.b G.wg G.ws).map λr=>{G with b:=r.1,wg:=r.2.1,ws:=r.2.2})
def Lo.waits (T:Lo)(ms:Int):Bool:=T.pc== .s1&&ms==0
def GM.safe (G:GM):Bool:=
 G.succs.all (λH=>H.a.pc != .bad&&H.b.pc != .bad)&&G.a.pc != .bad&&G.b.pc != .bad&&
 !(G.a.waits G.ms&&(G.b.waits G.ms||G.b.pc== .out))&&!(G.b.waits G.ms&&G.a.pc== .out)&&!(G.a.pc== .u0&&G.b.pc== .u0)&&
 ((AL G.a G.mu G.ms).all λr=>!G.b.waits G.ms||G.b.waits r.2.2||G.a.pc== .us)&&((AL G.b G.mu G.ms).all λr=>!G.a.waits G.ms||G.a.waits r.2.2||G.b.pc== .us)&&
 (Sh.fits ⟨G.mu,G.ms,0,0⟩:Bool)
def live (T:Lo):Bool:=T.pc != .un&&T.pc != .quit
def GG.safe (G:GG):Bool:=
 G.succs.all (λH=>H.m.pc != .bad&&H.a.pc != .bad&&H.b.pc != .bad)&&G.m.pc != .bad&&G.a.pc != .bad&&G.b.pc != .bad&&
 (G.m.pc != .fin||(G.a.pc== .quit&&G.b.pc== .quit))&&(!(G.m.pc== .w3&&G.ws==0)||live G.a||live G.b)&&
 (!(G.m.pc== .w3&&G.ws==0)||(((Wo G.a G.wg G.ws).all λr=>r.2.2==0||G.a.pc== .d4)&&((Wo G.b G.wg G.ws).all λr=>r.2.2==0||G.b.pc== .d4)))&&
 (!(G.m.pc== .x1||G.m.pc== .g1)||(G.a.pc== .un&&G.b.pc== .un))&&(!(G.m.pc== .x2||G.m.pc== .g2)||(G.a.pc != .un&&G.b.pc== .un))&&
 ((G.m.pc== .x1||G.m.pc== .g1)||G.a.pc != .un)&&((G.m.pc== .x1||G.m.pc== .g1||G.m.pc== .x2||G.m.pc== .g2)||G.b.pc != .un)&&
 (Sh.fits ⟨0,0,G.wg,G.ws⟩:Bool)
def PCS:List Pc:=[.un,.out,.l0,.r0,.sq,.r1,.c2,.s1,.t2,.r2,.a1,.r3,.le,.la,.ur,.ud,.u0,.uc,.ul,.us,.ue,.wk,.d1,.d2,.d3,.d4,.quit,.bad,.k1,.x1,.p1,.e1,.g1,.k2,.x2,.p2,.e2,.g2,.kw,.w1,.w2,.pw,.w3,.w4,.ke,.aq,.fin]
def VALS:List Int:=[0,1,2,3,4,5,8,9,10,11,12,13,16,17,20,21,-7,-11,4294967296,4294967297,8589934592,8589934593]
def Lo.dec (c:Nat):Lo:={pc:=PCS.getD (c%64) .bad,old:=VALS.getD (c/64%32) 0,nw:=VALS.getD (c/2048%32) 0,aw:=c/65536%2==1,sv:=c/131072%2==1,it:=(c/262144%8:Nat)}
def GM.dec (c:Nat):GM:={a:=Lo.dec (c%2097152),b:=Lo.dec (c/2097152%2097152),mu:=VALS.getD (c/4398046511104%32) 0,ms:=(c/140737488355328%4:Nat)}
def GG.dec (c:Nat):GG:={m:=Lo.dec (c%2097152),a:=Lo.dec (c/2097152%2097152),b:=Lo.dec (c/4398046511104%2097152),wg:=VALS.getD (c/9223372036854775808%32) 0,ws:=(c/295147905179352825856%4:Nat)}
def yp (a:List (List (List Nat)))(j:Nat):Option (List Nat):=(a[j/32]?).bind λc=>c[j%32]?
def yH (a:List (List (List Nat)))(r:Nat):List GM->List Bool->List Nat->Bool
 |[],[],[]=>true
 |H::hs,f::fs,j::js=>(match yp a j with|some (c::r'::_)=>decide (GM.dec c=H)&&(f||decide (r'<r))&&decide (r'<27)|_=>false)&&yH a r hs fs js
 |_,_,_=>false
def qt (a:List (List (List Nat))):List Nat->Bool
 |c::r::js=>(GM.dec c).safe&&yH a r (GM.dec c).succs (GM.dec c).fresh js
 |_=>false
def BJ (a:List (List (List Nat)))(r:Nat):List GG->List Nat->Bool
 |[],[]=>true
 |H::hs,j::js=>(match yp a j with|some (c::r'::_)=>decide (GG.dec c=H)&&decide (r'<r)|_=>false)&&BJ a r hs js
 |_,_=>false
def Il (a:List (List (List Nat))):List Nat->Bool
 |c::r::js=>(GG.dec c).safe&&BJ a r (GG.dec c).succs js
 |_=>false
end aI
end
end
end Go.Proofs.YtchcmhodnkgojaaGreat
