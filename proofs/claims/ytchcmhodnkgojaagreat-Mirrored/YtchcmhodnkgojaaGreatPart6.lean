/- On the way to the last text; put together and shortened by program. -/
import Derived.Conc.QuitsD
import Derived.Conc.ClockLaws
import Derived.Conc.AtomicLaws2
import Derived.Test.YtchcmhodnkgojaaGreatPart5
import Derived.Test.YtchcmhodnkgojaaGreatRows
import Derived.WalkKit
import Derived.WalkSpells
import Derived.WalkLawsBesides
import Derived.Deep.MidRow
import Derived.Laws.CopyOwn
import Derived.Laws.Rows
import Derived.Lib.UnsafeStr
import Derived.Deep.RegionHeld3
import Derived.Deep.AppendLies
import Derived.Orders
import Derived.Deep.RegionHeld
import Derived.Laws.IdiomStrings
import Derived.Deep.Quiet
set_option linter.all false
set_option maxRecDepth 100000
set_option maxHeartbeats 8000000
namespace Go.Proofs.YtchcmhodnkgojaaGreat
noncomputable section
section
open Go.Conc
def LJ (
  P:Program) (g:Goroutine):Bool:=
 match g.frame.mode with
 |.run=>
  match g.frame.todo with
  |.inRegion ops (i::_)::_=>
   match ops[i]? with
   |none=>false
   |some o=>
    if Region.wanted o (yielded ops g.frame.tmps) then
     match o.op with
     |.move _|.assign _|.pick .. |.unOp .. |.extract .. |.fieldAddr .. |.field .. |.makeFunc .. |.nilCheck _|.defer _=>true
     |.binOp op _ x y _=>match op,g.frame.eval x,g.frame.eval y with
      |.eql,.nilIface,_|.neq,.nilIface,_=>true
      |_,.int _ _,.int _ _=>true
      |_,_,_=>false
     |.convert _ _ x=>match g.frame.eval x with
      |.int _ _=>true
      |_=>false
     |.call {callee:= .value f,.. }=>
      match g.frame.eval f with
      |.func (.func f) .. =>(P.funcs[f]?).any (·.body.isSome)
      |_=>false
     |.call {callee:= .builtin .recover,.. }=>true
     |_=>false
    else true
  |.code (.region _ _ true)::_=>false
  |.code (.rangeFunc ..)::_=>false
  |.code _::_|.inRegion _ []::_|.inBlock _::_|.inLoop _::_|.inScope _::_=>true
  |[]=>true
  |_=>false
 |.returning=>
  match g.frame.defers with
  |{target:= .fn (.func f) _,.. }::_=>(P.funcs[f]?).any (·.body.isSome)
  |_::_=>false
  |[]=>!g.callers.isEmpty&&((P.funcs[g.frame.fn]?).any λfn=>fn.results.all λ|.tmp _=>true|_=>false)
 |.panicking _=>
  match g.frame.defers with
  |{target:= .fn (.func f) _,.. }::_=>(P.funcs[f]?).any (·.body.isSome)
  |_=>false
def yA (P:Program)(main:Bool):Nat->Goroutine->(Nat->World)->Option (Goroutine×List World)
 |0,g,_=>some (g,[])
 |n+1,g,ws=>
  if LJ P g then
   match g.status,stepG P main g (ws 0) with
   |.running,.go g' w' es=>if es.isEmpty then(match yA P main n g' (λi=>ws (i+1)) with|some (x,l)=>some (x,w'::l)|none=>none) else none
   |_,_=>none
  else some (g,[])
def AQ (P:Program)(main:Bool)(n:Nat)(g:Goroutine):Goroutine:=match yA P main n g (λ_=>default) with|some (x,_)=>x|none=>g
def bJ (P:Program)(main:Bool)(n:Nat)(g:Goroutine):Nat:=match yA P main n g (λ_=>default) with|some (_,l)=>l.length|none=>0
def av (P:Program)(main:Bool)(g g':Goroutine):Prop:=∃n k,∀ws:Nat->World,yA P main n g ws=some (g',(List.range k).map ws)
theorem wY (k:Nat)(ws:Nat->World):(List.range (k+1)).map ws=ws 0::(List.range k).map (λi=>ws (i+1)):=by
 rw[List.range_succ_eq_map];simp[List.map_map]
section
variable {S:Type}{P:Program}{main:Bool}{C:Co S}{Stop:S->Goroutine->World->Prop}{s:S}{g g':Goroutine}{w:World}
def Idle (C:Co S):Prop:=∀s w,C.D s w w #[]/\C.up s w w=s
theorem j0 (hI:Idle C)(h:av P main g g')(k:aD P main C Stop s g' w):aD P main C Stop s g w:=by
 obtain⟨n,m,h⟩:=h
 induction n generalizing g w m with
 |zero=>
  have:=h λ_=>w
  simp only[yA,Option.some.injEq,Prod.mk.injEq] at this;rw[this.1];exact k
 |succ n ih=>
  by_cases hq:LJ P g=true
  .refine aD.step ?_ λw₁ hr=>?_
   .have:=h λ_=>w
    simp only[yA,hq,if_true] at this;cases hs:g.status<;>rw[hs] at this<;>first|rfl|cases this
   .have h0:∀ws':Nat->World,∃g1,stepG P main g w₁= .go g1 w₁ #[]/\∃m',m=m'+1/\yA P main n g1 ws'=some (g',(List.range m').map ws'):=λws'=>by
     have:=h λi=>match i with|0=>w₁|i+1=>ws' i
     simp only[yA,hq,if_true] at this;cases hs:g.status<;>rw[hs] at this<;>(try cases this;done)
     cases hst:stepG P main g w₁<;>rw[hst] at this<;>simp only at this<;>(try cases this;done)
     rename_i g1 w' es;split at this
     .rename_i he
      have he:es=#[]:=by simpa using he
      subst he;split at this
      .rename_i x l hx
       simp only[Option.some.injEq,Prod.mk.injEq] at this;obtain⟨rfl,hl⟩:=this;cases m with
       |zero=>simp at hl
       |succ m'=>
        rw[wY] at hl;simp only[List.cons.injEq] at hl;obtain⟨rfl,rfl⟩:=hl;exact⟨g1,rfl,m',rfl,hx⟩
      .cases this
     .cases this
    obtain⟨g1,e1,m',e2,_⟩:=h0 λ_=>w
    refine⟨g1,w₁,#[],e1,(hI s w₁).1,?_⟩;rw[(hI s w₁).2];refine ih (m:=m') (k.rely hr) λws'=>?_
    obtain⟨g2,e3,m2,e4,e5⟩:=h0 ws';rw[e1] at e3;cases e3;obtain rfl:m2=m':=by omega
    exact e5
  .have:=h λ_=>w
   simp only[yA,hq,if_false,Option.some.injEq,Prod.mk.injEq,Bool.false_eq_true] at this;rw[this.1];exact k
theorem av.of (n:Nat)(h:∀ws:Nat->World,yA P main n g ws=some (AQ P main n g,(List.range (bJ P main n g)).map ws)):av P main g (AQ P main n g):=⟨n,_,h⟩
end
def A5 (g:Goroutine):Option Oper:=
 match g.status,g.dying,g.offers,g.frame.mode,g.frame.roundOf,g.frame.todo with
 |.running,none,none,.run,none,.inRegion ops (i::_)::_=>
  match ops[i]? with
  |some o=>if Region.wanted o (yielded ops g.frame.tmps)&&g.frame.kind != .early then some o else none
  |none=>none
 |_,_,_,_,_,_=>none
def resume (g:Goroutine)(v:Value):Goroutine:={g with frame:=g.frame.finish v}
theorem uH {g:Goroutine}{o:Oper}(h:A5 g=some o):∃(b:Frame) (a:Act) (ops:Array Oper) (i:Nat) (rest:List Nat) (kk:List Item) (cs:List Frame),
  g=G (b.at a (.inRegion ops (i::rest)::kk)) cs/\ops[i]? =some o/\Region.wanted o (yielded ops a.tmps)=true/\b.kind≠.early/\b.fn=g.frame.fn/\a.eval=g.frame.eval/\∀v,resume g v=G (b.at (a.put o.dst v) (.inRegion ops rest::kk)) cs:=by
 obtain⟨⟨fn,tmps,todo,defers,mode,kind,rd⟩,callers,status,dying,offers⟩:=g;unfold A5 at h;simp only at h;split at h
 .rename_i ops i rest kk
  split at h
  .rename_i o' ho
   split at h
   .rename_i hw
    simp only[Option.some.injEq] at h;subst h;simp only[Bool.and_eq_true,bne_iff_ne,ne_eq] at hw;refine⟨{(default:Frame) with fn:=fn,kind:=kind},⟨tmps,defers⟩,ops,i,rest,kk,callers,rfl,ho,hw.1,hw.2,rfl,?_,λv=>?_⟩
    .funext x;cases x<;>rfl
    .have:=Frame.finish_at {(default:Frame) with fn:=fn,kind:=kind} ⟨tmps,defers⟩ ops i rest kk v
     rw[ho] at this;show G (Frame.finish _ v) _=_;exact congrArg (λf=>G f callers) this
   .cases h
  .cases h
 .cases h
def aG (g:Goroutine):Option (FuncId×Array Value):=
 (A5 g).bind λo=>match o.op with
  |.call {callee:= .value (.func f),args,.. }=>some (f,args.map g.frame.eval)
  |_=>none
theorem cR {g:Goroutine}{f:FuncId}{args:Array Value}(h:aG g=some (f,args)):∃(b:Frame) (a:Act) (ops:Array Oper) (i:Nat) (rest:List Nat) (kk:List Item) (cs:List Frame) (o:Oper) (ae:Array Operand) (ats:Array TypeId),
  g=G (b.at a (.inRegion ops (i::rest)::kk)) cs/\ops[i]? =some o/\Region.wanted o (yielded ops a.tmps)=true/\b.kind≠.early/\o.op= .call {callee:= .value (.func f),args:=ae,argTypes:=ats}/\ae.map a.eval=args/\∀v,resume g v=G (b.at (a.put o.dst v) (.inRegion ops rest::kk)) cs:=by
 unfold aG at h;obtain⟨o,ho,h⟩:=Option.bind_eq_some_iff.1 h;obtain⟨b,a,ops,i,rest,kk,cs,e1,e2,e3,e4,e5,e6,e7⟩:=uH ho;split at h
 .rename_i f' ae ats hop
  simp only[Option.some.injEq,Prod.mk.injEq] at h;obtain⟨rfl,rfl⟩:=h;exact⟨b,a,ops,i,rest,kk,cs,o,ae,ats,e1,e2,e3,e4,hop,by rw[e6],e7⟩
 .cases h
structure Ext (P:Program)(f:FuncId)(fn:Func):Prop where
 at_:P.funcs[f]? =some fn
 name:(fn.name== "runtime.NumGoroutine")=false
 body:fn.body.isNone=true
 next:Extern.findNext fn=none
section
variable {P:Program}{main:Bool}{g:Goroutine}{f:FuncId}{fn:Func}{args:Array Value}{w:World}
theorem jl (X:Ext P f fn)(m:Mark)(he:Extern.find fn=some (λ_=>do mark m;pure Extern.Race.none_))(h:aG g=some (f,args))(hm:∀g,m≠.extern g:=by simp):
  stepG P main g w= .go (resume g (.tuple #[])) w #[⟨.mark m,false,true⟩]:=by
 obtain⟨b,a,ops,i,rest,kk,cs,o,ae,ats,rfl,h2,h3,h4,h5,h6,h7⟩:=cR h;rw[h7];exact stepG_mark0 m hm h2 h3 h4 h5 X.at_ X.name X.body X.next he
theorem fE (X:Ext P f fn)(mk:Addr->Mark)(he:Extern.find fn=some (Extern.Race.marked mk)){ad:Addr}(h:aG g=some (f,#[.pointer (some ad)]))(hm:∀ad g,mk ad≠.extern g:=by simp):
  stepG P main g w= .go (resume g (.tuple #[])) w #[⟨.mark (mk ad),false,true⟩]:=by
 obtain⟨b,a,ops,i,rest,kk,cs,o,ae,ats,rfl,h2,h3,h4,h5,h6,h7⟩:=cR h;rw[h7];exact stepG_markAt mk hm h2 h3 h4 h5 X.at_ X.name X.body X.next he (by rw[h6];rfl)
theorem K1 (X:Ext P f fn)(he:Extern.find fn=some Extern.Sync.semacquire){ad:Addr}{n:Int}{u v:Value}(h:aG g=some (f,#[.pointer (some ad),u,v]))(hc:w.cell? ad=some (.int .u32 n))(hn:n≠0)(hz:w.frozen? ad=false):
  stepG P main g w= .go (resume g (.tuple #[])) (w.setCell ad (.int .u32 (n-1))) (semEvents ad):=by
 obtain⟨b,a,ops,i,rest,kk,cs,o,ae,ats,rfl,h2,h3,h4,h5,h6,h7⟩:=cR h;rw[h7];exact stepG_semacquire h2 h3 h4 h5 X.at_ X.name X.body X.next he (by rw[h6];rfl) hc hn hz
theorem Ip (X:Ext P f fn)(he:Extern.find fn=some Extern.Sync.semacquire){ad:Addr}{u v:Value}(h:aG g=some (f,#[.pointer (some ad),u,v]))(hc:w.cell? ad=some (.int .u32 0)):
  stepG P main g w= .go {g with status:= .blocked} w #[]:=by
 obtain⟨b,a,ops,i,rest,kk,cs,o,ae,ats,rfl,h2,h3,h4,h5,h6,h7⟩:=cR h;exact stepG_semacquire_wait h2 h3 h5 X.at_ X.name X.body X.next he (by rw[h6];rfl) hc
theorem BW (X:Ext P f fn)(he:Extern.find fn=some Extern.Sync.semrelease){ad:Addr}{n:Int}{u v:Value}(h:aG g=some (f,#[.pointer (some ad),u,v]))(hc:w.cell? ad=some (.int .u32 n))(hz:w.frozen? ad=false):
  stepG P main g w= .go (resume g (.tuple #[])) (w.setCell ad (.int .u32 (IntKind.u32.wrap (n+1)))) (semEvents ad):=by
 obtain⟨b,a,ops,i,rest,kk,cs,o,ae,ats,rfl,h2,h3,h4,h5,h6,h7⟩:=cR h;rw[h7];exact stepG_semrelease h2 h3 h4 h5 X.at_ X.name X.body X.next he (by rw[h6];rfl) hc hz
theorem BF (X:Ext P f fn)(h:aG g=some (f,args)):mayWake P g=true:=by
 obtain⟨b,a,ops,i,rest,kk,cs,o,ae,ats,rfl,h2,h3,h4,h5,h6,h7⟩:=cR h;have h2':fn.body=none:=by simpa using X.body
 have ef:(b.at a (.inRegion ops (i::rest)::kk)).eval (.func f)= .func (.func f) #[] #[]:=rfl;simp[mayWake,G,Frame.at,h2,h5] at ef⊢;simp[ef,X.at_,h2']
theorem zz (X:Ext P f fn)(he:Extern.find fn=some Extern.OsHooks.nano)(hq:fn.norace=true)(h:aG g=some (f,args)):
  stepG P main g w= .go (resume g (.int .i64 ((w.os.mono+w.tick:Nat):Int))) w.later #[]:=by
 obtain⟨b,a,ops,i,rest,kk,cs,o,ae,ats,rfl,h2,h3,h4,h5,h6,h7⟩:=cR h;rw[h7];exact stepG_nanotime h2 h3 h4 h5 X.at_ X.name X.body X.next he hq
theorem rj {e:Array Value->Sem Value}(X:Ext P f fn)(he:Extern.find fn=some e)(h:aG g=some (f,args)){v:Value}{w':World}{evs:Array Event}(hrun:(e args).run P w= .ok v w')
  (hev:(e args).events P w #[⟨.mark (.extern f),false,true⟩]=#[⟨.mark (.extern f),false,true⟩]++evs) (hs:∀x∈evs,x.sync=true/\∀g,x.loc≠.mark (.extern g)):stepG P main g w= .go (resume g v) w' evs:=by
 obtain⟨b,a,ops,i,rest,kk,cs,o,ae,ats,rfl,h2,h3,h4,h5,h6,h7⟩:=cR h;rw[h7];exact stepG_entry h2 h3 h4 h5 X.at_ X.name X.body X.next he (by rw[h6];exact hrun) (by rw[h6];exact hev) hs
theorem zy (X:Ext P f fn)(v:Value)(he:Extern.find fn=some (λ_=>pure v))(h:aG g=some (f,args)):stepG P main g w= .go (resume g v) w #[]:=
 rj X he h (by simp) (by simp) (by simp)
theorem Am (X:Ext P f fn)(he:Extern.find fn=some Extern.Sync.canSpin){k:IntKind}{n:Int}(h:aG g=some (f,#[.int k n]))(h4:4<=n):stepG P main g w= .go (resume g (.bool false)) w #[]:=by
 obtain⟨b,a,ops,i,rest,kk,cs,o,ae,ats,rfl,h2,h3,h4',h5,h6,h7⟩:=cR h;rw[h7];exact stepG_canSpin_no h2 h3 h4' h5 X.at_ X.name X.body X.next he h6 h4
theorem Io (X:Ext P f fn)(he:Extern.find fn=some Extern.Sync.canSpin){k:IntKind}{n:Int}(h:aG g=some (f,#[.int k n]))(h4:n<4):stepG P main g w= .go (resume g (.bool w.spins)) w.asked #[]:=by
 obtain⟨b,a,ops,i,rest,kk,cs,o,ae,ats,rfl,h2,h3,h4',h5,h6,h7⟩:=cR h;rw[h7];exact stepG_canSpin_ask h2 h3 h4' h5 X.at_ X.name X.body X.next he h6 h4
theorem mR (X:Ext P f fn)(k:IntKind)(he:Extern.find fn=some (Extern.Atomic.casT (.int k))){ad:Addr}{v n:Int}(h:aG g=some (f,#[.pointer (some ad),.int k v,.int k n]))(hc:w.cell? ad=some (.int k v))(hz:w.frozen? ad=false):
  stepG P main g w= .go (resume g (.bool true)) (w.setCell ad (.int k n)) #[⟨.cell ad,false,true⟩,⟨.cell ad,true,true⟩]:=
 rj X he h (by rw[casT_eq];exact run_cas_hit_entry hc hz) (by rw[casT_eq,events_cas_hit_entry hc hz];rfl) (sync_rw ad)
theorem lS (X:Ext P f fn)(k:IntKind)(he:Extern.find fn=some (Extern.Atomic.casT (.int k))){ad:Addr}{v old n:Int}(h:aG g=some (f,#[.pointer (some ad),.int k old,.int k n]))(hc:w.cell? ad=some (.int k v))(hz:w.frozen? ad=false)(hne:¬v=old):
  stepG P main g w= .go (resume g (.bool false)) w #[⟨.cell ad,false,true⟩]:=
 rj X he h (by rw[casT_eq];exact run_cas_miss_entry hc hz hne) (by rw[casT_eq,events_cas_miss_entry hc hz hne];rfl) (sync_r ad)
theorem rl (X:Ext P f fn)(k:IntKind)(he:Extern.find fn=some (Extern.Atomic.update (Op.intArith .add) k true)){ad:Addr}{v d:Int}(h:aG g=some (f,#[.pointer (some ad),.int k d]))(hc:w.cell? ad=some (.int k v))(hz:w.frozen? ad=false):
  stepG P main g w= .go (resume g (.int k (k.wrap (v+d)))) (w.setCell ad (.int k (k.wrap (v+d)))) #[⟨.cell ad,false,true⟩,⟨.cell ad,true,true⟩]:=
 rj X he h (run_add_entry hc hz) (by rw[events_add_entry hc hz];rfl) (sync_rw ad)
theorem qv (X:Ext P f fn)(k:IntKind)(he:Extern.find fn=some (Extern.Atomic.loadT (.int k))){ad:Addr}{v:Int}(h:aG g=some (f,#[.pointer (some ad)]))(hc:w.cell? ad=some (.int k v)):
  stepG P main g w= .go (resume g (.int k v)) w #[⟨.cell ad,false,true⟩]:=by
 obtain⟨b,a,ops,i,rest,kk,cs,o,ae,ats,rfl,h2,h3,h4,h5,h6,h7⟩:=cR h;have hl:ae.size=1:=by have:=congrArg Array.size h6;simpa using this
 obtain⟨x,rfl⟩:∃x,ae=#[x]:=by
  obtain⟨l⟩:=ae;rcases l with _|⟨x,_|⟨y,l⟩⟩<;>simp at hl
  exact⟨x,rfl⟩
 rw[h7];exact stepG_load_atomic h2 h3 h4 h5 X.at_ X.name X.body X.next k he (by simpa using h6) hc
theorem BT (X:Ext P f fn)(he:Extern.find fn=some Extern.Atomic.storeT){k:IntKind}{ad:Addr}{v:Int}{u:Value}(h:aG g=some (f,#[.pointer (some ad),.int k v]))(hc:w.cell? ad=some u)(hz:w.frozen? ad=false):
  stepG P main g w= .go (resume g (.tuple #[])) (w.setCell ad (.int k v)) #[⟨.cell ad,true,true⟩]:=by
 obtain⟨b,a,ops,i,rest,kk,cs,o,ae,ats,rfl,h2,h3,h4,h5,h6,h7⟩:=cR h;have hl:ae.size=2:=by have:=congrArg Array.size h6;simpa using this
 obtain⟨x,y,rfl⟩:∃x y,ae=#[x,y]:=by
  obtain⟨l⟩:=ae;rcases l with _|⟨x,_|⟨y,_|⟨z,l⟩⟩⟩<;>simp at hl
  exact⟨x,y,rfl⟩
 have h6':a.eval x= .pointer (some ad)/\a.eval y= .int k v:=by simpa using h6
 rw[h7];exact stepG_store_atomic h2 h3 h4 h5 X.at_ X.name X.body X.next he h6'.1 h6'.2 hc hz
end
def ie (g:Goroutine):Option (FuncId×Array Value):=
 match g.status,g.dying,g.offers,g.frame.mode,g.frame.roundOf,g.frame.defers with
 |.running,none,none,.returning,none,{target:= .fn (.func f) c,args:=args}::_=>if c.isEmpty then some (f,args) else none
 |_,_,_,_,_,_=>none
def cY (g:Goroutine):Goroutine:={g with frame:={g.frame with defers:=g.frame.defers.tail}}
theorem sJ {g:Goroutine}{f:FuncId}{args:Array Value}(h:ie g=some (f,args)):∃(b:Frame) (a:Act) (todo:List Item) (ds:List Deferred) (cs:List Frame),
  g=G {b.at a todo with mode:= .returning} cs/\a.defers=dcall f args::ds/\cY g=G {b.at ⟨a.tmps,ds⟩ todo with mode:= .returning} cs:=by
 obtain⟨⟨fn,tmps,todo,defers,mode,kind,rd⟩,callers,status,dying,offers⟩:=g;unfold ie at h;simp only at h;split at h
 .rename_i f' c args' ds
  split at h
  .rename_i hc
   obtain rfl:c=#[]:=by simpa using hc
   simp only[Option.some.injEq,Prod.mk.injEq] at h;obtain⟨rfl,rfl⟩:=h;exact⟨{(default:Frame) with fn:=fn,kind:=kind},⟨tmps,_⟩,todo,ds,callers,rfl,rfl,rfl⟩
  .cases h
 .cases h
theorem jm {P:Program}{main:Bool}{g:Goroutine}{f:FuncId}{fn:Func}{w:World}(X:Ext P f fn)(m:Mark)(hm:∀g,m≠.extern g)(he:Extern.find fn=some (λ_=>do mark m;pure Extern.Race.none_))(h:ie g=some (f,#[])):
  stepG P main g w= .go (cY g) w #[⟨.mark m,false,true⟩]:=by
 obtain⟨b,a,todo,ds,cs,rfl,h2,h3⟩:=sJ h;rw[h3];exact stepG_unwind_entry (v:= .tuple #[]) h2 X.at_ X.name X.body X.next he (by simp[Extern.Race.none_]) (by simp) (by
  intro x hx;simp at hx;subst hx;exact⟨rfl,λg h=>hm g (by cases h;rfl)⟩)
inductive kd where
 |load (t:TypeId) (a:Value)
 |store (t:TypeId) (a x:Value)
 |box (t:TypeId) (x:Value)
 |alloc (t:TypeId)
 |conv (s d:TypeId) (x:Value)
 |lookup (t:TypeId) (m k:Value) (ok:Bool)
 |mapUpdate (t:TypeId) (m k x:Value)
 |range (t:TypeId) (x:Value)
 |next (it:Value) (str:Bool) (ty:TypeId)
 |entry (it:Value)
 |makeMap (t:TypeId)
 |build (t:TypeId) (parts:Array (Nat×Value))
 |bin (op:BinOp) (t:TypeId) (x y:Value)
 |indexAddr (t:TypeId) (x i:Value)
def kd.sem:kd->Sem Next
 |.load t a=>do pure (.value (<-Instr.loadAt t a))
 |.store t a x=>do Instr.storeAt t a x;pure .skip
 |.box t x=>do pure (.value (<-Instr.box t x))
 |.alloc t=>do pure (.value (<-Instr.alloc t true (.tuple #[])))
 |.conv s d x=>do pure (.value (<-convert s d x))
 |.lookup t m k ok=>do pure (.value (<-Instr.lookup t m k ok))
 |.mapUpdate t m k x=>do Instr.mapUpdate t m k x;pure .skip
 |.range t x=>do pure (.value (<-Instr.range t x))
 |.next it str ty=>do pure (.value (<-Instr.next it str ty))
 |.entry it=>do pure (.value (<-Instr.entry it))
 |.makeMap t=>do pure (.value (<-Instr.makeMap t none))
 |.build t parts=>do pure (.value (<-Instr.build t parts))
 |.bin op t x y=>do pure (.value (<-(do eqGuard op t (.tmp 0) (.tmp 0) x y;binOp op t x y)))
 |.indexAddr t x i=>do pure (.value (<-Instr.indexAt t x i))
def zW:Operand->Bool
 |.tmp _=>true
 |_=>false
def aS (g:Goroutine):Option kd:=
 (A5 g).bind λo=>match o.op with
  |.load t a=>some (.load t (g.frame.eval a))
  |.store t a x=>some (.store t (g.frame.eval a) (g.frame.eval x))
  |.box t x=>some (.box t (g.frame.eval x))
  |.alloc t=>some (.alloc t)
  |.convert s d x=>some (.conv s d (g.frame.eval x))
  |.lookup t m k ok=>some (.lookup t (g.frame.eval m) (g.frame.eval k) ok)
  |.mapUpdate t m k x=>some (.mapUpdate t (g.frame.eval m) (g.frame.eval k) (g.frame.eval x))
  |.range t x=>some (.range t (g.frame.eval x))
  |.next it str=>some (.next (g.frame.eval it) str o.type)
  |.entry it=>some (.entry (g.frame.eval it))
  |.makeMap t none=>some (.makeMap t)
  |.build t ps=>some (.build t (ps.map λ(i,x)=>(i,g.frame.eval x)))
  |.binOp op t x y _=>if zW x&&zW y then some (.bin op t (g.frame.eval x) (g.frame.eval y)) else none
  |.indexAddr t x i=>some (.indexAddr t (g.frame.eval x) (g.frame.eval i))
  |_=>none
theorem oU (op:BinOp)(t:TypeId)(x y:Operand)(hx:zW x=true)(hy:zW y=true)(a b:Value):eqGuard op t x y a b=eqGuard op t (.tmp 0) (.tmp 0) a b:=by
 cases x<;>simp[zW] at hx;cases y<;>simp[zW] at hy;rfl
theorem mN {g:Goroutine}{v:kd}(h:aS g=some v):∃(b:Frame) (a:Act) (ops:Array Oper) (i:Nat) (rest:List Nat) (kk:List Item) (cs:List Frame) (o:Oper),
  g=G (b.at a (.inRegion ops (i::rest)::kk)) cs/\ops[i]? =some o/\Region.wanted o (yielded ops a.tmps)=true/\b.kind≠.early/\b.fn=g.frame.fn/\execOp a.eval o=v.sem/\∀v,resume g v=G (b.at (a.put o.dst v) (.inRegion ops rest::kk)) cs:=by
 unfold aS at h;obtain⟨o,ho,h⟩:=Option.bind_eq_some_iff.1 h;obtain⟨b,a,ops,i,rest,kk,cs,e1,e2,e3,e4,e5,e6,e7⟩:=uH ho;refine⟨b,a,ops,i,rest,kk,cs,o,e1,e2,e3,e4,e5,?_,e7⟩;rw[e6];unfold execOp;split at h<;>first|(cases h;done)|(rename_i hop;rw[hop])
 case h_13=>
  split at h
  .rename_i hxy
   simp only[Bool.and_eq_true] at hxy;simp only[Option.some.injEq] at h;subst h;simp only[kd.sem];rw[oU _ _ _ _ hxy.1 hxy.2]
  .cases h
 all_goals first|(simp only[Option.some.injEq] at h;subst h;rfl)|cases h
section
variable {P:Program}{main:Bool}{g:Goroutine}{v:kd}{w w':World}
theorem mQ (h:aS g=some v){x:Value}(hr:v.sem.run P w= .ok (.value x) w'):∃es,stepG P main g w= .go (resume g x) w' es/\∀e∈es,e∈v.sem.events P w #[]:=by
 obtain⟨b,a,ops,i,rest,kk,cs,o,rfl,h2,h3,h4,h5,h6,h7⟩:=mN h;refine⟨listed P b.fn a o w,?_,?_⟩
 .rw[h7];exact stepG_value h2 h3 h4 (by rw[h6];exact hr)
 .intro e he
  have:=mem_listed he
  rwa [h6] at this
theorem step_skip (h:aS g=some v)(hr:v.sem.run P w= .ok .skip w'):∃es,stepG P main g w= .go (resume g undef) w' es/\∀e∈es,e∈v.sem.events P w #[]:=by
 obtain⟨b,a,ops,i,rest,kk,cs,o,rfl,h2,h3,h4,h5,h6,h7⟩:=mN h;refine⟨listed P b.fn a o w,?_,?_⟩
 .rw[h7];exact stepG_none h2 h3 h4 (by rw[h6];exact hr)
 .intro e he
  have:=mem_listed he
  rwa [h6] at this
end
end
section
open Go.Conc
open Go.ConcN (sumTo sumTo_upd)
def li:Co (Nat->Prop) where
 R:=λ_ w w₁=>AtRel w w₁
 D:=λown w w' es=>kv own (λ_=>False) w w' es
 up:=λown w w' b=>own b\/(w.heap.size<=b/\b<w'.heap.size)
 refl:=λ_ w=>atRel_refl w
 trans:=λ_ a b c h k=>atRel_trans a b c h k
theorem xC:OE li (λs=>s) (λ_=>False):=
 ⟨λs w w₁ h=>by obtain⟨d,rfl⟩:=h;exact⟨Nat.le_refl _,rfl,λ_ _ _=>rfl⟩,λs w w' es h=>h,λs w w' b=>Iff.rfl⟩
def O1 (Shun:Loc->Prop):Co Unit where
 R:=λ_ w w₁=>AtRel w w₁
 D:=λ_ w w' es=>w.heap.size<=w'.heap.size/\w'.os=w.os/\(∀e∈es,EvL Shun w'.heap.size e)/\∀e∈es,∀a,e.loc≠.mark (.release a)
 up:=λ_ _ _=>()
 refl:=λ_ w=>atRel_refl w
 trans:=λ_ a b c h k=>atRel_trans a b c h k
theorem acl (Shun:Loc->Prop):Idle (O1 Shun):=λ_ w=>⟨⟨Nat.le_refl _,rfl,by simp,by simp⟩,rfl⟩
def Ze (n:Nat)(t:Trace):Prop:=∀op∈t,op.g<n
def Nr (t t':Trace):Prop:=∀op∈t',op∈t\/∀a,op.act≠.mark (.release a)
theorem Nr.refl (t:Trace):Nr t t:=λ_ h=> .inl h
theorem Nr.trans {t u v:Trace}(h:Nr t u)(k:Nr u v):Nr t v:=λop ho=>(k op ho).elim (h op) .inr
theorem vh {e:Event}{a:Addr}(h:MemAct.ofEvent e= .mark (.release a)):e.loc= .mark (.release a):=by
 obtain⟨l,x,y⟩:=e;cases l<;>cases x<;>cases y<;>simp_all [MemAct.ofEvent]
theorem Nr.own (t:Trace){g:Nat}{fn:FuncId}{pos:String}{es:Array Event}(h:∀e∈es,∀a,e.loc≠.mark (.release a)):Nr t (t++MemOp.ofEvents g fn pos es):=λop ho=>by
 rcases Array.mem_append.1 ho with ho|ho
 .exact .inl ho
 .obtain⟨e,he,rfl⟩:=Go.Conc.mem_ofEvents ho
  exact .inr λa x=>h e he a (vh x)
theorem Nr.mute (t:Trace){g:Nat}{fn:FuncId}{pos:String}{es:Array Event}(h:∀e∈es,e.mute=true):Nr t (t++MemOp.ofEvents g fn pos es):=Nr.own t λe he a x=>by
 have:=h e he;obtain⟨l,u,v⟩:=e;simp only at x;subst x;simp[Event.mute] at this
theorem Ze.own {n:Nat}{t:Trace}(h:Ze n t){g:Nat}(hg:g<n){fn:FuncId}{pos:String}{es:Array Event}:Ze n (t++MemOp.ofEvents g fn pos es):=λop ho=>by
 rcases Array.mem_append.1 ho with ho|ho
 .exact h op ho
 .obtain⟨e,he,rfl⟩:=Go.Conc.mem_ofEvents ho
  exact hg
structure Apart (Shun:Loc->Prop)(own:Nat->Prop)(w:World):Prop where
 off:∀b,own b->∀l,aF.ll b l->¬Shun l
 lt:∀b,own b->b<w.heap.size
 low:∀l b,Shun l->aF.ll b l->b<w.heap.size
 cell:∀l,Shun l->∃a:Addr,l= .cell a
section
variable {Shun:Loc->Prop}{own:Nat->Prop}{w w':World}{es:Array Event}
theorem Apart.step (h:Apart Shun own w)(hs:w.heap.size<=w'.heap.size):Apart Shun (li.up own w w') w':=
 ⟨λb hb l hl hS=>hb.elim (λx=>h.off b x l hl hS) λx=>by have:=h.low l b hS hl;omega,λb hb=>hb.elim (λx=>Nat.lt_of_lt_of_le (h.lt b x) hs) (·.2),λl b hS hl=>Nat.lt_of_lt_of_le (h.low l b hS hl) hs,h.cell⟩
theorem Apart.at (h:Apart Shun own w)(d:Nat):Apart Shun own (w.at d):=⟨h.off,h.lt,h.low,h.cell⟩
theorem RG (h:kv own (λ_=>False) w w' es)(hA:Apart Shun own w):∀e∈es,EvL Shun w'.heap.size e:=by
 intro e he;have hA':=hA.step h.size;rcases h.ev e he with⟨b,hb,hloc⟩|⟨m,h1,h2⟩
 .have hin:aF.ll b e.loc:=hloc
  obtain⟨e1,e2,e3⟩:=aF.oO hin;have hb':li.up own w w' b:=by
   rcases hb with hb|hb|hb
   .exact .inl hb
   .exact .inr hb
   .exact hb.1.elim
  refine⟨λx hx hS=>?_,λhm=>e1 .disable (aF.dr hm),λhm=>e1 .enable (aF.dr hm),e2 _ (hA'.lt b hb')⟩;obtain⟨z1,_⟩:=e3 x hx;rw[z1] at hS;exact absurd hS (hA'.off b hb' _ hin)
 .obtain⟨m1,m2,m3,m4,m5⟩:=aF.rX h2
  have e0:=aF.dr h1;refine⟨λx hx=>?_,?_,?_,by rw[e0];exact m5 _⟩
  .rw[e0,m1] at hx;cases hx
  .rw[h1];simpa using m2
  .rw[h1];simpa using m3
theorem Wp (h:kv own (λ_=>False) w w' es):∀e∈es,∀a,e.loc≠.mark (.release a):=by
 intro e he a x;rcases h.ev e he with⟨b,_,⟨a',h1,_⟩|h1⟩|⟨m,h1,h2⟩
 .rw[x] at h1;cases h1
 .rw[x] at h1;cases h1
 .rw[x] at h1;cases h1;exact h2.elim
theorem vL {P:Program}{Stop:(Nat->Prop)->Goroutine->World->Prop}{g:Goroutine}(h:aD P true li Stop own g w)(hA:Apart Shun own w):
  aD P true (O1 Shun) (λ_ g w=>∃s,Stop s g w/\Apart Shun s w) () g w:=by
 obtain⟨r,h⟩:=h
 induction r generalizing own g w with
 |zero=>exact .stop λw₁ hr=>⟨own,h w₁ hr,by obtain⟨d,rfl⟩:=hr;exact hA.at d⟩
 |mk f ih=>
  rcases h with h|⟨hs,h⟩
  .exact .stop λw₁ hr=>⟨own,h w₁ hr,by obtain⟨d,rfl⟩:=hr;exact hA.at d⟩
  .refine aD.step hs λw₁ hr=>?_
   obtain⟨g',w',es,h1,h2,h3⟩:=h w₁ hr;obtain⟨d,rfl⟩:=hr;exact⟨g',w',es,h1,⟨h2.size,h2.os,RG h2 (hA.at d),Wp h2⟩,ih (w.at d) ((hA.at d).step h2.size) h3⟩
end
structure Zero (P:Program)(Shun:Loc->Prop)(M:Machine)(t:Trace)(g:Goroutine)(w:World):Prop where
 ex:∃(gs:Array Goroutine) (sl:Option (Nat×Nat)) (q:Nat->Nat),M=crowd gs w sl/\gs[0]? =some g/\Leavers P t gs q/\Ze gs.size t
 past:Past Shun w.heap.size t
section
variable {P:Program}{Shun:Loc->Prop}{Stop:Unit->Goroutine->World->Prop}
theorem Ih:∀(r:Rk) (n:Nat) (gs:Array Goroutine) (a:Goroutine) (w:World) (sl:Option (Nat×Nat)) (t:Trace) (q:Nat->Nat),sumTo gs.size q<n->gs[0]? =some a->Leavers P t gs q->Ze gs.size t->
  Past Shun w.heap.size t->gB P true (O1 Shun) Stop r () a w->
  ∃(N:Nat) (gs':Array Goroutine) (a':Goroutine) (w':World) (sl':Option (Nat×Nat)) (t':Trace) (q':Nat->Nat),
   runNT P N (crowd gs w sl) t=(.next (crowd gs' w' sl'),t')/\gs'[0]? =some a'/\Stop () a' w'/\Leavers P t' gs' q'/\Past Shun w'.heap.size t'/\w'.os=w.os/\Ze gs'.size t'/\Nr t t':=by
 intro r
 induction r with
 |zero=>
  intro n gs a w sl t q _ h0 hL hI hP hG;exact⟨0,gs,a,w,sl,t,q,rfl,h0,hG w (atRel_refl w),hL,hP,rfl,hI,Nr.refl t⟩
 |mk f ihf=>
  intro n
  induction n with
  |zero=>intro gs a w sl t q hM;omega
  |succ n ih=>
   intro gs a w sl t q hM h0 hL hI hP hG;rcases hG with hstop|⟨hrun,hstep⟩
   .exact⟨0,gs,a,w,sl,t,q,rfl,h0,hstop w (atRel_refl w),hL,hP,rfl,hI,Nr.refl t⟩
   have haw:∀g∈gs,awake g:=by
    intro g hg;obtain⟨i,hi,rfl⟩:=Array.mem_iff_getElem.1 hg;rcases Nat.eq_zero_or_pos i with rfl|hpos
    .have:gs[0]=a:=by simpa [Array.getElem?_eq_getElem hi] using h0
     rw[this];exact awake_of (.inl hrun)
    .exact awake_of ((hL.old i _ hpos (Array.getElem?_eq_getElem hi)).status.elim .inl λx=> .inr (.inr x))
   obtain⟨i,g,d,sl',hi,hg,hst⟩:=crowd_pick (P:=P) (w:=w) (sl:=sl) haw ⟨0,a,h0,hrun⟩;rcases Nat.eq_zero_or_pos i with rfl|hpos
   .obtain rfl:g=a:=by rw[h0] at hi;exact(Option.some.inj hi).symm
    obtain⟨a',w',es,hgo,hd,hG'⟩:=hstep (w.at d) ⟨d,rfl⟩;have hrunT:=runT_crowd_go (P:=P) (sl:=sl') (i:=0) hi (show stepG P (0==0) g (w.at d)=_ from hgo);have hsz:((gs.map (woken P g a' w')).setIfInBounds 0 a').size=gs.size:=by simp
    have hlt:0<gs.size:=(Array.getElem?_eq_some_iff.1 h0).1;obtain⟨hsize,hos,hev,hnr⟩:=hd;have hsize:w.heap.size<=w'.heap.size:=hsize
    obtain⟨N,gs',a'',w'',sl'',t',q',hr,h0',hS,hL',hP',ho',hI',hN'⟩:=ihf (w.at d) (sumTo ((gs.map (woken P g a' w')).setIfInBounds 0 a').size q+1) ((gs.map (woken P g a' w')).setIfInBounds 0 a') a' w' sl' (t++MemOp.ofEvents 0 g.frame.fn g.frame.place es) q (Nat.lt_succ_self _) (by simp[hlt])
     ⟨λj x hj hx=>by
      have hne:0≠j:=by omega
      rw[Array.getElem?_setIfInBounds_ne hne,Array.getElem?_map] at hx;obtain⟨y,hy,rfl⟩:=Option.map_eq_some_iff.1 hx;have hq:=hL.old j y hj hy;rw[woken_quitsD hq,Deaf_other t (by omega) _ (λop hop=>by obtain⟨e,_,rfl⟩:=Go.Conc.mem_ofEvents hop;rfl)];exact hq,λj hj=>by
      rw[Deaf_other t (g':=0) (by simp at hj;omega) _ (λop hop=>by obtain⟨e,_,rfl⟩:=Go.Conc.mem_ofEvents hop;rfl)];exact hL.above j (by simpa using hj)⟩
     (by rw[hsz];exact hI.own hlt) ((hP.mono hsize).own hev) hG'
    exact⟨N+1,gs',a'',w'',sl'',t',q',by simp only[runNT,hst,hrunT];exact hr,h0',hS,hL',hP',ho'.trans hos,hI',(Nr.own t hnr).trans hN'⟩
   ·
    have hq:=hL.old i g hpos hi;have hi0:(i==0)=false:=by simp;omega
    have hlt:i<gs.size:=(Array.getElem?_eq_some_iff.1 hi).1;cases hqi:q i with
    |zero=>rw[hqi] at hq;rw[hq.1] at hg;cases hg
    |succ k=>
     rw[hqi] at hq;rcases hq with⟨hf,_⟩|⟨_,g',es,hm,hstp,hq'⟩
     .rw[hf] at hg;cases hg
     have hrunT:=runT_crowd_go (P:=P) (sl:=sl') (i:=i) hi (by rw[hi0];exact hstp (w.at d));have hsz:((gs.map (woken P g g' (w.at d))).setIfInBounds i g').size=gs.size:=by simp
     have hsum:sumTo gs.size (Go.ConcN.upd q i k)+(k+1)=sumTo gs.size q+k:=by
      have:=sumTo_upd q k id hlt;simpa [hqi] using this
     obtain⟨N,gs',a'',w'',sl'',t',q',hr,h0',hS,hL',hP',ho',hI',hN'⟩:=ih ((gs.map (woken P g g' (w.at d))).setIfInBounds i g') a (w.at d) sl' (t++MemOp.ofEvents i g.frame.fn g.frame.place es) (Go.ConcN.upd q i k) (by rw[hsz];omega)
      (by
       have hne:i≠0:=by omega
       rw[Array.getElem?_setIfInBounds_ne hne,Array.getElem?_map,h0];simp[woken_run hrun])
      ⟨λj x hj hx=>by
       by_cases hji:i=j
       .subst hji
        rw[Array.getElem?_setIfInBounds_self_of_lt (by simpa using hlt)] at hx;obtain rfl:=Option.some.inj hx;rw[Go.ConcN.upd_same,Deaf_own];exact hq'
       .rw[Array.getElem?_setIfInBounds_ne hji,Array.getElem?_map] at hx
        obtain⟨y,hy,rfl⟩:=Option.map_eq_some_iff.1 hx;have hqj:=hL.old j y hj hy;rw[woken_quitsD hqj,Go.ConcN.upd_ne q k (Ne.symm hji),Deaf_other t hji _ (λop hop=>by obtain⟨e,_,rfl⟩:=Go.Conc.mem_ofEvents hop;rfl)];exact hqj,λj hj=>by
       rw[Deaf_other t (g':=i) (by simp at hj;omega) _ (λop hop=>by obtain⟨e,_,rfl⟩:=Go.Conc.mem_ofEvents hop;rfl)];exact hL.above j (by simpa using hj)⟩
      (by rw[hsz];exact hI.own hlt) (hP.mute (by omega) hm) (gB.rely (C:=O1 Shun) (r:= .mk f) (.inr ⟨hrun,hstep⟩) ⟨d,rfl⟩)
     exact⟨N+1,gs',a'',w'',sl'',t',q',by simp only[runNT,hst,hrunT];exact hr,h0',hS,hL',hP',ho',hI',(Nr.mute t hm).trans hN'⟩
theorem kW {M:Machine}{t:Trace}{g:Goroutine}{w:World}(hz:Zero P Shun M t g w)(h:aD P true (O1 Shun) Stop () g w):
  ∃(N:Nat) (M':Machine) (t':Trace) (g':Goroutine) (w':World),runNT P N M t=(.next M',t')/\Zero P Shun M' t' g' w'/\Stop () g' w'/\w'.os=w.os/\Nr t t':=by
 obtain⟨r,h⟩:=h;obtain⟨gs,sl,q,rfl,h0,hL,hI⟩:=hz.ex;obtain⟨N,gs',a',w',sl',t',q',h1,h2,h3,h4,h5,h6,h7,h8⟩:=Ih r _ gs g w sl t q (Nat.lt_succ_self _) h0 hL hI hz.past h;exact⟨N,_,t',a',w',h1,⟨⟨gs',sl',q',rfl,h2,h4,h7⟩,h5⟩,h3,h6,h8⟩
end
end
section
open Go.RowKit
theorem pz {k:IntKind}{a b:Int}(h:a=b):Ending.returned (.int k a)= .returned (.int k b):=by rw[h]
def al (p:Prop):Prop:=p
theorem al.go {p:Prop}(h:p):al p:=h
def Row (w:World)(b:Nat)(c:Array Value)(t:TypeId):Prop:=w.heap[b]? =some (.cells c t (0,0))
structure aO (S:List Nat)(w w':World):Prop where
 os:w'.os=w.os
 tape:w'.tape=w.tape
 output:w'.output=w.output
 size:w.heap.size<=w'.heap.size
 block:∀k,k<w.heap.size->k∉S->w'.heap[k]? =w.heap[k]?
theorem aO.refl (S:List Nat)(w:World):aO S w w:=⟨rfl,rfl,rfl,Nat.le_refl _,λ_ _ _=>rfl⟩
theorem aO.mono {S T:List Nat}{w w':World}(h:aO S w w')(hs:∀k∈S,k∈T\/w.heap.size<=k:=by simp):aO T w w':=
 ⟨h.os,h.tape,h.output,h.size,λk hk hT=>h.block k hk λhS=>(hs k hS).elim hT (by omega)⟩
theorem aO.trans {S T:List Nat}{a b c:World}(h:aO S a b)(k:aO T b c)(hT:∀i∈T,i∈S\/a.heap.size<=i:=by simp):aO S a c:=
 ⟨k.os.trans h.os,k.tape.trans h.tape,k.output.trans h.output,Nat.le_trans h.size k.size,
  λi hi hS=>(k.block i (Nat.lt_of_lt_of_le hi h.size) λx=>(hT i x).elim hS (by omega)).trans (h.block i hi hS)⟩
theorem aO.alloc (S:List Nat)(w:World)(o:Obj):aO S w (w.alloc o):=⟨rfl,rfl,rfl,by simp,λk hk _=>Below.heap_alloc w o k hk⟩
theorem aO.drew (S:List Nat)(w:World):aO S w w.drew:=⟨rfl,rfl,rfl,Nat.le_refl _,λ_ _ _=>rfl⟩
theorem aO.setRow (S:List Nat)(w:World)(b:Nat)(c:Array Value)(hb:b∈S:=by simp):aO S w (w.setRow b c):=
 ⟨rfl,rfl,rfl,by simp,λk _ hk=>setRow_other w b k c λe=>hk (e▸hb)⟩
theorem aO.setCell (S:List Nat)(w:World)(a:Addr)(v:Value)(hb:a.block∈S:=by simp):aO S w (w.setCell a v):=
 ⟨rfl,rfl,rfl,by simp,λk _ hk=>heap_setCell_other w a k v λe=>hk (e▸hb)⟩
theorem aO.row {S:List Nat}{w w':World}(h:aO S w w'){b:Nat}{c:Array Value}{t:TypeId}(hr:Row w b c t)(hb:b∉S:=by simp):Row w' b c t:=by
 unfold Row at*;rw[h.block b (Array.getElem?_eq_some_iff.1 hr).1 hb];exact hr
theorem aO.of_below {w w':World}(h:Below w.heap.size w w'):aO [] w w':=⟨h.os,h.tape,h.output,h.size,λk hk _=>h.block k hk⟩
theorem aO.owns {S:List Nat}{w w':World}(h:aO S w w'){base:Nat}{e:TypeId}{size:Nat}{v:Value}{n:Nat}{xs:List Value}(ho:w.ownsRow base e size v n xs)(hb:∀k∈S,v.ownBlock≠some k:=by simp):
  w'.ownsRow base e size v n xs:=by
 refine⟨ho.1,?_⟩;rcases ho.2 with hn|⟨g,cap,cur,rfl,hb',hg,r⟩
 .exact .inl hn
 .exact .inr ⟨g,cap,cur,rfl,hb',by rw[h.block g (Array.getElem?_eq_some_iff.1 hg).1 λhs=>hb g hs rfl];exact hg,r⟩
theorem aO.grown {w w':World}{row:Option Nat}(h:w.grownBy w' row):aO row.toList w w':=
 ⟨h.os,h.tape,h.output,h.size,λk hk hn=>h.block k hk λe=>hn (by simp[<-e])⟩
theorem Row.lt {w:World}{b:Nat}{c:Array Value}{t:TypeId}(h:Row w b c t):b<w.heap.size:=(Array.getElem?_eq_some_iff.1 h).1
theorem Row.cell {w:World}{b:Nat}{c:Array Value}{t:TypeId}(h:Row w b c t)(j:Nat):w.cell? ⟨b,j,none⟩=c[j]? :=cell_of_row w b j c t (0,0) h
theorem Row.thaw {w:World}{b:Nat}{c:Array Value}{t:TypeId}(h:Row w b c t)(j:Nat):w.frozen? ⟨b,j,none⟩=false:=frozen_of_row w b j c t h
theorem Row.new (w:World)(c:Array Value)(t:TypeId):Row (w.alloc (.cells c t)) w.heap.size c t:=heap_alloc_new w _
theorem Row.setCell {w:World}{b:Nat}{c:Array Value}{t:TypeId}(h:Row w b c t)(i:Nat)(v:Value):Row (w.setCell ⟨b,i,none⟩ v) b (c.setIfInBounds i v) t:=
 heap_setCell_same w b i c t v h
theorem Row.setRow {w:World}{b:Nat}{c:Array Value}{t:TypeId}(h:Row w b c t)(d:Array Value):Row (w.setRow b d) b d t:=setRow_heap w b c d t (0,0) h
theorem Row.drew {w:World}{b:Nat}{c:Array Value}{t:TypeId}(h:Row w b c t):Row w.drew b c t:=h
def over (c:Array Value)(o:Nat)(vs:List Value):Array Value:=(c.toList.take o++vs++c.toList.drop (o+vs.length)).toArray
theorem Iz (c:Array Value)(o:Nat)(vs:List Value)(h:o+vs.length<=c.size):(over c o vs).size=c.size:=by
 simp[over];omega
theorem bH (c:Array Value)(vs:List Value)(h:c.size=vs.length):over c 0 vs=vs.toArray:=by
 simp[over,<-h]
theorem ck {α:Type}{l xs:List α}{m:Nat}(h:l.take m=xs)(i j:Nat)(hk:i+j<=m:=by omega):(l.drop i).take j=(xs.drop i).take j:=by
 subst h;rw[List.drop_take,List.take_take]
 congr 1
 omega
theorem bZ (l:List Value)(i:Nat)(a:Value):l.toArray.setIfInBounds i a=(l.set i a).toArray:=List.setIfInBounds_toArray l i a
theorem b6 (x:Value)(xs:List Value)(i:Nat)(a:Value):(x::xs).set (i+1) a=x::xs.set i a:=rfl
theorem bY (x:Value)(xs:List Value)(a:Value):(x::xs).set 0 a=a::xs:=rfl
theorem bQ {w:World}{base:Nat}{e:TypeId}{size:Nat}{v:Value}{n:Nat}{xs:List Value}(h:w.ownsRow base e size v n xs):∃ad cap,v= .slice ad n cap:=by
 rcases h.2 with⟨rfl,rfl⟩|⟨g,cap,_,rfl,_⟩
 .exact⟨_,_,rfl⟩
 .exact⟨_,_,rfl⟩
theorem eU {w:World}{base:Nat}{e:TypeId}{size:Nat}{ad:Option Addr}{cap n:Nat}{xs:List Value}(h:w.ownsRow base e size (.slice ad n cap) n xs)(hn:0<n:=by omega):
  ∃g cur,ad=some ⟨g,0,none⟩/\Row w g cur e/\n<=cap/\cap<=maxLen/\cur.size=cap*size/\cur.toList.take (n*size)=xs:=by
 rcases h.2 with⟨hv,rfl⟩|⟨g,cap',cur,hv,_,hg,r⟩
 .omega
 .simp only[Value.slice.injEq] at hv
  obtain⟨rfl,_,rfl⟩:=hv;exact⟨g,cur,rfl,hg,r⟩
section
variable {P:Program}{ops:Array Oper}{Q:Exit->Act->World->Prop}{a:Act}{w:World}{rest:List Oper}{o:Oper}
theorem az {t:TypeId}(_:o.op= .alloc t)(h:al (wpList P ops Q (o::rest) a w)):wpList P ops Q (o::rest) a w:=h
theorem bG {t:TypeId}{x:Operand}(_:o.op= .box t x)(h:al (wpList P ops Q (o::rest) a w)):wpList P ops Q (o::rest) a w:=h
theorem ay (t:TypeId){x:Operand}(_:o.op= .load t x)(h:al (wpList P ops Q (o::rest) a w)):wpList P ops Q (o::rest) a w:=h
theorem af (t:TypeId){x y:Operand}(_:o.op= .store t x y)(h:al (wpList P ops Q (o::rest) a w)):wpList P ops Q (o::rest) a w:=h
theorem Em {t:TypeId}{x:Operand}{f:Nat}(_:o.op= .field t x f)(h:al (wpList P ops Q (o::rest) a w)):wpList P ops Q (o::rest) a w:=h
theorem cF (t:TypeId){bo:BinOp}{u:TypeId}{x y:Operand}(_:o.op= .binOp bo t x y u)(h:al (wpList P ops Q (o::rest) a w)):wpList P ops Q (o::rest) a w:=h
theorem Ak {t u:TypeId}{x:Operand}(_:o.op= .convert t u x)(h:al (wpList P ops Q (o::rest) a w)):wpList P ops Q (o::rest) a w:=h
theorem cx (hg:o.guard=none)(v:Value)(w1:World)(hr:(execOp a.eval o).run P w= .ok (.value v) w1)(h:wpList P ops Q rest (a.put o.dst v) w1):wpList P ops Q (o::rest) a w:=
 wpList_plain hg λK hK=>by
  unfold Oper.wp;rw[hr];exact hK _ _ h
theorem vA (hg:o.guard=none)(w1:World)(hr:(execOp a.eval o).run P w= .ok .skip w1)(h:wpList P ops Q rest (a.put o.dst undef) w1):wpList P ops Q (o::rest) a w:=
 wpList_plain hg λK hK=>by
  unfold Oper.wp;rw[hr];exact hK _ _ h
theorem bi (hg:o.guard=none)(t:TypeId)(ho:o.op= .alloc t)(z:Value)(hz:(P.info? t).map (·.zero)=some (some z))
  (h:∀(w1:World) (b:Nat),w.heap.size<=b->aO [] w w1->Row w1 b z.cells t->wpList P ops Q rest (a.put o.dst (.pointer (some ⟨b,0,none⟩))) w1):wpList P ops Q (o::rest) a w:=by
 refine cx hg _ (w.alloc (.cells z.cells t)) ?_ (h _ _ (Nat.le_refl _) (aO.alloc _ _ _) (Row.new _ _ _));cases hi:P.info? t with
 |none=>simp[hi] at hz
 |some i=>
  have hz':i.zero=some z:=by simpa [hi] using hz
  simp[execOp,ho,Instr.alloc,zeroValue,typeInfo,hi,hz',newVar,newRow,Sem.run_bind]
theorem ij (hg:o.guard=none)(t:TypeId)(x:Operand)(ho:o.op= .box t x)(v:Value)(hx:a.eval x=v)
  (h:∀(w1:World) (b:Nat),w.heap.size<=b->aO [] w w1->Row w1 b v.cells t->wpList P ops Q rest (a.put o.dst (.pointer (some ⟨b,0,none⟩))) w1):wpList P ops Q (o::rest) a w:=by
 refine cx hg _ (w.alloc (.cells v.cells t)) ?_ (h _ _ (Nat.le_refl _) (aO.alloc _ _ _) (Row.new _ _ _));simp[execOp,ho,hx,Instr.box,newVar,newRow]
theorem bU (hg:o.guard=none)(t:TypeId)(x:Operand)(ho:o.op= .load t x)(b off:Nat)(hx:a.eval x= .pointer (some ⟨b,off,none⟩))
  (hu:(P.underlying t).map TypeDesc.isRow=some true) (n:Nat) (hi:(P.info? t).map (·.size)=some n)
  (c:Array Value) (u:TypeId) (hr:Row w b c u) (vs:List Value) (hv:(c.toList.drop off).take n=vs) (hl:vs.length=n)
  (h:wpList P ops Q rest (a.put o.dst (.agg vs.toArray)) w):wpList P ops Q (o::rest) a w:=by
 obtain⟨d,hu',hd⟩:=Option.map_eq_some_iff.1 hu;refine wpList_load_mid hg t x ho b off hx vs d (λj v hj=>?_) hu' hd (by rw[hi,hl]) h;rw[hr.cell];subst hv;rw[List.getElem?_take] at hj;split at hj
 .simpa [List.getElem?_drop] using hj
 .cases hj
theorem nE (t:TypeId)(b off:Nat)(cells:Array Value)(n:Nat)(hi:(P.info? t).map (·.size)=some n)(hn:cells.size=n)(h1:∀v∈cells.toList,v.oneCell'=true)
  (c:Array Value) (u:TypeId) (hr:Row w b c u) (hfit:off+n<=c.size):
  (Instr.storeAt t (.pointer (some ⟨b,off,none⟩)) (.agg cells)).run P w= .ok () (w.setRow b (over c off cells.toList)):=by
 subst hn;have:=run_storeCells_at P b off u cells.toList 0 c w hr (by simpa using hfit) h1;cases hq:P.info? t with
 |none=>simp[hq] at hi
 |some i=>
  have hs:i.size=cells.size:=by simpa [hq] using hi
  simp only[Nat.add_zero] at this;simp[Instr.storeAt,Instr.sureAddr,storeVar,sizeOf,typeInfo,hq,Value.cells,hs,this,over,Sem.run_bind]
theorem bK (hg:o.guard=none)(t:TypeId)(x y:Operand)(ho:o.op= .store t x y)(b off:Nat)(hx:a.eval x= .pointer (some ⟨b,off,none⟩))
  (cells:Array Value) (hy:a.eval y= .agg cells) (n:Nat) (hi:(P.info? t).map (·.size)=some n) (hn:cells.size=n) (h1:∀v∈cells.toList,v.oneCell'=true)
  (c:Array Value) (u:TypeId) (hr:Row w b c u) (hfit:off+n<=c.size)
  (h:∀w1:World,aO [b] w w1->Row w1 b (over c off cells.toList) u->wpList P ops Q rest (a.put o.dst undef) w1):wpList P ops Q (o::rest) a w:=by
 refine vA hg (w.setRow b (over c off cells.toList)) ?_ (h _ (aO.setRow _ _ _ _) (hr.setRow _));have:=nE (P:=P) t b off cells n hi hn h1 c u hr hfit;simp[execOp,ho,hx,hy,this]
theorem lA {fn:Func}{R:Ending->World->Prop}{tp:Tmp}{ty:TypeId}(hf:fn.results=#[.cell tp ty])(b:Nat)(hp:a.tmps.getD tp undef= .pointer (some ⟨b,0,none⟩))(hd:a.defers=[])
  (c:Array Value) (u:TypeId) (hr:Row w b c u) (hu:(P.underlying ty).map TypeDesc.isRow=some true) (hi:(P.info? ty).map (·.size)=some c.size) (h:R (.returned (.agg c)) w):bodyPost P fn R .ret a w:=by
 obtain⟨d,hu',hd'⟩:=Option.map_eq_some_iff.1 hu;exact bodyPost_ret (results_cell_row hf a.tmps w b u c (0,0) d hp hr hu' (by revert hd' hu';cases d<;>intro x y<;>first|rfl|cases y) hi) hd h
end
end
section
open Go.Conc
def Ma (P:Program)(S E:FuncId->Bool)(str:Bool)(f:FuncId):Bool:=match P.funcs[f]? with
 |some fn=>!(fn.name== "runtime.NumGoroutine")&&(match fn.body with
  |some c=>xl P S E str c
  |none=>false)
 |none=>false
theorem CZ {P:Program}{S E:FuncId->Bool}{str:Bool}{f:FuncId}(h:Ma P S E str f=true):∃fn c,P.funcs[f]? =some fn/\(fn.name== "runtime.NumGoroutine")=false/\fn.body=some c/\xl P S E str c=true:=by
 unfold Ma at h;cases hf:P.funcs[f]? with
 |none=>simp[hf] at h
 |some fn=>
  rw[hf] at h;simp only[Bool.and_eq_true,Bool.not_eq_true'] at h;obtain⟨h1,h2⟩:=h;cases hb:fn.body with
  |none=>rw[hb] at h2;cases h2
  |some c=>rw[hb] at h2;exact⟨fn,c,rfl,h1,hb,h2⟩
theorem xH:(decide (Tryz.prog.globals.size<=1))=true:=by kernel_rfl
theorem Hq:Tryz.prog.cellsOf 1000000=0:=by kernel_rfl
def S1 (f:FuncId):Bool:=[166,51,83,82,81,114,115,116,117].contains f
theorem aaW:([166,51,83,82,81,114,115,116,117].all (Ma Tryz.prog S1 (λ_=>false) false))=true:=by kernel_rfl
theorem aaz:Stat Tryz.prog S1 (λ_=>false) false where
 yZ:=of_decide_eq_true xH
 tS:=Hq
 body:=λf hf=>by
  have h:f∈[166,51,83,82,81,114,115,116,117]:=by simpa [S1] using hf
  exact CZ (List.all_eq_true.1 aaW f h)
 ext:=λf hf=>by cases hf
def l0:List Nat:=[14,15,16,18,19,20,21,22,23,24,25,26,27,29,32,33,35,36,37,38,39,40,41,42,43,44,45,46,47,48,49,50,51,52,53,54,56,57,58,59,60,61,62,63,64,65,66,67,69,70,71,72,73,74,75,76,77,78,79,80,81,82,83,84,85,86,87,92,93,94,95,96,97,98,99,100,101,102,103,104,105,106,107,108,109,110,111,112,113,114,115,116,117,118,119,120,121,122,123,124,125,126,127,128,129,136,137,138,139,140,141,142,143,144,145,146,147,148,149,150,151,152,153,154,155,156,157,158,159,160,166,179,180,181,182,183,184,185,186,187,188,189,190,191,192,206,207,209,210,91]
def S0 (f:FuncId):Bool:=l0.contains f
def E0 (f:FuncId):Bool:=[161,205,208,211].contains f
theorem VO:l0.all (Ma Tryz.prog S0 E0 true)=true:=by kernel_rfl
theorem aaX (f:FuncId)(hf:f∈l0):Ma Tryz.prog S0 E0 true f=true:=List.all_eq_true.1 VO f hf
theorem y5:Extern.find Tryz.f161=some Extern.AbiNoEscape.same:=by kernel_rfl
theorem xO:Extern.find Tryz.f205=some Extern.BytealgIndexByte.indexByte:=by kernel_rfl
theorem find_index:Extern.find Tryz.f208=some Extern.BytealgIndex.index:=by kernel_rfl
theorem vq:Extern.find Tryz.f211=some (Extern.BytealgMakeNoZero.makeNoZero Tryz.f211.params Tryz.f211.resultTypes):=by kernel_rfl
theorem yS:(Extern.findNext Tryz.f161).isNone=true:=by kernel_rfl
theorem xm:(Extern.findNext Tryz.f205).isNone=true:=by kernel_rfl
theorem EX:(Extern.findNext Tryz.f208).isNone=true:=by kernel_rfl
theorem vi:(Extern.findNext Tryz.f211).isNone=true:=by kernel_rfl
theorem yT:(Tryz.f161.name== "runtime.NumGoroutine")=false:=by kernel_rfl
theorem xo:(Tryz.f205.name== "runtime.NumGoroutine")=false:=by kernel_rfl
theorem EZ:(Tryz.f208.name== "runtime.NumGoroutine")=false:=by kernel_rfl
theorem vj:(Tryz.f211.name== "runtime.NumGoroutine")=false:=by kernel_rfl
theorem zj:Tryz.f161.body.isNone=true:=by kernel_rfl
theorem yl:Tryz.f205.body.isNone=true:=by kernel_rfl
theorem FW:Tryz.f208.body.isNone=true:=by kernel_rfl
theorem vu:Tryz.f211.body.isNone=true:=by kernel_rfl
theorem BY:Stat Tryz.prog S0 E0 true where
 yZ:=of_decide_eq_true xH
 tS:=Hq
 body:=λf hf=>CZ (aaX f (by simpa [S0] using hf))
 ext:=λf hf π hi h0 N V args=>by
  have hf':f=161\/f=205\/f=208\/f=211:=by simpa [E0] using hf
  rcases hf' with rfl|rfl|rfl|rfl
  .exact mT Tryz.func161 yT zj (Option.isNone_iff_eq_none.1 yS) y5 (Au args)
  .exact mT Tryz.func205 xo yl (Option.isNone_iff_eq_none.1 xm) xO (yM args)
  .exact mT Tryz.func208 EZ FW (Option.isNone_iff_eq_none.1 EX) find_index (Aw h0 (of_decide_eq_true xH) args)
  .exact mT Tryz.func211 vj vu (Option.isNone_iff_eq_none.1 vi) vq (ww _ _ args)
theorem oP {P:Program}{Stop:(Nat->Prop)->Goroutine->World->Prop}(K:Nat->Prop){own:Nat->Prop}{g:Goroutine}{w:World}(h:aD P true li Stop own g w)(hK:∀q,K q->q<w.heap.size/\¬own q):
  aD P true li (λs g w'=>Stop s g w'/\(∀q,K q->¬s q/\w'.heap[q]? =w.heap[q]?)/\w'.output=w.output) own g w:=by
 obtain⟨r,h⟩:=h
 suffices key:∀w0:World,(∀q,K q->w.heap[q]? =w0.heap[q]?)->w.output=w0.output->aD P true li (λs g w'=>Stop s g w'/\(∀q,K q->¬s q/\w'.heap[q]? =w0.heap[q]?)/\w'.output=w0.output) own g w from key w (λ_ _=>rfl) rfl
 induction r generalizing own g w with
 |zero=>exactλw0 he ho=> .stop λw₁ hr=>⟨h w₁ hr,λq hq=>⟨(hK q hq).2,by obtain⟨d,rfl⟩:=hr;exact he q hq⟩,by obtain⟨d,rfl⟩:=hr;exact ho⟩
 |mk f ih=>
  intro w0 he ho;rcases h with h|⟨hs,h⟩
  .exact .stop λw₁ hr=>⟨h w₁ hr,λq hq=>⟨(hK q hq).2,by obtain⟨d,rfl⟩:=hr;exact he q hq⟩,by obtain⟨d,rfl⟩:=hr;exact ho⟩
  .refine aD.step hs λw₁ hr=>?_
   obtain⟨g',w',es,h1,h2,h3⟩:=h w₁ hr;obtain⟨d,rfl⟩:=hr;have h2':kv own (λ_=>False) (w.at d) w' es:=h2;exact⟨g',w',es,h1,h2,ih (w.at d) (λq hq=>⟨Nat.lt_of_lt_of_le (hK q hq).1 h2'.size,λhu=>hu.elim (hK q hq).2 λx=>by
    have h4:=(hK q hq).1;have h5:w.heap.size<=q:=x.1;omega⟩) h3 w0 (λq hq=>(h2'.keep q (hK q hq).1 (hK q hq).2).trans (he q hq)) (h2'.output.trans ho)⟩
theorem Link.less {H Z O RO:Nat->Prop}{π:Nat->Nat}{wL w:World}(h:Link H Z O RO π wL w)(K:Nat->Prop)(hK:∀b,gp H wL b->¬K (π b)):Link H Z (λb=>O b/\¬K b) RO π wL w:=
 ⟨h.inj,h.zero,h.lt,h.lw,h.wr,λb hv hz=>⟨h.own b hv hz,hK b hv⟩,h.ro⟩
theorem Apart.union {Shun:Loc->Prop}{own:Nat->Prop}{w:World}(h:Apart Shun own w)(K:Nat->Prop)(hK:∀q,K q->q<w.heap.size/\∀l,aF.ll q l->¬Shun l):Apart Shun (λb=>own b\/K b) w:=
 ⟨λb hb l hl=>hb.elim (λx=>h.off b x l hl) λx=>(hK b x).2 l hl,λb hb=>hb.elim (h.lt b) λx=>(hK b x).1,h.low,h.cell⟩
theorem Apart.part {Shun:Loc->Prop}{own own':Nat->Prop}{w:World}(h:Apart Shun own w)(hs:∀b,own' b->own b):Apart Shun own' w:=
 ⟨λb hb=>h.off b (hs b hb),λb hb=>h.lt b (hs b hb),h.low,h.cell⟩
theorem Link.wider {H Z O O' RO:Nat->Prop}{π:Nat->Nat}{wL w:World}(h:Link H Z O RO π wL w)(ho:∀b,O b->O' b):Link H Z O' RO π wL w:=⟨h.inj,h.zero,h.lt,h.lw,h.wr,λb hb hz=>ho _ (h.own b hb hz),h.ro⟩
theorem CY {P:Program}{S E:FuncId->Bool}{str:Bool}{o:Oper}(h:jZ P S E str o=true):eG (sl []) P S E str o=true:=by simp[eG,sl,h]
theorem rQ {π:Nat->Nat}(a:Act)(d:Option Tmp)(v:Value):(aY π a []).put d (Value.ren π v)=aY π (a.put d v) []:=hY a [] d v λ_ _=>by simp[sl]
theorem JO {π:Nat->Nat}(a:Act){x:Operand}(hx:nJ x=true):(aY π a []).eval x=Value.ren π (a.eval x):=k8 a [] hx (by cases x<;>rfl)
namespace ah
abbrev PP:Program:=Tryz.prog
abbrev no:Nat->Prop:=λ_=>False
structure Env where
 Ok:Machine->Trace->Prop
 back:∀N M t M' t',runNT PP N M t=(.next M',t')->Ok M' t'->Ok M t
 os:Os
 H:Nat->Prop
 K:Nat->Option Obj
 out:Array (Nat×ByteArray)
def KF (K:Nat->Option Obj)(Shun:Loc->Prop)(own:Nat->Prop)(w:World):Prop:=∀q o,K q=some o->¬own q/\w.heap[q]? =some o/\∀l,aF.ll q l->¬Shun l
def Osl (E:Env)(w:World):Prop:=ConcM.OsLater E.os w.os/\w.output=E.out
structure Bq (E:Env)(π:Nat->Nat)(wL:World)(M:Machine)(t:Trace)(g:Goroutine):Prop where
 ex:∃(Shun:Loc->Prop) (own:Nat->Prop) (w:World),Zero PP Shun M t g w/\Link E.H no own no π wL w/\Apart Shun own w/\Osl E w/\KF E.K Shun own w
abbrev VA (H:Nat->Prop)(wL:World)(c:Array Value):Prop:=∀v∈c,VV (gp H wL) v
section
variable {H Z O RO:Nat->Prop}{π:Nat->Nat}{wL w:World}
theorem _root_.Go.Proofs.YtchcmhodnkgojaaGreat.Link.ax (h:Link H Z O RO π wL w)(t:dX)(d:Nat):Link H Z O RO π (ax wL t d) w:=⟨h.inj,h.zero,h.lt,h.lw.ax t d,h.wr,h.own,h.ro⟩
theorem _root_.Go.Proofs.YtchcmhodnkgojaaGreat.Link.BJ {t:dX}{d:Nat}(h:Link H Z O RO π (ax wL t d) w):Link H Z O RO π wL w:=⟨h.inj,h.zero,h.lt,h.lw.ax wL.tape wL.drawn,h.wr,h.own,h.ro⟩
theorem _root_.Go.Proofs.YtchcmhodnkgojaaGreat.Link.at (h:Link H Z O RO π wL w)(d:Nat):Link H Z O RO π wL (w.at d):=
 ⟨h.inj,h.zero,h.lt,h.lw,⟨h.wr.inj,rfl,rfl,h.wr.lt,h.wr.ok,h.wr.hid,h.wr.nU,h.wr.low,h.wr.yy⟩,h.own,h.ro⟩
end
theorem Bq.ax {E:Env}{π:Nat->Nat}{wL:World}{M:Machine}{tr:Trace}{g:Goroutine}(t:dX)(d:Nat):Bq E π (ax wL t d) M tr g↔Bq E π wL M tr g:=
 ⟨λ⟨D,o,w,h1,h2,h3⟩=>⟨D,o,w,h1,h2.BJ,h3⟩,λ⟨D,o,w,h1,h2,h3⟩=>⟨D,o,w,h1,h2.ax t d,h3⟩⟩
theorem AO (own:Nat->Prop)(w:World):kv own no w w #[]:=⟨Nat.le_refl _,λ_ _ _=>rfl,rfl,rfl,rfl,by simp⟩
theorem Gk (s:Nat->Prop)(w:World):li.up s w w=s:=funext λb=>propext ⟨λh=>h.elim id λh=>by omega,.inl⟩
theorem kC {H:Nat->Prop}{π ce:Nat->Nat}{wL:World}{a:Act}(ha:VA H wL a.tmps)(h:∀b,b<wL.heap.size->ce b=π b)(D:kf):aY π a D=aY ce a D:=by
 unfold aY;rw[kU λv hv r x=>(h r (ha v hv r x).1).symm]
theorem VA.grow {H:Nat->Prop}{wL bu:World}{c:Array Value}(h:VA H wL c)(hs:wL.heap.size<=bu.heap.size):VA H bu c:=λv hv=>(h v hv).weak λ_ hi=>⟨Nat.lt_of_lt_of_le hi.1 hs,hi.2⟩
section
variable (Ok:Env)
def CI (f:FuncId)(t:List Item)(R:Act->World->Prop)(a:Act)(wL:World):Prop:=
 ∀(CS:List Frame) (π:Nat->Nat) (M:Machine) (tr:Trace),Bq Ok π wL M tr (G ((base f).at (aY π a []) t) CS)->VA Ok.H wL a.tmps->a.defers=[]->
  (∀(a':Act) (bu:World) (ce:Nat->Nat) (M':Machine) (j7:Trace) (todo:List Item),(∃t d,R a' (ax bu t d))->Bq Ok ce bu M' j7 (G {(base f).at (aY ce a' []) todo with mode:= .returning} CS)->
   VA Ok.H bu a'.tmps->a'.defers=[]->(∀b,b<wL.heap.size->ce b=π b)->wL.heap.size<=bu.heap.size->Ok.Ok M' j7)->Ok.Ok M tr
def CC (f:FuncId)(args:Array Value)(R:Value->World->Prop)(wL:World):Prop:=
 ∀(c:Frame) (CS:List Frame) (π:Nat->Nat) (M:Machine) (tr:Trace),Bq Ok π wL M tr (G (Frame.enter PP f (args.map (Value.ren π)) .normal) (c::CS))->VA Ok.H wL args->
  (∀(v:Value) (bu:World) (ce:Nat->Nat) (M':Machine) (j7:Trace),(∃t d,R v (ax bu t d))->Bq Ok ce bu M' j7 (G (c.finish (Value.ren ce v)) CS)->VV (gp Ok.H bu) v->
   (∀b,b<wL.heap.size->ce b=π b)->wL.heap.size<=bu.heap.size->Ok.Ok M' j7)->Ok.Ok M tr
end
section
variable {Ok:Env}{f:FuncId}{k t:List Item}{R:Act->World->Prop}{a:Act}{wL:World}
theorem nr (t':dX)(d:Nat):CI Ok f t R a (ax wL t' d)↔CI Ok f t R a wL:=
 ⟨λh CS π M tr hp=>h CS π M tr ((Bq.ax t' d).2 hp),λh CS π M tr hp=>h CS π M tr ((Bq.ax t' d).1 hp)⟩
theorem CI.mono {R':Act->World->Prop}(h:CI Ok f t R a wL)(hr:∀a w,R a w->R' a w):CI Ok f t R' a wL:=λCS π M tr hp ha hd hk=>
 h CS π M tr hp ha hd λa' bu ce M' j7 todo ⟨t,d,hR⟩=>hk a' bu ce M' j7 todo ⟨t,d,hr _ _ hR⟩
theorem CC.mono {args:Array Value}{R R':Value->World->Prop}(h:CC Ok f args R wL)(hr:∀v w,R v w->R' v w):CC Ok f args R' wL:=λc CS π M tr hp ha hk=>
 h c CS π M tr hp ha λv bu ce M' j7 ⟨t,d,hR⟩=>hk v bu ce M' j7 ⟨t,d,hr _ _ hR⟩
theorem kD {π:Nat->Nat}{M:Machine}{tr:Trace}{g:Goroutine}{Stop:(Nat->Prop)->Goroutine->World->Prop}(hp:Bq Ok π wL M tr g)
  (h:∀(own:Nat->Prop) (w:World),Link Ok.H no own no π wL w->aD PP true li Stop own g w)
  (hk:∀(Shun:Loc->Prop) (s:Nat->Prop) (g':Goroutine) (w':World) (M':Machine) (j7:Trace),Zero PP Shun M' j7 g' w'->Stop s g' w'->Apart Shun s w'/\Osl Ok w'/\KF Ok.K Shun s w'->Ok.Ok M' j7):Ok.Ok M tr:=by
 obtain⟨D,o,w,h1,h2,h3,h4,h5⟩:=hp;obtain⟨N,M',t',g',w',e1,e2,⟨s',⟨e3,e3k,e3o⟩,e4⟩,e5,_⟩:=kW h1 (vL (oP (λq=>∃o,Ok.K q=some o) (h o w h2) λq ⟨o',ho⟩=>⟨(Array.getElem?_eq_some_iff.1 (h5 q o' ho).2.1).1,(h5 q o' ho).1⟩) h3)
 exact Ok.back _ _ _ _ _ e1 (hk _ _ _ _ _ _ e2 e3 ⟨e4,⟨by rw[e5];exact h4.1,e3o.trans h4.2⟩,λq o' ho=>⟨(e3k q ⟨o',ho⟩).1,(e3k q ⟨o',ho⟩).2.trans (h5 q o' ho).2.1,(h5 q o' ho).2.2⟩⟩)
theorem eu {π:Nat->Nat}{M:Machine}{tr:Trace}{fr:Frame}{cs:List Frame}{g':Goroutine}(hp:Bq Ok π wL M tr (G fr cs))(hs:∀w,stepG PP true (G fr cs) w= .go g' w)
  (hk:∀(M':Machine) (j7:Trace),Bq Ok π wL M' j7 g'->Ok.Ok M' j7):Ok.Ok M tr:=by
 refine kD (Stop:=λs g w=>g=g'/\Link Ok.H no s no π wL w) hp (λown w hl=>?_) λDead s g w M' j7 hz ⟨e,hl⟩ hd=>hk M' j7 ⟨Dead,s,w,e▸hz,hl,hd⟩
 refine aD.silent rfl hs (λw₁ _=>AO _ _) (λw₁=>Gk _ _) (.stop λw₁ ⟨d,e⟩=>⟨rfl,?_⟩);rw[e];exact hl.at d
theorem jH {t':List Item}(hs:∀(b:Act) (CS:List Frame) (w:World),(∀x,a.eval x= .bool true->b.eval x= .bool true)->(∀x,a.eval x= .bool false->b.eval x= .bool false)->stepG PP true (G ((base f).at b t) CS) w= .go (G ((base f).at b t') CS) w)
  (h:CI Ok f t' R a wL):CI Ok f t R a wL:=λCS π M tr hp ha hd hk=>by
 have ev:∀(x:Operand) (t:Bool),a.eval x= .bool t->(aY π a []).eval x= .bool t:=λx t hx=>by
  cases x with
  |tmp i=>
   show(a.tmps.map (Value.ren π)).getD i undef=_;rw[jQ,show a.tmps.getD i undef=_ from hx];simp
  |const v=>exact hx
  |global g=>cases hx
  |func f=>cases hx
 exact eu hp (hs _ _ · (λx=>ev x true) λx=>ev x false) λM' j7 hp'=>h CS π M' j7 hp' ha hd hk
theorem cQ {x y:Code}(h:CI Ok f (.code x::.code y::k) R a wL):CI Ok f (.code (.seq x y)::k) R a wL:=jH (λ_ _ _ _ _=>stepG_seq) h
theorem yc {id:Nat}{c:Code}(h:CI Ok f (.code c::.inBlock id::k) R a wL):CI Ok f (.code (.block id c)::k) R a wL:=jH (λ_ _ _ _ _=>stepG_block) h
theorem ya {id:Nat}(h:CI Ok f k R a wL):CI Ok f (.inBlock id::k) R a wL:=jH (λ_ _ _ _ _=>stepG_inBlock) h
theorem R0 {c:Code}(h:CI Ok f (.code c::.inLoop c::k) R a wL):CI Ok f (.code (.loop c)::k) R a wL:=jH (λ_ _ _ _ _=>stepG_loop) h
theorem J9 {c:Code}(h:CI Ok f (.code c::.inLoop c::k) R a wL):CI Ok f (.inLoop c::k) R a wL:=jH (λ_ _ _ _ _=>stepG_inLoop) h
theorem Hm (h:CI Ok f k R a wL):CI Ok f (.code .skip::k) R a wL:=jH (λ_ _ _ _ _=>stepG_skip) h
theorem Hp {id:Nat}{k':List Item}(he:exitTo id k=some k')(h:CI Ok f k' R a wL):CI Ok f (.code (.exit id)::k) R a wL:=jH (λ_ _ _ _ _=>stepG_exit he) h
theorem nu {x:Operand}{p q:Code}{b:Bool}(hx:a.eval x= .bool b)(h:CI Ok f (.code (if b then p else q)::k) R a wL):CI Ok f (.code (.cond x p q)::k) R a wL:=by
 refine jH (λb' CS w h1 h2=>?_) h;cases b with
 |true=>exact stepG_cond (h1 x hx)
 |false=>exact stepG_cond (h2 x hx)
theorem dz {id:Nat}{ops:Array Oper}(h:CI Ok f (.inRegion ops (List.range ops.size)::k) R a wL):CI Ok f (.code (.region id ops false)::k) R a wL:=jH (λ_ _ _ _ _=>stepG_region) h
theorem co {ops:Array Oper}(h:CI Ok f k R a wL):CI Ok f (.inRegion ops []::k) R a wL:=jH (λ_ _ _ _ _=>stepG_region_end) h
theorem FK (h:R a wL):CI Ok f (.code .ret::k) R a wL:=λCS π M tr hp ha hd hk=>
 eu hp (λw=>stepG_ret') λM' j7 hp'=>hk a wL π M' j7 _ ⟨wL.tape,wL.drawn,h⟩ hp' ha hd (λ_ _=>rfl) (Nat.le_refl _)
def after (Ok:Env)(fS:Option Nat)(f:FuncId)(k:List Item)(R:Act->World->Prop):Exit->Act->World->Prop
 |.normal,a,w=>CI Ok f k R a w
 |.exit id,a,w=>fS=some id/\∃k',exitTo id k=some k'/\CI Ok f k' R a w
 |.ret,a,w=>∃t d,R a (ax w t d)
 |_,_,_=>False
theorem IY {fS:Option Nat}:QOk fS (after Ok fS f k R) where
 tape:=λe a w t d=>by
  cases e with
  |normal=>exact nr t d
  |exit id=>exact and_congr Iff.rfl (exists_congr λk'=>and_congr Iff.rfl (nr t d))
  |ret=>exact Iff.rfl
  |_=>exact Iff.rfl
 out:=λe a w h=>by
  cases e with
  |normal=>exact .inl rfl
  |ret=>exact .inr (.inl rfl)
  |exit id=>exact .inr (.inr ⟨id,rfl,h.1⟩)
  |_=>exact h.elim
theorem Ho {t0:List Item}(fS:Option Nat)(h0:∃fn,PP.funcs[f]? =some fn)(Bv:∀it∈t0,AS PP S0 E0 true it=true)(hx:∀id,fS=some id->∃y,exitTo id k=some y)
  (hwp:∀t d,WpT PP t0 (after Ok fS f k R) a (ax wL t d)):CI Ok f (t0++k) R a wL:=λCS π M tr hp ha hd hk=>by
 refine kD hp (λown w hl=>Mr BY (λ_ _ h=>h) h0 xC IY (B:=base f) (D0:=[]) (CS:=CS) (kT:=k) rfl (by simp[base]) hx Bv hl ha hd hwp) ?_;rintro Dead s g w M' j7 hz ⟨e,a',bu,ce,q,hl,hd',ha',hg,hag,hsz⟩ hs;have go:∀k',g=G ((base f).at (aY ce a' []) k') CS->CI Ok f k' R a' bu->Ok.Ok M' j7:=λk' e h=>
  h CS ce M' j7 ⟨Dead,s,w,e▸hz,hl,hs⟩ ha' hd' λa2 BH vb M2 BN todo r p v d g2 z=>hk a2 BH vb M2 BN todo r p v d (λb hb=>(g2 b (Nat.lt_of_lt_of_le hb hsz)).trans (hag b hb)) (Nat.le_trans hsz z)
 cases e with
 |normal=>exact go k hg q
 |exit id=>
  obtain⟨_,k',h1,h2⟩:=q;obtain⟨y,h3,h4⟩:=hg;rw[h1] at h3;cases h3;exact go k' h4 h2
 |ret=>
  obtain⟨todo,rfl⟩:=hg;exact hk a' bu ce M' j7 todo q ⟨Dead,s,w,hz,hl,hs⟩ ha' hd' hag hsz
 |_=>exact q.elim
theorem cU {cd:Code}(fS:Option Nat)(h0:∃fn,PP.funcs[f]? =some fn)(Bv:xl PP S0 E0 true cd=true)(hx:∀id,fS=some id->∃y,exitTo id k=some y)
  (I:World->Prop) (hb:∀w t d,I w->I (ax w t d)) (hI:I wL) (hwp:∀w,I w->w.heap.size=wL.heap.size->cd.wp PP (after Ok fS f k R) a w):CI Ok f (.code cd::k) R a wL:=
 Ho (t0:=[.code cd]) fS h0 (λit hit=>by simp at hit;subst hit;exact Bv) hx λt d=>hwp _ (hb _ t d hI) rfl
theorem RZ {ops:Array Oper}{l:List Nat}(fS:Option Nat)(h0:∃fn,PP.funcs[f]? =some fn)(Bv:AS PP S0 E0 true (.inRegion ops l)=true)(hx:∀id,fS=some id->∃y,exitTo id k=some y)
  (I:World->Prop) (hb:∀w t d,I w->I (ax w t d)) (hI:I wL) (hwp:∀w,I w->w.heap.size=wL.heap.size->wpOps PP ops (after Ok fS f k R) l a w):CI Ok f (.inRegion ops l::k) R a wL:=
 Ho (t0:=[.inRegion ops l]) fS h0 (λit hit=>by simp at hit;subst hit;exact Bv) hx λt d b k cs=>wp_ops l a _ (hwp _ (hb _ t d hI) rfl) b k cs
theorem TD {ops:Array Oper}{i:Nat}{rest:List Nat}{o:Oper}(ho:ops[i]? =some o)(qk:jZ PP S0 E0 true o=true)(hg:o.guard=none)
  (h:∀t d,uponE o a (λa' w'=>CI Ok f (.inRegion ops rest::k) R a' w') (λ_ _ _=>False) ((execOp a.eval o).run PP (ax wL t d))):CI Ok f (.inRegion ops (i::rest)::k) R a wL:=λCS π M tr hp ha hd hk=>by
 have hwd:∀c:Array Value,Region.wanted o (yielded ops c)=true:=λc=>by simp[Region.wanted,hg]
 have hkb:(base f).kind≠.early:=by simp[base]
 refine kD (Stop:=λs g w=>∃a' bu ce,CI Ok f (.inRegion ops rest::k) R a' bu/\g=G ((base f).at (aY ce a' []) (.inRegion ops rest::k)) CS/\Link Ok.H no s no ce bu w/\VA Ok.H bu a'.tmps/\a'.defers=[]/\(∀b,b<wL.heap.size->ce b=π b)/\wL.heap.size<=bu.heap.size) hp (λown w hl=>?_) ?_
 .refine aD.step rfl λw₁ hR=>?_
  obtain⟨r1,r2,r3⟩:=xC.rel own w w₁ hR;obtain⟨ce,hl',GW,hag⟩:=hl.rely r1 r2 r3;have hl1:LW Ok.H no (ax wL w₁.tape w₁.drawn):=hl'.lw.ax _ _;have eπ:aY π a []=aY ce a []:=kC ha (λb hb=>(GW b hb).symm) [];have h1:=h w₁.tape w₁.drawn
  have both:=fun {x bu} (hr:(execOp a.eval o).run PP (ax wL w₁.tape w₁.drawn)= .ok x bu)=>nA BY hl'.inj hl'.zero (λ_ _ h=>h) hl1 hl'.wr [] ha (CY qk) hr λi _=>hag i
  cases hr:(execOp a.eval o).run PP (ax wL w₁.tape w₁.drawn) with
  |halt hh u=>rw[hr] at h1;exact h1.elim
  |ok nx u=>
   rw[hr] at h1;obtain⟨l1,l2,x',w',e1,e2,e3,e4,e5,e6⟩:=both hr;obtain⟨o1,o2⟩:=hl'.rT (λi _=>hag i) l1 l2 e3 e4 (λe he=>e5 e (mem_listed (fn:=(base f).fn) he))
   have fin:∀v:Value,CI Ok f (.inRegion ops rest::k) R (a.put o.dst v) u->VV (gp Ok.H u) v->aD PP true li (λs g w=>∃a' bu ce,CI Ok f (.inRegion ops rest::k) R a' bu/\g=G ((base f).at (aY ce a' []) (.inRegion ops rest::k)) CS/\Link Ok.H no s no ce bu w/\VA Ok.H bu a'.tmps/\a'.defers=[]/\(∀b,b<wL.heap.size->ce b=π b)/\wL.heap.size<=bu.heap.size)
     (li.up own w₁ w') (G ((base f).at (aY ce (a.put o.dst v) []) (.inRegion ops rest::k)) CS) w':=λv hc hv=>
    .stop λw₂ ⟨d,e⟩=>⟨_,u,ce,hc,rfl,by rw[e];exact(o2 _ λb=>Iff.rfl).at d,jt (VA.grow ha l2) hv,(put_defers _ _ _).trans hd,λb hb=>(GW b hb).symm,l2⟩
   cases nx with
   |value v=>
    cases e2;refine⟨_,w',_,by rw[eπ];exact stepG_value ho (hwd _) hkb e1,o1,?_⟩;rw[rQ];exact fin v h1 e6
   |skip=>
    cases e2;refine⟨_,w',_,by rw[eπ];exact stepG_none ho (hwd _) hkb e1,o1,?_⟩;have e:(aY ce a []).put o.dst undef=aY ce (a.put o.dst undef) []:=by
     have:=rQ (π:=ce) a o.dst undef
     rwa [show Value.ren ce undef=undef by simp[undef]] at this
    rw[e];exact fin undef h1 gG
   |_=>exact h1.elim
 .rintro Dead s g w M' j7 hz ⟨a',bu,ce,hc,rfl,hl,ha',hd',hag,hsz⟩ hs
  exact hc CS ce M' j7 ⟨Dead,s,w,hz,hl,hs⟩ ha' hd' λa2 BH vb M2 BN todo r p v d g2 z=>hk a2 BH vb M2 BN todo r p v d (λb hb=>(g2 b (Nat.lt_of_lt_of_le hb hsz)).trans (hag b hb)) (Nat.le_trans hsz z)
theorem R4 {ops:Array Oper}{i:Nat}{rest:List Nat}{o:Oper}{f2:FuncId}{xs:Array Operand}{R2:Value->World->Prop}(ho:ops[i]? =some o)(hg:o.guard=none)(hxs:xs.all nJ=true)
  (hrun:∀(b:Act) (w:World),(execOp b.eval o).runT PP w #[]=(.ok (.enter f2 (xs.map b.eval)) w,#[])) (hcc:CC Ok f2 (xs.map a.eval) R2 wL)
  (h:∀v w',R2 v w'->wL.heap.size<=w'.heap.size->CI Ok f (.inRegion ops rest::k) R (a.put o.dst v) w'):CI Ok f (.inRegion ops (i::rest)::k) R a wL:=λCS π M tr hp ha hd hk=>by
 have hwd:∀c:Array Value,Region.wanted o (yielded ops c)=true:=λc=>by simp[Region.wanted,hg]
 have hkb:(base f).kind≠.early:=by simp[base]
 have hev:xs.map (aY π a []).eval=(xs.map a.eval).map (Value.ren π):=by
  rw[Array.map_map];exact Array.map_congr_left λx hx=>JO a (Array.all_eq_true_iff_forall_mem.1 hxs x hx)
 have hr:∀w,(execOp (aY π a []).eval o).run PP w= .ok (.enter f2 ((xs.map a.eval).map (Value.ren π))) w:=λw=>by rw[<-Sem.runT_fst PP _ w #[],hrun,hev]
 have hl0:∀w,listed PP (base f).fn (aY π a []) o w=#[]:=λw=>by
  unfold listed;rw[show(execOp (aY π a []).eval o).events PP w #[]=#[] from congrArg Prod.snd (hrun _ w)];simp[seen]
 refine eu hp (λw=>by rw[stepG_enter ho (hwd _) hkb (hr w),hl0]) λM1 Il hp1=>?_
 refine hcc _ CS π M1 Il hp1 (λv hv=>?_) λv bu ce M' j7 ⟨t,d,hR⟩ hp' hv hag hsz=>?_
 .obtain⟨x,hx,rfl⟩:=Array.mem_map.1 hv
  exact lI ha (Array.all_eq_true_iff_forall_mem.1 hxs x hx)
 .have hc:CI Ok f (.inRegion ops rest::k) R (a.put o.dst v) bu:=(nr t d).1 (h v _ hR hsz)
  have e:((base f).at (aY π a []) (.inRegion ops (i::rest)::k)).finish (Value.ren ce v)=(base f).at (aY ce (a.put o.dst v) []) (.inRegion ops rest::k):=by
   rw[Frame.finish_at,ho,Option.bind_some,kC ha hag,rQ]
  rw[e] at hp';exact hc CS ce M' j7 hp' (jt (VA.grow ha hsz) hv) ((put_defers _ _ _).trans hd) λa2 BH vb M2 BN todo r p v d g2 z=>hk a2 BH vb M2 BN todo r p v d (λb hb=>(g2 b (Nat.lt_of_lt_of_le hb hsz)).trans (hag b hb)) (Nat.le_trans hsz z)
theorem DO {c:Code}(I:Act->World->Prop)(μ:Act->World->Nat)(h0:I a wL)
  (round:∀a w,I a w->(∀a' w',I a' w'->μ a' w'<μ a w->CI Ok f (.inLoop c::k) R a' w')->CI Ok f (.code c::.inLoop c::k) R a w):CI Ok f (.code (.loop c)::k) R a wL:=by
 have key:∀n a w,I a w->μ a w=n->CI Ok f (.code c::.inLoop c::k) R a w:=by
  intro n
  induction n using Nat.strongRecOn with
  |_ n ih=>exactλa w hI hn=>round a w hI λa' w' hI' hl=>J9 (ih _ (hn▸hl) a' w' hI' rfl)
 exact R0 (key _ _ _ h0 rfl)
def TB (fn:Func)(R2:Value->World->Prop)(a:Act)(w:World):Prop:=∃v,(results fn a.tmps).run PP w= .ok v w/\R2 v w
theorem AH {H Z:Nat->Prop}{w:World}(hl:LW H Z w){fn:Func}{c:Array Value}{v:Value}{t:dX}{d:Nat}(hr:(results fn c).run PP (ax w t d)= .ok v (ax w t d))(t2:dX)(d2:Nat):
  (results fn c).run PP (ax w t2 d2)= .ok v (ax w t2 d2):=by
 have Dj:=ls (P:=PP) (π:=id) (N:=λb=>H b\/Z b) (V:=gp H w) fn c;have hrT:(results fn c).runT PP (ax w t d) #[]=(.ok v (ax w t d),(results fn c).events PP (ax w t d) #[]):=by rw[Sem.runT_eq,hr]
 obtain⟨k,hk1,hk2⟩:=Dj.ED hl.zN (λb hb=>hl.low b hb) hrT;have e:d=d+k:=congrArg World.drawn hk1;obtain rfl:k=0:=by omega
 have:=hk2 t2 d2 λi hi=>by omega
 rw[<-Sem.runT_fst PP _ _ #[],this];rfl
theorem k9 {fn:Func}{cd:Code}{args:Array Value}{R2:Value->World->Prop}(hf:PP.funcs[f]? =some fn)(hb:fn.body=some cd)
  (h:CI Ok f [.code cd] (TB fn R2) {tmps:=args++Array.replicate (fn.ntmps-args.size) undef,defers:=[]} wL):CC Ok f args R2 wL:=λc CS π M tr hp ha hk=>by
 rw[enter_at _ hf hb] at hp;have er:aY π {tmps:=args++Array.replicate (fn.ntmps-args.size) undef,defers:=[]} []={tmps:=args.map (Value.ren π)++Array.replicate (fn.ntmps-(args.map (Value.ren π)).size) undef,defers:=[]}:=by
  simp[aY,xj,undef]
 rw[<-er] at hp;refine h (c::CS) π M tr hp (λv hv=>?_) rfl λa' bu ce M' j7 todo ⟨t,d,v,hr,hR⟩ hp' ha' hd' hag hsz=>?_
 .rcases Array.mem_append.1 hv with hv|hv
  .exact ha v hv
  .rw[(Array.mem_replicate.1 hv).2];exact gG
 refine kD (Stop:=λs g w=>∃vb,g=G (c.finish (Value.ren vb v)) CS/\Link Ok.H no s no vb bu w/\VV (gp Ok.H bu) v/\∀b,b<bu.heap.size->vb b=ce b) hp' (λown w hl=>?_) ?_
 .refine aD.step rfl λw₁ Tj=>?_
  obtain⟨r1,r2,r3⟩:=xC.rel own w w₁ Tj;obtain⟨vb,hl',GW,Q9⟩:=hl.rely r1 r2 r3;have hl1:LW Ok.H no (ax bu w₁.tape w₁.drawn):=hl'.lw.ax _ _;have hr1:=AH hl'.lw hr w₁.tape w₁.drawn;obtain⟨l1,l2,w',e1,e3,e4,e5,e6⟩:=nz BY hl'.inj hl1 hl'.wr ha' fn hr1 λi _=>Q9 i
  obtain⟨o1,o2⟩:=hl'.rT (λi _=>Q9 i) l1 l2 e3 e4 (es:=seen PP f ((results fn (a'.tmps.map (Value.ren vb))).events PP w₁ #[])) (λe he=>e5 e (by simpa using mem_seen (by simpa using he)));have hT:=Ba hf (main:=true) (b:=base f) (a:=aY vb a' []) (todo:=todo) (cr:=c) (Eg:=CS) (w:=w₁) rfl rfl rfl;rw[show(aY vb a' []).tmps=a'.tmps.map (Value.ren vb) from rfl,e1] at hT
  simp only[GStep.after] at hT;refine⟨_,w',_,by rw[kC ha' (λb hb=>(GW b hb).symm) []];exact hT,(show kv own no w₁ w' _ by simpa using o1),.stop λw₂ ⟨d2,e⟩=>⟨vb,rfl,?_,e6,λb hb=>(GW b hb).symm⟩⟩;rw[e];exact((o2 _ λb=>Iff.rfl).BJ).at d2
 .rintro Dead s g w M2 BN hz ⟨vb,rfl,hl,hv,Q9⟩ hs
  exact hk v bu vb M2 BN ⟨t,d,hR⟩ ⟨Dead,s,w,hz,hl,hs⟩ hv (λb hb=>(Q9 b (Nat.lt_of_lt_of_le hb hsz)).trans (hag b hb)) hsz
end
def OB (Post:Value->World->Prop)(M:Machine)(t:Trace):Prop:=∃N last o w' t',runNT PP (N+1) M t=(.ended o w',t')/\runN PP N M= .next last/\step PP last= .ended o w'/\Go.Conc.Good PP Post last o w' t'
theorem IP (Post:Value->World->Prop)(N:Nat)(M:Machine)(t:Trace)(M':Machine)(t':Trace)(h:runNT PP N M t=(.next M',t'))(k:OB Post M' t'):OB Post M t:=by
 obtain⟨n,last,o,w',t2,h1,h2,h3,h4⟩:=k;refine⟨N+n,last,o,w',t2,?_,?_,h3,h4⟩
 .rw[Nat.add_assoc,runNT_add,h]
  exact h1
 .rw[runN_add,show runN PP N M= .next M' by rw[<-runNT_fst PP N M t,h]]
  exact h2
def TA (Post:Value->World->Prop)(W:World)(H:Nat->Prop)(K:Nat->Option Obj):Env:=⟨OB Post,IP Post,W.os,H,K,W.output⟩
end ah
end
section
open Go.RowKit Go.Lib
structure DS where
 aR:List UInt8
 waiting:List (Int×List UInt8)
 acts:Int
 given:Bool
 left:Int
 keep:Int
 failed:Bool
def dI (p:Int×List UInt8):List Value:= .int .i64 p.1::byteCells p.2
def kg (l:List (Int×List UInt8)):List Value:=l.flatMap dI
def ir (bl n:Nat)(vw:Value)(x:DS):Array Value:=
 #[.slice (some ⟨bl,0,none⟩) n n,vw,.int .i64 x.acts,.bool x.given,.int .i64 x.left,.int .i64 x.keep,.bool x.failed]
theorem jS {w:World}{d bl n:Nat}{vw:Value}{x:DS}{t:TypeId}(h:Row w d (ir bl n vw x) t):
  w.cell? ⟨d,0,none⟩=some (.slice (some ⟨bl,0,none⟩) n n)/\w.cell? ⟨d,1,none⟩=some vw/\w.cell? ⟨d,2,none⟩=some (.int .i64 x.acts)/\w.cell? ⟨d,3,none⟩=some (.bool x.given)/\
  w.cell? ⟨d,4,none⟩=some (.int .i64 x.left)/\w.cell? ⟨d,5,none⟩=some (.int .i64 x.keep)/\w.cell? ⟨d,6,none⟩=some (.bool x.failed):=by
 refine⟨?_,?_,?_,?_,?_,?_,?_⟩<;>rw[h.cell]<;>rfl
structure bv (w:World)(d bl n:Nat)(vw:Value)(x:DS):Prop where
 row:Row w d (ir bl n vw x) 134
 last:Row w bl (byteCells x.aR).toArray 148
 len:x.aR.length=64*n
 own:w.ownsRow 0 240 65 vw x.waiting.length (kg x.waiting)
 d8:∀p∈x.waiting,p.2.length=64
 within:∀p∈x.waiting,0<=p.1/\p.1<n
 lo:16<=n
 hi:n<=400
 few:x.waiting.length<=60
 ne:d≠bl
 ne1:vw.ownBlock≠some d
 Bw:vw.ownBlock≠some bl
 nil:x.waiting=[]->vw= .slice none 0 0
theorem bv.vO {w w':World}{S:List Nat}{d bl n:Nat}{vw:Value}{x:DS}(h:bv w d bl n vw x)(f:aO S w w')(h1:d∉S)(h2:bl∉S)(h3:∀k∈S,vw.ownBlock≠some k):bv w' d bl n vw x:=
 {h with row:=f.row h.row h1,last:=f.row h.last h2,own:=f.owns h.own h3}
theorem L0 {w:World}{base:Nat}{e:TypeId}{size:Nat}{v:Value}{n:Nat}{xs:List Value}(h:w.ownsRow base e size v n xs){k:Nat}(hk:v.ownBlock=some k):k<w.heap.size:=(h.lt k hk).2
theorem bv.new {w w':World}{S:List Nat}{d bl n:Nat}{vw:Value}{x:DS}(h:bv w d bl n vw x)(f:aO S w w')(hS:∀k∈S,w.heap.size<=k:=by simp):bv w' d bl n vw x:=by
 have l1:=h.row.lt;have l2:=h.last.lt;exact h.vO f (λhs=>by have:=hS _ hs;omega) (λhs=>by have:=hS _ hs;omega) (λk hk e=>by have:=hS _ hk;have:=L0 h.own e;omega)
theorem bv.reset {w w':World}{d bl n:Nat}{vw:Value}{x y:DS}(h:bv w d bl n vw x)(f:aO [d] w w')(hr:Row w' d (ir bl n vw y) 134)(h1:y.aR=x.aR)(h2:y.waiting=x.waiting):bv w' d bl n vw y:=by
 have hl:=f.row h.last (by simpa usingλe=>h.ne e.symm);have ho:=f.owns h.own (by simpa using h.ne1);exact {row:=hr,last:=by rw[h1];exact hl,len:=by rw[h1];exact h.len,own:=by rw[h2];exact ho,d8:=by rw[h2];exact h.d8,within:=by rw[h2];exact h.within,lo:=h.lo,hi:=h.hi,few:=by rw[h2];exact h.few,ne:=h.ne,ne1:=h.ne1,Bw:=h.Bw,nil:=by rw[h2];exact h.nil}
def seenIn (aR:List UInt8)(waiting:List (Int×List UInt8))(s:Int):List UInt8:=
 waiting.foldl (λb p=>if p.1=s then p.2 else b) ((aR.drop (64*s.toNat)).take 64)
def DS.read (x:DS)(s:Int):List UInt8:=seenIn x.aR x.waiting s
theorem ai (l:List UInt8):(byteCells l).length=l.length:=by simp[byteCells]
theorem eV (l:List UInt8)(n:Nat):(byteCells l).take n=byteCells (l.take n):=by simp[byteCells,List.map_take]
theorem eW (l:List UInt8)(n:Nat):(byteCells l).drop n=byteCells (l.drop n):=by simp[byteCells,List.map_drop]
theorem byteCells_append (l m:List UInt8):byteCells (l++m)=byteCells l++byteCells m:=by simp[byteCells]
theorem byteCells_one (l:List UInt8):∀v∈byteCells l,v.oneCell'=true:=by
 intro v hv;simp only[byteCells,List.mem_map] at hv;obtain⟨b,_,rfl⟩:=hv;rfl
theorem bW (p:Int×List UInt8)(h:p.2.length=64):(dI p).length=65:=by simp[dI,byteCells,h]
theorem qZ:∀(l:List (Int×List UInt8)),(∀p∈l,p.2.length=64)->∀k,(kg l).drop (k*65)=kg (l.drop k)
 |_,_,0=>by simp
 |[],_,k+1=>by simp[kg]
 |p::r,h,k+1=>by
  have:=qZ r (λq hq=>h q (by simp[hq])) k;simp only[kg,List.flatMap_cons,List.drop_succ_cons] at this⊢;rw[List.drop_append,bW p (h p (by simp)),List.drop_eq_nil_of_le (by rw[bW p (h p (by simp))];omega)];simpa [Nat.add_mul] using this
theorem qt (l:List (Int×List UInt8))(h:∀p∈l,p.2.length=64)(k:Nat)(hk:k<l.length):((kg l).drop (k*65)).take 65=dI l[k]:=by
 rw[qZ l h k,List.drop_eq_getElem_cons hk];simp only[kg,List.flatMap_cons];rw[List.take_append_of_le_length (by rw[bW _ (h _ (List.getElem_mem hk))];omega),List.take_of_length_le (by rw[bW _ (h _ (List.getElem_mem hk))];omega)]
theorem ui (la:List UInt8)(l:List (Int×List UInt8))(s:Int)(k:Nat)(hk:k<l.length):
  seenIn la (l.take (k+1)) s=if l[k].1=s then l[k].2 else seenIn la (l.take k) s:=by
 unfold seenIn;rw[List.take_succ_eq_append_getElem hk,List.foldl_append];rfl
theorem uz (s:Int):∀(l:List (Int×List UInt8)) (b:List UInt8),b.length=64->(∀p∈l,p.2.length=64)->(l.foldl (λb p=>if p.1=s then p.2 else b) b).length=64
 |[],_,hb,_=>hb
 |p::r,b,hb,h=>by
  refine uz s r _ ?_ λq hq=>h q (by simp[hq])
  dsimp only;split
  .exact h p (by simp)
  .exact hb
theorem bk (la:List UInt8)(s:Int)(h0:64*s.toNat+64<=la.length)(l:List (Int×List UInt8))(h:∀p∈l,p.2.length=64):(seenIn la l s).length=64:=
 uz s l _ (by simp;omega) h
theorem bp:(Tryz.prog.info? 148).map (·.size)=some 64:=by kernel_rfl
theorem iq:(Tryz.prog.info? 240).map (·.size)=some 65:=by kernel_rfl
def eR:Value:= .agg (byteCells (List.replicate 64 0)).toArray
def jV:Value:= .agg (dI (0,List.replicate 64 0)).toArray
theorem d6:(Tryz.prog.info? 148).map (·.zero)=some (some eR):=by kernel_rfl
theorem kG:(Tryz.prog.info? 240).map (·.zero)=some (some jV):=by kernel_rfl
theorem tx:(Tryz.prog.underlying 240).map TypeDesc.isRow=some true:=by kernel_rfl
theorem dK:(Tryz.prog.underlying 148).map TypeDesc.isRow=some true:=by kernel_rfl
theorem wX (d bl n:Nat)(vw:Value)(x:DS)(s:Int)(w:World)(h:bv w d bl n vw x)(hs:0<=s)(hn:s<n):
  Calls Tryz.prog 114 #[.pointer (some ⟨d,0,none⟩),.int .i64 s] w λe w'=>e= .returned (.agg (byteCells (x.read s)).toArray)/\aO [] w w':=by
 have ZP:=h.row.lt;have Zw:=h.last.lt;obtain⟨ad,cap,hvw⟩:=bQ h.own;have hfit:64*s.toNat+64<=x.aR.length:=by rw[h.len];omega
 subst hvw;go_enter Tryz.func114,Tryz.ntmps114;go_wp2_with (with_reducible first|refine az rfl ?_|refine ay 148 rfl ?_|refine ay 240 rfl ?_|refine af 148 rfl ?_|refine af 240 rfl ?_);refine al.go (bi rfl 148 rfl eR d6 ?_);intro w1 b4 l4 f1 r4;have h1:=h.new f1;obtain⟨c0,c1,-⟩:=jS h1.row
 go_wp2_with (with_reducible first|refine az rfl ?_|refine ay 148 rfl ?_|refine ay 240 rfl ?_|refine af 148 rfl ?_|refine af 240 rfl ?_);refine al.go (bU rfl 148 _ rfl bl (s.toNat*64) rfl dK 64 bp _ _ h1.last (byteCells (seenIn x.aR [] s)) ?_ ?_ ?_)
 .simp[seenIn,eW,eV,Nat.mul_comm]
 .rw[ai];exact bk _ _ hfit _ (by simp)
 go_wp2_with (with_reducible first|refine az rfl ?_|refine ay 148 rfl ?_|refine ay 240 rfl ?_|refine af 148 rfl ?_|refine af 240 rfl ?_);refine al.go (bi rfl 148 rfl eR d6 ?_);intro w2 b5 l5 f2 r5
 go_wp2_with (with_reducible first|refine az rfl ?_|refine ay 148 rfl ?_|refine ay 240 rfl ?_|refine af 148 rfl ?_|refine af 240 rfl ?_);refine al.go (bK rfl 148 _ _ rfl _ 0 rfl _ rfl 64 bp ?_ ?_ _ _ r5 ?_ ?_)
 .simp only[List.size_toArray,ai];exact bk _ _ hfit _ (by simp)
 .exact byteCells_one _
 .decide
 intro w3 f3 r5;have EP:=f3.row (f2.row r4) (by have:=r4.lt;simp;omega);have f13:aO [] w w3:=(f1.trans f2).trans f3 (by simp;have:=f1.size;omega);rw[bH _ _ (by rw[ai,bk _ _ hfit _ (by simp)];rfl)] at r5;have h3:=h.new f13;clear c0 c1 h1;obtain⟨c0,c1,-⟩:=jS h3.row
 go_wp2_with (with_reducible first|refine az rfl ?_|refine ay 148 rfl ?_|refine ay 240 rfl ?_|refine af 148 rfl ?_|refine af 240 rfl ?_);have hne:b4≠b5:=by have:=r4.lt;omega
 have l4':w.heap.size<=b5:=by have:=f1.size;omega
 go_loopw [20] (λi wr=>∃k:Nat,i= .int .i64 k/\k<=x.waiting.length/\aO [] w wr/\Row wr b4 eR.cells 148/\
  Row wr b5 (byteCells (seenIn x.aR (x.waiting.take k) s)).toArray 148) (λi _=>x.waiting.length-(intOf i).toNat)
 case atStart=>exact⟨0,rfl,by omega,f13,EP,r5⟩
 case round=>
  obtain⟨k,rfl,hk,fk,q4,q5⟩:=hrel;clear c0 c1 h3 f13 EP;have hw:=h.new fk;have iI:=h.few
  by_cases hlt:k<x.waiting.length
  .obtain⟨g,cur,rfl,hg,hle,_,hcs,htk⟩:=eU hw.own
   have h64:=h.d8 _ (List.getElem_mem hlt);have hat:((cur.toList.drop (k*65)).take 65)=dI x.waiting[k]:=by
    rw[ck htk _ _,qt x.waiting h.d8 k hlt]
   clear hcs htk;go_wp2_with (with_reducible first|refine az rfl ?_|refine ay 148 rfl ?_|refine ay 240 rfl ?_|refine af 148 rfl ?_|refine af 240 rfl ?_);refine al.go (bU rfl 240 _ rfl g (k*65) rfl tx 65 iq _ _ hg _ hat (bW _ h64) ?_);clear hat
   go_wp2_with (with_reducible first|refine az rfl ?_|refine ay 148 rfl ?_|refine ay 240 rfl ?_|refine af 148 rfl ?_|refine af 240 rfl ?_);refine al.go (bi rfl 240 rfl jV kG ?_);intro w4 b7 l7 f4 r7
   go_wp2_with (with_reducible first|refine az rfl ?_|refine ay 148 rfl ?_|refine ay 240 rfl ?_|refine af 148 rfl ?_|refine af 240 rfl ?_);refine al.go (bK rfl 240 _ _ rfl _ 0 rfl _ rfl 65 iq ?_ ?_ _ _ r7 ?_ ?_)
   .simp only[List.size_toArray];exact bW _ h64
   .intro v hv;simp only[dI,List.mem_cons] at hv;rcases hv with rfl|hv;rfl;exact byteCells_one _ v hv
   .decide
   intro w5 f5 wZ;rw[bH _ _ (by rw[bW _ h64];rfl)] at wZ;clear r7;have l7':wr.heap.size<=b7:=l7;have mL:aO [] wr w5:=f4.trans f5 (by simpa using l7);have LK:=mL.row q4;have nF:=mL.row q5;have fw:=fk.trans mL;have c0:w5.cell? ⟨b7,0,none⟩=some (.int .i64 x.waiting[k].1):=by rw[wZ.cell];rfl
   clear q4 q5 fk hw f4 f5 l7;have l47:b4<w5.heap.size:=LK.lt
   by_cases he:x.waiting[k].1=s
   .have hb:(x.waiting[k].1==s)=true:=by simp[he]
    have HE:Hid (x.waiting[k].1=s):=he;clear he;go_wp2_with (with_reducible first|refine az rfl ?_|refine ay 148 rfl ?_|refine ay 240 rfl ?_|refine af 148 rfl ?_|refine af 240 rfl ?_);refine al.go (bU rfl 148 _ rfl b7 1 rfl dK 64 bp _ _ wZ (byteCells x.waiting[k].2) ?_ (by rw[ai,h64]) ?_)
    .simp[dI];rw[List.take_of_length_le];rw[ai,h64];omega
    go_wp2_with (with_reducible first|refine az rfl ?_|refine ay 148 rfl ?_|refine ay 240 rfl ?_|refine af 148 rfl ?_|refine af 240 rfl ?_);refine al.go (bK rfl 148 _ _ rfl _ 0 rfl _ rfl 64 bp ?_ ?_ _ _ nF ?_ ?_)
    .simp only[List.size_toArray,ai,h64]
    .exact byteCells_one _
    .simp only[List.size_toArray,ai];rw[bk _ _ hfit _ (λp hp=>h.d8 p (List.mem_of_mem_take hp))];omega
    intro w6 f6 q6;rw[bH _ _ (by simp only[List.size_toArray,ai];rw[bk _ _ hfit _ (λp hp=>h.d8 p (List.mem_of_mem_take hp)),h64])] at q6;have agy:=f6.row LK (by simp;exact hne);have vo:aO [] w w6:=fw.trans f6 (by simp;omega)
    go_wp2_with (with_reducible first|refine az rfl ?_|refine ay 148 rfl ?_|refine ay 240 rfl ?_|refine af 148 rfl ?_|refine af 240 rfl ?_)
    go_roundw
    case rel=>
     refine⟨k+1,by go_num,by omega,vo,agy,?_⟩;rw[ui _ _ _ _ hlt,if_pos HE.out];exact q6
    case measure=>simp[intOf];omega
   .have hb:(x.waiting[k].1==s)=false:=by simp[he]
    have HE:Hid (¬x.waiting[k].1=s):=he;clear he;go_wp2_with (with_reducible first|refine az rfl ?_|refine ay 148 rfl ?_|refine ay 240 rfl ?_|refine af 148 rfl ?_|refine af 240 rfl ?_)
    go_roundw
    case rel=>
     refine⟨k+1,by go_num,by omega,fw,LK,?_⟩;rw[ui _ _ _ _ hlt,if_neg HE.out];exact nF
    case measure=>simp[intOf];omega
  .have hk':k=x.waiting.length:=by omega
   have HK:Hid (k=x.waiting.length):=hk';clear hk';go_wp2_with (with_reducible first|refine az rfl ?_|refine ay 148 rfl ?_|refine ay 240 rfl ?_|refine af 148 rfl ?_|refine af 240 rfl ?_);refine al.go (bU rfl 148 _ rfl b5 0 rfl dK 64 bp _ _ q5 (byteCells (x.read s)) ?_ ?_ ?_)
   .simp only[List.drop_zero]
    rw[HK.out,List.take_of_length_le (Nat.le_refl _),List.take_of_length_le (by rw[ai,bk _ _ hfit _ h.d8];omega)];rfl
   .rw[ai];exact bk _ _ hfit _ h.d8
   go_wp2_with (with_reducible first|refine az rfl ?_|refine ay 148 rfl ?_|refine ay 240 rfl ?_|refine af 148 rfl ?_|refine af 240 rfl ?_);refine al.go (bK rfl 148 _ _ rfl _ 0 rfl _ rfl 64 bp ?_ ?_ _ _ q4 ?_ ?_)
   .simp only[List.size_toArray,ai];exact bk _ _ hfit _ h.d8
   .exact byteCells_one _
   .decide
   intro w6 f6 q6;rw[bH _ _ (by simp only[ai];rw[show(x.read s).length=64 from bk _ _ hfit _ h.d8];rfl)] at q6;have vo:aO [] w w6:=fk.trans f6 (by simp;omega);go_wp2_with (with_reducible first|refine az rfl ?_|refine ay 148 rfl ?_|refine ay 240 rfl ?_|refine af 148 rfl ?_|refine af 240 rfl ?_)
   exact lA rfl b4 rfl rfl _ _ q6 dK (by simp only[List.size_toArray,ai];rw[show(x.read s).length=64 from bk _ _ hfit _ h.d8];exact bp) ⟨rfl,vo⟩
theorem rL {w:World}{b off:Nat}{vs:List Value}{c:Array Value}{u:TypeId}(hr:Row w b c u)(hl:off+vs.length<=c.size)(h1:∀v∈vs,v.oneCell'=true):
  w.setCells b off vs=w.setRow b (over c off vs):=by
 have a1:=run_storeCells_cells (P:=Tryz.prog) b off vs 0 w (λj hj=>by rw[hr.cell];simp;omega) (λj hj=>hr.thaw _) h1;have a2:=run_storeCells_at Tryz.prog b off u vs 0 c w hr (by simpa using hl) h1;rw[a1] at a2;simpa [over] using a2
def bB (la:List UInt8)(p:Int×List UInt8):List UInt8:=la.take (64*p.1.toNat)++p.2++la.drop (64*p.1.toNat+64)
theorem fZ (la:List UInt8)(p:Int×List UInt8)(h:p.2.length=64)(hf:64*p.1.toNat+64<=la.length):(bB la p).length=la.length:=by
 simp[bB,h];omega
theorem oK (la:List UInt8)(p:Int×List UInt8)(h:p.2.length=64):over (byteCells la).toArray (p.1.toNat*64) (byteCells p.2)=(byteCells (bB la p)).toArray:=by
 simp[over,bB,byteCells_append,eV,eW,ai,h,Nat.mul_comm]
def ju (la:List UInt8)(l:List (Int×List UInt8)):List UInt8:=l.foldl bB la
theorem CQ (la:List UInt8)(l:List (Int×List UInt8))(k:Nat)(hk:k<l.length):ju la (l.take (k+1))=bB (ju la (l.take k)) l[k]:=by
 unfold ju;rw[List.take_succ_eq_append_getElem hk,List.foldl_append];rfl
theorem qi (n:Nat):∀(l:List (Int×List UInt8)) (la:List UInt8),la.length=64*n->(∀p∈l,p.2.length=64)->(∀p∈l,0<=p.1/\p.1<n)->(ju la l).length=64*n
 |[],la,h,_,_=>h
 |p::r,la,h,h1,h2=>by
  have hp:=h2 p (by simp);exact qi n r (bB la p) (by rw[fZ _ _ (h1 p (by simp)) (by omega)];exact h) (λq hq=>h1 q (by simp[hq])) (λq hq=>h2 q (by simp[hq]))
theorem vZ:Tryz.prog.underlying 148=some (.array 64 5):=by kernel_rfl
theorem JJ (d bl n:Nat)(vw:Value)(x:DS)(w:World)
  (hm:Calls Tryz.prog 187 #[.pointer (some ⟨d,0,none⟩)] w λe w'=>e= .returned (.bool true)/\bv w' d bl n vw x/\aO [d] w w'):
  Calls Tryz.prog 149 #[.pointer (some ⟨d,0,none⟩)] w λe w'=>e= .returned (.int .i64 0)/\bv w' d bl n (.slice none 0 0) {x with aR:=ju x.aR x.waiting,waiting:=[]}/\aO [d,bl] w w':=by
 go_enter Tryz.func149,Tryz.ntmps149;go_wp2_with fail;refine hm.mono ?_;clear hm;rintro e w1 ⟨rfl,h1,f1⟩;have h:=h1;have ZP:=h.row.lt;have Zw:=h.last.lt;obtain⟨ad,cap,hvw⟩:=bQ h.own;subst hvw;obtain⟨c0,c1,-⟩:=jS h1.row;go_wp2_with fail;have hlen:=h.len
 go_loopw [13] (λi wr=>∃k:Nat,i= .int .i64 k/\k<=x.waiting.length/\aO [d,bl] w wr/\bv wr d bl n (.slice ad x.waiting.length cap) {x with aR:=ju x.aR (x.waiting.take k)}) (λi _=>x.waiting.length-(intOf i).toNat)
 case atStart=>exact⟨0,rfl,by omega,f1.mono,by simpa [ju] using h1⟩
 case round=>
  obtain⟨k,rfl,hk,fk,hw⟩:=hrel;clear c0 c1 h1;have iI:=h.few
  by_cases hlt:k<x.waiting.length
  .obtain⟨g,cur,rfl,hg,hle,_,hcs,htk⟩:=eU (n:=x.waiting.length) hw.own
   have h64:=h.d8 _ (List.getElem_mem hlt);have hin:=h.within _ (List.getElem_mem hlt);have hat:((cur.toList.drop (k*65)).take 65)=dI x.waiting[k]:=by
    rw[ck htk _ _,qt x.waiting h.d8 k hlt]
   clear hcs htk;go_wp2_with (with_reducible first|refine az rfl ?_|refine ay 148 rfl ?_|refine ay 240 rfl ?_|refine af 148 rfl ?_|refine af 240 rfl ?_);refine al.go (bU rfl 240 _ rfl g (k*65) rfl tx 65 iq _ _ hg _ hat (bW _ h64) ?_);clear hat
   go_wp2_with (with_reducible first|refine az rfl ?_|refine ay 148 rfl ?_|refine ay 240 rfl ?_|refine af 148 rfl ?_|refine af 240 rfl ?_);refine al.go (bi rfl 240 rfl jV kG ?_);intro w4 b7 l7 f4 r7
   go_wp2_with (with_reducible first|refine az rfl ?_|refine ay 148 rfl ?_|refine ay 240 rfl ?_|refine af 148 rfl ?_|refine af 240 rfl ?_);refine al.go (bK rfl 240 _ _ rfl _ 0 rfl _ rfl 65 iq ?_ ?_ _ _ r7 ?_ ?_)
   .simp only[List.size_toArray];exact bW _ h64
   .intro v hv;simp only[dI,List.mem_cons] at hv;rcases hv with rfl|hv;rfl;exact byteCells_one _ v hv
   .decide
   intro w5 f5 wZ;rw[bH _ _ (by rw[bW _ h64];rfl)] at wZ;clear r7;have l7':wr.heap.size<=b7:=l7;have mL:aO [] wr w5:=f4.trans f5 (by simpa using l7);have h5:=hw.new mL;have fw:=fk.trans mL;obtain⟨c0,c1,-⟩:=jS h5.row;have e0:w5.cell? ⟨b7,0,none⟩=some (.int .i64 x.waiting[k].1):=by rw[wZ.cell];rfl
   have hne:bl≠b7:=by have:=hw.last.lt;omega
   have ahh:d≠b7:=by have:=hw.row.lt;omega
   clear fk hw f4 f5 l7;go_wp2_with fail;have hpl:(ju x.aR (x.waiting.take k)).length=64*n:=qi n _ _ h.len (λp hp=>h.d8 p (List.mem_of_mem_take hp)) (λp hp=>h.within p (List.mem_of_mem_take hp));have gr:w5.rangeAt b7 1 (byteCells x.waiting[k].2):=λj v hv=>by rw[wZ.cell];simpa [dI,Nat.add_comm] using hv
   have gt:w5.there bl (x.waiting[k].1.toNat*64) 64:=λj hj=>by rw[h5.last.cell,h5.last.thaw];simp[ai,hpl];omega
   have gi:(Tryz.prog.info? 148).map (·.size)=some (byteCells x.waiting[k].2).length:=by rw[ai,h64];exact bp
   have gl:(byteCells x.waiting[k].2).length=64:=by rw[ai,h64]
   have go:=byteCells_one x.waiting[k].2;have gu:=vZ;obtain⟨ahI,ahH⟩:=hin;have hdb:=h.ne
   go_region_held3 (λw'=>w'.cell? ⟨d,0,none⟩=some (.slice (some ⟨bl,0,none⟩) n n)/\w'.cell? ⟨b7,0,none⟩=some (.int .i64 x.waiting[k].1)/\w'.rangeAt b7 1 (byteCells x.waiting[k].2)/\w'.there bl (x.waiting[k].1.toNat*64) 64) ((go_split_ands;(try simp only[World.rangeAt_drew,World.there_drew,World.cell?_drew] at*);(repeat' constructor)<;>first|assumption|(rw[World.cell?_setCells_out _ _ _ _ _ (by intro e;simp only at e;omega)];assumption)|(apply World.there_setCells;assumption)|(refine World.rangeAt_setCells_apart (by assumption) _ _ _ (by omega)))) (fail)
   have h6:bv (w5.drew.setCells bl (x.waiting[k].1.toNat*64) (byteCells x.waiting[k].2)) d bl n (.slice (some ⟨g,0,none⟩) x.waiting.length cap) {x with aR:=ju x.aR (x.waiting.take (k+1))}/\
     aO [d,bl] w (w5.drew.setCells bl (x.waiting[k].1.toNat*64) (byteCells x.waiting[k].2)):=by
    rw[rL (w:=w5.drew) h5.last (by simp[ai,hpl,h64];omega) go,oK _ _ h64,CQ _ _ _ hlt];have fd:aO [bl] w5 (w5.drew.setRow bl (byteCells (bB (ju x.aR (x.waiting.take k)) x.waiting[k])).toArray):=(aO.drew [bl] w5).trans (aO.setRow [bl] _ _ _ (by simp))
    refine⟨{h5 with row:=fd.row h5.row (by simpa using h5.ne),last:=h5.last.setRow (w:=w5.drew) _,len:=?_,own:=fd.owns h5.own (by simpa using h5.Bw)},fw.trans fd⟩;rw[fZ _ _ h64 (by rw[hpl];omega)];exact hpl
   obtain⟨h6,f6⟩:=h6;clear gr gt h5 fw wZ gi gl go gu c0 c1 e0;generalize w5.drew.setCells bl (x.waiting[k].1.toNat*64) (byteCells x.waiting[k].2)=w6 at h6 f6⊢;go_wp2_with fail
   go_roundw
   case rel=>exact⟨k+1,by go_num,by omega,f6,h6⟩
   case measure=>simp[intOf];omega
  .have HK:Hid (k=x.waiting.length):=(by omega:k=x.waiting.length)
   have hkd:Hid (List.take k x.waiting=x.waiting):=by show _=_;rw[HK.out,List.take_of_length_le (Nat.le_refl _)]
   obtain⟨c0,c1,-⟩:=jS hw.row;have hf:=hw.row.thaw;go_wp2_with fail;go_ret;rw[hkd.out] at hw;have fs:aO [d] wr (wr.setCell ⟨d,1,none⟩ (.slice none 0 0)):=aO.setCell _ _ _ _
   refine⟨rfl,{row:=hw.row.setCell 1 _,last:=fs.row hw.last (by simpa usingλe=>hw.ne e.symm),len:=hw.len,own:=World.ownsRow_nil _ _ _ _,d8:=by simp,within:=by simp,lo:=h.lo,hi:=h.hi,few:=by simp,ne:=h.ne,ne1:=by simp[Value.ownBlock],Bw:=by simp[Value.ownBlock],nil:=λ_=>rfl},fk.trans fs⟩
theorem Ds (d:Nat)(w:World)(R:World->Prop)(hm:Calls Tryz.prog 187 #[.pointer (some ⟨d,0,none⟩)] w λe w'=>e= .returned (.bool false)/\R w'):
  Calls Tryz.prog 149 #[.pointer (some ⟨d,0,none⟩)] w λe w'=>e= .returned (.int .i64 3)/\R w':=by
 go_enter Tryz.func149,Tryz.ntmps149;go_wp2_with fail;refine hm.mono ?_;rintro e w1 ⟨rfl,h1⟩;go_wp2_with fail;go_ret;exact⟨rfl,h1⟩
def lE (keep:Int)(k:Nat):Bool:=bits BinOp.and .i64 (keep/2^k) 1==1
def fN (keep:Int)(la:List UInt8)(l:List (Int×List UInt8)):Nat->List UInt8
 |0=>la
 |k+1=>match l[k]? with
  |some p=>if lE keep k then bB (fN keep la l k) p else fN keep la l k
  |none=>fN keep la l k
theorem E8 (keep:Int)(la:List UInt8)(l:List (Int×List UInt8))(k:Nat)(hk:k<l.length)(h:lE keep k=true):fN keep la l (k+1)=bB (fN keep la l k) l[k]:=by simp[fN,hk,h]
theorem Jo (keep:Int)(la:List UInt8)(l:List (Int×List UInt8))(k:Nat)(h:lE keep k=false):fN keep la l (k+1)=fN keep la l k:=by
 simp only[fN];split<;>simp[h]
theorem mc (keep:Int)(n:Nat)(la:List UInt8)(l:List (Int×List UInt8))(h:la.length=64*n)(h1:∀p∈l,p.2.length=64)(h2:∀p∈l,0<=p.1/\p.1<n):∀k,(fN keep la l k).length=64*n
 |0=>h
 |k+1=>by
  have ih:=mc keep n la l h h1 h2 k;simp only[fN];split
  .rename_i p hp
   have hm:=List.mem_of_getElem? hp;have:=h2 p hm;split
   .rw[fZ _ _ (h1 p hm) (by omega)];exact ih
   .exact ih
  .exact ih
theorem Nh (d bl n:Nat)(vw:Value)(x:DS)(w:World)(h:bv w d bl n vw x):
  Calls Tryz.prog 210 #[.pointer (some ⟨d,0,none⟩)] w λe w'=>e= .returned (.tuple #[])/\bv w' d bl n (.slice none 0 0) {x with aR:=fN x.keep x.aR x.waiting x.waiting.length,waiting:=[],failed:=true}/\aO [d,bl] w w':=by
 have ZP:=h.row.lt;have Zw:=h.last.lt;obtain⟨ad,cap,hvw⟩:=bQ h.own;subst hvw;obtain⟨c0,c1,-⟩:=jS h.row;go_enter Tryz.func210,Tryz.ntmps210;go_wp2_with fail;have hlen:=h.len
 go_loopw [9] (λi wr=>∃k:Nat,i= .int .i64 k/\k<=x.waiting.length/\aO [d,bl] w wr/\bv wr d bl n (.slice ad x.waiting.length cap) {x with aR:=fN x.keep x.aR x.waiting k}) (λi _=>x.waiting.length-(intOf i).toNat)
 case atStart=>exact⟨0,rfl,by omega,aO.refl _ _,h⟩
 case round=>
  obtain⟨k,rfl,hk,fk,hw⟩:=hrel;clear c0 c1;have iI:=h.few
  by_cases hlt:k<x.waiting.length
  .obtain⟨g,cur,rfl,hg,hle,_,hcs,htk⟩:=eU (n:=x.waiting.length) hw.own
   have h64:=h.d8 _ (List.getElem_mem hlt);have hin:=h.within _ (List.getElem_mem hlt);have hat:((cur.toList.drop (k*65)).take 65)=dI x.waiting[k]:=by
    rw[ck htk _ _,qt x.waiting h.d8 k hlt]
   clear hcs htk;go_wp2_with (with_reducible first|refine az rfl ?_|refine ay 148 rfl ?_|refine ay 240 rfl ?_|refine af 148 rfl ?_|refine af 240 rfl ?_);refine al.go (bU rfl 240 _ rfl g (k*65) rfl tx 65 iq _ _ hg _ hat (bW _ h64) ?_);clear hat
   go_wp2_with (with_reducible first|refine az rfl ?_|refine ay 148 rfl ?_|refine ay 240 rfl ?_|refine af 148 rfl ?_|refine af 240 rfl ?_);refine al.go (bi rfl 240 rfl jV kG ?_);intro w4 b7 l7 f4 r7
   go_wp2_with (with_reducible first|refine az rfl ?_|refine ay 148 rfl ?_|refine ay 240 rfl ?_|refine af 148 rfl ?_|refine af 240 rfl ?_);refine al.go (bK rfl 240 _ _ rfl _ 0 rfl _ rfl 65 iq ?_ ?_ _ _ r7 ?_ ?_)
   .simp only[List.size_toArray];exact bW _ h64
   .intro v hv;simp only[dI,List.mem_cons] at hv;rcases hv with rfl|hv;rfl;exact byteCells_one _ v hv
   .decide
   intro w5 f5 wZ;rw[bH _ _ (by rw[bW _ h64];rfl)] at wZ;clear r7;have l7':wr.heap.size<=b7:=l7;have mL:aO [] wr w5:=f4.trans f5 (by simpa using l7);have h5:=hw.new mL;have fw:=fk.trans mL;obtain⟨c0,c1,c2,c3,c4,c5,c6⟩:=jS h5.row;have e0:w5.cell? ⟨b7,0,none⟩=some (.int .i64 x.waiting[k].1):=by rw[wZ.cell];rfl
   have hne:bl≠b7:=by have:=hw.last.lt;omega
   have ahh:d≠b7:=by have:=hw.row.lt;omega
   clear fk hw f4 f5 l7
   by_cases hb:lE x.keep k=true
   .have HB:Hid (lE x.keep k=true):=hb
    unfold lE at hb;go_wp2_with fail;have hpl:(fN x.keep x.aR x.waiting k).length=64*n:=mc _ n _ _ h.len h.d8 h.within k;have gr:w5.rangeAt b7 1 (byteCells x.waiting[k].2):=λj v hv=>by rw[wZ.cell];simpa [dI,Nat.add_comm] using hv
    have gt:w5.there bl (x.waiting[k].1.toNat*64) 64:=λj hj=>by rw[h5.last.cell,h5.last.thaw];simp[ai,hpl];omega
    have gi:(Tryz.prog.info? 148).map (·.size)=some (byteCells x.waiting[k].2).length:=by rw[ai,h64];exact bp
    have gl:(byteCells x.waiting[k].2).length=64:=by rw[ai,h64]
    have go:=byteCells_one x.waiting[k].2;have gu:=vZ;obtain⟨ahI,ahH⟩:=hin;have hdb:=h.ne
    go_region_held3 (λw'=>w'.cell? ⟨d,0,none⟩=some (.slice (some ⟨bl,0,none⟩) n n)/\w'.cell? ⟨b7,0,none⟩=some (.int .i64 x.waiting[k].1)/\w'.rangeAt b7 1 (byteCells x.waiting[k].2)/\w'.there bl (x.waiting[k].1.toNat*64) 64) ((go_split_ands;(try simp only[World.rangeAt_drew,World.there_drew,World.cell?_drew] at*);(repeat' constructor)<;>first|assumption|(rw[World.cell?_setCells_out _ _ _ _ _ (by intro e;simp only at e;omega)];assumption)|(apply World.there_setCells;assumption)|(refine World.rangeAt_setCells_apart (by assumption) _ _ _ (by omega)))) (fail)
    have h6:bv (w5.drew.setCells bl (x.waiting[k].1.toNat*64) (byteCells x.waiting[k].2)) d bl n (.slice (some ⟨g,0,none⟩) x.waiting.length cap) {x with aR:=fN x.keep x.aR x.waiting (k+1)}/\
      aO [d,bl] w (w5.drew.setCells bl (x.waiting[k].1.toNat*64) (byteCells x.waiting[k].2)):=by
     rw[rL (w:=w5.drew) h5.last (by simp[ai,hpl,h64];omega) go,oK _ _ h64,E8 _ _ _ _ hlt HB.out];have fd:aO [bl] w5 (w5.drew.setRow bl (byteCells (bB (fN x.keep x.aR x.waiting k) x.waiting[k])).toArray):=(aO.drew [bl] w5).trans (aO.setRow [bl] _ _ _ (by simp))
     refine⟨{h5 with row:=fd.row h5.row (by simpa using h5.ne),last:=h5.last.setRow (w:=w5.drew) _,len:=?_,own:=fd.owns h5.own (by simpa using h5.Bw)},fw.trans fd⟩;rw[fZ _ _ h64 (by rw[hpl];omega)];exact hpl
    obtain⟨h6,f6⟩:=h6;clear gr gt h5 fw wZ gi gl go gu c0 c1 e0;generalize w5.drew.setCells bl (x.waiting[k].1.toNat*64) (byteCells x.waiting[k].2)=w6 at h6 f6⊢;go_wp2_with fail
    go_roundw
    case rel=>exact⟨k+1,by go_num,by omega,f6,h6⟩
    case measure=>simp[intOf];omega
   .have HB:Hid (lE x.keep k=false):=(by simpa using hb:lE x.keep k=false)
    have hb':(bits BinOp.and .i64 (x.keep/2^k) 1==1)=false:=HB.out;clear hb;go_wp2_with fail
    go_roundw
    case rel=>exact⟨k+1,by go_num,by omega,fw,by rw[Jo _ _ _ _ HB.out];exact h5⟩
    case measure=>simp[intOf];omega
  .have HK:Hid (k=x.waiting.length):=(by omega:k=x.waiting.length)
   obtain⟨c0,c1,c2,c3,c4,c5,c6⟩:=jS hw.row;have hf:=hw.row.thaw;have hlast:=hw.last;rw[HK.out] at hlast;have hl2:=mc x.keep n _ _ h.len h.d8 h.within x.waiting.length;go_wp2_with fail
   go_end0
   have fs:aO [d] wr ((wr.setCell ⟨d,1,none⟩ (.slice none 0 0)).setCell ⟨d,6,none⟩ (.bool true)):=(aO.setCell [d] _ _ _ (by simp)).trans (aO.setCell [d] _ _ _ (by simp))
   refine⟨rfl,{row:=(hw.row.setCell 1 _).setCell 6 _,last:=fs.row hlast (by simpa usingλe=>hw.ne e.symm),len:=hl2,own:=World.ownsRow_nil _ _ _ _,d8:=by simp,within:=by simp,lo:=h.lo,hi:=h.hi,few:=by simp,ne:=h.ne,ne1:=by simp[Value.ownBlock],Bw:=by simp[Value.ownBlock],nil:=λ_=>rfl},fk.trans fs⟩
def DS.fall (x:DS):DS:={x with aR:=fN x.keep x.aR x.waiting x.waiting.length,waiting:=[],failed:=true}
def DS.jc (x:DS):DS:={x with left:=if x.given then x.left-1 else x.left,acts:=x.acts+1}
def DS.bj (x:DS):Bool:=!x.failed&&!(x.given&&x.left==0)
def DS.stopped (x:DS):DS:=if x.failed then x else x.fall
theorem xp (d bl n:Nat)(vw:Value)(x:DS)(w:World)(h:bv w d bl n vw x)(hf:x.failed=true):
  Calls Tryz.prog 187 #[.pointer (some ⟨d,0,none⟩)] w λe w'=>e= .returned (.bool false)/\w'=w:=by
 obtain⟨c0,c1,c2,c3,c4,c5,c6⟩:=jS h.row;rw[hf] at c6;clear hf;go_enter Tryz.func187,Tryz.ntmps187;go_wp2_with fail;go_ret;exact⟨rfl,rfl⟩
theorem zP (d bl n:Nat)(vw:Value)(x:DS)(w:World)(h:bv w d bl n vw x)(hf:x.failed=false)(hg:x.given=true)(hl:x.left=0):
  Calls Tryz.prog 187 #[.pointer (some ⟨d,0,none⟩)] w λe w'=>e= .returned (.bool false)/\bv w' d bl n (.slice none 0 0) x.fall/\aO [d,bl] w w':=by
 obtain⟨c0,c1,c2,c3,c4,c5,c6⟩:=jS h.row;rw[hf] at c6;rw[hg] at c3;rw[hl] at c4;clear hf hg hl;go_enter Tryz.func187,Tryz.ntmps187;go_wp2_with fail;refine(Nh d bl n vw x _ h).mono ?_;rintro e w1 ⟨rfl,h1,f1⟩;go_wp2_with fail;go_ret;exact⟨rfl,h1,f1⟩
theorem C1 (d bl n:Nat)(vw:Value)(x:DS)(w:World)(h:bv w d bl n vw x)(hc:x.bj=true)(hl:0<=x.left)(hl2:x.left<=9223372036854775807)(ha:0<=x.acts)(ha2:x.acts<1000000000):
  Calls Tryz.prog 187 #[.pointer (some ⟨d,0,none⟩)] w λe w'=>e= .returned (.bool true)/\bv w' d bl n vw x.jc/\aO [d] w w':=by
 obtain⟨c0,c1,c2,c3,c4,c5,c6⟩:=jS h.row;have hth:=h.row.thaw;have hdb:=h.ne;have hf:x.failed=false:=by simp[DS.bj] at hc;exact hc.1
 rw[hf] at c6
 by_cases hg:x.given=true
 .have hz:(x.left==0)=false:=by simp[DS.bj,hg] at hc;simpa using hc.2
  have hz':x.left≠0:=by simpa using hz
  rw[hg] at c3;have HG:Hid (x.given=true):=hg;clear hg hf hc;go_enter Tryz.func187,Tryz.ntmps187;go_wp2_with fail;go_ret;have fs:aO [d] w ((w.setCell ⟨d,4,none⟩ (.int .i64 (x.left-1))).setCell ⟨d,2,none⟩ (.int .i64 (x.acts+1))):=(aO.setCell [d] _ _ _ (by simp)).trans (aO.setCell [d] _ _ _ (by simp));refine⟨rfl,h.reset fs ?_ rfl rfl,fs⟩
  have:=(h.row.setCell 4 (.int .i64 (x.left-1))).setCell 2 (.int .i64 (x.acts+1));simpa [ir,DS.jc,HG.out] using this
 .have hg':x.given=false:=by simpa using hg
  rw[hg'] at c3;have HG:Hid (x.given=false):=hg';clear hg hf hc hg';go_enter Tryz.func187,Tryz.ntmps187;go_wp2_with fail;go_ret;have fs:aO [d] w (w.setCell ⟨d,2,none⟩ (.int .i64 (x.acts+1))):=aO.setCell [d] _ _ _ (by simp);refine⟨rfl,h.reset fs ?_ rfl rfl,fs⟩;have:=h.row.setCell 2 (.int .i64 (x.acts+1));simpa [ir,DS.jc,HG.out] using this
end
section
open Go.RowKit
theorem I6 (c:Array Value)(o:Nat)(v:Value)(r:List Value)(h:o+r.length+1<=c.size):over (c.setIfInBounds o v) (o+1) r=over c o (v::r):=by
 unfold over
 congr 1
 have:=list_seg_step c.toList o v r (by simpa [Nat.add_assoc] using h);simp only[Array.toList_setIfInBounds];rw[this];simp
theorem zZ:∀(l:List Value) (k off:Nat) (cells:Array Value),off+k+l.length<=cells.size->
  (l.zipIdx k).foldl (λcs (x:Value×Nat)=>cs.setIfInBounds (off+x.2) x.1) cells=over cells (off+k) l
 |[],k,off,cells,_=>by simp[over]
 |v::r,k,off,cells,h=>by
  simp only[List.zipIdx_cons,List.foldl_cons];simp only[List.length_cons] at h;rw[zZ r (k+1) off _ (by simp;omega),<-Nat.add_assoc,I6 _ _ _ _ (by omega)]
theorem tL (place:Nat->Option (Nat×Nat))(cells:Array Value)(i:Nat)(v:Value)(rest:List (Nat×Value))(off size:Nat)(hp:place i=some (off,size))(hs:v.cells.size=size)(hf:off+size<=cells.size):
  Instr.fill place cells ((i,v)::rest)=Instr.fill place (over cells off v.cells.toList) rest:=by
 subst hs;have hz:v.cells.zipIdx.foldl (λcs (x:Value×Nat)=>cs.setIfInBounds (off+x.2) x.1) cells=over cells off v.cells.toList:=by
  rw[<-Array.foldl_toList,Array.toList_zipIdx];exact zZ v.cells.toList 0 off cells (by simpa using hf)
 simp only[Instr.fill,hp];rw[if_neg (by simp;omega)];exact congrArg (λc=>Instr.fill place c rest) hz
section
variable {P:Program}{w:World}{o:Oper}{ρ:Operand->Value}
theorem gV (t:TypeId)(ps:Array (Nat×Operand))(ho:o.op= .build t ps)(cells:Array Value)(hb:P.built t (ps.toList.map λx=>(x.1,ρ x.2))=some cells):(execOp ρ o).run P w= .ok (.value (.agg cells)) w:=by
 have:=run_build (P:=P) w t (ps.map λx=>(x.1,ρ x.2)) cells (by simpa using hb);simp only[execOp,ho,Sem.run_bind];rw[this];rfl
theorem sC (t:TypeId)(x:Operand)(ho:o.op= .load t x)(b off:Nat)(hx:ρ x= .pointer (some ⟨b,off,none⟩))(hu:(P.underlying t).map TypeDesc.isRow=some true)(n:Nat)(hi:(P.info? t).map (·.size)=some n)
  (c:Array Value) (u:TypeId) (hr:Row w b c u) (vs:List Value) (hv:(c.toList.drop off).take n=vs) (hl:vs.length=n):(execOp ρ o).run P w= .ok (.value (.agg vs.toArray)) w:=by
 obtain⟨d,hu',hd⟩:=Option.map_eq_some_iff.1 hu;have:=run_loadAt_mid (P:=P) w b off t vs d (λj v hj=>by
  rw[hr.cell];subst hv;rw[List.getElem?_take] at hj;split at hj
  .simpa [List.getElem?_drop] using hj
  .cases hj) hu' hd (by rw[hi,hl])
 simp only[execOp,ho,hx,Sem.run_bind];rw[this];rfl
theorem tM (t e:TypeId)(x:Operand)(ho:o.op= .buildSlice t 1 #[(0,x)])(hu:P.underlying t=some (.slice e))(i:TypeInfo)(z v:Value)(hi:P.info? e=some i)(hz:i.zero=some z)(h0:0<i.size)(h24:i.size<=1000)
  (hx:ρ x=v) (hv:v.cells.size=i.size):(execOp ρ o).run P w= .ok (.value (.slice (some ⟨w.heap.size,0,none⟩) 1 1)) (w.alloc (.cells v.cells e)):=by
 have hf:Instr.fill (λj=>some (j*i.size,i.size)) ((Array.range (1*i.size)).map (z.cells[·%z.cells.size]!)) [(0,v)]=some v.cells:=by
  rw[tL _ _ 0 v [] 0 i.size (by simp) hv (by simp)];simp only[Instr.fill];rw[bH _ _ (by simp[hv])]
 have h1:¬i.size>2^24:=by omega
 have h2:¬i.size=0:=by omega
 have h3:zeroValue e=(do match(<-typeInfo e).zero with|some v=>pure v|none=>unsupported (.resourceLimit "a value of more than 2^22 cells")):=rfl;simp only[Nat.one_mul] at hf;simp[execOp,ho,hx,Instr.buildSlice,run_underlying hu,sizeOf,typeInfo,hi,h1,h2,zeroValue,hz,hf,newRow]
theorem Hg (d s:Operand)(dT sT elem:TypeId)(ho:o.op= .call {callee:= .builtin .copy,args:=#[d,s],argTypes:=#[dT,sT]})(hu:P.underlying dT=some (.slice elem))(hs:(P.info? elem).map (·.size)=some 1)
  (g off dLen dCap:Nat) (hd:ρ d= .slice (some ⟨g,off,none⟩) dLen dCap) (b o2 sLen sCap:Nat) (hx:ρ s= .slice (some ⟨b,o2,none⟩) sLen sCap) (cur:Array Value) (t:TypeId) (hg:Row w g cur t)
  (adU:Array Value) (u:TypeId) (hb:Row w b adU u) (cs:List Value) (hc:(adU.toList.drop o2).take (Nat.min sLen dLen)=cs) (hn:cs.length=Nat.min sLen dLen) (hfit:off+cs.length<=cur.size) (h1:∀v∈cs,v.oneCell'=true):
  (execOp ρ o).run P w= .ok (.value (goInt cs.length)) (w.setRow g (over cur off cs)):=by
 have:=run_copy_row (P:=P) w dT sT o.type elem g off dLen dCap ⟨b,o2,none⟩ sLen sCap cur t cs hu hs hg hn (λj v hv=>by
  rw[Addr.add_mid,hb.cell];subst hc;rw[List.getElem?_take] at hv;split at hv
  .simpa [List.getElem?_drop] using hv
  .cases hv) hfit h1
 simp only[execOp,ho,resolve,invoke,builtin,Sem.run_bind,Sem.run_pure,Result.andThen_ok,List.map_toArray,List.map_cons,List.map_nil,hd,hx,this];rfl
theorem lH (d s:Operand)(dT sT elem:TypeId)(ho:o.op= .call {callee:= .builtin .copy,args:=#[d,s],argTypes:=#[dT,sT]})(hu:P.underlying dT=some (.slice elem))(g off dLen dCap:Nat)(hd:ρ d= .slice (some ⟨g,off,none⟩) dLen dCap)(str:ByteArray)(hx:ρ s= .string str)(cur:Array Value)(t:TypeId)(hg:Row w g cur t)(hfit:off+Nat.min str.size dLen<=cur.size)(hs:(P.info? elem).map (·.size)=some 1:=by kernel_rfl):
  (execOp ρ o).run P w= .ok (.value (goInt (Nat.min str.size dLen))) (w.setRow g (over cur off (Lib.byteCells (str.data.toList.take dLen)))):=by
 have hsz:str.data.toList.length=str.size:=by rw[Array.length_toList];rfl
 have hl:(Lib.byteCells (str.data.toList.take dLen)).length=Nat.min str.size dLen:=by
  simp only[Lib.byteCells,List.length_map,List.length_take,hsz];exact Nat.min_comm _ _
 have h1:∀v∈Lib.byteCells (str.data.toList.take dLen),v.oneCell'=true:=by
  intro v hv;simp only[Lib.byteCells,List.mem_map] at hv;obtain⟨b,_,rfl⟩:=hv;rfl
 have hst:=run_storeCells_at P g off t (Lib.byteCells (str.data.toList.take dLen)) 0 cur w hg (by rw[hl];simpa using hfit) h1;have e:Lib.byteCells (str.data.toList.take dLen)=(str.data.toList.map λb=>Value.int .u8 b.toNat).take (Nat.min str.size dLen):=by
  have:str.data.toList.take (Nat.min str.size dLen)=str.data.toList.take dLen:=by
   rw[<-hsz,show Nat.min str.data.toList.length dLen=min dLen str.data.toList.length from Nat.min_comm _ _,<-List.take_take,List.take_of_length_le (Nat.le_refl _)]
  rw[<-List.map_take,this];rfl
 rw[e] at hst⊢;have:(Builtin.copy_ #[dT,sT] o.type #[.slice (some ⟨g,off,none⟩) dLen dCap,.string str]).run P w= .ok (goInt (Nat.min str.size dLen)) (w.setRow g (over cur off ((str.data.toList.map λb=>Value.int .u8 b.toNat).take (Nat.min str.size dLen)))):=by
  cases hq:P.info? elem with
  |none=>simp[hq] at hs
  |some i=>
   simp only[Nat.add_zero] at hst;simp[Builtin.copy_,run_underlying hu,Builtin.lenOf,Builtin.firstCells,sizeOf,typeInfo,hq,hst,over]
 simp only[execOp,ho,resolve,invoke,builtin,Sem.run_bind,Sem.run_pure,Result.andThen_ok,List.map_toArray,List.map_cons,List.map_nil,hd,hx,this]
theorem mh (t e:TypeId)(n:Nat)(x l:Operand)(ho:o.op= .slice t x (some l) none none)(hu:P.underlying t=some (.array n e))(hs:(P.info? e).map (·.size)=some 1)
  (b off:Nat) (hx:ρ x= .pointer (some ⟨b,off,none⟩)) (k:Int) (hl:ρ l= .int .i64 k) (h0:0<=k) (hk:k<n) (q r:Nat) (e1:off+k.toNat=q) (e2:n-k.toNat=r):(execOp ρ o).run P w= .ok (.value (.slice (some ⟨b,q,none⟩) r r)) w:=by
 subst e1;subst e2;cases hq:P.info? e with
 |none=>simp[hq] at hs
 |some i=>
  have hi:i.size=1:=by simpa [hq] using hs
  have h2:k<=n:=by omega
  have h3:¬n=k.toNat:=by omega
  simp[execOp,ho,hx,hl,Instr.sliceAt,run_underlying hu,Instr.sureAddr,Instr.sliceBounds,Instr.sliceBound,asIntOf,h0,h2,h3,sizeOf,typeInfo,hq,hi,Addr.add_mid]
theorem j3 (t e:TypeId)(n:Nat)(x l m:Operand)(ho:o.op= .slice t x (some l) (some m) none)(hu:P.underlying t=some (.array n e))(hs:(P.info? e).map (·.size)=some 1)
  (b off:Nat) (hx:ρ x= .pointer (some ⟨b,off,none⟩)) (k j:Int) (hl:ρ l= .int .i64 k) (hm:ρ m= .int .i64 j) (h0:0<=k) (hk:k<n) (hkj:k<=j) (hj:j<=n) (q r c:Nat) (e1:off+k.toNat=q) (e2:j.toNat-k.toNat=r) (e3:n-k.toNat=c):
  (execOp ρ o).run P w= .ok (.value (.slice (some ⟨b,q,none⟩) r c)) w:=by
 subst e1;subst e2;subst e3;cases hq:P.info? e with
 |none=>simp[hq] at hs
 |some i=>
  have hi:i.size=1:=by simpa [hq] using hs
  have h1:0<=j:=by omega
  have h2:k<=(j.toNat:Int):=by omega
  have h3:¬n=k.toNat:=by omega
  have h4:k<=max j 0:=by omega
  simp[execOp,ho,hx,hl,hm,Instr.sliceAt,run_underlying hu,Instr.sureAddr,Instr.sliceBounds,Instr.sliceBound,asIntOf,h0,h1,hj,h4,h3,sizeOf,typeInfo,hq,hi,Addr.add_mid]
structure Elem (P:Program)(t e:TypeId)(size bytes:Nat):Prop where
 slice:P.underlying t=some (.slice e)
 info:(P.info? e).map (λi=>(i.size,i.bytes,i.zero.map (·.cells.size)))=some (size,bytes,some size)
 pos:0<size
theorem Elem.open {t e:TypeId}{size bytes:Nat}(E:Elem P t e size bytes):∃i z,P.info? e=some i/\i.zero=some z/\i.size=size/\i.bytes=bytes/\z.cells.size=size:=by
 have h:=E.info;cases hq:P.info? e with
 |none=>rw[hq] at h;cases h
 |some i=>
  rw[hq] at h;simp only[Option.map_some,Option.some.injEq,Prod.mk.injEq] at h;obtain⟨h1,h2,h3⟩:=h;cases hz:i.zero with
  |none=>rw[hz] at h3;cases h3
  |some z=>rw[hz] at h3;exact⟨i,z,rfl,hz,h1,h2,by simpa using h3⟩
end
section
variable {P:Program}{ops:Array Oper}{Q:Exit->Act->World->Prop}{a:Act}{w:World}{rest:List Oper}{o:Oper}
theorem bP {s x:Operand}{t u:TypeId}(_:o.op= .call {callee:= .builtin .append,args:=#[s,x],argTypes:=#[t,u]})(h:al (wpList P ops Q (o::rest) a w)):wpList P ops Q (o::rest) a w:=h
theorem bO {t:TypeId}{n:Nat}{ps:Array (Nat×Operand)}(_:o.op= .buildSlice t n ps)(h:al (wpList P ops Q (o::rest) a w)):wpList P ops Q (o::rest) a w:=h
theorem fU (hg:o.guard=none)(t e:TypeId)(size bytes:Nat)(E:Elem P t e size bytes)(x:Operand)(ho:o.op= .buildSlice t 1 #[(0,x)])(v:Value)(hx:a.eval x=v)(hv:v.cells.size=size)(h:∀(w1:World) (b:Nat),w.heap.size<=b->aO [] w w1->Row w1 b v.cells e->wpList P ops Q rest (a.put o.dst (.slice (some ⟨b,0,none⟩) 1 1)) w1)(h24:size<=1000:=by omega):wpList P ops Q (o::rest) a w:=by
 obtain⟨i,z,hi,hz,hs,hb,hzs⟩:=E.open;have h0:=E.pos;exact cx hg _ _ (tM t e x ho E.slice i z v hi hz (by omega) (by omega) hx (by omega)) (h _ _ (Nat.le_refl _) (aO.alloc _ _ _) (Row.new _ _ _))
theorem zt {K:Act->World->Prop}(t e:TypeId)(size bytes:Nat)(E:Elem P t e size bytes)(s x:Operand)
  (ho:o.op= .call {callee:= .builtin .append,args:=#[s,x],argTypes:=#[t,t]}) (base:Nat) (v:Value) (n:Nat) (xs:List Value) (hs:a.eval s=v) (hown:w.ownsRow base e size v n xs)
  (b m c:Nat) (news:List Value) (hx:a.eval x= .slice (some ⟨b,0,none⟩) m c) (cur:Array Value) (u:TypeId) (hr:Row w b cur u) (hn:cur.toList.take (m*size)=news) (hl:news.length=m*size) (h1:∀v∈news,v.oneCell'=true) (hm:0<m)
  (hsmall:n+m<=1048576) (hbytes:bytes<=1048576) (hbase:base<=w.heap.size)
  (h:∀g cap w',w'.ownsRow base e size (.slice (some ⟨g,0,none⟩) (n+m) cap) (n+m) (xs++news)->aO v.ownBlock.toList w w'->(v.ownBlock=some g\/w.heap.size<=g)->K (a.put o.dst (.slice (some ⟨g,0,none⟩) (n+m) cap)) w'):o.wp P a w K Q:=by
 obtain⟨i,z,hi,hz,hsz,hb,hzs⟩:=E.open;refine wp_append_lies w s x t ho base e i z size bytes E.slice hi hz hsz hb hzs E.pos v n xs hs hown ⟨b,0,none⟩ m c news hx hl (λj u hu=>?_) h1 hm (by simp[maxLen];omega) ?_ hbase w.heap.size rfl (λg cap w' o1 o2 o3 _=>h g cap w' o1 (aO.grown o2) (o3.imp id (by omega)))
 .rw[Addr.add_mid,hr.cell]
  subst hn;rw[List.getElem?_take] at hu;split at hu
  .simpa using hu
  .cases hu
 .exact Nat.le_trans (Nat.mul_le_mul hsmall hbytes) (by decide)
theorem iz (hg:o.guard=none)(t e:TypeId)(size bytes:Nat)(E:Elem P t e size bytes)(s x:Operand)
  (ho:o.op= .call {callee:= .builtin .append,args:=#[s,x],argTypes:=#[t,t]}) (base:Nat) (v:Value) (n:Nat) (xs:List Value) (hs:a.eval s=v) (hown:w.ownsRow base e size v n xs)
  (b m c:Nat) (news:List Value) (hx:a.eval x= .slice (some ⟨b,0,none⟩) m c) (cur:Array Value) (u:TypeId) (hr:Row w b cur u) (hn:cur.toList.take (m*size)=news) (hl:news.length=m*size) (h1:∀v∈news,v.oneCell'=true) (hm:0<m)
  (hsmall:n+m<=1048576) (hbytes:bytes<=1048576) (hbase:base<=w.heap.size)
  (h:∀g cap w',w'.ownsRow base e size (.slice (some ⟨g,0,none⟩) (n+m) cap) (n+m) (xs++news)->aO v.ownBlock.toList w w'->(v.ownBlock=some g\/w.heap.size<=g)->wpList P ops Q rest (a.put o.dst (.slice (some ⟨g,0,none⟩) (n+m) cap)) w'):wpList P ops Q (o::rest) a w:=
 wpList_plain hg λ_ hK=>zt t e size bytes E s x ho base v n xs hs hown b m c news hx cur u hr hn hl h1 hm hsmall hbytes hbase λg cap w' o1 o2 o3=>hK _ _ (h g cap w' o1 o2 o3)
end
def eE (P:Program)(C:World->Prop)(o:Oper):Prop:=∀ρ w,C w->match(execOp ρ o).run P w with
 |.ok (.value _) w'=>C w'
 |.ok .skip w'=>C w'
 |.ok _ _=>False
 |.halt _ _=>True
def Gives (P:Program)(C:World->Prop)(e:Sem Next)(v:Value):Prop:=∀w,C w->match e.run P w with
 |.ok (.value u) w'=>u=v/\w'=w
 |.ok (.enter f args) w'=>w'=w/\Calls P f args w (λe x=>e= .returned v/\x=w)
 |_=>False
section
variable {P:Program}{ops:Array Oper}{Q:Exit->Act->World->Prop}{md:Region.Mode}{C:World->Prop}
theorem Gives.wp {o:Oper}{a:Act}{v:Value}{w:World}{K:Act->World->Prop}(h:Gives P C (execOp a.eval o) v)(hC:C w)(hK:K (a.put o.dst v) w):o.wp P a w K Q:=by
 have:=h w hC;unfold Oper.wp;cases hr:(execOp a.eval o).run P w with
 |ok n w'=>
  rw[hr] at this;cases n<;>simp only[Oper.upon] at this⊢
  case value u=>obtain⟨rfl,rfl⟩:=this;exact hK
  case enter f args=>
   obtain⟨rfl,hc⟩:=this;refine hc.mono ?_;rintro e x ⟨rfl,rfl⟩;exact hK
 |halt x w'=>rw[hr] at this;exact this.elim
theorem Gives.val {e:Sem Next}{v:Value}(h:∀w,C w->e.run P w= .ok (.value v) w):Gives P C e v:=λw hw=>by
 rw[h w hw];exact⟨rfl,rfl⟩
theorem Kq {i:Nat}{oi:Oper}{v:Value}(hi:ops[i]? =some oi)(hsel:∀(j:Nat) (o:Oper) cs b,ops[j]? =some o->o.op≠.select cs b)
  (hQ:∀c a w,Q (.panic c) (a.put oi.dst v) w->Q (.panic c) a w):
  ∀(fuel:Nat) (listed:Array Bool) (a:Act) (w:World),
   (∀j oj,ops[j]? =some oj->j≠i->listed.getD j true=false->(∀e∈oj.after,Region.binds md e=true->e.on≠i)->oi.apart ops oj=true/\eE P C oj)->
   i∈Region.ready md ops listed->Region.wanted oi (yielded ops a.tmps)=true->Gives P C (execOp a.eval oi) v->C w->
   wpAny P md ops Q fuel (listed.setIfInBounds i true) (a.put oi.dst v) w->wpAny P md ops Q (fuel+1) listed a w:=by
 intro fuel
 induction fuel with
 |zero=>
  intro listed a w _ hr hw hy hC H;refine⟨λh=>(by rw[h] at hr;cases hr),λj hj=>?_⟩
  by_cases hji:j=i
  .subst hji
   unfold wpOp;simp only[hi,hw,if_true];exact .inl (hy.wp hC H)
  .have:=ready_mono hj hji
   rw[H.1] at this;cases this
 |succ fuel ih=>
  intro listed a w hfree hr hw hy hC H;refine⟨λh=>(by rw[h] at hr;cases hr),λj hj=>?_⟩
  by_cases hji:j=i
  .subst hji
   unfold wpOp;simp only[hi,hw,if_true];exact .inl (hy.wp hC H)
  .have h1:=H.2 j (ready_mono hj hji)
   obtain⟨hjun,oj,hoj,hall⟩:=mem_ready.1 hj;have hnot:∀e∈oj.after,Region.binds md e=true->e.on≠i:=λe he hb heq=>by
    have h1:=hall e he hb;have h0:=(mem_ready.1 hr).1;rw[heq] at h1;rcases Nat.lt_or_ge i listed.size with h'|h'
    .simp[h'] at h0 h1;rw[h0] at h1;cases h1
    .simp[Array.getElem?_eq_none h'] at h1
   obtain⟨hap,hkeep⟩:=hfree j oj hoj hji hjun hnot;obtain⟨s1,s2,s3⟩:=Oper.apart_spec hap;have hfree':∀k ok,ops[k]? =some ok->k≠i->(listed.setIfInBounds j true).getD k true=false->
     (∀e∈ok.after,Region.binds md e=true->e.on≠i)->oi.apart ops ok=true/\eE P C ok:=λk ok hk hki hun hno=>by
    refine hfree k ok hk hki ?_ hno
    by_cases hjk:j=k
    .subst hjk;exact hjun
    .rw[getD_set_ne true hjk] at hun;exact hun
   have next:∀(u:Value) (w':World),C w'->wpAny P md ops Q fuel ((listed.setIfInBounds i true).setIfInBounds j true) ((a.put oi.dst v).put oj.dst u) w'->
     wpAny P md ops Q (fuel+1) (listed.setIfInBounds j true) (a.put oj.dst u) w':=λu w' hC' h3=>by
    refine ih _ _ w' hfree' (ready_mono hr (Ne.symm hji)) ?_ ?_ hC' ?_
    .rw[wanted_put oi a oj.dst u s3];exact hw
    .rw[execOp_put oi (λcs b=>hsel i oi cs b hi) a oj.dst u s3];exact hy
    .rw[Array.setIfInBounds_comm _ _ hji,<-Act.put_comm a v u s2];exact h3
   have hex:=execOp_put oj (λcs b=>hsel j oj cs b hoj) a oi.dst v s1;unfold wpOp at h1⊢;simp only[hoj] at h1⊢;rw[wanted_put oj a oi.dst v s1] at h1;split
   .rename_i hwj
    simp only[hwj,if_true] at h1;rcases h1 with h1|⟨h1,h2⟩
    .refine .inl ?_
     unfold Oper.wp at h1⊢;rw[hex] at h1;have hk:=hkeep a.eval w hC;generalize (execOp a.eval oj).run P w=r at h1 hk⊢;cases r with
     |ok n w'=>
      cases n<;>simp only[Oper.upon] at h1 hk⊢
      case value u=>exact next u w' hk h1
      case skip=>exact next undef w' hk h1
     |halt x w'=>
      cases x<;>simp only[Oper.upon] at h1⊢
      case panic u=>exact hQ _ _ _ h1
    .exact .inr ⟨by unfold Oper.asks at h1⊢;rw[hex] at h1;exact h1,h2⟩
   .rename_i hwj
    simp only[hwj] at h1;exact next undef w hC h1
def others (md:Region.Mode)(ops:Array Oper)(listed:Array Bool)(i:Nat):List Oper:=
 (List.range ops.size).filterMap λj=>if j==i||listed.getD j true then none else match ops[j]? with
  |some oj=>if oj.after.any (λe=>Region.binds md e&&e.on==i) then none else some oj
  |none=>none
theorem D6 {i:Nat}{oi:Oper}{v:Value}{fuel:Nat}{listed:Array Bool}{a:Act}{w:World}(C:World->Prop)(hi:ops[i]? =some oi)
  (hs:Region.noSelect ops=true) (hf:Region.free md ops listed i=true) (hr:(Region.ready md ops listed).contains i=true)
  (hQ:∀c a w,Q (.panic c) (a.put oi.dst v) w->Q (.panic c) a w) (hg:oi.guard=none) (hC:C w) (hy:Gives P C (execOp a.eval oi) v)
  (rs:List Oper) (ho:others md ops listed i=rs) (hk:∀o∈rs,eE P C o)
  (h:wpAny P md ops Q fuel (listed.setIfInBounds i true) (a.put oi.dst v) w):wpAny P md ops Q (fuel+1) listed a w:=by
 refine Kq (C:=C) hi (Region.noSelect_spec hs) hQ fuel listed a w (λj oj hj hne hun hno=>⟨Region.free_spec hi hf j oj hj hne hun hno,hk oj ?_⟩) (by simpa using hr) (by simp[Region.wanted,hg]) hy hC h;rw[<-ho];unfold others;rw[List.mem_filterMap];refine⟨j,List.mem_range.2 (Array.getElem?_eq_some_iff.1 hj).1,?_⟩
 rw[if_neg (by simp only[Bool.or_eq_true,beq_iff_eq,hun,or_false,Bool.false_eq_true];exact hne)];simp only[hj];rw[if_neg];intro hany;obtain⟨e,he,hb⟩:=Array.any_eq_true'.1 hany;simp only[Bool.and_eq_true,beq_iff_eq] at hb;exact hno e he hb.1 hb.2
theorem Bl {i:Nat}{oi:Oper}{fuel:Nat}{listed:Array Bool}{a:Act}{w:World}(hr:Region.ready md ops listed=[i])(hi:ops[i]? =some oi)(hg:oi.guard=none)
  (h:∀K:Act->World->Prop,(∀a w,wpAny P md ops Q fuel (listed.setIfInBounds i true) a w->K a w)->oi.wp P a w K Q):wpAny P md ops Q (fuel+1) listed a w:=
 wpAny_all hr (by simp) λj hj=>by
  obtain rfl:j=i:=by simpa using hj
  unfold wpOp;simp only[hi];rw[if_pos (by simp[Region.wanted,hg])];exact .inl (h _ λ_ _ x=>x)
theorem Ht {i:Nat}{oi:Oper}{fuel:Nat}{listed:Array Bool}{a:Act}{w:World}(hr:Region.ready md ops listed=[i])(hi:ops[i]? =some oi)(hg:oi.guard=none)
  (v:Value) (w1:World) (hrun:(execOp a.eval oi).run P w= .ok (.value v) w1) (h:wpAny P md ops Q fuel (listed.setIfInBounds i true) (a.put oi.dst v) w1):wpAny P md ops Q (fuel+1) listed a w:=
 Bl hr hi hg λK hK=>by
  unfold Oper.wp;rw[hrun];exact hK _ _ h
theorem Ov {i:Nat}{oi:Oper}{fuel:Nat}{listed:Array Bool}{a:Act}{w:World}(hr:Region.ready md ops listed=[i])(hi:ops[i]? =some oi)(hg:oi.guard=none)
  (w1:World) (hrun:(execOp a.eval oi).run P w= .ok .skip w1) (h:wpAny P md ops Q fuel (listed.setIfInBounds i true) (a.put oi.dst undef) w1):wpAny P md ops Q (fuel+1) listed a w:=
 Bl hr hi hg λK hK=>by
  unfold Oper.wp;rw[hrun];exact hK _ _ h
end
structure Lets (C:World->Prop):Prop where
 alloc:∀w o,C w->C (w.alloc o)
 drew:∀w,C w->C w.drew
def aA {α:Type}(P:Program)(C:World->Prop)(e:Sem α):Prop:=∀w,C w->match e.run P w with
 |.ok _ w'=>C w'
 |.halt _ _=>True
section
variable {P:Program}{C:World->Prop}{α β:Type}
theorem aA.pure (a:α):aA P C (Pure.pure a:Sem α):=λ_ h=>h
theorem aA.halt (x:Halt):aA P C (Sem.halt x:Sem α):=λ_ _=>trivial
theorem aA.stuck (x:String):aA P C (stuck x:Sem α):=λ_ _=>trivial
theorem aA.bind {e:Sem α}{f:α->Sem β}(h:aA P C e)(k:∀a,aA P C (f a)):aA P C (e>>=f):=λw hw=>by
 have:=h w hw;rw[Sem.run_bind];cases hr:e.run P w with
 |ok a w'=>rw[hr] at this;exact k a w' this
 |halt x w'=>trivial
theorem aA.map {e:Sem α}{f:α->β}(h:aA P C e):aA P C (Functor.map f e):=λw hw=>by
 have:=h w hw;rw[Sem.run_map];cases hr:e.run P w with
 |ok a w'=>rw[hr] at this;exact this
 |halt x w'=>trivial
theorem aA.typeInfo (t:TypeId):aA P C (typeInfo t):=λw hw=>by
 simp only[Go.typeInfo,Sem.run_bind,run_program,Result.andThen_ok];cases P.info? t with
 |none=>trivial
 |some i=>exact hw
theorem aA.underlying (t:TypeId):aA P C (underlying t):=λw hw=>by
 simp only[Go.underlying,Sem.run_bind,run_program,Result.andThen_ok];cases P.underlying t with
 |none=>trivial
 |some i=>exact hw
theorem aA.sizeOf (t:TypeId):aA P C (sizeOf t):=(aA.typeInfo t).bind λ_=>aA.pure _
theorem aA.zeroValue (t:TypeId):aA P C (zeroValue t):=(aA.typeInfo t).bind λi=>by
 cases i.zero with
 |none=>exactλ_ _=>trivial
 |some v=>exact aA.pure _
theorem aA.isAgg (t:TypeId):aA P C (isAgg t):=(aA.underlying t).bind λd=>by
 cases d<;>exact aA.pure _
theorem aA.load (a:Addr):aA P C (load a):=λw hw=>by
 unfold Go.load;simp only[Sem.run];cases w.cell? a with
 |some v=>exact hw
 |none=>
  simp only;cases w.farLoad P a (Mode.plain==Mode.atomic) with
  |ok r=>exact hw
  |error h=>trivial
theorem aA.loadCellsFrom (a:Addr):∀(n i:Nat) (acc:Array Value),aA P C (loadCellsFrom a i n acc)
 |0,_,_=>aA.pure _
 |n+1,i,_=>(aA.load _).bind λ_=>aA.loadCellsFrom a n (i+1) _
theorem aA.loadVar (t:TypeId)(a:Addr):aA P C (loadVar t a):=(aA.isAgg t).bind λb=>by
 cases b with
 |true=>exact(aA.sizeOf t).bind λn=>(aA.loadCellsFrom a n 0 #[]).bind λ_=>aA.pure _
 |false=>exact aA.load a
theorem aA.sureAddr (v:Value):aA P C (Instr.sureAddr v):=by
 unfold Instr.sureAddr;split
 .exact aA.pure _
 .exact aA.stuck _
theorem aA.loadAt (t:TypeId)(v:Value):aA P C (Instr.loadAt t v):=(aA.sureAddr v).bind λa=>aA.loadVar t a
theorem aA.newRow (hC:Lets C)(t:TypeId)(cs:Array Value):aA P C (newRow t cs):=λw hw=>by
 simp only[Go.newRow,Sem.run_bind,run_newObj_alloc,Result.andThen_ok];exact hC.alloc w _ hw
theorem aA.mapM {f:α->Sem β}(h:∀a,aA P C (f a)):∀(l:List α),aA P C (l.mapM f)
 |[]=>by simp only[List.mapM_nil];exact aA.pure _
 |a::r=>by simp only[List.mapM_cons];exact(h a).bind λ_=>(aA.mapM h r).bind λ_=>aA.pure _
theorem aA.abV {f:α->Sem β}(h:∀a,aA P C (f a))(l:Array α):aA P C (l.mapM f):=by
 rw[Array.mapM_eq_mapM_toList];exact aA.map (aA.mapM h _)
theorem aA.build (t:TypeId)(parts:Array (Nat×Value)):aA P C (Instr.build t parts):=by
 refine(aA.zeroValue t).bind λz=>(aA.underlying t).bind λd=>?_
 cases d<;>try exact aA.stuck _
 case array n e=>
  refine(aA.sizeOf e).bind λs=>?_
  split
  .exact aA.pure _
  .exact aA.stuck _
 case struct fs=>
  have hp:aA P C (fs.mapM λf=>(do Pure.pure (f.offset,<-Go.sizeOf f.type):Sem (Nat×Nat))):=aA.abV (λf=>(aA.sizeOf f.type).bind λ_=>aA.pure _) fs;refine aA.bind hp λplaces=>?_
  split
  .exact aA.pure _
  .exact aA.stuck _
theorem aA.buildSlice (hC:Lets C)(t:TypeId)(n:Nat)(parts:Array (Nat×Value)):aA P C (Instr.buildSlice t n parts):=by
 refine(aA.underlying t).bind λd=>?_
 cases d<;>try exact aA.stuck _
 case slice e=>
  refine(aA.sizeOf e).bind λs=>?_
  have tail:∀zero:Array Value,aA P C (match Instr.fill (λi=>some (i*s,s)) ((Array.range (n*s)).map (zero[·%zero.size]!)) parts.toList with
    |some cells=>(do Pure.pure (Value.slice (some (<-Go.newRow e cells)) n n):Sem Value)
    |_=>Go.stuck "buildSlice: a part of the wrong size"):=λzero=>by
   split
   .exact(aA.newRow hC _ _).bind λ_=>aA.pure _
   .exact aA.stuck _
  dsimp only;split
  .exact λ_ _=>trivial
  .split
   .exact(aA.pure _).bind λz=>tail z
   .exact(aA.zeroValue e).bind λv=>(aA.pure v.cells).bind λz=>tail z
def fR {α:Type}(P:Program)(e:Sem α):Prop:=∀w v w',e.run P w≠.ok v w'
theorem fR.keeps {e:Sem α}(h:fR P e):aA P C e:=λw _=>by
 cases hr:e.run P w with
 |ok a w'=>exact absurd hr (h w a w')
 |halt x w'=>trivial
theorem fR.halt (x:Halt):fR P (Sem.halt x:Sem α):=λ_ _ _ h=>by cases h
theorem fR.bind {e:Sem α}{f:α->Sem β}(h:∀a,fR P (f a)):fR P (e>>=f):=λw v w' hr=>by
 rw[Sem.run_bind] at hr;cases he:e.run P w with
 |ok a w1=>rw[he] at hr;exact h a w1 v w' hr
 |halt x w1=>rw[he] at hr;cases hr
theorem fR.runtimePanic (x:RuntimeError):fR P (runtimePanic x:Sem α):=by
 refine fR.bind λp=>?_
 cases x<;>first|exact fR.halt _|exact fR.bind λ_=>fR.bind λ_=>fR.halt _
theorem fR.boundsPanic (k:IntKind)(x y:Int)(c:BoundsCode):fR P (boundsPanic k x y c:Sem α):=by
 have h:∀s,fR P (Go.runtimePanic (.bounds (IntKind.i64.wrap x) y s c):Sem α):=λs=>fR.runtimePanic _
 unfold Go.boundsPanic;unfold Go.runtimePanic at h⊢;dsimp only;split
 .exact fR.bind h
 .exact fR.bind h
theorem aA.asIntOf (v:Value):aA P C (asIntOf v):=by
 unfold Go.asIntOf;split<;>first|exact aA.pure _|exact aA.halt _
theorem aA.sliceBound (v:Value)(y:Nat)(c:BoundsCode):aA P C (Instr.sliceBound v y c):=by
 refine(aA.asIntOf v).bind λx=>?_
 dsimp only;split
 .exact aA.pure _
 .exact(fR.boundsPanic _ _ _ _).keeps
theorem aA.sliceBounds (b:Bool)(l c:Nat)(x y z:Option Value):aA P C (Instr.sliceBounds b l c x y z):=by
 unfold Instr.sliceBounds;dsimp only
 (repeat' first|exact aA.pure _|exact aA.sliceBound _ _ _|exact aA.stuck _|(refine aA.bind ?_ λ_=>?_)|split)
theorem aA.asAddr (v:Value):aA P C (asAddr v):=by
 unfold Go.asAddr
 (repeat' first|exact aA.pure _|exact aA.stuck _|exact aA.halt _|exact(fR.runtimePanic _).keeps|split)
theorem aA.Um (t:TypeId)(v:Value)(x y z:Option Value):aA P C (Instr.slice t v x y z):=by
 refine(aA.underlying t).bind λd=>?_
 (repeat' first|exact aA.pure _|exact aA.stuck _|exact aA.asAddr _|exact aA.sliceBounds _ _ _ _ _ _|exact aA.sizeOf _|exact aA.underlying _|(refine aA.bind ?_ λ_=>?_)|split)
theorem aA.sliceAt (t:TypeId)(v:Value)(x y z:Option Value):aA P C (Instr.sliceAt t v x y z):=by
 refine(aA.underlying t).bind λd=>?_
 (repeat' first|exact aA.pure _|exact aA.Um _ _ _ _ _|exact aA.stuck _|exact aA.sureAddr _|exact aA.sliceBounds _ _ _ _ _ _|exact aA.sizeOf _|(refine aA.bind ?_ λ_=>?_)|split)
theorem aA.indexAt (t:TypeId)(x i:Value):aA P C (Instr.indexAt t x i):=by
 refine(aA.asIntOf i).bind λk=>?_
 refine(aA.underlying t).bind λd=>?_
 (repeat' first|exact aA.pure _|exact aA.stuck _|exact aA.halt _|exact aA.sureAddr _|exact(fR.boundsPanic _ _ _ _).keeps|exact aA.sizeOf _|exact aA.underlying _|(refine aA.bind ?_ λ_=>?_)|split|(dsimp only;split))
theorem eE.mF {o:Oper}(s:(Operand->Value)->Sem Value)(ho:∀ρ,execOp ρ o=(do pure (Next.value (<-s ρ))))(h:∀ρ,aA P C (s ρ)):eE P C o:=λρ w hw=>by
 have:=h ρ w hw;rw[ho,Sem.run_bind];cases hr:(s ρ).run P w with
 |ok a w'=>rw[hr] at this;exact this
 |halt x w'=>trivial
theorem eE.load {o:Oper}{t:TypeId}{x:Operand}(ho:o.op= .load t x):eE P C o:= .mF (λρ=>Instr.loadAt t (ρ x)) (λρ=>by simp only[execOp,ho]) (λ_=>aA.loadAt _ _)
theorem eE.build {o:Oper}{t:TypeId}{ps:Array (Nat×Operand)}(ho:o.op= .build t ps):eE P C o:= .mF (λρ=>Instr.build t (ps.map λ(i,x)=>(i,ρ x))) (λρ=>by simp only[execOp,ho]) (λ_=>aA.build _ _)
theorem eE.buildSlice (hC:Lets C){o:Oper}{t:TypeId}{n:Nat}{ps:Array (Nat×Operand)}(ho:o.op= .buildSlice t n ps):eE P C o:= .mF (λρ=>Instr.buildSlice t n (ps.map λ(i,x)=>(i,ρ x))) (λρ=>by simp only[execOp,ho]) (λ_=>aA.buildSlice hC _ _ _)
theorem eE.indexAddr {o:Oper}{t:TypeId}{x i:Operand}(ho:o.op= .indexAddr t x i):eE P C o:= .mF (λρ=>Instr.indexAt t (ρ x) (ρ i)) (λρ=>by simp only[execOp,ho]) (λ_=>aA.indexAt _ _ _)
theorem eE.slice {o:Oper}{t:TypeId}{x:Operand}{l h m:Option Operand}(ho:o.op= .slice t x l h m):eE P C o:= .mF (λρ=>Instr.sliceAt t (ρ x) (l.map ρ) (h.map ρ) (m.map ρ)) (λρ=>by simp only[execOp,ho]) (λ_=>aA.sliceAt _ _ _ _ _)
def Plain (P:Program)(src dst:TypeId):Bool:=match P.underlying src,P.underlying dst with
 |some (.slice e),some .string=>match P.underlying e with|some (.int .u8)=>true|_=>false
 |some (.int _),some (.int _)=>true
 |_,_=>false
theorem aA.M4 {γ:Type}{f:γ->β->Sem (ForInStep β)}(h:∀a s,aA P C (f a s)):∀(l:List γ) (s:β),aA P C (forIn l s f)
 |[],s=>by rw[List.forIn_nil];exact aA.pure _
 |a::r,s=>by
  rw[List.forIn_cons];refine(h a s).bind λx=>?_
  cases x with
  |done b=>exact aA.pure _
  |yield b=>exact aA.M4 h r b
theorem aA.bytesToString (x:Value):aA P C (Conv.bytesToString x):=by
 unfold Conv.bytesToString;split
 .exact aA.pure _
 .refine aA.bind (aA.loadCellsFrom _ _ _ _) λcs=>?_
  refine aA.bind ?_ λ_=>aA.pure _
  rw[<-Array.forIn_toList];refine aA.M4 (λa s=>?_) _ _;split
  .exact aA.pure _
  .exact(aA.stuck _).bind λ_=>aA.pure _
 .exact aA.stuck _
theorem aA.choose (hC:Lets C)(q:Question):aA P C (choose q):=λw hw=>by
 unfold Go.choose;simp only[Sem.run]
 by_cases hq:q.forced=true
 .simp only[hq,if_true];exact hw
 .simp only[hq];exact hC.drew w hw
theorem aA.floatToInt (hC:Lets C)(k:FloatKind)(b:Nat)(d:IntKind):aA P C (Conv.floatToInt k b d):=by
 unfold Conv.floatToInt;dsimp only;split
 .split
  .exact aA.pure _
  .exact(aA.choose hC _).bind λ_=>aA.pure _
 .exact(aA.choose hC _).bind λ_=>aA.pure _
theorem eE.convert (hC:Lets C){o:Oper}{src dst:TypeId}{x:Operand}(hp:Plain P src dst=true)(ho:o.op= .convert src dst x):eE P C o:=by
 refine .mF (λρ=>Go.convert src dst (ρ x)) (λρ=>by simp only[execOp,ho]) (λρ=>?_);intro w hw;unfold Plain at hp;split at hp
 .rename_i e h1 h2
  split at hp
  .rename_i h3
   simp only[Go.convert,Sem.run_bind,run_underlying h1,run_underlying h2,Result.andThen_ok];have hb:=aA.bytesToString (P:=P) (C:=C) (ρ x) w hw;cases hx:ρ x<;>rw[hx] at hb<;>first|exact hw|(simp only[Sem.run_bind,run_underlying h3,Result.andThen_ok];exact hb)
  .cases hp
 .rename_i k1 k2 h1 h2
  simp only[Go.convert,Sem.run_bind,run_underlying h1,run_underlying h2,Result.andThen_ok];cases hx:ρ x<;>first|exact hw|exact trivial|exact aA.floatToInt hC _ _ _ w hw|skip
  case pointer ad=>cases ad<;>exact trivial
 .cases hp
theorem eE.move {o:Oper}{x:Operand}(ho:o.op= .move x\/o.op= .assign x):eE P C o:=λρ w hw=>by
 rcases ho with ho|ho<;>simp only[execOp,ho]<;>exact hw
def BP (P:Program)(o:Oper):Bool:=match o.op with
 |.load .. |.build .. |.buildSlice .. |.move _|.assign _|.indexAddr .. |.slice .. =>true
 |.convert src dst _=>Plain P src dst
 |_=>false
theorem eE.BP (hC:Lets C){o:Oper}(h:BP P o=true):eE P C o:=by
 cases ho:o.op<;>simp only[Go.Proofs.YtchcmhodnkgojaaGreat.BP,ho] at h<;>first|(cases h;done)|exact eE.load ho|exact eE.build ho|exact eE.buildSlice hC ho|exact eE.move (.inl ho)|exact eE.move (.inr ho)|exact eE.indexAddr ho|exact eE.slice ho|exact eE.convert hC h ho
end
section
variable {P:Program}{ops:Array Oper}{Q:Exit->Act->World->Prop}{md:Region.Mode}
theorem Ou {i:Nat}{oi:Oper}{v:Value}{fuel:Nat}{listed:Array Bool}{a:Act}{w:World}(C:World->Prop)(hl:Lets C)(hC:C w)(hi:ops[i]? =some oi)
  (hs:Region.noSelect ops=true) (hf:Region.free md ops listed i=true) (hr:(Region.ready md ops listed).contains i=true)
  (hQ:∀c a w,Q (.panic c) (a.put oi.dst v) w->Q (.panic c) a w) (hg:oi.guard=none) (hk:(others md ops listed i).all (BP P)=true) (hy:∀w,C w->(execOp a.eval oi).run P w= .ok (.value v) w)
  (h:wpAny P md ops Q fuel (listed.setIfInBounds i true) (a.put oi.dst v) w):wpAny P md ops Q (fuel+1) listed a w:=
 D6 C hi hs hf hr hQ hg hC (Gives.val hy) _ rfl (λo ho=>eE.BP hl (List.all_eq_true.1 hk o ho)) h
theorem D7 {i:Nat}{oi:Oper}{v:Value}{fuel:Nat}{listed:Array Bool}{a:Act}{w:World}(hi:ops[i]? =some oi)
  (hs:Region.noSelect ops=true) (hf:Region.free md ops listed i=true) (hr:(Region.ready md ops listed).contains i=true)
  (hQ:∀c a w,Q (.panic c) (a.put oi.dst v) w->Q (.panic c) a w) (hg:oi.guard=none) (hy:∀w,(execOp a.eval oi).run P w= .ok (.value v) w)
  (h:wpAny P md ops Q fuel (listed.setIfInBounds i true) (a.put oi.dst v) w):wpAny P md ops Q (fuel+1) listed a w:=
 wpAny_take hi hs hf hr hQ (.inl ⟨by simp[Region.wanted,hg],hy⟩) h
def upto (n k:Nat):Array Bool:=((List.range n).map λj=>decide (j<k)).toArray
theorem mn (n k:Nat)(_h:k<n):(upto n k).setIfInBounds k true=upto n (k+1):=by
 apply Array.ext_getElem?
 intro i;simp only[upto,Array.getElem?_setIfInBounds,List.size_toArray,List.length_map,List.length_range,List.getElem?_toArray,List.getElem?_map]
 by_cases hi:k=i
 .subst hi;simp[_h]
 .simp only[hi,if_false]
  rcases Nat.lt_or_ge i n with h'|h'
  .simp only[List.getElem?_range h',Option.map_some,Option.some.injEq,decide_eq_decide];omega
  .simp[h']
def At (P:Program)(ops:Array Oper)(Q:Exit->Act->World->Prop)(n k:Nat)(a:Act)(w:World):Prop:=wpAny P .any ops Q (n-k) (upto n k) a w
theorem fq {id:Nat}{a:Act}{w:World}(n:Nat)(hn:ops.size=n)(h:At P ops Q n 0 a w.drew)(hm:P.follows .mixedOrders=true:=by kernel_rfl):(Code.region id ops true).wp P Q a w:=by
 refine wp_region_any hm ?_;rw[hn];have e:Array.replicate n false=upto n 0:=by
  apply Array.ext_getElem?
  intro i;rcases Nat.lt_or_ge i n with h'|h'
  .simp[upto,h']
  .simp[upto,h']
 rw[e];exact h
theorem At.step {n k:Nat}{a:Act}{w:World}(hk:k<n)(h:wpAny P .any ops Q ((n-(k+1))+1) (upto n k) a w):At P ops Q n k a w:=by
 unfold At;rw[show n-k=(n-(k+1))+1 by omega];exact h
theorem bM {n:Nat}(k:Nat){oi:Oper}{v:Value}{a:Act}{w:World}(dst:Option Tmp)(hi:ops[k]? =some oi)(hd:oi.dst=dst)(hQ:∀c a w,Q (.panic c) (a.put oi.dst v) w->Q (.panic c) a w)(hg:oi.guard=none)(hy:∀w,(execOp a.eval oi).run P w= .ok (.value v) w)(h:At P ops Q n (k+1) (a.put dst v) w)(hk:k<n:=by omega)(hs:Region.noSelect ops=true:=by kernel_rfl)(hf:Region.free .any ops (upto n k) k=true:=by kernel_rfl)(hr:(Region.ready .any ops (upto n k)).contains k=true:=by kernel_rfl):At P ops Q n k a w:=
 .step hk (D7 hi hs hf hr hQ hg hy (by rw[mn n k hk,hd];exact h))
theorem lN {n:Nat}(k:Nat){oi:Oper}{v:Value}{a:Act}{w:World}(C:World->Prop)(hl:Lets C)(hC:C w)(dst:Option Tmp)(hi:ops[k]? =some oi)(hd:oi.dst=dst)(hQ:∀c a w,Q (.panic c) (a.put oi.dst v) w->Q (.panic c) a w)(hg:oi.guard=none)(hy:∀w,C w->(execOp a.eval oi).run P w= .ok (.value v) w)(h:At P ops Q n (k+1) (a.put dst v) w)(hk:k<n:=by omega)(hs:Region.noSelect ops=true:=by kernel_rfl)(hf:Region.free .any ops (upto n k) k=true:=by kernel_rfl)(hr:(Region.ready .any ops (upto n k)).contains k=true:=by kernel_rfl)(ht:(others .any ops (upto n k) k).all (BP P)=true:=by kernel_rfl):At P ops Q n k a w:=
 .step hk (Ou C hl hC hi hs hf hr hQ hg ht hy (by rw[mn n k hk,hd];exact h))
theorem Sm {n:Nat}(k:Nat){oi:Oper}{a:Act}{w:World}(C:World->Prop)(hl:Lets C)(hC:C w)(hk:k<n)(dst:Option Tmp)(hi:ops[k]? =some oi)(hd:oi.dst=dst)
  (hs:Region.noSelect ops=true) (hf:Region.free .any ops (upto n k) k=true) (hr:(Region.ready .any ops (upto n k)).contains k=true)
  (hg:oi.guard=none) (ht:(others .any ops (upto n k) k).all (BP P)=true) (f:FuncId) (args:Array Value) (v:Value) (hQ:∀c a w,Q (.panic c) (a.put oi.dst v) w->Q (.panic c) a w)
  (hx:∀w,(execOp a.eval oi).run P w= .ok (.enter f args) w) (hc:∀w,C w->Calls P f args w λe x=>e= .returned v/\x=w)
  (h:At P ops Q n (k+1) (a.put dst v) w):At P ops Q n k a w:=
 .step hk (D6 C hi hs hf hr hQ hg hC (λw hw=>by rw[hx w];exact⟨rfl,hc w hw⟩) _ rfl (λo ho=>eE.BP hl (List.all_eq_true.1 ht o ho)) (by rw[mn n k hk,hd];exact h))
theorem at_one {n:Nat}(k:Nat){oi:Oper}{a:Act}{w:World}(hk:k<n)(hi:ops[k]? =some oi)(hr:Region.ready .any ops (upto n k)=[k])(hg:oi.guard=none)
  (h:∀K:Act->World->Prop,(∀a w,At P ops Q n (k+1) a w->K a w)->oi.wp P a w K Q):At P ops Q n k a w:=
 .step hk (Bl hr hi hg λK hK=>h K λa w x=>hK a w (by rw[mn n k hk];exact x))
theorem qV {n:Nat}(k:Nat){oi:Oper}{a:Act}{w:World}(dst:Option Tmp)(hi:ops[k]? =some oi)(hd:oi.dst=dst)(hg:oi.guard=none)(v:Value)(w1:World)(hrun:(execOp a.eval oi).run P w= .ok (.value v) w1)(h:At P ops Q n (k+1) (a.put dst v) w1)(hk:k<n:=by omega)(hr:Region.ready .any ops (upto n k)=[k]:=by kernel_rfl):At P ops Q n k a w:=
 .step hk (Ht hr hi hg v w1 hrun (by rw[mn n k hk,hd];exact h))
theorem Hs {n:Nat}(k:Nat){oi:Oper}{a:Act}{w:World}(hk:k<n)(dst:Option Tmp)(hi:ops[k]? =some oi)(hd:oi.dst=dst)(hr:Region.ready .any ops (upto n k)=[k])(hg:oi.guard=none)
  (w1:World) (hrun:(execOp a.eval oi).run P w= .ok .skip w1) (h:At P ops Q n (k+1) (a.put dst undef) w1):At P ops Q n k a w:=
 .step hk (Ov hr hi hg w1 hrun (by rw[mn n k hk,hd];exact h))
theorem lP {n:Nat}{a:Act}{w:World}(h:Q .normal a w)(hr:Region.ready .any ops (upto n n)=[]:=by kernel_rfl):At P ops Q n n a w:=wpAny_done hr h _
end
end
section
open Go.RowKit Go.Lib
theorem ub:jV.cells.size=65:=by simp[jV,Value.cells,dI,ai]
theorem DT (s:Int)(l:List UInt8)(h:l.length=64):Tryz.prog.built 240 [(0,.int .i64 s),(1,.agg (byteCells l).toArray)]=some (dI (s,l)).toArray:=by
 have hi:∃it,Tryz.prog.info? 240=some it/\it.zero=some jV:=by
  have:=kG;cases hq:Tryz.prog.info? 240 with
  |none=>rw[hq] at this;cases this
  |some it=>rw[hq] at this;exact⟨it,rfl,by simpa using this⟩
 obtain⟨it,hi,hz⟩:=hi;have hp:∃fs,Tryz.prog.underlying 240=some (.struct fs)/\fs.toList.mapM (λf=>(Tryz.prog.info? f.type).map λi=>(f.offset,i.size))=some [(0,1),(1,64)]:=⟨_,Tryz.underlying240,by kernel_rfl⟩
 obtain⟨fs,hu,hp⟩:=hp;unfold Program.built;simp only[hi,hu,hz,hp];have e1:over jV.cells 0 [Value.int .i64 s]=(Value.int .i64 s::byteCells (List.replicate 64 0)).toArray:=by simp[over,jV,Value.cells,dI]
 rw[tL _ _ 0 _ _ 0 1 rfl rfl (by rw[ub];omega)];rw[show(Value.int IntKind.i64 s).cells.toList=[Value.int .i64 s] from rfl,e1];rw[tL _ _ 1 _ _ 1 64 rfl (by simp[Value.cells,ai,h]) (by simp only[List.size_toArray,List.length_cons,ai,List.length_replicate];omega)];simp only[Instr.fill]
 congr 1
 simp[over,dI,ai,h,Value.cells]
theorem Ic (d bl n:Nat)(vw:Value)(x:DS)(w:World)(s:Int)(l:List UInt8)(hl:l.length=64)(hs:0<=s)(hn:s<n)(iI:x.waiting.length<60)(hd0:d<w.heap.size)
  (hm:∀w1,aO [] w w1->Calls Tryz.prog 187 #[.pointer (some ⟨d,0,none⟩)] w1 λe w'=>e= .returned (.bool true)/\bv w' d bl n vw x/\aO [d] w1 w'):
  Calls Tryz.prog 148 #[.pointer (some ⟨d,0,none⟩),.int .i64 s,.agg (byteCells l).toArray] w λe w'=>e= .returned (.int .i64 0)/\
   ∃Zk,bv w' d bl n Zk {x with waiting:=x.waiting++[(s,l)]}/\aO (d::vw.ownBlock.toList) w w'/\(Zk.ownBlock=vw.ownBlock\/∃k,Zk.ownBlock=some k/\w.heap.size<=k):=by
 go_enter Tryz.func148,Tryz.ntmps148;go_wp2_with (with_reducible first|refine bG rfl ?_);refine al.go (ij rfl 148 _ rfl (.agg (byteCells l).toArray) rfl ?_);intro w1 b5 l5 f1 r5;go_wp2_with fail;refine(hm w1 f1).mono ?_;clear hm;rintro e w2 ⟨rfl,h2,f2⟩;have r5':=f2.row r5 (by simp;omega);have hf:=h2.row.thaw;have q5:Row w2.drew b5 (byteCells l).toArray 148:=r5'
 have h3:bv w2.drew d bl n vw x:=h2.vO (aO.drew [] _) (by simp) (by simp) (by simp);go_wp2_with fail;refine fq 13 rfl ?_;have f3:aO [] w2 w2.drew:=aO.drew [] _;generalize w2.drew=w3 at q5 h3 f3;obtain⟨c0,c1,-⟩:=jS h3.row;refine bM 0 (some 10) rfl rfl (λ_ _ _ h=>h) rfl (λ_=>rfl) ?_
 refine bM 1 (some 11) rfl rfl (λ_ _ _ h=>h) rfl (λ_=>rfl) ?_;refine bM 2 (some 12) rfl rfl (λ_ _ _ h=>h) rfl (λ_=>rfl) ?_
 refine bM 3 (some 13) rfl rfl (λ_ _ _ h=>h) rfl (v:= .pointer (some ⟨d,1,none⟩)) (λ_=>by go_simp) ?_;simp only[Act.put,bZ,b6,bY]
 have hC:Lets (λw':World=>w'.cell? ⟨d,1,none⟩=some vw/\w'.rangeAt b5 0 (byteCells l)):=⟨λw o h=>⟨by rw[World.cell?_alloc_some _ _ _ (by rw[h.1];rfl)];exact h.1,World.rangeAt_alloc h.2 o⟩,λw h=>h⟩
 have hC0:w3.cell? ⟨d,1,none⟩=some vw/\w3.rangeAt b5 0 (byteCells l):=⟨c1,λj v hv=>by rw[q5.cell];simpa using hv⟩
 refine lN 4 _ hC hC0 (some 14) rfl rfl (λ_ _ _ h=>h) rfl (v:=vw) (λw' hw'=>by have:=hw'.1;go_simp) ?_;refine bM 5 (some 15) rfl rfl (λ_ _ _ h=>h) rfl (λ_=>rfl) ?_;clear hC hC0
 refine qV 6 (some 16) rfl rfl rfl _ w3 (sC 148 _ rfl b5 0 rfl dK 64 bp _ _ q5 (byteCells l) ?_ (by rw[ai,hl])) ?_
 .simp only[List.drop_zero];rw[List.take_of_length_le (by rw[ai,hl];omega)]
 refine bM 7 (some 17) rfl rfl (λ_ _ _ h=>h) rfl (v:= .agg (dI (s,l)).toArray) (λw'=>?_) ?_
 .exact gV _ _ rfl _ (DT s l hl)
 simp only[Act.put,bZ,b6,bY];obtain⟨i,hi,hz,hsz,hby⟩:∃i,Tryz.prog.info? 240=some i/\i.zero=some jV/\i.size=65/\i.bytes=72:=by
  have a1:=kG;have a2:=iq;have a3:(Tryz.prog.info? 240).map (·.bytes)=some 72:=by kernel_rfl
  cases hq:Tryz.prog.info? 240 with
  |none=>rw[hq] at a1;cases a1
  |some it=>rw[hq] at a1 a2 a3;exact⟨it,rfl,by simpa using a1,by simpa using a2,by simpa using a3⟩
 refine qV 8 (some 18) rfl rfl rfl _ _ (tM 130 240 _ rfl Tryz.underlying130 i jV (.agg (dI (s,l)).toArray) hi hz (by omega) (by omega) rfl ?_) ?_
 .simp only[Value.cells,List.size_toArray,hsz];exact bW _ hl
 have h4:=h3.new (w':=w3.alloc (.cells (Value.agg (dI (s,l)).toArray).cells 240)) (aO.alloc [] _ _) (by simp);have r8:Row (w3.alloc (.cells (Value.agg (dI (s,l)).toArray).cells 240)) w3.heap.size (dI (s,l)).toArray 240:=Row.new _ _ _;have f4:aO [] w3 (w3.alloc (.cells (Value.agg (dI (s,l)).toArray).cells 240)):=aO.alloc _ _ _
 generalize w3.alloc (.cells (Value.agg (dI (s,l)).toArray).cells 240)=w4 at h4 r8 f4;refine at_one 9 (by omega) rfl (by kernel_rfl) rfl (λK hK=>?_)
 refine wp_append_lies w4 (.tmp 14) (.tmp 18) 130 rfl 0 240 i jV 65 72 Tryz.underlying130 hi hz hsz hby ub (by omega) vw x.waiting.length (kg x.waiting) rfl h4.own ⟨w3.heap.size,0,none⟩ 1 1 (dI (s,l)) rfl (by rw[bW _ hl]) ?_ ?_ (by omega) (by simp[maxLen];omega) (by omega) (Nat.zero_le _) w4.heap.size rfl ?_
 .intro j u hu;rw[Addr.add_mid,r8.cell];simpa using hu
 .intro v hv;simp only[dI,List.mem_cons] at hv;rcases hv with rfl|hv;rfl;exact byteCells_one _ v hv
 intro g cap w5 hown hgr hat hlt;refine hK _ _ ?_;clear hK;simp only[Act.put,bZ,b6,bY];have f5:=aO.grown hgr;have hown2:=h4.own;have alc:=h3.row.lt;have hblt:=h3.last.lt;have akU:=f4.size;have GY:=f5.row h4.row (by simpa using h4.ne1);have ML:=f5.row h4.last (by simpa using h4.Bw);have gd:d≠g:=by
  rcases hat with hat|rfl
  .intro e;exact h4.ne1 (by rw[hat,e])
  .omega
 have gb:bl≠g:=by
  rcases hat with hat|rfl
  .intro e;exact h4.Bw (by rw[hat,e])
  .omega
 refine bM 10 (some 20) rfl rfl (λ_ _ _ h=>h) rfl (λ_=>rfl) ?_;refine bM 11 (some 21) rfl rfl (λ_ _ _ h=>h) rfl (v:= .pointer (some ⟨d,1,none⟩)) (λ_=>by go_simp) ?_;simp only[Act.put]
 refine Hs 12 (by omega) none rfl rfl (by kernel_rfl) rfl (w5.setCell ⟨d,1,none⟩ (.slice (some ⟨g,0,none⟩) (x.waiting.length+1) cap)) ?_ ?_
 .have:=GY.thaw 1
  have:=(jS GY).2.1;go_simp
 refine lP ?_;simp only[Act.put];have f6:aO [d] w5 (w5.setCell ⟨d,1,none⟩ (.slice (some ⟨g,0,none⟩) (x.waiting.length+1) cap)):=aO.setCell _ _ _ _;have MH:=GY.setCell 1 (.slice (some ⟨g,0,none⟩) (x.waiting.length+1) cap);have Fj:=f6.row ML (by simpa usingλe=>h4.ne e.symm);have hown6:=f6.owns hown (by simpa [Value.ownBlock] using gd.symm)
 generalize w5.setCell ⟨d,1,none⟩ (.slice (some ⟨g,0,none⟩) (x.waiting.length+1) cap)=w6 at f6 MH Fj hown6;have hfin:bv w6 d bl n (.slice (some ⟨g,0,none⟩) (x.waiting.length+1) cap) {x with waiting:=x.waiting++[(s,l)]}:=by
  refine {row:=MH,last:=Fj,len:=h3.len,own:=?_,d8:=?_,within:=?_,lo:=h3.lo,hi:=h3.hi,few:=by simp;omega,ne:=h3.ne,ne1:=by simpa [Value.ownBlock] using gd.symm,Bw:=by simpa [Value.ownBlock] using gb.symm,nil:=by simp}
  .simpa [kg] using hown6
  .intro p hp;simp only[List.mem_append,List.mem_singleton] at hp;rcases hp with hp|rfl;exact h3.d8 p hp;exact hl
  .intro p hp;simp only[List.mem_append,List.mem_singleton] at hp;rcases hp with hp|rfl;exact h3.within p hp;exact⟨hs,hn⟩
 clear c0 c1 hf GY ML hown hown2 MH Fj hown6 q5 r8 r5' r5;go_wp2_with fail;go_ret;have g0:aO [d] w w4:=((((f1.mono (by simp):aO [d] w w1).trans f2).trans f3).trans f4)
 have g1:aO (d::vw.ownBlock.toList) w w4:=g0.mono;refine⟨rfl,_,hfin,(g1.trans f5 (by intro i hi;left;simp[hi])).trans f6,?_⟩;rcases hat with hat|rfl
 .exact .inl (by rw[hat];rfl)
 .exact .inr ⟨_,rfl,by have:=g1.size;omega⟩
theorem BC (d:Nat)(s:Int)(l:List UInt8)(w:World)(R:World->Prop)(hm:∀w1,aO [] w w1->Calls Tryz.prog 187 #[.pointer (some ⟨d,0,none⟩)] w1 λe w'=>e= .returned (.bool false)/\R w'):
  Calls Tryz.prog 148 #[.pointer (some ⟨d,0,none⟩),.int .i64 s,.agg (byteCells l).toArray] w λe w'=>e= .returned (.int .i64 3)/\R w':=by
 go_enter Tryz.func148,Tryz.ntmps148;go_wp2_with (with_reducible first|refine bG rfl ?_);refine al.go (ij rfl 148 _ rfl (.agg (byteCells l).toArray) rfl ?_);intro w1 b5 l5 f1 r5;go_wp2_with fail;refine(hm w1 f1).mono ?_;rintro e w2 ⟨rfl,h1⟩;go_wp2_with fail;go_ret;exact⟨rfl,h1⟩
theorem Fx (d bl n:Nat)(vw:Value)(x:DS)(w:World)(h:bv w d bl n vw x):
  Calls Tryz.prog 79 #[.pointer (some ⟨d,0,none⟩)] w λe w'=>e= .returned (.bool x.failed)/\w'=w:=by
 obtain⟨c0,c1,c2,c3,c4,c5,c6⟩:=jS h.row;go_enter Tryz.func79,Tryz.ntmps79;go_wp2_with fail;go_ret;exact⟨rfl,rfl⟩
theorem ou (d bl n:Nat)(vw:Value)(x:DS)(w:World)(h:bv w d bl n vw x):
  Calls Tryz.prog 117 #[.pointer (some ⟨d,0,none⟩)] w λe w'=>e= .returned (.int .i64 n)/\w'=w:=by
 obtain⟨c0,c1,c2,c3,c4,c5,c6⟩:=jS h.row;go_enter Tryz.func117,Tryz.ntmps117;go_wp2_with fail;go_ret;exact⟨rfl,rfl⟩
def aK (n:Nat):Nat:=min ((n-1)/2) 54
def dc (root:List UInt8)(i:Nat):UInt8:=root.getD (10+i) 0
def iL (root:List UInt8)(k:Nat):List Nat:=(List.range k).filter λi=>dc root i==1
def taken (x:DS)(n:Nat):List Nat:=iL (x.read 0) (aK n)
def ic (l:List Nat):List Value:=l.map λ(i:Nat)=>Value.int .i64 i
theorem lU (n:Nat)(h:16<=n)(h2:n<=400)(w:World):
  Calls Tryz.prog 116 #[.int .i64 n] w λe w'=>e= .returned (.int .i64 (aK n))/\w'=w:=by
 go_enter Tryz.func116,Tryz.ntmps116
 by_cases hc:((n:Int)-1)/2<=54
 all_goals
  go_wp2_with fail;go_ret;refine⟨pz ?_,rfl⟩;unfold aK;omega
theorem nO (i:Nat)(h:i<200)(w:World):
  Calls Tryz.prog 115 #[.int .i64 i] w λe w'=>e= .returned (.int .i64 (1+2*i:Nat))/\w'=w:=by
 go_enter Tryz.func115,Tryz.ntmps115;go_wp2_with fail;go_ret;exact⟨pz (by omega),rfl⟩
theorem ri (root:List UInt8)(k:Nat):iL root (k+1)=iL root k++if dc root k==1 then [k] else []:=by
 simp[iL,List.range_succ,List.filter_append,List.filter_cons]
theorem E3 (root:List UInt8)(i:Nat):(((dc root i).toNat:Int)==1)=(dc root i==1):=by
 rw[Bool.eq_iff_iff];simp[<-UInt8.toNat_inj];omega
theorem xz (a b:List Nat):ic (a++b)=ic a++ic b:=by simp[ic]
theorem nW (root:List UInt8)(k:Nat):(iL root k).length<=k:=by
 have:=List.length_filter_le (λi=>dc root i==1) (List.range k);simpa [iL] using this
theorem Dz:Elem Tryz.prog 64 3 1 8:=⟨Tryz.underlying64,by kernel_rfl,by omega⟩
structure OW (D:World->Prop)(d n:Nat)(x:DS):Prop where
 lo:16<=n
 hi:n<=400
 len:∀j:Nat,j<n->(x.read j).length=64
 new:∀{w w':World} {S:List Nat},D w->aO S w w'->(∀k∈S,w.heap.size<=k)->D w'
 read:∀(s:Int) (w:World),D w->0<=s->s<n->Calls Tryz.prog 114 #[.pointer (some ⟨d,0,none⟩),.int .i64 s] w λe w'=>e= .returned (.agg (byteCells (x.read s)).toArray)/\aO [] w w'
 PC:∀w:World,D w->Calls Tryz.prog 117 #[.pointer (some ⟨d,0,none⟩)] w λe w'=>e= .returned (.int .i64 n)/\w'=w
theorem EO {w0:World}{d bl n:Nat}{vw:Value}{x:DS}(h:bv w0 d bl n vw x):OW (λw=>bv w d bl n vw x) d n x:=
 ⟨h.lo,h.hi,λj hj=>bk _ _ (by rw[h.len];simp;omega) _ h.d8,λh f hS=>h.new f hS,λs w h h0 h1=>wX d bl n vw x s w h h0 h1,λw h=>ou d bl n vw x w h⟩
theorem pW {D:World->Prop}{d n:Nat}{x:DS}(R:OW D d n x)(w:World)(h:D w):
  Calls Tryz.prog 83 #[.pointer (some ⟨d,0,none⟩)] w λe w'=>∃v,e= .returned v/\w'.ownsRow w.heap.size 3 1 v (taken x n).length (ic (taken x n))/\aO [] w w':=by
 have hlo:=R.lo;have hhi:=R.hi;have si:(x.read 0).length=64:=R.len 0 (by omega);go_enter Tryz.func83,Tryz.ntmps83;go_wp2_with fail;refine(R.read 0 w h (by omega) (by omega)).mono ?_;rintro e w1 ⟨rfl,f1⟩;go_wp2_with (with_reducible first|refine az rfl ?_|refine af 148 rfl ?_);refine al.go (bi rfl 148 rfl eR d6 ?_);intro w2 b4 l4 f2 r4
 go_wp2_with (with_reducible first|refine az rfl ?_|refine af 148 rfl ?_);refine al.go (bK rfl 148 _ _ rfl _ 0 rfl _ rfl 64 bp ?_ ?_ _ _ r4 ?_ ?_)
 .simp only[List.size_toArray,ai];exact si
 .exact byteCells_one _
 .decide
 intro w3 f3 EP;rw[bH _ _ (by rw[ai,si];rfl)] at EP;have f13:aO [] w w3:=(f1.trans f2).trans f3 (by simp;have:=f1.size;omega);have h3:=R.new h f13 (by simp);clear r4 f3 f2;go_wp2_with fail;refine(R.PC w3 h3).mono ?_;rintro e w4 ⟨rfl,rfl⟩;go_wp2_with fail;refine(lU n hlo hhi _).mono ?_;rintro e w4 ⟨rfl,rfl⟩;go_wp2_with fail
 have hns:aK n<=54:=by unfold aK;omega
 have l4w:w.heap.size<=b4:=by have:=f1.size;omega
 go_loopw [3,11] (λv i wr=>∃k:Nat,i= .int .i64 k/\k<=aK n/\aO [] w wr/\Row wr b4 (byteCells (x.read 0)).toArray 148/\
  wr.ownsRow w.heap.size 3 1 v (iL (x.read 0) k).length (ic (iL (x.read 0) k))/\v.ownBlock≠some b4) (λ_ i _=>aK n-(intOf i).toNat)
 case atStart=>exact⟨0,rfl,by omega,f13,EP,World.ownsRow_nil _ _ _ _,by simp[Value.ownBlock]⟩
 case round=>
  obtain⟨k,rfl,hk,fk,rk,ok,nk⟩:=hrel;clear h3 f13 EP f1
  by_cases hlt:k<aK n
  .have hc:wr.cell? ⟨b4,10+k,none⟩=some (.int .u8 (dc (x.read 0) k).toNat):=by
    rw[rk.cell];simp[byteCells,dc,List.getD_eq_getElem?_getD];rw[List.getElem?_eq_getElem (by omega)];exact⟨_,rfl,rfl⟩
   have HR:Hid ((x.read 0).length=64):=si;clear si;have hm1:=E3 (x.read 0) k
   by_cases hm:(dc (x.read 0) k==1)=true
   .have hb:(((dc (x.read 0) k).toNat:Int)==1)=true:=by rw[hm1];exact hm
    have HM:Hid ((dc (x.read 0) k==1)=true):=hm;clear hm hm1;go_wp2_with (with_reducible first|refine bO rfl ?_|refine bP rfl ?_);refine al.go (fU rfl 64 3 1 8 Dz _ rfl (.int .i64 k) rfl rfl ?_);intro w5 b5 l5 f5 r5;go_wp2_with (with_reducible first|refine bO rfl ?_|refine bP rfl ?_);have ok5:=f5.owns ok
    refine al.go (iz rfl 64 3 1 8 Dz _ _ rfl w.heap.size u3 _ _ rfl ok5 b5 1 1 [.int .i64 k] rfl _ _ r5 rfl rfl (by simp[Value.oneCell']) (by omega) ?_ (by omega) ?_ ?_)
    .have:=nW (x.read 0) k;omega
    .have:=fk.size;have:=f5.size;omega
    intro g cap w6 ok6 f6 hat;have mL:=fk.trans f5;have hg4:g≠b4:=by
     rcases hat with hat|hat
     .intro e;exact nk (by rw[hat,e])
     .have:=rk.lt;have:=f5.size;omega
    have rk6:=f6.row (f5.row rk) (by simpa usingλe=>nk e);have Hd:aO [] w w6:=mL.trans f6 (by intro i hi;right;simp at hi;exact(ok5.lt i hi).1);clear rk ok fk hc ok5 r5 f5 f6 mL hat l5;go_wp2_with fail
    go_roundw
    case rel=>
     refine⟨k+1,by go_num,by omega,Hd,rk6,?_,by simpa [Value.ownBlock] using hg4⟩;rw[ri,HM.out];simpa [xz,ic] using ok6
    case measure=>simp[intOf];omega
   .have hm':(dc (x.read 0) k==1)=false:=by simpa using hm
    have hb:(((dc (x.read 0) k).toNat:Int)==1)=false:=by rw[hm1];exact hm'
    have HM:Hid ((dc (x.read 0) k==1)=false):=hm';clear hm hm' hm1;go_wp2_with fail
    go_roundw
    case rel=>
     refine⟨k+1,by go_num,by omega,fk,rk,?_,nk⟩;rw[ri,HM.out];simpa using ok
    case measure=>simp[intOf];omega
  .have HK:Hid (k=aK n):=(by omega:k=aK n)
   go_wp2_with fail;go_ret;have hk:=HK.out;subst hk;exact⟨_,rfl,ok,fk⟩
theorem nX (d bl n:Nat)(vw:Value)(x:DS)(w:World)(h:bv w d bl n vw x):
  Calls Tryz.prog 83 #[.pointer (some ⟨d,0,none⟩)] w λe w'=>∃v,e= .returned v/\w'.ownsRow w.heap.size 3 1 v (taken x n).length (ic (taken x n))/\aO [] w w':=pW (EO h) w h
theorem iF:(Tryz.prog.info? 138).map (·.size)=some 128:=by kernel_rfl
theorem mY:(Tryz.prog.underlying 138).map TypeDesc.isRow=some true:=by kernel_rfl
def pn:Value:= .agg (byteCells (List.replicate 128 0)).toArray
theorem lp:(Tryz.prog.info? 138).map (·.zero)=some (some pn):=by kernel_rfl
def DS.sec (x:DS)(j:Nat):List UInt8:=x.read j
theorem aew (d bl n:Nat)(vw:Value)(x:DS)(j:Nat)(s:Int)(hs:s=j)(w:World)(h:bv w d bl n vw x)(hn:j<n):
  Calls Tryz.prog 114 #[.pointer (some ⟨d,0,none⟩),.int .i64 s] w λe w'=>e= .returned (.agg (byteCells (x.sec j)).toArray)/\aO [] w w':=by
 subst hs;exact wX d bl n vw x j w h (by omega) (by omega)
theorem xv {w:World}{d bl n:Nat}{vw:Value}{x:DS}(h:bv w d bl n vw x)(j:Nat)(hn:j<n):(x.sec j).length=64:=bk _ _ (by rw[h.len];omega) _ h.d8
def cH (x:DS)(i:Nat):List UInt8:=x.sec (1+2*i)++x.sec (2+2*i)
def p6 (x:DS)(i:Nat):Nat->List UInt8
 |0=>List.replicate 128 0
 |1=>x.sec (1+2*i)++List.replicate 64 0
 |_=>cH x i
theorem EV (x:DS)(i k:Nat)(hk:k<2)(h1:(x.sec (1+2*i)).length=64)(h2:(x.sec (2+2*i)).length=64):over (byteCells (p6 x i k)).toArray (k*64) (byteCells (x.sec (1+2*i+k)))=(byteCells (p6 x i (k+1))).toArray:=by
 have e:1+2*i+1=2+2*i:=by omega
 rcases(by omega:k=0\/k=1) with rfl|rfl
 .simp[over,p6,byteCells,h1]
 .simp[over,p6,cH,byteCells,h1,h2,e]
theorem sb (x:DS)(i k:Nat)(h1:(x.sec (1+2*i)).length=64)(h2:(x.sec (2+2*i)).length=64):(p6 x i k).length=128:=by
 unfold p6;split<;>simp[cH,h1,h2]
theorem OW.sec {D:World->Prop}{d n:Nat}{x:DS}(R:OW D d n x)(j:Nat)(s:Int)(hs:s=j)(w:World)(h:D w)(hn:j<n):
  Calls Tryz.prog 114 #[.pointer (some ⟨d,0,none⟩),.int .i64 s] w λe w'=>e= .returned (.agg (byteCells (x.sec j)).toArray)/\aO [] w w':=by
 subst hs;exact R.read j w h (by omega) (by omega)
theorem p7 {D:World->Prop}{d n:Nat}{x:DS}(R:OW D d n x)(i:Nat)(w:World)(h:D w)(hi:i<aK n):
  Calls Tryz.prog 82 #[.pointer (some ⟨d,0,none⟩),.int .i64 i] w λe w'=>e= .returned (.agg (byteCells (cH x i)).toArray)/\aO [] w w':=by
 have hlo:=R.lo;have hhi:=R.hi;have hin:2*i+2<n:=by unfold aK at hi;omega
 have ahr:i<54:=by unfold aK at hi;omega
 have hl1:∀j:Nat,j<n->Hid ((x.sec j).length=64):=λj hj=>R.len j hj
 go_enter Tryz.func82,Tryz.ntmps82;go_wp2_with (with_reducible first|refine az rfl ?_);refine al.go (bi rfl 138 rfl pn lp ?_);intro w1 b4 l4 f1 r4;go_wp2_with (with_reducible first|refine az rfl ?_);refine al.go (bi rfl 138 rfl pn lp ?_);intro w2 b5 l5 f2 r5;have EP:=f2.row r4;have f12:=f1.trans f2
 have l4w:w.heap.size<=b4:=l4;have l5w:w.heap.size<=b5:=by have:=f1.size;omega
 have hne:b4≠b5:=by have:=r4.lt;omega
 clear f1 f2 r4 l5;go_wp2_with fail
 go_loopw [8] (λc wr=>∃k:Nat,c= .int .i64 k/\k<=2/\aO [] w wr/\Row wr b4 pn.cells 138/\Row wr b5 (byteCells (p6 x i k)).toArray 138) (λc _=>2-(intOf c).toNat)
 case atStart=>exact⟨0,rfl,by omega,f12,EP,r5⟩
 case round=>
  obtain⟨k,rfl,hk,fk,q4,q5⟩:=hrel;clear f12 EP r5
  by_cases hlt:k<2
  .have h0:=R.new h fk (by simp)
   go_wp2_with fail;refine(nO i (by omega) wr).mono ?_;rintro e w3 ⟨rfl,rfl⟩;go_wp2_with fail;have hlk:=hl1 (1+2*i+k) (by omega);refine(R.sec (1+2*i+k) _ (by omega) w3 h0 (by omega)).mono ?_;rintro e w4 ⟨rfl,f4⟩;go_wp2_with (with_reducible first|refine az rfl ?_|refine af 148 rfl ?_);refine al.go (bi rfl 148 rfl eR d6 ?_);intro w5 b7 l7 f5 r7
   go_wp2_with (with_reducible first|refine az rfl ?_|refine af 148 rfl ?_);refine al.go (bK rfl 148 _ _ rfl _ 0 rfl _ rfl 64 bp ?_ ?_ _ _ r7 ?_ ?_)
   .simp only[List.size_toArray,ai];exact hlk.out
   .exact byteCells_one _
   .decide
   intro w6 f6 wZ;rw[bH _ _ (by rw[ai,hlk.out];rfl)] at wZ;have f36:aO [] w3 w6:=(f4.trans f5).trans f6 (by simp;have:=f4.size;omega);have LK:=f36.row q4;have nF:=f36.row q5;have fw:=fk.trans f36;have b57:b5≠b7:=by have:=q5.lt;have:=f4.size;omega
   clear q4 q5 fk f36 f4 f5 f6 r7 l7 h0;go_wp2_with fail;refine fq 5 rfl ?_;have f7:aO [] w6 w6.drew:=aO.drew _ _;have q4:=f7.row LK;have q5:=f7.row nF;have q7:=f7.row wZ;have yB:=fw.trans f7;generalize w6.drew=w7 at q4 q5 q7 yB;clear LK nF wZ fw f7
   refine bM 0 (some 17) rfl rfl (λ_ _ _ h=>h) rfl (λ_=>rfl) ?_;refine bM 1 (some 18) rfl rfl (λ_ _ _ h=>h) rfl (v:= .int .i64 (k*64)) (λ_=>by go_simp;exact IntWalk.i64_in _ (by omega)) ?_;simp only[Act.put,bZ,b6,bY]
   refine bM 2 (some 19) rfl rfl (λ_ _ _ h=>h) rfl (v:= .slice (some ⟨b5,k*64,none⟩) (128-k*64) (128-k*64)) (λ_=>?_) ?_
   .exact mh 138 5 128 _ _ rfl Tryz.underlying138 (by kernel_rfl) b5 0 rfl (k*64) rfl (by omega) (by omega) _ _ (by omega) (by omega)
   refine bM 3 (some 20) rfl rfl (λ_ _ _ h=>h) rfl (v:= .slice (some ⟨b7,0,none⟩) 64 64) (λ_=>by go_simp) ?_;simp only[Act.put,bZ,b6,bY];have hs1:=(hl1 (1+2*i) (by omega)).out;have hs2:=(hl1 (2+2*i) (by omega)).out;have hmin:Nat.min 64 (128-k*64)=64:=Nat.min_eq_left (by omega)
   refine qV 4 (some 21) rfl rfl rfl _ _ (Hg _ _ _ _ 5 rfl Tryz.underlying85 (by kernel_rfl) b5 (k*64) _ _ rfl b7 0 64 64 rfl _ _ q5 _ _ q7 (byteCells (x.sec (1+2*i+k))) ?_ ?_ ?_ (byteCells_one _)) ?_
   .rw[hmin];simp only[List.drop_zero];rw[List.take_of_length_le (by rw[ai,hlk.out];omega)]
   .rw[hmin,ai,hlk.out]
   .simp only[List.size_toArray,ai];rw[sb x i k hs1 hs2,hlk.out];omega
   rw[EV x i k hlt hs1 hs2];refine lP ?_;have nF:=q5.setRow (byteCells (p6 x i (k+1))).toArray;have f8:aO [b5] w7 (w7.setRow b5 (byteCells (p6 x i (k+1))).toArray):=aO.setRow _ _ _ _;have LK:=f8.row q4 (by simpa using hne);have qY:aO [] w _:=yB.trans f8 (by simpa using l5w)
   generalize w7.setRow b5 (byteCells (p6 x i (k+1))).toArray=w8 at nF LK qY;simp only[Act.put,bZ,b6,bY];clear hs1 hs2 hmin q4 q5 q7 yB f8 hlk;go_wp2_with fail
   go_roundw
   case rel=>exact⟨k+1,by go_num,by omega,qY,LK,nF⟩
   case measure=>simp[intOf];omega
  .have HK:Hid (k=2):=(by omega:k=2)
   have hs1:=(hl1 (1+2*i) (by omega))
   have hs2:=(hl1 (2+2*i) (by omega))
   have h128:Hid ((cH x i).length=128):=by show _=_;have:=sb x i 2 hs1.out hs2.out;exact this
   go_wp2_with (with_reducible first|refine ay 138 rfl ?_|refine af 138 rfl ?_);refine al.go (bU rfl 138 _ rfl b5 0 rfl mY 128 iF _ _ q5 (byteCells (cH x i)) ?_ ?_ ?_)
   .simp only[List.drop_zero]
    rw[HK.out];exact List.take_of_length_le (by rw[ai];exact Nat.le_of_eq h128.out)
   .rw[ai];exact h128.out
   go_wp2_with (with_reducible first|refine ay 138 rfl ?_|refine af 138 rfl ?_);refine al.go (bK rfl 138 _ _ rfl _ 0 rfl _ rfl 128 iF ?_ ?_ _ _ q4 ?_ ?_)
   .simp only[List.size_toArray,ai];exact h128.out
   .exact byteCells_one _
   .decide
   intro w6 f6 q6;rw[bH _ _ (by simp only[ai];rw[h128.out];rfl)] at q6;have vo:aO [] w w6:=fk.trans f6 (by simpa using l4w);go_wp2_with fail;exact lA rfl b4 rfl rfl _ _ q6 mY (by simp only[List.size_toArray,ai];rw[h128.out];exact iF) ⟨rfl,vo⟩
theorem oI (d bl n:Nat)(vw:Value)(x:DS)(i:Nat)(w:World)(h:bv w d bl n vw x)(hi:i<aK n):
  Calls Tryz.prog 82 #[.pointer (some ⟨d,0,none⟩),.int .i64 i] w λe w'=>e= .returned (.agg (byteCells (cH x i)).toArray)/\aO [] w w':=p7 (EO h) i w h hi
theorem OW.WI {D:World->Prop}{d n:Nat}{x:DS}(R:OW D d n x)(i:Nat)(hi:i<aK n):(cH x i).length=128:=by
 have:2*i+2<n:=by unfold aK at hi;have:=R.lo;omega
 have h1:(x.sec (1+2*i)).length=64:=R.len _ (by omega);have h2:(x.sec (2+2*i)).length=64:=R.len _ (by omega);simp[cH,h1,h2]
def aB (l:List UInt8):ByteArray:=⟨l.toArray⟩
def eC (r:List UInt8)(i:Nat):Nat:=(r.getD i 0).toNat
theorem pQ (r:List UInt8)(i:Nat):eC r i<256:=(r.getD i 0).toNat_lt
def gv (r:List UInt8):Nat:=(eC r 0)
def dY (r:List UInt8):List UInt8:=(r.drop 3).take (min (eC r 1) 8)
def bN (r:List UInt8):List UInt8:=(r.drop 11).take (min (eC r 2) 96)
def bR (s:Int)(p c:List UInt8):List Value:=[.int .i64 s,.string (aB p),.string (aB c)]
theorem tU {w:World}{b:Nat}{r:List UInt8}{t:TypeId}(h:Row w b (byteCells r).toArray t)(j:Nat)(hj:j<r.length):w.cell? ⟨b,j,none⟩=some (.int .u8 (eC r j)):=by
 rw[h.cell];simp[byteCells,eC,List.getD_eq_getElem?_getD,hj]
section
variable {P:Program}{w:World}{o:Oper}{ρ:Operand->Value}
theorem xP (src dst e:TypeId)(x:Operand)(ho:o.op= .convert src dst x)(hs:P.underlying src=some (.slice e))(he:P.underlying e=some (.int .u8))(hd:P.underlying dst=some .string)
  (b off n c:Nat) (hx:ρ x= .slice (some ⟨b,off,none⟩) n c) (r:List UInt8) (t:TypeId) (hr:Row w b (byteCells r).toArray t) (l:List UInt8) (hl:(r.drop off).take n=l) (hn:l.length=n):
  (execOp ρ o).run P w= .ok (.value (.string (aB l))) w:=by
 have hc:∀j v,((byteCells r).drop off|>.take n)[j]? =some v->w.cell? ⟨b,off+j,none⟩=some v:=λj v hv=>by
  rw[hr.cell];rw[List.getElem?_take] at hv;split at hv
  .simpa [List.getElem?_drop] using hv
  .cases hv
 rw[eW,eV,hl] at hc;subst hn;have:=run_convert_bytes_back (P:=P) w src dst e ⟨b,off,none⟩ c l hs he hd (λj hj=>by
  rw[Addr.add_mid];exact hc j _ (by simp[byteCells,hj]))
 simp only[execOp,ho,hx,Sem.run_bind,this];rfl
end
section
variable {P:Program}{w:World}{o:Oper}{ρ:Operand->Value}
theorem NE (t:TypeId)(x y:Operand)(ho:o.op= .store t x y)(vx:Value)(hx:ρ x=vx)(vy:Value)(hy:ρ y=vy)(w1:World)(h:(Instr.storeAt t vx vy).run P w= .ok () w1):(execOp ρ o).run P w= .ok .skip w1:=by
 simp only[execOp,ho,hx,hy,Sem.run_bind,h,Result.andThen_ok];rfl
end
theorem eK:(Tryz.prog.info? 107).map (·.size)=some 3:=by kernel_rfl
theorem kP:(Tryz.prog.underlying 107).map TypeDesc.isRow=some true:=by kernel_rfl
def zr:Value:= .agg (bR 0 [] []).toArray
theorem mj:(Tryz.prog.info? 107).map (·.zero)=some (some zr):=by kernel_rfl
theorem FT (s:Int)(p:ByteArray):Tryz.prog.built 103 [(0,.int .i64 s),(1,.string p)]=some #[.int .i64 s,.string p]:=by kernel_rfl
theorem FU (s:Int)(p c:ByteArray):Tryz.prog.built 107 [(0,.agg #[.int .i64 s,.string p]),(1,.string c)]=some #[.int .i64 s,.string p,.string c]:=by kernel_rfl
theorem qR (r:List UInt8)(w:World)(hr:r.length=128):
  Calls Tryz.prog 81 #[.agg (byteCells r).toArray] w λe w'=>e= .returned (.agg (bR (gv r) (dY r) (bN r)).toArray)/\aO [] w w':=by
 go_enter Tryz.func81,Tryz.ntmps81;go_wp2_with (with_reducible first|refine bG rfl ?_|refine az rfl ?_);refine al.go (ij rfl 138 _ rfl (.agg (byteCells r).toArray) rfl ?_);intro w1 b1 l1 f1 r1;go_wp2_with (with_reducible first|refine bG rfl ?_|refine az rfl ?_);refine al.go (bi rfl 107 rfl zr mj ?_);intro w2 b2 l2 f2 r2
 have q1:Row w2 b1 (byteCells r).toArray 138:=f2.row r1;have f12:=f1.trans f2;have l2w:w.heap.size<=b2:=by have:=f1.size;omega
 have hne:b1≠b2:=by have:=r1.lt;omega
 have c1:=tU q1 1 (by omega);have c2:=tU q1 2 (by omega);obtain⟨pl,hpl⟩:∃pl,min (eC r 1) 8=pl:=⟨_,rfl⟩
 obtain⟨cl,hcl⟩:∃cl,min (eC r 2) 96=cl:=⟨_,rfl⟩
 have hp8:pl<=8:=by omega
 have hc96:cl<=96:=by omega
 have HR:Hid (r.length=128):=hr;have ahb:=hpl;have hcl0:=hcl;have HP:Hid (min (eC r 1) 8=pl):=hpl;have HC:Hid (min (eC r 2) 96=cl):=hcl;have aii:((eC r 1):Int)<=255:=by have:=pQ r 1;omega
 have aih:((eC r 2):Int)<=255:=by have:=pQ r 2;omega
 generalize (eC r 1)=n1 at c1 hpl HP aii;generalize (eC r 2)=n2 at c2 hcl HC aih;clear hr r1 f1 f2;clear hpl hcl;have hC:Lets (λw':World=>Row w' b1 (byteCells r).toArray 138):=⟨λw o h=>(aO.alloc [] w o).row h,λw h=>h⟩
 by_cases h1:(n1:Int)<=8<;>by_cases h2:(n2:Int)<=96
 all_goals
  go_wp2_with fail;have hpl:=HP.out;have hcl:=HC.out;have hr:=HR.out;refine fq 12 rfl ?_;have fd:aO [] w2 w2.drew:=aO.drew _ _;have q1':=fd.row q1;have r2':=fd.row r2;have fw:=f12.trans fd;generalize w2.drew=w3 at q1' r2' fw
  refine bM 0 (some 15) rfl rfl (λ_ _ _ h=>h) rfl (v:= .pointer (some ⟨b1,0,none⟩)) (λ_=>by go_simp) ?_
  refine lN 1 _ hC q1' (some 16) rfl rfl (λ_ _ _ h=>h) rfl (v:= .int .u8 (eC r 0)) (λw' hw'=>by have:=tU hw' 0 (by omega);go_simp) ?_;have hb0:((eC r 0):Int)<=255:=by have:=pQ r 0;omega
  refine bM 2 (some 17) rfl rfl (λ_ _ _ h=>h) rfl (v:= .int .i64 (eC r 0)) (λ_=>by go_simp;try exact IntWalk.i64_in _ (by omega)) ?_;simp only[Act.put,bZ,b6,bY];refine bM 3 (some 18) rfl rfl (λ_ _ _ h=>h) rfl (λ_=>rfl) ?_
  refine bM 4 (some 19) rfl rfl (λ_ _ _ h=>h) rfl (v:= .slice (some ⟨b1,3,none⟩) pl 125) (λ_=>j3 138 5 128 _ _ _ rfl Tryz.underlying138 (by kernel_rfl) b1 0 rfl 3 _ rfl rfl (by omega) (by omega) (by omega) (by omega) _ _ _ (by omega) (by omega) (by omega)) ?_
  refine lN 5 _ hC q1' (some 20) rfl rfl (λ_ _ _ h=>h) rfl (v:= .string (aB (dY r))) (λw' hw'=>xP 85 9 5 _ rfl Tryz.underlying85 Tryz.underlying5 Tryz.underlying9 b1 3 pl 125 rfl r _ hw' (dY r) ?_ ?_) ?_
  .unfold dY;rw[ahb]
  .unfold dY;rw[List.length_take,List.length_drop];omega
  simp only[Act.put,bZ,b6,bY];refine bM 6 (some 21) rfl rfl (λ_ _ _ h=>h) rfl (v:= .agg #[.int .i64 (eC r 0),.string (aB (dY r))]) (λw'=>gV _ _ rfl _ (FT _ _)) ?_;refine bM 7 (some 22) rfl rfl (λ_ _ _ h=>h) rfl (λ_=>rfl) ?_
  refine bM 8 (some 23) rfl rfl (λ_ _ _ h=>h) rfl (v:= .slice (some ⟨b1,11,none⟩) cl 117) (λ_=>j3 138 5 128 _ _ _ rfl Tryz.underlying138 (by kernel_rfl) b1 0 rfl 11 _ rfl rfl (by omega) (by omega) (by omega) (by omega) _ _ _ (by omega) (by omega) (by omega)) ?_
  refine lN 9 _ hC q1' (some 24) rfl rfl (λ_ _ _ h=>h) rfl (v:= .string (aB (bN r))) (λw' hw'=>xP 85 9 5 _ rfl Tryz.underlying85 Tryz.underlying5 Tryz.underlying9 b1 11 cl 117 rfl r _ hw' (bN r) ?_ ?_) ?_
  .unfold bN;rw[hcl0]
  .unfold bN;rw[List.length_take,List.length_drop];omega
  simp only[Act.put,bZ,b6,bY];refine bM 10 (some 25) rfl rfl (λ_ _ _ h=>h) rfl (v:= .agg (bR (gv r) (dY r) (bN r)).toArray) (λw'=>gV _ _ rfl _ (FU _ _ _)) ?_
  refine Hs 11 (by omega) none rfl rfl (by kernel_rfl) rfl (w3.setRow b2 (bR (gv r) (dY r) (bN r)).toArray) ?_ ?_
  .have:=nE (P:=Tryz.prog) (w:=w3) 107 b2 0 (bR (gv r) (dY r) (bN r)).toArray 3 eK rfl (by simp[bR,Value.oneCell']) _ _ r2' (by decide)
   rw[bH _ _ (by rfl)] at this;exact NE _ _ _ rfl _ rfl _ rfl _ this
  refine lP ?_;have r2n:=r2'.setRow (bR (gv r) (dY r) (bN r)).toArray;have fn:aO [] w (w3.setRow b2 (bR (gv r) (dY r) (bN r)).toArray):=fw.trans (aO.setRow [b2] _ _ _ (by simp)) (by simpa using l2w);generalize w3.setRow b2 (bR (gv r) (dY r) (bN r)).toArray=w4 at r2n fn;simp only[Act.put];clear hC q1' r2' fw
  go_wp2_with fail;exact lA rfl b2 rfl rfl _ _ r2n kP eK ⟨rfl,fn⟩
end
section
open Go.RowKit
section
variable {P:Program}{ops:Array Oper}{Q:Act->Prop}{C:World->Prop}{a:Act}{rest:List Oper}{o:Oper}
theorem cJ (hg:o.guard=none)(dst:Option Tmp)(hd:o.dst=dst)(v:Value)(hr:∀w',C w'->(execOp a.eval o).run P w'= .ok (.value v) w')(h:wpQuiet P ops C Q rest (a.put dst v)):wpQuiet P ops C Q (o::rest) a:=by
 subst hd;unfold wpQuiet;rw[if_pos (by simp[Region.wanted,hg])];refine⟨v,λw' hw'=>?_,h⟩;unfold Oper.quietAt;rw[hr w' hw'];exact⟨rfl,rfl⟩
theorem tV (hg:o.guard=none)(dst:Option Tmp)(hd:o.dst=dst)(f:FuncId)(args:Array Value)(v:Value)(hr:∀w',C w'->(execOp a.eval o).run P w'= .ok (.enter f args) w')
  (hc:∀w',C w'->Calls P f args w' λe w''=>e= .returned v/\C w'') (h:wpQuiet P ops C Q rest (a.put dst v)):wpQuiet P ops C Q (o::rest) a:=by
 subst hd;unfold wpQuiet;rw[if_pos (by simp[Region.wanted,hg])];refine⟨v,λw' hw'=>?_,h⟩;unfold Oper.quietAt;rw[hr w' hw'];exact⟨rfl,hc w' hw'⟩
theorem qT {id:Nat}{ops:Array Oper}{Q:Exit->Act->World->Prop}{w:World}(hm:P.follows .mixedOrders=true)(hB:Region.lexB .any ops=true)
  (h:wpQuiet P ops (λw'=>aO [] w w') (λa'=>∀w',aO [] w w'->Q .normal a' w') ops.toList a):(Code.region id ops true).wp P Q a w:=
 wp_region_quiet (C:=λw'=>aO [] w w') hm hB (aO.drew [] w) h
end
end
section
open Go.RowKit Go.Lib
theorem eJ:(Tryz.prog.info? 103).map (·.size)=some 2:=by kernel_rfl
theorem gP:(Tryz.prog.underlying 103).map TypeDesc.isRow=some true:=by kernel_rfl
def dL (s:Int)(p:ByteArray):Array Value:=#[.int .i64 s,.string p]
theorem NF (s t:Int)(p q:ByteArray)(w:World):(binOp .eql 103 (.agg #[.int .i64 s,.string p]) (.agg #[.int .i64 t,.string q])).run Tryz.prog w= .ok (.bool (s==t&&p==q)) w:=by
 go_simp;rw[beq_toListBytes]
 by_cases h1:s=t<;>by_cases h2:p.toList=q.toList<;>simp[h1,h2]
def named (x:DS)(s:Int)(p:ByteArray)(i:Nat):Bool:=((gv (cH x i):Int)==s)&&aB (dY (cH x i))==p
def cD (x:DS)(s:Int)(p:ByteArray):List Nat->Int
 |[]=>-1
 |i::r=>if named x s p i then i else cD x s p r
section
variable {P:Program}{w:World}{o:Oper}{ρ:Operand->Value}
theorem Dw (t:TypeId)(x:Operand)(f:Nat)(ho:o.op= .field t x f)(vx:Value)(hx:ρ x=vx)(v:Value)(h:(Instr.field t vx f).run P w= .ok v w):(execOp ρ o).run P w= .ok (.value v) w:=by
 simp only[execOp,ho,hx,Sem.run_bind,h,Result.andThen_ok];rfl
theorem tN (op:BinOp)(t u:TypeId)(x y:Operand)(ho:o.op= .binOp op t x y u)(vx vy:Value)(hx:ρ x=vx)(hy:ρ y=vy)(v:Value)(hg:(eqGuard op t x y vx vy).run P w= .ok () w)(h:(binOp op t vx vy).run P w= .ok v w):(execOp ρ o).run P w= .ok (.value v) w:=by
 simp only[execOp,ho,hx,hy,Sem.run_bind,hg,h,Result.andThen_ok];rfl
end
theorem Fw (a b c:Value)(w:World):(Instr.field 107 (.agg #[a,b,c]) 0).run Tryz.prog w= .ok (.agg #[a,b]) w:=by kernel_rfl
theorem y6 (a b c:Value)(w:World):(Instr.field 107 (.agg #[a,b,c]) 1).run Tryz.prog w= .ok c w:=by kernel_rfl
theorem Fp (op:BinOp)(x y:Operand)(a b:Array Value)(w:World):(eqGuard op 103 x y (.agg a) (.agg b)).run Tryz.prog w= .ok () w:=by
 cases op<;>kernel_rfl
theorem Cc (x:DS)(s:Int)(p:ByteArray)(l:List Nat)(k:Nat)(hk:k<l.length)(h:named x s p l[k]=false):cD x s p (l.drop k)=cD x s p (l.drop (k+1)):=by
 rw[List.drop_eq_getElem_cons hk,cD,if_neg (by simp[h])]
theorem Iy (x:DS)(s:Int)(p:ByteArray)(l:List Nat)(k:Nat)(hk:k<l.length)(h:named x s p l[k]=true):cD x s p (l.drop k)=l[k]:=by
 rw[List.drop_eq_getElem_cons hk,cD,if_pos h]
theorem rh (x:DS)(n i:Nat)(h:i∈taken x n):i<aK n:=by
 simp only[taken,iL,List.mem_filter,List.mem_range] at h;exact h.1
theorem iA (x:DS)(n:Nat):(taken x n).length<=54:=by
 have:=nW (x.read 0) (aK n);have:aK n<=54:=by unfold aK;omega
 unfold taken;omega
theorem sc {w:World}{d bl n:Nat}{vw:Value}{x:DS}(h:bv w d bl n vw x)(i:Nat)(hi:i<aK n):(cH x i).length=128:=by
 have:2*i+2<n:=by unfold aK at hi;have:=h.lo;omega
 simp[cH,xv h (1+2*i) (by omega),xv h (2+2*i) (by omega)]
theorem qx (d bl n:Nat)(vw:Value)(x:DS)(s:Int)(p:ByteArray)(w:World)(h:bv w d bl n vw x):
  Calls Tryz.prog 80 #[.pointer (some ⟨d,0,none⟩),.agg (dL s p)] w λe w'=>e= .returned (.int .i64 (cD x s p (taken x n)))/\aO [] w w':=by
 go_enter Tryz.func80,Tryz.ntmps80;go_wp2_with (with_reducible first|refine bG rfl ?_);refine al.go (ij rfl 103 _ rfl (.agg (dL s p)) rfl ?_);intro w1 b3 l3 f1 r3;have h1:=h.new f1;go_wp2_with fail;refine(nX d bl n vw x w1 h1).mono ?_;rintro e w2 ⟨v,rfl,hv,f2⟩;have r3':=f2.row r3;have f12:=f1.trans f2;have h2:=h.new f12
 have h54:=iA x n;obtain⟨ad,cap,hv'⟩:=bQ hv;subst hv';clear h1 f1 f2 r3;go_wp2_with fail;have HA:Hid (∀i∈taken x n,i<aK n):=λi hi=>rh x n i hi
 generalize htk:taken x n=tk at*;have HT:Hid (taken x n=tk):=htk;clear htk
 go_loopw [10] (λc wr=>∃k:Nat,c= .int .i64 k/\k<=tk.length/\aO [] w2 wr/\Hid (cD x s p tk=cD x s p (tk.drop k))) (λc _=>tk.length-(intOf c).toNat)
 case atStart=>exact⟨0,rfl,by omega,aO.refl _ _,rfl⟩
 case round=>
  obtain⟨k,rfl,hk,fk,HS⟩:=hrel;have hd:=h2.new fk;have hvk:=fk.owns hv;have q3:=fk.row r3'
  by_cases hlt:k<tk.length
  .obtain⟨g,cur,rfl,hg,hle,_,hcs,htk⟩:=eU hvk
   have hi:tk[k]<aK n:=HA.out _ (List.getElem_mem hlt);have hc:wr.cell? ⟨g,k,none⟩=some (.int .i64 (tk[k]:Nat)):=by
    rw[hg.cell,<-Array.getElem?_toList];have:(cur.toList.take (tk.length*1))[k]? =(ic tk)[k]? :=by rw[htk]
    rw[List.getElem?_take_of_lt (by omega)] at this;rw[this];simp[ic,hlt]
   have hrl:=sc hd tk[k] hi;generalize hik:tk[k]=i at hi hc hrl;have HI:Hid (tk[k]=i):=hik;clear hik;clear hcs htk;go_wp2_with fail;refine qT (by kernel_rfl) (by kernel_rfl) ?_;refine cJ rfl (some 14) rfl _ (λ_ _=>rfl) ?_;refine cJ rfl (some 15) rfl _ (λ_ _=>rfl) ?_;simp only[Act.put,bZ,b6,bY]
   refine tV rfl (some 16) rfl 82 #[.pointer (some ⟨d,0,none⟩),.int .i64 i] (.agg (byteCells (cH x i)).toArray) (λ_ _=>by go_simp) (λw' hw'=>?_) ?_
   .refine(oI d bl n vw x i w' (hd.new hw') hi).mono ?_
    rintro e w'' ⟨rfl,f⟩;exact⟨rfl,hw'.trans f⟩
   refine tV rfl (some 17) rfl 81 #[.agg (byteCells (cH x i)).toArray] (.agg (bR (gv (cH x i)) (dY (cH x i)) (bN (cH x i))).toArray) (λ_ _=>by go_simp) (λw' hw'=>?_) ?_
   .refine(qR (cH x i) w' hrl).mono ?_
    rintro e w'' ⟨rfl,f⟩;exact⟨rfl,hw'.trans f⟩
   simp only[Act.put,bZ,b6,bY];refine cJ rfl (some 18) rfl (.agg (dL (gv (cH x i)) (aB (dY (cH x i))))) (λw' _=>?_) ?_
   .exact Dw _ _ _ rfl _ rfl _ (Fw _ _ _ _)
   refine cJ rfl (some 19) rfl (.agg (dL s p)) (λw' hw'=>sC 103 _ rfl b3 0 rfl gP 2 eJ _ _ (hw'.row q3) [.int .i64 s,.string p] rfl rfl) ?_;simp only[Act.put,bZ,b6,bY];refine cJ rfl (some 20) rfl (.bool (named x s p i)) (λw' _=>?_) ?_
   .exact tN _ _ _ _ _ rfl _ _ rfl rfl _ (Fp _ _ _ _ _ _) (NF _ _ _ _ _)
   simp only[Act.put,bZ,b6,bY];intro w5 f5;have mL:=fk.trans f5;have vp:=f12.trans mL
   by_cases hn:named x s p i=true
   .have HN:Hid (named x s p i=true):=hn
    rw[hn];clear hn hd hvk q3 hg hc fk f5;go_wp2_with fail;go_ret;refine⟨pz ?_,vp⟩;rw[show taken x n=tk from HT.out,HS.out];have:=HI.out;rw[Iy _ _ _ _ _ hlt (by rw[this];exact HN.out),this]
   .have hn':named x s p i=false:=by simpa using hn
    have HN:Hid (named x s p i=false):=hn';rw[hn'];clear hn hn' hd hvk q3 hg hc fk f5;go_wp2_with fail
    go_roundw
    case rel=>
     refine⟨k+1,by go_num,by omega,mL,?_⟩;show _=_;have:=HI.out;rw[HS.out,Cc _ _ _ _ _ hlt (by rw[this];exact HN.out)]
    case measure=>simp[intOf];omega
  .have HK:Hid (k=tk.length):=(by omega:k=tk.length)
   go_wp2_with fail;go_ret;refine⟨pz ?_,f12.trans fk⟩;rw[show taken x n=tk from HT.out,HS.out,HK.out,List.drop_length];rfl
def DS.content (x:DS)(n:Nat)(s:Int)(p:ByteArray):Option (List UInt8):=
 match cD x s p (taken x n) with
 |.ofNat i=>some (bN (cH x i))
 |.negSucc _=>none
theorem mS (x:DS)(s:Int)(p:ByteArray):∀(l:List Nat),cD x s p l=-1\/∃i∈l,cD x s p l=(i:Nat)/\named x s p i=true
 |[]=> .inl rfl
 |i::r=>by
  unfold cD
  by_cases h:named x s p i=true
  .exact .inr ⟨i,by simp,by simp[h],h⟩
  .rw[if_neg h]
   rcases mS x s p r with h'|⟨j,hj,h1,h2⟩
   .exact .inl h'
   .exact .inr ⟨j,by simp[hj],h1,h2⟩
theorem sw (d bl n:Nat)(vw:Value)(x:DS)(s:Int)(p:ByteArray)(w:World)(h:bv w d bl n vw x):
  Calls Tryz.prog 50 #[.pointer (some ⟨d,0,none⟩),.agg (dL s p)] w λe w'=>
   e= .returned (.tuple #[.string (aB ((x.content n s p).getD [])),.bool (x.content n s p).isSome])/\aO [] w w':=by
 go_enter Tryz.func50,Tryz.ntmps50;go_wp2_with (with_reducible first|refine bG rfl ?_|refine ay 103 rfl ?_);refine al.go (ij rfl 103 _ rfl (.agg (dL s p)) rfl ?_);intro w1 b3 l3 f1 r3;have h1:=h.new f1;go_wp2_with (with_reducible first|refine bG rfl ?_|refine ay 103 rfl ?_)
 refine al.go (bU rfl 103 _ rfl b3 0 rfl gP 2 eJ _ _ r3 [.int .i64 s,.string p] rfl rfl ?_);go_wp2_with fail;refine(qx d bl n vw x s p w1 h1).mono ?_;rintro e w2 ⟨rfl,f2⟩;have h2:=h1.new f2;have fw:=f1.trans f2;clear h1 f1 f2 r3;rcases mS x s p (taken x n) with hs|⟨i,hi,hs,_⟩
 .have hc:Hid (x.content n s p=none):=by show _=_;unfold DS.content;rw[hs];rfl
  rw[hs];clear hs;go_wp2_with fail
  go_ret2
  refine⟨?_,fw⟩;rw[hc.out];rfl
 .have hc:Hid (x.content n s p=some (bN (cH x i))):=by show _=_;unfold DS.content;rw[hs]
  have hlt:=rh x n i hi;have hrl:=sc h2 i hlt;rw[hs];clear hs hi;have hne:((i:Int)==-1)=false:=by rw[beq_eq_false_iff_ne];omega
  go_wp2_with fail;refine(oI d bl n vw x i w2 h2 hlt).mono ?_;rintro e w3 ⟨rfl,f3⟩;go_wp2_with fail;refine(qR (cH x i) w3 hrl).mono ?_;rintro e w4 ⟨rfl,f4⟩;have Ef:=(fw.trans f3).trans f4;go_wp2_with (with_reducible first|refine Em rfl ?_);refine al.go (cx rfl _ _ (Dw _ _ _ rfl _ rfl _ (y6 _ _ _ _)) ?_);go_wp2_with fail
  go_ret2
  refine⟨?_,Ef⟩;rw[hc.out];rfl
structure cV where
 set:Nat
 path:List UInt8
 content:List UInt8
def fileAt (x:DS)(i:Nat):cV:=⟨gv (cH x i),dY (cH x i),bN (cH x i)⟩
def aP (x:DS)(n:Nat):List cV:=(taken x n).map (fileAt x)
def gU (l:List cV):List Value:=l.flatMap λf=>bR f.set f.path f.content
theorem A0 (l:List cV):(gU l).length=l.length*3:=by
 induction l with
 |nil=>rfl
 |cons f r ih=>simp only[gU,List.flatMap_cons,List.length_append,List.length_cons,bR] at ih⊢;rw[ih];simp;omega
theorem sr (a b:List cV):gU (a++b)=gU a++gU b:=by simp[gU]
theorem pM:Elem Tryz.prog 104 107 3 40:=⟨Tryz.underlying104,by kernel_rfl,by omega⟩
theorem Ow {D:World->Prop}{d n:Nat}{x:DS}(R:OW D d n x)(w:World)(h:D w):
  Calls Tryz.prog 51 #[.pointer (some ⟨d,0,none⟩)] w λe w'=>∃v,e= .returned v/\w'.ownsRow w.heap.size 107 3 v (aP x n).length (gU (aP x n))/\aO [] w w':=by
 go_enter Tryz.func51,Tryz.ntmps51;go_wp2_with fail;refine(pW R w h).mono ?_;rintro e w2 ⟨v,rfl,hv,f2⟩;have h2:=R.new h f2 (by simp);have h54:=iA x n;obtain⟨ad,cap,hv'⟩:=bQ hv;subst hv';go_wp2_with fail;have HA:Hid (∀i∈taken x n,i<aK n):=λi hi=>rh x n i hi
 generalize htk:taken x n=tk at*;have HT:Hid (taken x n=tk):=htk;clear htk;have hsz2:=f2.size
 go_loopw [3,9] (λu c wr=>∃k:Nat,c= .int .i64 k/\k<=tk.length/\aO [] w2 wr/\wr.ownsRow w2.heap.size 107 3 u k (gU ((tk.take k).map (fileAt x)))) (λ_ c _=>tk.length-(intOf c).toNat)
 case atStart=>exact⟨0,rfl,by omega,aO.refl _ _,World.ownsRow_nil _ _ _ _⟩
 case round=>
  obtain⟨k,rfl,hk,fk,ho⟩:=hrel;have hd:=R.new h2 fk (by simp);have hvk:=fk.owns hv
  by_cases hlt:k<tk.length
  .obtain⟨g,cur,rfl,hg,hle,_,hcs,htk⟩:=eU hvk
   have hi:tk[k]<aK n:=HA.out _ (List.getElem_mem hlt);have hc:wr.cell? ⟨g,k,none⟩=some (.int .i64 (tk[k]:Nat)):=by
    rw[hg.cell,<-Array.getElem?_toList];have:(cur.toList.take (tk.length*1))[k]? =(ic tk)[k]? :=by rw[htk]
    rw[List.getElem?_take_of_lt (by omega)] at this;rw[this];simp[ic,hlt]
   have hrl:=R.WI tk[k] hi;generalize hik:tk[k]=i at hi hc hrl;have HI:Hid (tk[k]=i):=hik;clear hik hcs htk;go_wp2_with fail;refine(p7 R i wr hd hi).mono ?_;rintro e w3 ⟨rfl,f3⟩;go_wp2_with fail;refine(qR (cH x i) w3 hrl).mono ?_;rintro e w4 ⟨rfl,f4⟩;have ho4:=f4.owns (f3.owns ho (by simp));have Ts:=(fk.trans f3).trans f4
   clear ho fk hd hvk hg hc f3 f4;go_wp2_with (with_reducible first|refine bO rfl ?_|refine bP rfl ?_);refine al.go (fU rfl 104 107 3 40 pM _ rfl (.agg (bR (gv (cH x i)) (dY (cH x i)) (bN (cH x i))).toArray) rfl rfl ?_);intro w5 b5 l5 f5 r5
   go_wp2_with (with_reducible first|refine bO rfl ?_|refine bP rfl ?_);have Bx:=f5.owns ho4;have hbase:w2.heap.size<=w5.heap.size:=by have:=Ts.size;have:=f5.size;omega
   refine al.go (iz rfl 104 107 3 40 pM _ _ rfl w2.heap.size u3 _ _ rfl Bx b5 1 1 (bR (gv (cH x i)) (dY (cH x i)) (bN (cH x i))) rfl _ _ r5 rfl rfl (by simp[bR,Value.oneCell']) (by omega) (by omega) (by omega) hbase ?_);intro g' cap' w6 ho6 f6 hat;have Hd:=(Ts.trans f5).trans f6 (by intro j hj;right;simp at hj;exact(Bx.lt j hj).1)
   clear ho4 Bx r5 f5 f6 hat l5 Ts hbase;go_wp2_with fail
   go_roundw
   case rel=>
    refine⟨k+1,by go_num,by omega,Hd,?_⟩;rw[List.take_succ_eq_append_getElem hlt,List.map_append,sr,show tk[k]=i from HI.out];simpa [gU,fileAt] using ho6
   case measure=>simp[intOf];omega
  .have HK:Hid (k=tk.length):=(by omega:k=tk.length)
   go_wp2_with fail;go_ret;refine⟨_,rfl,?_,f2.trans fk⟩;have:=HK.out;subst this;have e:aP x n=(tk.take tk.length).map (fileAt x):=by unfold aP;rw[show taken x n=tk from HT.out,List.take_of_length_le (Nat.le_refl _)]
   rw[e];obtain⟨o1,o2⟩:=ho;refine⟨by simpa using A0 ((tk.take tk.length).map (fileAt x)),?_⟩;rcases o2 with⟨e1,e2⟩|⟨g,cap,cur,e1,e2,e3⟩
   .exact .inl ⟨e1,by simpa using e2⟩
   .exact .inr ⟨g,cap,cur,by simpa using e1,by omega,by simpa using e3⟩
theorem Hu (d bl n:Nat)(vw:Value)(x:DS)(w:World)(h:bv w d bl n vw x):
  Calls Tryz.prog 51 #[.pointer (some ⟨d,0,none⟩)] w λe w'=>∃v,e= .returned v/\w'.ownsRow w.heap.size 107 3 v (aP x n).length (gU (aP x n))/\aO [] w w':=Ow (EO h) w h
structure fy (w:World)(d bl n:Nat)(vw:Value)(x:DS):Prop where
 row:∃f,w.heap[d]? =some (.cells (ir bl n vw x) 134 f)
 last:∃f,w.heap[bl]? =some (.cells (byteCells x.aR).toArray 148 f)
 len:x.aR.length=64*n
 lo:16<=n
 hi:n<=400
 nil:vw= .slice none 0 0
 none:x.waiting=[]
 vw:∃ad cap,vw= .slice ad x.waiting.length cap
theorem fy.d8 {w:World}{d bl n:Nat}{vw:Value}{x:DS}(h:fy w d bl n vw x):∀p∈x.waiting,p.2.length=64:=by rw[h.none];simp
theorem fy.ZP {w:World}{d bl n:Nat}{vw:Value}{x:DS}(h:fy w d bl n vw x):d<w.heap.size:=let⟨_,h⟩:=h.row;(Array.getElem?_eq_some_iff.1 h).1
theorem fy.Zw {w:World}{d bl n:Nat}{vw:Value}{x:DS}(h:fy w d bl n vw x):bl<w.heap.size:=let⟨_,h⟩:=h.last;(Array.getElem?_eq_some_iff.1 h).1
theorem fy.new {w w':World}{S:List Nat}{d bl n:Nat}{vw:Value}{x:DS}(h:fy w d bl n vw x)(f:aO S w w')(hS:∀k∈S,w.heap.size<=k:=by simp):fy w' d bl n vw x:=by
 have l1:=h.ZP;have l2:=h.Zw;obtain⟨f1,h1⟩:=h.row;obtain⟨f2,h2⟩:=h.last;exact⟨⟨f1,by rw[f.block d l1 λhd=>by have:=hS _ hd;omega];exact h1⟩,⟨f2,by rw[f.block bl l2 λhd=>by have:=hS _ hd;omega];exact h2⟩,h.len,h.lo,h.hi,h.nil,h.none,h.vw⟩
theorem xZ {w:World}{d bl n:Nat}{vw:Value}{x:DS}(h:fy w d bl n vw x):
  w.cell? ⟨d,0,none⟩=some (.slice (some ⟨bl,0,none⟩) n n)/\w.cell? ⟨d,1,none⟩=some vw/\w.cell? ⟨d,2,none⟩=some (.int .i64 x.acts)/\w.cell? ⟨d,3,none⟩=some (.bool x.given)/\
  w.cell? ⟨d,4,none⟩=some (.int .i64 x.left)/\w.cell? ⟨d,5,none⟩=some (.int .i64 x.keep)/\w.cell? ⟨d,6,none⟩=some (.bool x.failed):=by
 obtain⟨f,h⟩:=h.row;refine⟨?_,?_,?_,?_,?_,?_,?_⟩<;>rw[cell_of_row w d _ _ _ f h]<;>rfl
section
variable {P:Program}{ops:Array Oper}{Q:Exit->Act->World->Prop}{o:Oper}{rest:List Oper}{a:Act}{w:World}
theorem KL (hg:o.guard=none)(t:TypeId)(x:Operand)(ho:o.op= .load t x)(b off:Nat)(hx:a.eval x= .pointer (some ⟨b,off,none⟩))
  (hu:(P.underlying t).map TypeDesc.isRow=some true) (n:Nat) (hi:(P.info? t).map (·.size)=some n)
  (c:Array Value) (u:TypeId) (hr:∃f,w.heap[b]? =some (.cells c u f)) (vs:List Value) (hv:(c.toList.drop off).take n=vs) (hl:vs.length=n)
  (h:wpList P ops Q rest (a.put o.dst (.agg vs.toArray)) w):wpList P ops Q (o::rest) a w:=by
 obtain⟨d,hu',hd⟩:=Option.map_eq_some_iff.1 hu;obtain⟨f,hr⟩:=hr;refine wpList_load_mid hg t x ho b off hx vs d (λj v hj=>?_) hu' hd (by rw[hi,hl]) h;rw[cell_of_row w b _ _ _ f hr];subst hv;rw[List.getElem?_take] at hj;split at hj
 .simpa [List.getElem?_drop] using hj
 .cases hj
end
theorem P4 (d bl n:Nat)(vw:Value)(x:DS)(s:Int)(w:World)(h:fy w d bl n vw x)(hs:0<=s)(hn:s<n):
  Calls Tryz.prog 114 #[.pointer (some ⟨d,0,none⟩),.int .i64 s] w λe w'=>e= .returned (.agg (byteCells (x.read s)).toArray)/\aO [] w w':=by
 have ZP:=h.ZP;have Zw:=h.Zw;obtain⟨ad,cap,hvw⟩:=h.vw;have hfit:64*s.toNat+64<=x.aR.length:=by rw[h.len];omega
 subst hvw;go_enter Tryz.func114,Tryz.ntmps114;go_wp2_with (with_reducible first|refine az rfl ?_|refine ay 148 rfl ?_|refine ay 240 rfl ?_|refine af 148 rfl ?_|refine af 240 rfl ?_);refine al.go (bi rfl 148 rfl eR d6 ?_);intro w1 b4 l4 f1 r4;have h1:=h.new f1;obtain⟨c0,c1,-⟩:=xZ h1
 go_wp2_with (with_reducible first|refine az rfl ?_|refine ay 148 rfl ?_|refine ay 240 rfl ?_|refine af 148 rfl ?_|refine af 240 rfl ?_);refine al.go (KL rfl 148 _ rfl bl (s.toNat*64) rfl dK 64 bp _ _ h1.last (byteCells (seenIn x.aR [] s)) ?_ ?_ ?_)
 .simp[seenIn,eW,eV,Nat.mul_comm]
 .rw[ai];exact bk _ _ hfit _ (by simp)
 go_wp2_with (with_reducible first|refine az rfl ?_|refine ay 148 rfl ?_|refine ay 240 rfl ?_|refine af 148 rfl ?_|refine af 240 rfl ?_);refine al.go (bi rfl 148 rfl eR d6 ?_);intro w2 b5 l5 f2 r5
 go_wp2_with (with_reducible first|refine az rfl ?_|refine ay 148 rfl ?_|refine ay 240 rfl ?_|refine af 148 rfl ?_|refine af 240 rfl ?_);refine al.go (bK rfl 148 _ _ rfl _ 0 rfl _ rfl 64 bp ?_ ?_ _ _ r5 ?_ ?_)
 .simp only[List.size_toArray,ai];exact bk _ _ hfit _ (by simp)
 .exact byteCells_one _
 .decide
 intro w3 f3 r5;have EP:=f3.row (f2.row r4) (by have:=r4.lt;simp;omega);have f13:aO [] w w3:=(f1.trans f2).trans f3 (by simp;have:=f1.size;omega);rw[bH _ _ (by rw[ai,bk _ _ hfit _ (by simp)];rfl)] at r5;have h3:=h.new f13;clear c0 c1 h1;obtain⟨c0,c1,-⟩:=xZ h3
 go_wp2_with (with_reducible first|refine az rfl ?_|refine ay 148 rfl ?_|refine ay 240 rfl ?_|refine af 148 rfl ?_|refine af 240 rfl ?_);have hne:b4≠b5:=by have:=r4.lt;omega
 have l4':w.heap.size<=b5:=by have:=f1.size;omega
 go_loopw [20] (λi wr=>∃k:Nat,i= .int .i64 k/\k<=x.waiting.length/\aO [] w wr/\Row wr b4 eR.cells 148/\
  Row wr b5 (byteCells (seenIn x.aR (x.waiting.take k) s)).toArray 148) (λi _=>x.waiting.length-(intOf i).toNat)
 case atStart=>exact⟨0,rfl,by omega,f13,EP,r5⟩
 case round=>
  obtain⟨k,rfl,hk,fk,q4,q5⟩:=hrel;clear c0 c1 h3 f13 EP;have iI:x.waiting.length<=60:=by rw[h.none];simp
  have hlt:¬k<x.waiting.length:=by rw[h.none];simp
  have hk':k=x.waiting.length:=by omega
  have HK:Hid (k=x.waiting.length):=hk';clear hk';go_wp2_with (with_reducible first|refine az rfl ?_|refine ay 148 rfl ?_|refine ay 240 rfl ?_|refine af 148 rfl ?_|refine af 240 rfl ?_);refine al.go (bU rfl 148 _ rfl b5 0 rfl dK 64 bp _ _ q5 (byteCells (x.read s)) ?_ ?_ ?_)
  .simp only[List.drop_zero]
   rw[HK.out,List.take_of_length_le (Nat.le_refl _),List.take_of_length_le (by rw[ai,bk _ _ hfit _ h.d8];omega)];rfl
  .rw[ai];exact bk _ _ hfit _ h.d8
  go_wp2_with (with_reducible first|refine az rfl ?_|refine ay 148 rfl ?_|refine ay 240 rfl ?_|refine af 148 rfl ?_|refine af 240 rfl ?_);refine al.go (bK rfl 148 _ _ rfl _ 0 rfl _ rfl 64 bp ?_ ?_ _ _ q4 ?_ ?_)
  .simp only[List.size_toArray,ai];exact bk _ _ hfit _ h.d8
  .exact byteCells_one _
  .decide
  intro w6 f6 q6;rw[bH _ _ (by simp only[ai];rw[show(x.read s).length=64 from bk _ _ hfit _ h.d8];rfl)] at q6;have vo:aO [] w w6:=fk.trans f6 (by simp;omega);go_wp2_with (with_reducible first|refine az rfl ?_|refine ay 148 rfl ?_|refine ay 240 rfl ?_|refine af 148 rfl ?_|refine af 240 rfl ?_)
  exact lA rfl b4 rfl rfl _ _ q6 dK (by simp only[List.size_toArray,ai];rw[show(x.read s).length=64 from bk _ _ hfit _ h.d8];exact bp) ⟨rfl,vo⟩
theorem EF (d bl n:Nat)(vw:Value)(x:DS)(w:World)(h:fy w d bl n vw x):
  Calls Tryz.prog 117 #[.pointer (some ⟨d,0,none⟩)] w λe w'=>e= .returned (.int .i64 n)/\w'=w:=by
 obtain⟨c0,c1,c2,c3,c4,c5,c6⟩:=xZ h;go_enter Tryz.func117,Tryz.ntmps117;go_wp2_with fail;go_ret;exact⟨rfl,rfl⟩
theorem VW {w0:World}{d bl n:Nat}{vw:Value}{x:DS}(h:fy w0 d bl n vw x):OW (λw=>fy w d bl n vw x) d n x:=
 ⟨h.lo,h.hi,λj hj=>bk _ _ (by rw[h.len];simp;omega) _ h.d8,λh f hS=>h.new f hS,λs w h h0 h1=>P4 d bl n vw x s w h h0 h1,λw h=>EF d bl n vw x w h⟩
def bI (w:World)(F:List Nat)(d n:Nat)(x:DS):Prop:=∃bl vw,bv w d bl n vw x/\F=d::bl::vw.ownBlock.toList
theorem bI.vO {w w':World}{F S:List Nat}{d n:Nat}{x:DS}(h:bI w F d n x)(f:aO S w w')(hS:∀k∈S,k∉F):bI w' F d n x:=by
 obtain⟨bl,vw,h,rfl⟩:=h;refine⟨bl,vw,h.vO f (λe=>hS _ e (by simp)) (λe=>hS _ e (by simp)) (λk hk e=>hS k hk (by simp[e])),rfl⟩
theorem bI.lt {w:World}{F:List Nat}{d n:Nat}{x:DS}(h:bI w F d n x):∀k∈F,k<w.heap.size:=by
 obtain⟨bl,vw,h,rfl⟩:=h;intro k hk;simp only[List.mem_cons,Option.mem_toList] at hk;rcases hk with rfl|rfl|hk
 .exact h.row.lt
 .exact h.last.lt
 .exact L0 h.own hk
theorem bI.new {w w':World}{F S:List Nat}{d n:Nat}{x:DS}(h:bI w F d n x)(f:aO S w w')(hS:∀k∈S,w.heap.size<=k:=by simp):bI w' F d n x:=
 h.vO f λk hk hF=>by have:=h.lt k hF;have:=hS k hk;omega
structure DS.Fit (x:DS)(room:Nat):Prop where
 kb:0<=x.acts
 ka:x.acts+room<=1000000000
 j9:0<=x.left
 j8:x.left<=9223372036854775807
def DS.write (x:DS)(s:Int)(l:List UInt8):DS:=if x.bj then {x.jc with waiting:=x.waiting++[(s,l)]} else x.stopped
def DS.flush (x:DS):DS:=if x.bj then {x.jc with aR:=ju x.aR x.waiting,waiting:=[]} else x.stopped
def cI (b:Bool):Value:= .int .i64 (if b then 0 else 3)
theorem cannot {x:DS}(h:x.bj=false):x.failed=true\/(x.failed=false/\x.given=true/\x.left=0):=by
 unfold DS.bj at h;cases hf:x.failed<;>simp_all
def bL (F F':List Nat)(w:World):Prop:=∀k∈F',k∈F\/w.heap.size<=k
theorem bL.refl (F:List Nat)(w:World):bL F F w:=λ_ h=> .inl h
theorem bL.trans {F G H:List Nat}{w w':World}(h:bL F G w)(k:bL G H w')(hs:w.heap.size<=w'.heap.size:=by simp):bL F H w:=λi hi=>by
 rcases k i hi with h1|h1
 .exact h i h1
 .exact .inr (by omega)
theorem t9 {d bl n:Nat}{vw:Value}{x:DS}{w w':World}(h:bv w d bl n vw x)(h':bv w' d bl n (.slice none 0 0) x.fall):∃F',bI w' F' d n x.fall/\bL (d::bl::vw.ownBlock.toList) F' w:=
 ⟨[d,bl],⟨bl,_,h',by simp[Value.ownBlock]⟩,λk hk=> .inl (by simp at hk;simp;rcases hk with rfl|rfl<;>simp)⟩
theorem kH (F:List Nat)(d n:Nat)(x:DS)(s:Int)(l:List UInt8)(w:World)(h:bI w F d n x)(hx:x.Fit 1)(hl:l.length=64)(iI:x.waiting.length<60)(hs:0<=s:=by omega)(hn:s<n:=by omega):
  Calls Tryz.prog 148 #[.pointer (some ⟨d,0,none⟩),.int .i64 s,.agg (byteCells l).toArray] w λe w'=>e= .returned (cI x.bj)/\∃F',bI w' F' d n (x.write s l)/\aO F w w'/\bL F F' w:=by
 obtain⟨bl,vw,h,rfl⟩:=h;cases hc:x.bj with
 |true=>
  refine(Ic d bl n vw x.jc w s l hl hs hn (by simpa [DS.jc] using iI) h.row.lt λw1 f1=>C1 d bl n vw x w1 (h.new f1) hc hx.j9 hx.j8 hx.kb (by have:=hx.ka;omega)).mono ?_;rintro e w' ⟨rfl,Zk,h',f,hv⟩
  refine⟨by simp[cI],d::bl::Zk.ownBlock.toList,⟨bl,Zk,by simpa [DS.write,hc,DS.jc] using h',rfl⟩,f.mono (λk hk=> .inl (by simp only[List.mem_cons] at hk⊢;rcases hk with hk|hk;exact .inl hk;exact .inr (.inr hk))),?_⟩;intro k hk;simp only[List.mem_cons,Option.mem_toList] at hk⊢;rcases hk with rfl|rfl|hk
  .exact .inl (.inl rfl)
  .exact .inl (.inr (.inl rfl))
  .rcases hv with hv|⟨j,hj,hlt⟩
   .exact .inl (.inr (.inr (by rw[<-hv];exact hk)))
   .rw[hj] at hk
    obtain rfl:j=k:=by simpa using hk
    exact .inr hlt
 |false=>
  rcases cannot hc with hf|⟨hf,hg,h0⟩
  .refine(BC d s l w (λw'=>bv w' d bl n vw x/\aO [] w w') λw1 f1=>?_).mono ?_
   .refine(xp d bl n vw x w1 (h.new f1) hf).mono ?_
    rintro e w' ⟨rfl,rfl⟩;exact⟨rfl,h.new f1,f1⟩
   .rintro e w' ⟨rfl,h',f⟩
    exact⟨by simp[cI],_,⟨bl,vw,by simpa [DS.write,hc,DS.stopped,hf] using h',rfl⟩,f.mono,bL.refl _ _⟩
  .refine(BC d s l w (λw'=>bv w' d bl n (.slice none 0 0) x.fall/\aO [d,bl] w w') λw1 f1=>?_).mono ?_
   .refine(zP d bl n vw x w1 (h.new f1) hf hg h0).mono ?_
    rintro e w' ⟨rfl,h',f2⟩;exact⟨rfl,h',(f1.mono (by simp):aO [d,bl] w w1).trans f2⟩
   .rintro e w' ⟨rfl,h',f⟩
    obtain⟨F',o1,o2⟩:=t9 h h';exact⟨by simp[cI],F',by simpa [DS.write,hc,DS.stopped,hf] using o1,f.mono,o2⟩
theorem k6 (F:List Nat)(d n:Nat)(x:DS)(w:World)(h:bI w F d n x)(hx:x.Fit 1):
  Calls Tryz.prog 149 #[.pointer (some ⟨d,0,none⟩)] w λe w'=>e= .returned (cI x.bj)/\∃F',bI w' F' d n x.flush/\aO F w w'/\bL F F' w:=by
 obtain⟨bl,vw,h,rfl⟩:=h;cases hc:x.bj with
 |true=>
  refine(JJ d bl n vw x.jc w (C1 d bl n vw x w h hc hx.j9 hx.j8 hx.kb (by have:=hx.ka;omega))).mono ?_;rintro e w' ⟨rfl,h',f⟩;refine⟨by simp[cI],[d,bl],⟨bl,_,by simpa [DS.flush,hc,DS.jc] using h',by simp[Value.ownBlock]⟩,f.mono,?_⟩;intro k hk;simp at hk;rcases hk with rfl|rfl<;>simp
 |false=>
  rcases cannot hc with hf|⟨hf,hg,h0⟩
  .refine(Ds d w (λw'=>w'=w) (xp d bl n vw x w h hf)).mono ?_
   rintro e w' ⟨rfl,rfl⟩;exact⟨by simp[cI],_,⟨bl,vw,by simpa [DS.flush,hc,DS.stopped,hf] using h,rfl⟩,aO.refl _ _,bL.refl _ _⟩
  .refine(Ds d w (λw'=>bv w' d bl n (.slice none 0 0) x.fall/\aO [d,bl] w w') (zP d bl n vw x w h hf hg h0)).mono ?_
   rintro e w' ⟨rfl,h',f⟩;obtain⟨F',o1,o2⟩:=t9 h h';exact⟨by simp[cI],F',by simpa [DS.flush,hc,DS.stopped,hf] using o1,f.mono,o2⟩
end
end
end Go.Proofs.YtchcmhodnkgojaaGreat
