/- On the way to the last text; put together and shortened by program. -/
import Derived.Conc.QuitsD
import Derived.Conc.ClockLaws
import Derived.Conc.AtomicLaws2
import Derived.Test.YtchcmhodnkgojaaGreatPart5
import Derived.Test.YtchcmhodnkgojaaGreatRows
import Derived.WalkKit
import Derived.WalkSpells
import Derived.WalkLawsBesides
import Derived.Deep.MidRow
import Derived.Laws.CopyOwn
import Derived.Laws.Rows
import Derived.Lib.UnsafeStr
import Derived.Deep.RegionHeld3
import Derived.Deep.AppendLies
import Derived.Orders
import Derived.Deep.RegionHeld
import Derived.Laws.IdiomStrings
import Derived.Deep.Quiet
set_option linter.all false
set_option maxRecDepth 100000
set_option maxHeartbeats 8000000
namespace Go.Proofs.YtchcmhodnkgojaaGreat
noncomputable section
section
open Go.Conc
def Kr (
  P:Program) (g:Goroutine):Bool:=
 match g.frame.mode with
 |.run=>
  match g.frame.todo with
  |.inRegion ops (i::_)::_=>
   match ops[i]? with
   |none=>false
   |some o=>
    if Region.wanted o (yielded ops g.frame.tmps) then
     match o.op with
     |.move _|.assign _|.pick .. |.unOp .. |.extract .. |.fieldAddr .. |.field .. |.makeFunc .. |.nilCheck _|.defer _=>true
     |.binOp op _ x y _=>match op,g.frame.eval x,g.frame.eval y with
      |.eql,.nilIface,_|.neq,.nilIface,_=>true
      |_,.int _ _,.int _ _=>true
      |_,_,_=>false
     |.convert _ _ x=>match g.frame.eval x with
      |.int _ _=>true
      |_=>false
     |.call {callee:= .value f,.. }=>
      match g.frame.eval f with
      |.func (.func f) .. =>(P.funcs[f]?).any (·.body.isSome)
      |_=>false
     |.call {callee:= .builtin .recover,.. }=>true
     |_=>false
    else true
  |.code (.region _ _ true)::_=>false
  |.code (.rangeFunc ..)::_=>false
  |.code _::_|.inRegion _ []::_|.inBlock _::_|.inLoop _::_|.inScope _::_=>true
  |[]=>true
  |_=>false
 |.returning=>
  match g.frame.defers with
  |{target:= .fn (.func f) _,.. }::_=>(P.funcs[f]?).any (·.body.isSome)
  |_::_=>false
  |[]=>!g.callers.isEmpty&&((P.funcs[g.frame.fn]?).any fun fn=>fn.results.all fun|.tmp _=>true|_=>false)
 |.panicking _=>
  match g.frame.defers with
  |{target:= .fn (.func f) _,.. }::_=>(P.funcs[f]?).any (·.body.isSome)
  |_=>false
def xO (P:Program)(main:Bool):Nat->Goroutine->(Nat->World)->Option (Goroutine×List World)
 |0,g,_=>some (g,[])
 |n+1,g,ws=>
  if Kr P g then
   match g.status,stepG P main g (ws 0) with
   |.running,.go g' w' es=>if es.isEmpty then(match xO P main n g' (fun i=>ws (i+1)) with|some (x,l)=>some (x,w'::l)|none=>none) else none
   |_,_=>none
  else some (g,[])
def Ah (P:Program)(main:Bool)(n:Nat)(g:Goroutine):Goroutine:=match xO P main n g (fun _=>default) with|some (x,_)=>x|none=>g
def bN (P:Program)(main:Bool)(n:Nat)(g:Goroutine):Nat:=match xO P main n g (fun _=>default) with|some (_,l)=>l.length|none=>0
def av (P:Program)(main:Bool)(g g':Goroutine):Prop:=∃n k,∀ws:Nat->World,xO P main n g ws=some (g',(List.range k).map ws)
theorem vW (k:Nat)(ws:Nat->World):(List.range (k+1)).map ws=ws 0::(List.range k).map (fun i=>ws (i+1)):=by
 rw[List.range_succ_eq_map];simp[List.map_map]
section
variable {S:Type}{P:Program}{main:Bool}{C:Co S}{Stop:S->Goroutine->World->Prop}{s:S}{g g':Goroutine}{w:World}
def Idle (C:Co S):Prop:=∀s w,C.D s w w #[]/\C.up s w w=s
theorem jL (hI:Idle C)(h:av P main g g')(k:aD P main C Stop s g' w):aD P main C Stop s g w:=by
 obtain⟨n,m,h⟩:=h
 induction n generalizing g w m with
 |zero=>
  have:=h fun _=>w
  simp only[xO,Option.some.injEq,Prod.mk.injEq] at this;rw[this.1];exact k
 |succ n ih=>
  by_cases hq:Kr P g=true
  .refine aD.step ?_ fun w₁ hr=>?_
   .have:=h fun _=>w
    simp only[xO,hq,if_true] at this;cases hs:g.status<;>rw[hs] at this<;>first|rfl|cases this
   .have h0:∀ws':Nat->World,∃g1,stepG P main g w₁= .go g1 w₁ #[]/\∃m',m=m'+1/\xO P main n g1 ws'=some (g',(List.range m').map ws'):=fun ws'=>by
     have:=h fun i=>match i with|0=>w₁|i+1=>ws' i
     simp only[xO,hq,if_true] at this;cases hs:g.status<;>rw[hs] at this<;>(try cases this;done)
     cases hst:stepG P main g w₁<;>rw[hst] at this<;>simp only at this<;>(try cases this;done)
     rename_i g1 w' es;split at this
     .rename_i he
      have he:es=#[]:=by simpa using he
      subst he;split at this
      .rename_i x l hx
       simp only[Option.some.injEq,Prod.mk.injEq] at this;obtain⟨rfl,hl⟩:=this;cases m with
       |zero=>simp at hl
       |succ m'=>
        rw[vW] at hl;simp only[List.cons.injEq] at hl;obtain⟨rfl,rfl⟩:=hl;exact⟨g1,rfl,m',rfl,hx⟩
      .cases this
     .cases this
    obtain⟨g1,e1,m',e2,_⟩:=h0 fun _=>w
    refine⟨g1,w₁,#[],e1,(hI s w₁).1,?_⟩;rw[(hI s w₁).2];refine ih (m:=m') (k.rely hr) fun ws'=>?_
    obtain⟨g2,e3,m2,e4,e5⟩:=h0 ws';rw[e1] at e3;cases e3;obtain rfl:m2=m':=by omega
    exact e5
  .have:=h fun _=>w
   simp only[xO,hq,if_false,Option.some.injEq,Prod.mk.injEq,Bool.false_eq_true] at this;rw[this.1];exact k
theorem av.of (n:Nat)(h:∀ws:Nat->World,xO P main n g ws=some (Ah P main n g,(List.range (bN P main n g)).map ws)):av P main g (Ah P main n g):=⟨n,_,h⟩
end
def Ax (g:Goroutine):Option Oper:=
 match g.status,g.dying,g.offers,g.frame.mode,g.frame.roundOf,g.frame.todo with
 |.running,none,none,.run,none,.inRegion ops (i::_)::_=>
  match ops[i]? with
  |some o=>if Region.wanted o (yielded ops g.frame.tmps)&&g.frame.kind != .early then some o else none
  |none=>none
 |_,_,_,_,_,_=>none
def resume (g:Goroutine)(v:Value):Goroutine:={g with frame:=g.frame.finish v}
theorem tY {g:Goroutine}{o:Oper}(h:Ax g=some o):∃(b:Frame) (a:Act) (ops:Array Oper) (i:Nat) (rest:List Nat) (kk:List Item) (cs:List Frame),
  g=G (b.at a (.inRegion ops (i::rest)::kk)) cs/\ops[i]? =some o/\Region.wanted o (yielded ops a.tmps)=true/\b.kind≠.early/\b.fn=g.frame.fn/\a.eval=g.frame.eval/\∀v,resume g v=G (b.at (a.put o.dst v) (.inRegion ops rest::kk)) cs:=by
 obtain⟨⟨fn,tmps,todo,defers,mode,kind,rd⟩,callers,status,dying,offers⟩:=g;unfold Ax at h;simp only at h;split at h
 .rename_i ops i rest kk
  split at h
  .rename_i o' ho
   split at h
   .rename_i hw
    simp only[Option.some.injEq] at h;subst h;simp only[Bool.and_eq_true,bne_iff_ne,ne_eq] at hw;refine⟨{(default:Frame) with fn:=fn,kind:=kind},⟨tmps,defers⟩,ops,i,rest,kk,callers,rfl,ho,hw.1,hw.2,rfl,?_,fun v=>?_⟩
    .funext x;cases x<;>rfl
    .have:=Frame.finish_at {(default:Frame) with fn:=fn,kind:=kind} ⟨tmps,defers⟩ ops i rest kk v
     rw[ho] at this;show G (Frame.finish _ v) _=_;exact congrArg (fun f=>G f callers) this
   .cases h
  .cases h
 .cases h
def aG (g:Goroutine):Option (FuncId×Array Value):=
 (Ax g).bind fun o=>match o.op with
  |.call {callee:= .value (.func f),args,.. }=>some (f,args.map g.frame.eval)
  |_=>none
theorem cU {g:Goroutine}{f:FuncId}{args:Array Value}(h:aG g=some (f,args)):∃(b:Frame) (a:Act) (ops:Array Oper) (i:Nat) (rest:List Nat) (kk:List Item) (cs:List Frame) (o:Oper) (ae:Array Operand) (ats:Array TypeId),
  g=G (b.at a (.inRegion ops (i::rest)::kk)) cs/\ops[i]? =some o/\Region.wanted o (yielded ops a.tmps)=true/\b.kind≠.early/\o.op= .call {callee:= .value (.func f),args:=ae,argTypes:=ats}/\ae.map a.eval=args/\∀v,resume g v=G (b.at (a.put o.dst v) (.inRegion ops rest::kk)) cs:=by
 unfold aG at h;obtain⟨o,ho,h⟩:=Option.bind_eq_some_iff.1 h;obtain⟨b,a,ops,i,rest,kk,cs,e1,e2,e3,e4,e5,e6,e7⟩:=tY ho;split at h
 .rename_i f' ae ats hop
  simp only[Option.some.injEq,Prod.mk.injEq] at h;obtain⟨rfl,rfl⟩:=h;exact⟨b,a,ops,i,rest,kk,cs,o,ae,ats,e1,e2,e3,e4,hop,by rw[e6],e7⟩
 .cases h
structure Ext (P:Program)(f:FuncId)(fn:Func):Prop where
 at_:P.funcs[f]? =some fn
 name:(fn.name== "runtime.NumGoroutine")=false
 body:fn.body.isNone=true
 next:Extern.findNext fn=none
section
variable {P:Program}{main:Bool}{g:Goroutine}{f:FuncId}{fn:Func}{args:Array Value}{w:World}
theorem jb (X:Ext P f fn)(m:Mark)(he:Extern.find fn=some (fun _=>do mark m;pure Extern.Race.none_))(h:aG g=some (f,args))(hm:∀g,m≠.extern g:=by simp):
  stepG P main g w= .go (resume g (.tuple #[])) w #[⟨.mark m,false,true⟩]:=by
 obtain⟨b,a,ops,i,rest,kk,cs,o,ae,ats,rfl,h2,h3,h4,h5,h6,h7⟩:=cU h;rw[h7];exact stepG_mark0 m hm h2 h3 h4 h5 X.at_ X.name X.body X.next he
theorem fv (X:Ext P f fn)(mk:Addr->Mark)(he:Extern.find fn=some (Extern.Race.marked mk)){ad:Addr}(h:aG g=some (f,#[.pointer (some ad)]))(hm:∀ad g,mk ad≠.extern g:=by simp):
  stepG P main g w= .go (resume g (.tuple #[])) w #[⟨.mark (mk ad),false,true⟩]:=by
 obtain⟨b,a,ops,i,rest,kk,cs,o,ae,ats,rfl,h2,h3,h4,h5,h6,h7⟩:=cU h;rw[h7];exact stepG_markAt mk hm h2 h3 h4 h5 X.at_ X.name X.body X.next he (by rw[h6];rfl)
theorem JM (X:Ext P f fn)(he:Extern.find fn=some Extern.Sync.semacquire){ad:Addr}{n:Int}{u v:Value}(h:aG g=some (f,#[.pointer (some ad),u,v]))(hc:w.cell? ad=some (.int .u32 n))(hn:n≠0)(hz:w.frozen? ad=false):
  stepG P main g w= .go (resume g (.tuple #[])) (w.setCell ad (.int .u32 (n-1))) (semEvents ad):=by
 obtain⟨b,a,ops,i,rest,kk,cs,o,ae,ats,rfl,h2,h3,h4,h5,h6,h7⟩:=cU h;rw[h7];exact stepG_semacquire h2 h3 h4 h5 X.at_ X.name X.body X.next he (by rw[h6];rfl) hc hn hz
theorem GY (X:Ext P f fn)(he:Extern.find fn=some Extern.Sync.semacquire){ad:Addr}{u v:Value}(h:aG g=some (f,#[.pointer (some ad),u,v]))(hc:w.cell? ad=some (.int .u32 0)):
  stepG P main g w= .go {g with status:= .blocked} w #[]:=by
 obtain⟨b,a,ops,i,rest,kk,cs,o,ae,ats,rfl,h2,h3,h4,h5,h6,h7⟩:=cU h;exact stepG_semacquire_wait h2 h3 h5 X.at_ X.name X.body X.next he (by rw[h6];rfl) hc
theorem Bn (X:Ext P f fn)(he:Extern.find fn=some Extern.Sync.semrelease){ad:Addr}{n:Int}{u v:Value}(h:aG g=some (f,#[.pointer (some ad),u,v]))(hc:w.cell? ad=some (.int .u32 n))(hz:w.frozen? ad=false):
  stepG P main g w= .go (resume g (.tuple #[])) (w.setCell ad (.int .u32 (IntKind.u32.wrap (n+1)))) (semEvents ad):=by
 obtain⟨b,a,ops,i,rest,kk,cs,o,ae,ats,rfl,h2,h3,h4,h5,h6,h7⟩:=cU h;rw[h7];exact stepG_semrelease h2 h3 h4 h5 X.at_ X.name X.body X.next he (by rw[h6];rfl) hc hz
theorem A7 (X:Ext P f fn)(h:aG g=some (f,args)):mayWake P g=true:=by
 obtain⟨b,a,ops,i,rest,kk,cs,o,ae,ats,rfl,h2,h3,h4,h5,h6,h7⟩:=cU h;have h2':fn.body=none:=by simpa using X.body
 have ef:(b.at a (.inRegion ops (i::rest)::kk)).eval (.func f)= .func (.func f) #[] #[]:=rfl;simp[mayWake,G,Frame.at,h2,h5] at ef⊢;simp[ef,X.at_,h2']
theorem yQ (X:Ext P f fn)(he:Extern.find fn=some Extern.OsHooks.nano)(hq:fn.norace=true)(h:aG g=some (f,args)):
  stepG P main g w= .go (resume g (.int .i64 ((w.os.mono+w.tick:Nat):Int))) w.later #[]:=by
 obtain⟨b,a,ops,i,rest,kk,cs,o,ae,ats,rfl,h2,h3,h4,h5,h6,h7⟩:=cU h;rw[h7];exact stepG_nanotime h2 h3 h4 h5 X.at_ X.name X.body X.next he hq
theorem qA {e:Array Value->Sem Value}(X:Ext P f fn)(he:Extern.find fn=some e)(h:aG g=some (f,args)){v:Value}{w':World}{evs:Array Event}(hrun:(e args).run P w= .ok v w')
  (hev:(e args).events P w #[⟨.mark (.extern f),false,true⟩]=#[⟨.mark (.extern f),false,true⟩]++evs) (hs:∀x∈evs,x.sync=true/\∀g,x.loc≠.mark (.extern g)):stepG P main g w= .go (resume g v) w' evs:=by
 obtain⟨b,a,ops,i,rest,kk,cs,o,ae,ats,rfl,h2,h3,h4,h5,h6,h7⟩:=cU h;rw[h7];exact stepG_entry h2 h3 h4 h5 X.at_ X.name X.body X.next he (by rw[h6];exact hrun) (by rw[h6];exact hev) hs
theorem yP (X:Ext P f fn)(v:Value)(he:Extern.find fn=some (fun _=>pure v))(h:aG g=some (f,args)):stepG P main g w= .go (resume g v) w #[]:=
 qA X he h (by simp) (by simp) (by simp)
theorem zM (X:Ext P f fn)(he:Extern.find fn=some Extern.Sync.canSpin){k:IntKind}{n:Int}(h:aG g=some (f,#[.int k n]))(h4:4<=n):stepG P main g w= .go (resume g (.bool false)) w #[]:=by
 obtain⟨b,a,ops,i,rest,kk,cs,o,ae,ats,rfl,h2,h3,h4',h5,h6,h7⟩:=cU h;rw[h7];exact stepG_canSpin_no h2 h3 h4' h5 X.at_ X.name X.body X.next he h6 h4
theorem GX (X:Ext P f fn)(he:Extern.find fn=some Extern.Sync.canSpin){k:IntKind}{n:Int}(h:aG g=some (f,#[.int k n]))(h4:n<4):stepG P main g w= .go (resume g (.bool w.spins)) w.asked #[]:=by
 obtain⟨b,a,ops,i,rest,kk,cs,o,ae,ats,rfl,h2,h3,h4',h5,h6,h7⟩:=cU h;rw[h7];exact stepG_canSpin_ask h2 h3 h4' h5 X.at_ X.name X.body X.next he h6 h4
theorem mg (X:Ext P f fn)(k:IntKind)(he:Extern.find fn=some (Extern.Atomic.casT (.int k))){ad:Addr}{v n:Int}(h:aG g=some (f,#[.pointer (some ad),.int k v,.int k n]))(hc:w.cell? ad=some (.int k v))(hz:w.frozen? ad=false):
  stepG P main g w= .go (resume g (.bool true)) (w.setCell ad (.int k n)) #[⟨.cell ad,false,true⟩,⟨.cell ad,true,true⟩]:=
 qA X he h (by rw[casT_eq];exact run_cas_hit_entry hc hz) (by rw[casT_eq,events_cas_hit_entry hc hz];rfl) (sync_rw ad)
theorem lx (X:Ext P f fn)(k:IntKind)(he:Extern.find fn=some (Extern.Atomic.casT (.int k))){ad:Addr}{v old n:Int}(h:aG g=some (f,#[.pointer (some ad),.int k old,.int k n]))(hc:w.cell? ad=some (.int k v))(hz:w.frozen? ad=false)(hne:¬v=old):
  stepG P main g w= .go (resume g (.bool false)) w #[⟨.cell ad,false,true⟩]:=
 qA X he h (by rw[casT_eq];exact run_cas_miss_entry hc hz hne) (by rw[casT_eq,events_cas_miss_entry hc hz hne];rfl) (sync_r ad)
theorem qB (X:Ext P f fn)(k:IntKind)(he:Extern.find fn=some (Extern.Atomic.update (Op.intArith .add) k true)){ad:Addr}{v d:Int}(h:aG g=some (f,#[.pointer (some ad),.int k d]))(hc:w.cell? ad=some (.int k v))(hz:w.frozen? ad=false):
  stepG P main g w= .go (resume g (.int k (k.wrap (v+d)))) (w.setCell ad (.int k (k.wrap (v+d)))) #[⟨.cell ad,false,true⟩,⟨.cell ad,true,true⟩]:=
 qA X he h (run_add_entry hc hz) (by rw[events_add_entry hc hz];rfl) (sync_rw ad)
theorem pW (X:Ext P f fn)(k:IntKind)(he:Extern.find fn=some (Extern.Atomic.loadT (.int k))){ad:Addr}{v:Int}(h:aG g=some (f,#[.pointer (some ad)]))(hc:w.cell? ad=some (.int k v)):
  stepG P main g w= .go (resume g (.int k v)) w #[⟨.cell ad,false,true⟩]:=by
 obtain⟨b,a,ops,i,rest,kk,cs,o,ae,ats,rfl,h2,h3,h4,h5,h6,h7⟩:=cU h;have hl:ae.size=1:=by have:=congrArg Array.size h6;simpa using this
 obtain⟨x,rfl⟩:∃x,ae=#[x]:=by
  obtain⟨l⟩:=ae;rcases l with _|⟨x,_|⟨y,l⟩⟩<;>simp at hl
  exact⟨x,rfl⟩
 rw[h7];exact stepG_load_atomic h2 h3 h4 h5 X.at_ X.name X.body X.next k he (by simpa using h6) hc
theorem Bk (X:Ext P f fn)(he:Extern.find fn=some Extern.Atomic.storeT){k:IntKind}{ad:Addr}{v:Int}{u:Value}(h:aG g=some (f,#[.pointer (some ad),.int k v]))(hc:w.cell? ad=some u)(hz:w.frozen? ad=false):
  stepG P main g w= .go (resume g (.tuple #[])) (w.setCell ad (.int k v)) #[⟨.cell ad,true,true⟩]:=by
 obtain⟨b,a,ops,i,rest,kk,cs,o,ae,ats,rfl,h2,h3,h4,h5,h6,h7⟩:=cU h;have hl:ae.size=2:=by have:=congrArg Array.size h6;simpa using this
 obtain⟨x,y,rfl⟩:∃x y,ae=#[x,y]:=by
  obtain⟨l⟩:=ae;rcases l with _|⟨x,_|⟨y,_|⟨z,l⟩⟩⟩<;>simp at hl
  exact⟨x,y,rfl⟩
 have h6':a.eval x= .pointer (some ad)/\a.eval y= .int k v:=by simpa using h6
 rw[h7];exact stepG_store_atomic h2 h3 h4 h5 X.at_ X.name X.body X.next he h6'.1 h6'.2 hc hz
end
def ic (g:Goroutine):Option (FuncId×Array Value):=
 match g.status,g.dying,g.offers,g.frame.mode,g.frame.roundOf,g.frame.defers with
 |.running,none,none,.returning,none,{target:= .fn (.func f) c,args:=args}::_=>if c.isEmpty then some (f,args) else none
 |_,_,_,_,_,_=>none
def cX (g:Goroutine):Goroutine:={g with frame:={g.frame with defers:=g.frame.defers.tail}}
theorem rN {g:Goroutine}{f:FuncId}{args:Array Value}(h:ic g=some (f,args)):∃(b:Frame) (a:Act) (todo:List Item) (ds:List Deferred) (cs:List Frame),
  g=G {b.at a todo with mode:= .returning} cs/\a.defers=dcall f args::ds/\cX g=G {b.at ⟨a.tmps,ds⟩ todo with mode:= .returning} cs:=by
 obtain⟨⟨fn,tmps,todo,defers,mode,kind,rd⟩,callers,status,dying,offers⟩:=g;unfold ic at h;simp only at h;split at h
 .rename_i f' c args' ds
  split at h
  .rename_i hc
   obtain rfl:c=#[]:=by simpa using hc
   simp only[Option.some.injEq,Prod.mk.injEq] at h;obtain⟨rfl,rfl⟩:=h;exact⟨{(default:Frame) with fn:=fn,kind:=kind},⟨tmps,_⟩,todo,ds,callers,rfl,rfl,rfl⟩
  .cases h
 .cases h
theorem jc {P:Program}{main:Bool}{g:Goroutine}{f:FuncId}{fn:Func}{w:World}(X:Ext P f fn)(m:Mark)(hm:∀g,m≠.extern g)(he:Extern.find fn=some (fun _=>do mark m;pure Extern.Race.none_))(h:ic g=some (f,#[])):
  stepG P main g w= .go (cX g) w #[⟨.mark m,false,true⟩]:=by
 obtain⟨b,a,todo,ds,cs,rfl,h2,h3⟩:=rN h;rw[h3];exact stepG_unwind_entry (v:= .tuple #[]) h2 X.at_ X.name X.body X.next he (by simp[Extern.Race.none_]) (by simp) (by
  intro x hx;simp at hx;subst hx;exact⟨rfl,fun g h=>hm g (by cases h;rfl)⟩)
inductive kJ where
 |load (t:TypeId) (a:Value)
 |store (t:TypeId) (a x:Value)
 |box (t:TypeId) (x:Value)
 |alloc (t:TypeId)
 |conv (s d:TypeId) (x:Value)
 |lookup (t:TypeId) (m k:Value) (ok:Bool)
 |mapUpdate (t:TypeId) (m k x:Value)
 |range (t:TypeId) (x:Value)
 |next (it:Value) (str:Bool) (ty:TypeId)
 |entry (it:Value)
 |makeMap (t:TypeId)
 |build (t:TypeId) (parts:Array (Nat×Value))
 |bin (op:BinOp) (t:TypeId) (x y:Value)
 |indexAddr (t:TypeId) (x i:Value)
def kJ.sem:kJ->Sem Next
 |.load t a=>do pure (.value (<-Instr.loadAt t a))
 |.store t a x=>do Instr.storeAt t a x;pure .skip
 |.box t x=>do pure (.value (<-Instr.box t x))
 |.alloc t=>do pure (.value (<-Instr.alloc t true (.tuple #[])))
 |.conv s d x=>do pure (.value (<-convert s d x))
 |.lookup t m k ok=>do pure (.value (<-Instr.lookup t m k ok))
 |.mapUpdate t m k x=>do Instr.mapUpdate t m k x;pure .skip
 |.range t x=>do pure (.value (<-Instr.range t x))
 |.next it str ty=>do pure (.value (<-Instr.next it str ty))
 |.entry it=>do pure (.value (<-Instr.entry it))
 |.makeMap t=>do pure (.value (<-Instr.makeMap t none))
 |.build t parts=>do pure (.value (<-Instr.build t parts))
 |.bin op t x y=>do pure (.value (<-(do eqGuard op t (.tmp 0) (.tmp 0) x y;binOp op t x y)))
 |.indexAddr t x i=>do pure (.value (<-Instr.indexAt t x i))
def zk:Operand->Bool
 |.tmp _=>true
 |_=>false
def aQ (g:Goroutine):Option kJ:=
 (Ax g).bind fun o=>match o.op with
  |.load t a=>some (.load t (g.frame.eval a))
  |.store t a x=>some (.store t (g.frame.eval a) (g.frame.eval x))
  |.box t x=>some (.box t (g.frame.eval x))
  |.alloc t=>some (.alloc t)
  |.convert s d x=>some (.conv s d (g.frame.eval x))
  |.lookup t m k ok=>some (.lookup t (g.frame.eval m) (g.frame.eval k) ok)
  |.mapUpdate t m k x=>some (.mapUpdate t (g.frame.eval m) (g.frame.eval k) (g.frame.eval x))
  |.range t x=>some (.range t (g.frame.eval x))
  |.next it str=>some (.next (g.frame.eval it) str o.type)
  |.entry it=>some (.entry (g.frame.eval it))
  |.makeMap t none=>some (.makeMap t)
  |.build t ps=>some (.build t (ps.map fun(i,x)=>(i,g.frame.eval x)))
  |.binOp op t x y _=>if zk x&&zk y then some (.bin op t (g.frame.eval x) (g.frame.eval y)) else none
  |.indexAddr t x i=>some (.indexAddr t (g.frame.eval x) (g.frame.eval i))
  |_=>none
theorem ot (op:BinOp)(t:TypeId)(x y:Operand)(hx:zk x=true)(hy:zk y=true)(a b:Value):eqGuard op t x y a b=eqGuard op t (.tmp 0) (.tmp 0) a b:=by
 cases x<;>simp[zk] at hx;cases y<;>simp[zk] at hy;rfl
theorem ma {g:Goroutine}{v:kJ}(h:aQ g=some v):∃(b:Frame) (a:Act) (ops:Array Oper) (i:Nat) (rest:List Nat) (kk:List Item) (cs:List Frame) (o:Oper),
  g=G (b.at a (.inRegion ops (i::rest)::kk)) cs/\ops[i]? =some o/\Region.wanted o (yielded ops a.tmps)=true/\b.kind≠.early/\b.fn=g.frame.fn/\execOp a.eval o=v.sem/\∀v,resume g v=G (b.at (a.put o.dst v) (.inRegion ops rest::kk)) cs:=by
 unfold aQ at h;obtain⟨o,ho,h⟩:=Option.bind_eq_some_iff.1 h;obtain⟨b,a,ops,i,rest,kk,cs,e1,e2,e3,e4,e5,e6,e7⟩:=tY ho;refine⟨b,a,ops,i,rest,kk,cs,o,e1,e2,e3,e4,e5,?_,e7⟩;rw[e6];unfold execOp;split at h<;>first|(cases h;done)|(rename_i hop;rw[hop])
 case h_13=>
  split at h
  .rename_i hxy
   simp only[Bool.and_eq_true] at hxy;simp only[Option.some.injEq] at h;subst h;simp only[kJ.sem];rw[ot _ _ _ _ hxy.1 hxy.2]
  .cases h
 all_goals first|(simp only[Option.some.injEq] at h;subst h;rfl)|cases h
section
variable {P:Program}{main:Bool}{g:Goroutine}{v:kJ}{w w':World}
theorem mc (h:aQ g=some v){x:Value}(hr:v.sem.run P w= .ok (.value x) w'):∃es,stepG P main g w= .go (resume g x) w' es/\∀e∈es,e∈v.sem.events P w #[]:=by
 obtain⟨b,a,ops,i,rest,kk,cs,o,rfl,h2,h3,h4,h5,h6,h7⟩:=ma h;refine⟨listed P b.fn a o w,?_,?_⟩
 .rw[h7];exact stepG_value h2 h3 h4 (by rw[h6];exact hr)
 .intro e he
  have:=mem_listed he
  rwa [h6] at this
theorem step_skip (h:aQ g=some v)(hr:v.sem.run P w= .ok .skip w'):∃es,stepG P main g w= .go (resume g undef) w' es/\∀e∈es,e∈v.sem.events P w #[]:=by
 obtain⟨b,a,ops,i,rest,kk,cs,o,rfl,h2,h3,h4,h5,h6,h7⟩:=ma h;refine⟨listed P b.fn a o w,?_,?_⟩
 .rw[h7];exact stepG_none h2 h3 h4 (by rw[h6];exact hr)
 .intro e he
  have:=mem_listed he
  rwa [h6] at this
end
end
section
open Go.Conc
open Go.ConcN (sumTo sumTo_upd)
def kK:Co (Nat->Prop) where
 R:=fun _ w w₁=>AtRel w w₁
 D:=fun own w w' es=>j4 own (fun _=>False) w w' es
 up:=fun own w w' b=>own b\/(w.heap.size<=b/\b<w'.heap.size)
 refl:=fun _ w=>atRel_refl w
 trans:=fun _ a b c h k=>atRel_trans a b c h k
theorem wN:Ni kK (fun s=>s) (fun _=>False):=
 ⟨fun s w w₁ h=>by obtain⟨d,rfl⟩:=h;exact⟨Nat.le_refl _,rfl,fun _ _ _=>rfl⟩,fun s w w' es h=>h,fun s w w' b=>Iff.rfl⟩
def NC (Shun:Loc->Prop):Co Unit where
 R:=fun _ w w₁=>AtRel w w₁
 D:=fun _ w w' es=>w.heap.size<=w'.heap.size/\w'.os=w.os/\(∀e∈es,EvL Shun w'.heap.size e)/\∀e∈es,∀a,e.loc≠.mark (.release a)
 up:=fun _ _ _=>()
 refl:=fun _ w=>atRel_refl w
 trans:=fun _ a b c h k=>atRel_trans a b c h k
theorem abb (Shun:Loc->Prop):Idle (NC Shun):=fun _ w=>⟨⟨Nat.le_refl _,rfl,by simp,by simp⟩,rfl⟩
def X2 (n:Nat)(t:Trace):Prop:=∀op∈t,op.g<n
def Nr (t t':Trace):Prop:=∀op∈t',op∈t\/∀a,op.act≠.mark (.release a)
theorem Nr.refl (t:Trace):Nr t t:=fun _ h=> .inl h
theorem Nr.trans {t u v:Trace}(h:Nr t u)(k:Nr u v):Nr t v:=fun op ho=>(k op ho).elim (h op) .inr
theorem ux {e:Event}{a:Addr}(h:MemAct.ofEvent e= .mark (.release a)):e.loc= .mark (.release a):=by
 obtain⟨l,x,y⟩:=e;cases l<;>cases x<;>cases y<;>simp_all [MemAct.ofEvent]
theorem Nr.own (t:Trace){g:Nat}{fn:FuncId}{pos:String}{es:Array Event}(h:∀e∈es,∀a,e.loc≠.mark (.release a)):Nr t (t++MemOp.ofEvents g fn pos es):=fun op ho=>by
 rcases Array.mem_append.1 ho with ho|ho
 .exact .inl ho
 .obtain⟨e,he,rfl⟩:=Go.Conc.mem_ofEvents ho
  exact .inr fun a x=>h e he a (ux x)
theorem Nr.mute (t:Trace){g:Nat}{fn:FuncId}{pos:String}{es:Array Event}(h:∀e∈es,e.mute=true):Nr t (t++MemOp.ofEvents g fn pos es):=Nr.own t fun e he a x=>by
 have:=h e he;obtain⟨l,u,v⟩:=e;simp only at x;subst x;simp[Event.mute] at this
theorem X2.own {n:Nat}{t:Trace}(h:X2 n t){g:Nat}(hg:g<n){fn:FuncId}{pos:String}{es:Array Event}:X2 n (t++MemOp.ofEvents g fn pos es):=fun op ho=>by
 rcases Array.mem_append.1 ho with ho|ho
 .exact h op ho
 .obtain⟨e,he,rfl⟩:=Go.Conc.mem_ofEvents ho
  exact hg
structure Apart (Shun:Loc->Prop)(own:Nat->Prop)(w:World):Prop where
 off:∀b,own b->∀l,aI.ls b l->¬Shun l
 lt:∀b,own b->b<w.heap.size
 low:∀l b,Shun l->aI.ls b l->b<w.heap.size
 cell:∀l,Shun l->∃a:Addr,l= .cell a
section
variable {Shun:Loc->Prop}{own:Nat->Prop}{w w':World}{es:Array Event}
theorem Apart.step (h:Apart Shun own w)(hs:w.heap.size<=w'.heap.size):Apart Shun (kK.up own w w') w':=
 ⟨fun b hb l hl hS=>hb.elim (fun x=>h.off b x l hl hS) fun x=>by have:=h.low l b hS hl;omega,fun b hb=>hb.elim (fun x=>Nat.lt_of_lt_of_le (h.lt b x) hs) (·.2),fun l b hS hl=>Nat.lt_of_lt_of_le (h.low l b hS hl) hs,h.cell⟩
theorem Apart.at (h:Apart Shun own w)(d:Nat):Apart Shun own (w.at d):=⟨h.off,h.lt,h.low,h.cell⟩
theorem Qk (h:j4 own (fun _=>False) w w' es)(hA:Apart Shun own w):∀e∈es,EvL Shun w'.heap.size e:=by
 intro e he;have hA':=hA.step h.size;rcases h.ev e he with⟨b,hb,hloc⟩|⟨m,h1,h2⟩
 .have hin:aI.ls b e.loc:=hloc
  obtain⟨e1,e2,e3⟩:=aI.oa hin;have hb':kK.up own w w' b:=by
   rcases hb with hb|hb|hb
   .exact .inl hb
   .exact .inr hb
   .exact hb.1.elim
  refine⟨fun x hx hS=>?_,fun hm=>e1 .disable (aI.dr hm),fun hm=>e1 .enable (aI.dr hm),e2 _ (hA'.lt b hb')⟩;obtain⟨z1,_⟩:=e3 x hx;rw[z1] at hS;exact absurd hS (hA'.off b hb' _ hin)
 .obtain⟨m1,m2,m3,m4,m5⟩:=aI.qY h2
  have e0:=aI.dr h1;refine⟨fun x hx=>?_,?_,?_,by rw[e0];exact m5 _⟩
  .rw[e0,m1] at hx;cases hx
  .rw[h1];simpa using m2
  .rw[h1];simpa using m3
theorem U8 (h:j4 own (fun _=>False) w w' es):∀e∈es,∀a,e.loc≠.mark (.release a):=by
 intro e he a x;rcases h.ev e he with⟨b,_,⟨a',h1,_⟩|h1⟩|⟨m,h1,h2⟩
 .rw[x] at h1;cases h1
 .rw[x] at h1;cases h1
 .rw[x] at h1;cases h1;exact h2.elim
theorem uW {P:Program}{Stop:(Nat->Prop)->Goroutine->World->Prop}{g:Goroutine}(h:aD P true kK Stop own g w)(hA:Apart Shun own w):
  aD P true (NC Shun) (fun _ g w=>∃s,Stop s g w/\Apart Shun s w) () g w:=by
 obtain⟨r,h⟩:=h
 induction r generalizing own g w with
 |zero=>exact .stop fun w₁ hr=>⟨own,h w₁ hr,by obtain⟨d,rfl⟩:=hr;exact hA.at d⟩
 |mk f ih=>
  rcases h with h|⟨hs,h⟩
  .exact .stop fun w₁ hr=>⟨own,h w₁ hr,by obtain⟨d,rfl⟩:=hr;exact hA.at d⟩
  .refine aD.step hs fun w₁ hr=>?_
   obtain⟨g',w',es,h1,h2,h3⟩:=h w₁ hr;obtain⟨d,rfl⟩:=hr;exact⟨g',w',es,h1,⟨h2.size,h2.os,Qk h2 (hA.at d),U8 h2⟩,ih (w.at d) ((hA.at d).step h2.size) h3⟩
end
structure Zero (P:Program)(Shun:Loc->Prop)(M:Machine)(t:Trace)(g:Goroutine)(w:World):Prop where
 ex:∃(gs:Array Goroutine) (sl:Option (Nat×Nat)) (q:Nat->Nat),M=crowd gs w sl/\gs[0]? =some g/\Leavers P t gs q/\X2 gs.size t
 past:Past Shun w.heap.size t
section
variable {P:Program}{Shun:Loc->Prop}{Stop:Unit->Goroutine->World->Prop}
theorem GP:∀(r:Rk) (n:Nat) (gs:Array Goroutine) (a:Goroutine) (w:World) (sl:Option (Nat×Nat)) (t:Trace) (q:Nat->Nat),sumTo gs.size q<n->gs[0]? =some a->Leavers P t gs q->X2 gs.size t->
  Past Shun w.heap.size t->gv P true (NC Shun) Stop r () a w->
  ∃(N:Nat) (gs':Array Goroutine) (a':Goroutine) (w':World) (sl':Option (Nat×Nat)) (t':Trace) (q':Nat->Nat),
   runNT P N (crowd gs w sl) t=(.next (crowd gs' w' sl'),t')/\gs'[0]? =some a'/\Stop () a' w'/\Leavers P t' gs' q'/\Past Shun w'.heap.size t'/\w'.os=w.os/\X2 gs'.size t'/\Nr t t':=by
 intro r
 induction r with
 |zero=>
  intro n gs a w sl t q _ h0 hL hI hP hG;exact⟨0,gs,a,w,sl,t,q,rfl,h0,hG w (atRel_refl w),hL,hP,rfl,hI,Nr.refl t⟩
 |mk f ihf=>
  intro n
  induction n with
  |zero=>intro gs a w sl t q hM;omega
  |succ n ih=>
   intro gs a w sl t q hM h0 hL hI hP hG;rcases hG with hstop|⟨hrun,hstep⟩
   .exact⟨0,gs,a,w,sl,t,q,rfl,h0,hstop w (atRel_refl w),hL,hP,rfl,hI,Nr.refl t⟩
   have haw:∀g∈gs,awake g:=by
    intro g hg;obtain⟨i,hi,rfl⟩:=Array.mem_iff_getElem.1 hg;rcases Nat.eq_zero_or_pos i with rfl|hpos
    .have:gs[0]=a:=by simpa [Array.getElem?_eq_getElem hi] using h0
     rw[this];exact awake_of (.inl hrun)
    .exact awake_of ((hL.old i _ hpos (Array.getElem?_eq_getElem hi)).status.elim .inl fun x=> .inr (.inr x))
   obtain⟨i,g,d,sl',hi,hg,hst⟩:=crowd_pick (P:=P) (w:=w) (sl:=sl) haw ⟨0,a,h0,hrun⟩;rcases Nat.eq_zero_or_pos i with rfl|hpos
   .obtain rfl:g=a:=by rw[h0] at hi;exact(Option.some.inj hi).symm
    obtain⟨a',w',es,hgo,hd,hG'⟩:=hstep (w.at d) ⟨d,rfl⟩;have hrunT:=runT_crowd_go (P:=P) (sl:=sl') (i:=0) hi (show stepG P (0==0) g (w.at d)=_ from hgo);have hsz:((gs.map (woken P g a' w')).setIfInBounds 0 a').size=gs.size:=by simp
    have hlt:0<gs.size:=(Array.getElem?_eq_some_iff.1 h0).1;obtain⟨hsize,hos,hev,hnr⟩:=hd;have hsize:w.heap.size<=w'.heap.size:=hsize
    obtain⟨N,gs',a'',w'',sl'',t',q',hr,h0',hS,hL',hP',ho',hI',hN'⟩:=ihf (w.at d) (sumTo ((gs.map (woken P g a' w')).setIfInBounds 0 a').size q+1) ((gs.map (woken P g a' w')).setIfInBounds 0 a') a' w' sl' (t++MemOp.ofEvents 0 g.frame.fn g.frame.place es) q (Nat.lt_succ_self _) (by simp[hlt])
     ⟨fun j x hj hx=>by
      have hne:0≠j:=by omega
      rw[Array.getElem?_setIfInBounds_ne hne,Array.getElem?_map] at hx;obtain⟨y,hy,rfl⟩:=Option.map_eq_some_iff.1 hx;have hq:=hL.old j y hj hy;rw[woken_quitsD hq,Deaf_other t (by omega) _ (fun op hop=>by obtain⟨e,_,rfl⟩:=Go.Conc.mem_ofEvents hop;rfl)];exact hq,fun j hj=>by
      rw[Deaf_other t (g':=0) (by simp at hj;omega) _ (fun op hop=>by obtain⟨e,_,rfl⟩:=Go.Conc.mem_ofEvents hop;rfl)];exact hL.above j (by simpa using hj)⟩
     (by rw[hsz];exact hI.own hlt) ((hP.mono hsize).own hev) hG'
    exact⟨N+1,gs',a'',w'',sl'',t',q',by simp only[runNT,hst,hrunT];exact hr,h0',hS,hL',hP',ho'.trans hos,hI',(Nr.own t hnr).trans hN'⟩
   ·
    have hq:=hL.old i g hpos hi;have hi0:(i==0)=false:=by simp;omega
    have hlt:i<gs.size:=(Array.getElem?_eq_some_iff.1 hi).1;cases hqi:q i with
    |zero=>rw[hqi] at hq;rw[hq.1] at hg;cases hg
    |succ k=>
     rw[hqi] at hq;rcases hq with⟨hf,_⟩|⟨_,g',es,hm,hstp,hq'⟩
     .rw[hf] at hg;cases hg
     have hrunT:=runT_crowd_go (P:=P) (sl:=sl') (i:=i) hi (by rw[hi0];exact hstp (w.at d));have hsz:((gs.map (woken P g g' (w.at d))).setIfInBounds i g').size=gs.size:=by simp
     have hsum:sumTo gs.size (Go.ConcN.upd q i k)+(k+1)=sumTo gs.size q+k:=by
      have:=sumTo_upd q k id hlt;simpa [hqi] using this
     obtain⟨N,gs',a'',w'',sl'',t',q',hr,h0',hS,hL',hP',ho',hI',hN'⟩:=ih ((gs.map (woken P g g' (w.at d))).setIfInBounds i g') a (w.at d) sl' (t++MemOp.ofEvents i g.frame.fn g.frame.place es) (Go.ConcN.upd q i k) (by rw[hsz];omega)
      (by
       have hne:i≠0:=by omega
       rw[Array.getElem?_setIfInBounds_ne hne,Array.getElem?_map,h0];simp[woken_run hrun])
      ⟨fun j x hj hx=>by
       by_cases hji:i=j
       .subst hji
        rw[Array.getElem?_setIfInBounds_self_of_lt (by simpa using hlt)] at hx;obtain rfl:=Option.some.inj hx;rw[Go.ConcN.upd_same,Deaf_own];exact hq'
       .rw[Array.getElem?_setIfInBounds_ne hji,Array.getElem?_map] at hx
        obtain⟨y,hy,rfl⟩:=Option.map_eq_some_iff.1 hx;have hqj:=hL.old j y hj hy;rw[woken_quitsD hqj,Go.ConcN.upd_ne q k (Ne.symm hji),Deaf_other t hji _ (fun op hop=>by obtain⟨e,_,rfl⟩:=Go.Conc.mem_ofEvents hop;rfl)];exact hqj,fun j hj=>by
       rw[Deaf_other t (g':=i) (by simp at hj;omega) _ (fun op hop=>by obtain⟨e,_,rfl⟩:=Go.Conc.mem_ofEvents hop;rfl)];exact hL.above j (by simpa using hj)⟩
      (by rw[hsz];exact hI.own hlt) (hP.mute (by omega) hm) (gv.rely (C:=NC Shun) (r:= .mk f) (.inr ⟨hrun,hstep⟩) ⟨d,rfl⟩)
     exact⟨N+1,gs',a'',w'',sl'',t',q',by simp only[runNT,hst,hrunT];exact hr,h0',hS,hL',hP',ho',hI',(Nr.mute t hm).trans hN'⟩
theorem kx {M:Machine}{t:Trace}{g:Goroutine}{w:World}(hz:Zero P Shun M t g w)(h:aD P true (NC Shun) Stop () g w):
  ∃(N:Nat) (M':Machine) (t':Trace) (g':Goroutine) (w':World),runNT P N M t=(.next M',t')/\Zero P Shun M' t' g' w'/\Stop () g' w'/\w'.os=w.os/\Nr t t':=by
 obtain⟨r,h⟩:=h;obtain⟨gs,sl,q,rfl,h0,hL,hI⟩:=hz.ex;obtain⟨N,gs',a',w',sl',t',q',h1,h2,h3,h4,h5,h6,h7,h8⟩:=GP r _ gs g w sl t q (Nat.lt_succ_self _) h0 hL hI hz.past h;exact⟨N,_,t',a',w',h1,⟨⟨gs',sl',q',rfl,h2,h4,h7⟩,h5⟩,h3,h6,h8⟩
end
end
section
open Go.RowKit
theorem oP {k:IntKind}{a b:Int}(h:a=b):Ending.returned (.int k a)= .returned (.int k b):=by rw[h]
def ax (p:Prop):Prop:=p
theorem ax.go {p:Prop}(h:p):ax p:=h
def Row (w:World)(b:Nat)(c:Array Value)(t:TypeId):Prop:=w.heap[b]? =some (.cells c t (0,0))
structure aR (S:List Nat)(w w':World):Prop where
 os:w'.os=w.os
 tape:w'.tape=w.tape
 output:w'.output=w.output
 size:w.heap.size<=w'.heap.size
 block:∀k,k<w.heap.size->k∉S->w'.heap[k]? =w.heap[k]?
theorem aR.refl (S:List Nat)(w:World):aR S w w:=⟨rfl,rfl,rfl,Nat.le_refl _,fun _ _ _=>rfl⟩
theorem aR.mono {S T:List Nat}{w w':World}(h:aR S w w')(hs:∀k∈S,k∈T\/w.heap.size<=k:=by simp):aR T w w':=
 ⟨h.os,h.tape,h.output,h.size,fun k hk hT=>h.block k hk fun hS=>(hs k hS).elim hT (by omega)⟩
theorem aR.trans {S T:List Nat}{a b c:World}(h:aR S a b)(k:aR T b c)(hT:∀i∈T,i∈S\/a.heap.size<=i:=by simp):aR S a c:=
 ⟨k.os.trans h.os,k.tape.trans h.tape,k.output.trans h.output,Nat.le_trans h.size k.size,
  fun i hi hS=>(k.block i (Nat.lt_of_lt_of_le hi h.size) fun x=>(hT i x).elim hS (by omega)).trans (h.block i hi hS)⟩
theorem aR.alloc (S:List Nat)(w:World)(o:Obj):aR S w (w.alloc o):=⟨rfl,rfl,rfl,by simp,fun k hk _=>Below.heap_alloc w o k hk⟩
theorem aR.drew (S:List Nat)(w:World):aR S w w.drew:=⟨rfl,rfl,rfl,Nat.le_refl _,fun _ _ _=>rfl⟩
theorem aR.setRow (S:List Nat)(w:World)(b:Nat)(c:Array Value)(hb:b∈S:=by simp):aR S w (w.setRow b c):=
 ⟨rfl,rfl,rfl,by simp,fun k _ hk=>setRow_other w b k c fun e=>hk (e▸hb)⟩
theorem aR.setCell (S:List Nat)(w:World)(a:Addr)(v:Value)(hb:a.block∈S:=by simp):aR S w (w.setCell a v):=
 ⟨rfl,rfl,rfl,by simp,fun k _ hk=>heap_setCell_other w a k v fun e=>hk (e▸hb)⟩
theorem aR.row {S:List Nat}{w w':World}(h:aR S w w'){b:Nat}{c:Array Value}{t:TypeId}(hr:Row w b c t)(hb:b∉S:=by simp):Row w' b c t:=by
 unfold Row at*;rw[h.block b (Array.getElem?_eq_some_iff.1 hr).1 hb];exact hr
theorem aR.of_below {w w':World}(h:Below w.heap.size w w'):aR [] w w':=⟨h.os,h.tape,h.output,h.size,fun k hk _=>h.block k hk⟩
theorem aR.owns {S:List Nat}{w w':World}(h:aR S w w'){base:Nat}{e:TypeId}{size:Nat}{v:Value}{n:Nat}{xs:List Value}(ho:w.ownsRow base e size v n xs)(hb:∀k∈S,v.ownBlock≠some k:=by simp):
  w'.ownsRow base e size v n xs:=by
 refine⟨ho.1,?_⟩;rcases ho.2 with hn|⟨g,cap,cur,rfl,hb',hg,r⟩
 .exact .inl hn
 .exact .inr ⟨g,cap,cur,rfl,hb',by rw[h.block g (Array.getElem?_eq_some_iff.1 hg).1 fun hs=>hb g hs rfl];exact hg,r⟩
theorem aR.grown {w w':World}{row:Option Nat}(h:w.grownBy w' row):aR row.toList w w':=
 ⟨h.os,h.tape,h.output,h.size,fun k hk hn=>h.block k hk fun e=>hn (by simp[<-e])⟩
theorem Row.lt {w:World}{b:Nat}{c:Array Value}{t:TypeId}(h:Row w b c t):b<w.heap.size:=(Array.getElem?_eq_some_iff.1 h).1
theorem Row.cell {w:World}{b:Nat}{c:Array Value}{t:TypeId}(h:Row w b c t)(j:Nat):w.cell? ⟨b,j,none⟩=c[j]? :=cell_of_row w b j c t (0,0) h
theorem Row.thaw {w:World}{b:Nat}{c:Array Value}{t:TypeId}(h:Row w b c t)(j:Nat):w.frozen? ⟨b,j,none⟩=false:=frozen_of_row w b j c t h
theorem Row.new (w:World)(c:Array Value)(t:TypeId):Row (w.alloc (.cells c t)) w.heap.size c t:=heap_alloc_new w _
theorem Row.setCell {w:World}{b:Nat}{c:Array Value}{t:TypeId}(h:Row w b c t)(i:Nat)(v:Value):Row (w.setCell ⟨b,i,none⟩ v) b (c.setIfInBounds i v) t:=
 heap_setCell_same w b i c t v h
theorem Row.setRow {w:World}{b:Nat}{c:Array Value}{t:TypeId}(h:Row w b c t)(d:Array Value):Row (w.setRow b d) b d t:=setRow_heap w b c d t (0,0) h
theorem Row.drew {w:World}{b:Nat}{c:Array Value}{t:TypeId}(h:Row w b c t):Row w.drew b c t:=h
def over (c:Array Value)(o:Nat)(vs:List Value):Array Value:=(c.toList.take o++vs++c.toList.drop (o+vs.length)).toArray
theorem bO (c:Array Value)(vs:List Value)(h:c.size=vs.length):over c 0 vs=vs.toArray:=by
 simp[over,<-h]
theorem cL {α:Type}{l xs:List α}{m:Nat}(h:l.take m=xs)(i j:Nat)(hk:i+j<=m:=by omega):(l.drop i).take j=(xs.drop i).take j:=by
 subst h;rw[List.drop_take,List.take_take]
 congr 1
 omega
theorem aX (l:List Value)(i:Nat)(a:Value):l.toArray.setIfInBounds i a=(l.set i a).toArray:=List.setIfInBounds_toArray l i a
theorem aY (x:Value)(xs:List Value)(i:Nat)(a:Value):(x::xs).set (i+1) a=x::xs.set i a:=rfl
theorem aW (x:Value)(xs:List Value)(a:Value):(x::xs).set 0 a=a::xs:=rfl
theorem cy {w:World}{base:Nat}{e:TypeId}{size:Nat}{v:Value}{n:Nat}{xs:List Value}(h:w.ownsRow base e size v n xs):∃ad cap,v= .slice ad n cap:=by
 rcases h.2 with⟨rfl,rfl⟩|⟨g,cap,_,rfl,_⟩
 .exact⟨_,_,rfl⟩
 .exact⟨_,_,rfl⟩
theorem e9 {w:World}{base:Nat}{e:TypeId}{size:Nat}{ad:Option Addr}{cap n:Nat}{xs:List Value}(h:w.ownsRow base e size (.slice ad n cap) n xs)(hn:0<n:=by omega):
  ∃g cur,ad=some ⟨g,0,none⟩/\Row w g cur e/\n<=cap/\cap<=maxLen/\cur.size=cap*size/\cur.toList.take (n*size)=xs:=by
 rcases h.2 with⟨hv,rfl⟩|⟨g,cap',cur,hv,_,hg,r⟩
 .omega
 .simp only[Value.slice.injEq] at hv
  obtain⟨rfl,_,rfl⟩:=hv;exact⟨g,cur,rfl,hg,r⟩
section
variable {P:Program}{ops:Array Oper}{Q:Exit->Act->World->Prop}{a:Act}{w:World}{rest:List Oper}{o:Oper}
theorem aA {t:TypeId}(_:o.op= .alloc t)(h:ax (wpList P ops Q (o::rest) a w)):wpList P ops Q (o::rest) a w:=h
theorem bL {t:TypeId}{x:Operand}(_:o.op= .box t x)(h:ax (wpList P ops Q (o::rest) a w)):wpList P ops Q (o::rest) a w:=h
theorem az (t:TypeId){x:Operand}(_:o.op= .load t x)(h:ax (wpList P ops Q (o::rest) a w)):wpList P ops Q (o::rest) a w:=h
theorem ah (t:TypeId){x y:Operand}(_:o.op= .store t x y)(h:ax (wpList P ops Q (o::rest) a w)):wpList P ops Q (o::rest) a w:=h
theorem Dz {t:TypeId}{x:Operand}{f:Nat}(_:o.op= .field t x f)(h:ax (wpList P ops Q (o::rest) a w)):wpList P ops Q (o::rest) a w:=h
theorem ep (t:TypeId){bo:BinOp}{u:TypeId}{x y:Operand}(_:o.op= .binOp bo t x y u)(h:ax (wpList P ops Q (o::rest) a w)):wpList P ops Q (o::rest) a w:=h
theorem zK {t u:TypeId}{x:Operand}(_:o.op= .convert t u x)(h:ax (wpList P ops Q (o::rest) a w)):wpList P ops Q (o::rest) a w:=h
theorem cN (hg:o.guard=none)(v:Value)(w1:World)(hr:(execOp a.eval o).run P w= .ok (.value v) w1)(h:wpList P ops Q rest (a.put o.dst v) w1):wpList P ops Q (o::rest) a w:=
 wpList_plain hg fun K hK=>by
  unfold Oper.wp;rw[hr];exact hK _ _ h
theorem zB (hg:o.guard=none)(w1:World)(hr:(execOp a.eval o).run P w= .ok .skip w1)(h:wpList P ops Q rest (a.put o.dst undef) w1):wpList P ops Q (o::rest) a w:=
 wpList_plain hg fun K hK=>by
  unfold Oper.wp;rw[hr];exact hK _ _ h
theorem bv (hg:o.guard=none)(t:TypeId)(ho:o.op= .alloc t)(z:Value)(hz:(P.info? t).map (·.zero)=some (some z))
  (h:∀(w1:World) (b:Nat),w.heap.size<=b->aR [] w w1->Row w1 b z.cells t->wpList P ops Q rest (a.put o.dst (.pointer (some ⟨b,0,none⟩))) w1):wpList P ops Q (o::rest) a w:=by
 refine cN hg _ (w.alloc (.cells z.cells t)) ?_ (h _ _ (Nat.le_refl _) (aR.alloc _ _ _) (Row.new _ _ _));cases hi:P.info? t with
 |none=>simp[hi] at hz
 |some i=>
  have hz':i.zero=some z:=by simpa [hi] using hz
  simp[execOp,ho,Instr.alloc,zeroValue,typeInfo,hi,hz',newVar,newRow,Sem.run_bind]
theorem ii (hg:o.guard=none)(t:TypeId)(x:Operand)(ho:o.op= .box t x)(v:Value)(hx:a.eval x=v)
  (h:∀(w1:World) (b:Nat),w.heap.size<=b->aR [] w w1->Row w1 b v.cells t->wpList P ops Q rest (a.put o.dst (.pointer (some ⟨b,0,none⟩))) w1):wpList P ops Q (o::rest) a w:=by
 refine cN hg _ (w.alloc (.cells v.cells t)) ?_ (h _ _ (Nat.le_refl _) (aR.alloc _ _ _) (Row.new _ _ _));simp[execOp,ho,hx,Instr.box,newVar,newRow]
theorem bY (hg:o.guard=none)(t:TypeId)(x:Operand)(ho:o.op= .load t x)(b off:Nat)(hx:a.eval x= .pointer (some ⟨b,off,none⟩))
  (hu:(P.underlying t).map TypeDesc.isRow=some true) (n:Nat) (hi:(P.info? t).map (·.size)=some n)
  (c:Array Value) (u:TypeId) (hr:Row w b c u) (vs:List Value) (hv:(c.toList.drop off).take n=vs) (hl:vs.length=n)
  (h:wpList P ops Q rest (a.put o.dst (.agg vs.toArray)) w):wpList P ops Q (o::rest) a w:=by
 obtain⟨d,hu',hd⟩:=Option.map_eq_some_iff.1 hu;refine wpList_load_mid hg t x ho b off hx vs d (fun j v hj=>?_) hu' hd (by rw[hi,hl]) h;rw[hr.cell];subst hv;rw[List.getElem?_take] at hj;split at hj
 .simpa [List.getElem?_drop] using hj
 .cases hj
theorem mV (t:TypeId)(b off:Nat)(cells:Array Value)(n:Nat)(hi:(P.info? t).map (·.size)=some n)(hn:cells.size=n)(h1:∀v∈cells.toList,v.oneCell'=true)
  (c:Array Value) (u:TypeId) (hr:Row w b c u) (hfit:off+n<=c.size):
  (Instr.storeAt t (.pointer (some ⟨b,off,none⟩)) (.agg cells)).run P w= .ok () (w.setRow b (over c off cells.toList)):=by
 subst hn;have:=run_storeCells_at P b off u cells.toList 0 c w hr (by simpa using hfit) h1;cases hq:P.info? t with
 |none=>simp[hq] at hi
 |some i=>
  have hs:i.size=cells.size:=by simpa [hq] using hi
  simp only[Nat.add_zero] at this;simp[Instr.storeAt,Instr.sureAddr,storeVar,sizeOf,typeInfo,hq,Value.cells,hs,this,over,Sem.run_bind]
theorem bT (hg:o.guard=none)(t:TypeId)(x y:Operand)(ho:o.op= .store t x y)(b off:Nat)(hx:a.eval x= .pointer (some ⟨b,off,none⟩))
  (cells:Array Value) (hy:a.eval y= .agg cells) (n:Nat) (hi:(P.info? t).map (·.size)=some n) (hn:cells.size=n) (h1:∀v∈cells.toList,v.oneCell'=true)
  (c:Array Value) (u:TypeId) (hr:Row w b c u) (hfit:off+n<=c.size)
  (h:∀w1:World,aR [b] w w1->Row w1 b (over c off cells.toList) u->wpList P ops Q rest (a.put o.dst undef) w1):wpList P ops Q (o::rest) a w:=by
 refine zB hg (w.setRow b (over c off cells.toList)) ?_ (h _ (aR.setRow _ _ _ _) (hr.setRow _));have:=mV (P:=P) t b off cells n hi hn h1 c u hr hfit;simp[execOp,ho,hx,hy,this]
theorem kV {fn:Func}{R:Ending->World->Prop}{tp:Tmp}{ty:TypeId}(hf:fn.results=#[.cell tp ty])(b:Nat)(hp:a.tmps.getD tp undef= .pointer (some ⟨b,0,none⟩))(hd:a.defers=[])
  (c:Array Value) (u:TypeId) (hr:Row w b c u) (hu:(P.underlying ty).map TypeDesc.isRow=some true) (hi:(P.info? ty).map (·.size)=some c.size) (h:R (.returned (.agg c)) w):bodyPost P fn R .ret a w:=by
 obtain⟨d,hu',hd'⟩:=Option.map_eq_some_iff.1 hu;exact bodyPost_ret (results_cell_row hf a.tmps w b u c (0,0) d hp hr hu' (by revert hd' hu';cases d<;>intro x y<;>first|rfl|cases y) hi) hd h
end
end
section
open Go.Conc
def KM (P:Program)(S E:FuncId->Bool)(str:Bool)(f:FuncId):Bool:=match P.funcs[f]? with
 |some fn=>!(fn.name== "runtime.NumGoroutine")&&(match fn.body with
  |some c=>wl P S E str c
  |none=>false)
 |none=>false
theorem Ck {P:Program}{S E:FuncId->Bool}{str:Bool}{f:FuncId}(h:KM P S E str f=true):∃fn c,P.funcs[f]? =some fn/\(fn.name== "runtime.NumGoroutine")=false/\fn.body=some c/\wl P S E str c=true:=by
 unfold KM at h;cases hf:P.funcs[f]? with
 |none=>simp[hf] at h
 |some fn=>
  rw[hf] at h;simp only[Bool.and_eq_true,Bool.not_eq_true'] at h;obtain⟨h1,h2⟩:=h;cases hb:fn.body with
  |none=>rw[hb] at h2;cases h2
  |some c=>rw[hb] at h2;exact⟨fn,c,rfl,h1,hb,h2⟩
theorem wT:(decide (Tryz.prog.globals.size<=1))=true:=by kernel_rfl
theorem Gv:Tryz.prog.cellsOf 1000000=0:=by kernel_rfl
def S1 (f:FuncId):Bool:=[166,51,83,82,81,114,115,116,117].contains f
theorem ZO:([166,51,83,82,81,114,115,116,117].all (KM Tryz.prog S1 (fun _=>false) false))=true:=by kernel_rfl
theorem Zr:Stat Tryz.prog S1 (fun _=>false) false where
 yl:=of_decide_eq_true wT
 tc:=Gv
 body:=fun f hf=>by
  have h:f∈[166,51,83,82,81,114,115,116,117]:=by simpa [S1] using hf
  exact Ck (List.all_eq_true.1 ZO f h)
 ext:=fun f hf=>by cases hf
def l0:List Nat:=[14,15,16,18,19,20,21,22,23,24,25,26,27,29,32,33,35,36,37,38,39,40,41,42,43,44,45,46,47,48,49,50,51,52,53,54,56,57,58,59,60,61,62,63,64,65,66,67,69,70,71,72,73,74,75,76,77,78,79,80,81,82,83,84,85,86,87,92,93,94,95,96,97,98,99,100,101,102,103,104,105,106,107,108,109,110,111,112,113,114,115,116,117,118,119,120,121,122,123,124,125,126,127,128,129,136,137,138,139,140,141,142,143,144,145,146,147,148,149,150,151,152,153,154,155,156,157,158,159,160,166,179,180,181,182,183,184,185,186,187,188,189,190,191,192,206,207,209,210,91]
def S0 (f:FuncId):Bool:=l0.contains f
def E0 (f:FuncId):Bool:=[161,205,208,211].contains f
theorem Uy:l0.all (KM Tryz.prog S0 E0 true)=true:=by kernel_rfl
theorem ZP (f:FuncId)(hf:f∈l0):KM Tryz.prog S0 E0 true f=true:=List.all_eq_true.1 Uy f hf
theorem yn:Extern.find Tryz.f161=some Extern.AbiNoEscape.same:=by kernel_rfl
theorem xa:Extern.find Tryz.f205=some Extern.BytealgIndexByte.indexByte:=by kernel_rfl
theorem find_index:Extern.find Tryz.f208=some Extern.BytealgIndex.index:=by kernel_rfl
theorem uF:Extern.find Tryz.f211=some (Extern.BytealgMakeNoZero.makeNoZero Tryz.f211.params Tryz.f211.resultTypes):=by kernel_rfl
theorem yc:(Extern.findNext Tryz.f161).isNone=true:=by kernel_rfl
theorem wm:(Extern.findNext Tryz.f205).isNone=true:=by kernel_rfl
theorem Ed:(Extern.findNext Tryz.f208).isNone=true:=by kernel_rfl
theorem uy:(Extern.findNext Tryz.f211).isNone=true:=by kernel_rfl
theorem yd:(Tryz.f161.name== "runtime.NumGoroutine")=false:=by kernel_rfl
theorem wo:(Tryz.f205.name== "runtime.NumGoroutine")=false:=by kernel_rfl
theorem Ef:(Tryz.f208.name== "runtime.NumGoroutine")=false:=by kernel_rfl
theorem uz:(Tryz.f211.name== "runtime.NumGoroutine")=false:=by kernel_rfl
theorem yA:Tryz.f161.body.isNone=true:=by kernel_rfl
theorem xz:Tryz.f205.body.isNone=true:=by kernel_rfl
theorem E8:Tryz.f208.body.isNone=true:=by kernel_rfl
theorem uG:Tryz.f211.body.isNone=true:=by kernel_rfl
theorem Bp:Stat Tryz.prog S0 E0 true where
 yl:=of_decide_eq_true wT
 tc:=Gv
 body:=fun f hf=>Ck (ZP f (by simpa [S0] using hf))
 ext:=fun f hf π hi h0 N V args=>by
  have hf':f=161\/f=205\/f=208\/f=211:=by simpa [E0] using hf
  rcases hf' with rfl|rfl|rfl|rfl
  .exact mi Tryz.func161 yd yA (Option.isNone_iff_eq_none.1 yc) yn (zS args)
  .exact mi Tryz.func205 wo xz (Option.isNone_iff_eq_none.1 wm) xa (x5 args)
  .exact mi Tryz.func208 Ef E8 (Option.isNone_iff_eq_none.1 Ed) find_index (zU h0 (of_decide_eq_true wT) args)
  .exact mi Tryz.func211 uz uG (Option.isNone_iff_eq_none.1 uy) uF (vD _ _ args)
theorem od {P:Program}{Stop:(Nat->Prop)->Goroutine->World->Prop}(K:Nat->Prop){own:Nat->Prop}{g:Goroutine}{w:World}(h:aD P true kK Stop own g w)(hK:∀q,K q->q<w.heap.size/\¬own q):
  aD P true kK (fun s g w'=>Stop s g w'/\(∀q,K q->¬s q/\w'.heap[q]? =w.heap[q]?)/\w'.output=w.output) own g w:=by
 obtain⟨r,h⟩:=h
 suffices key:∀w0:World,(∀q,K q->w.heap[q]? =w0.heap[q]?)->w.output=w0.output->aD P true kK (fun s g w'=>Stop s g w'/\(∀q,K q->¬s q/\w'.heap[q]? =w0.heap[q]?)/\w'.output=w0.output) own g w from key w (fun _ _=>rfl) rfl
 induction r generalizing own g w with
 |zero=>exact fun w0 he ho=> .stop fun w₁ hr=>⟨h w₁ hr,fun q hq=>⟨(hK q hq).2,by obtain⟨d,rfl⟩:=hr;exact he q hq⟩,by obtain⟨d,rfl⟩:=hr;exact ho⟩
 |mk f ih=>
  intro w0 he ho;rcases h with h|⟨hs,h⟩
  .exact .stop fun w₁ hr=>⟨h w₁ hr,fun q hq=>⟨(hK q hq).2,by obtain⟨d,rfl⟩:=hr;exact he q hq⟩,by obtain⟨d,rfl⟩:=hr;exact ho⟩
  .refine aD.step hs fun w₁ hr=>?_
   obtain⟨g',w',es,h1,h2,h3⟩:=h w₁ hr;obtain⟨d,rfl⟩:=hr;have h2':j4 own (fun _=>False) (w.at d) w' es:=h2;exact⟨g',w',es,h1,h2,ih (w.at d) (fun q hq=>⟨Nat.lt_of_lt_of_le (hK q hq).1 h2'.size,fun hu=>hu.elim (hK q hq).2 fun x=>by
    have h4:=(hK q hq).1;have h5:w.heap.size<=q:=x.1;omega⟩) h3 w0 (fun q hq=>(h2'.keep q (hK q hq).1 (hK q hq).2).trans (he q hq)) (h2'.output.trans ho)⟩
theorem Link.less {H Z O RO:Nat->Prop}{π:Nat->Nat}{wL w:World}(h:Link H Z O RO π wL w)(K:Nat->Prop)(hK:∀b,fY H wL b->¬K (π b)):Link H Z (fun b=>O b/\¬K b) RO π wL w:=
 ⟨h.inj,h.zero,h.lt,h.lw,h.wr,fun b hv hz=>⟨h.own b hv hz,hK b hv⟩,h.ro⟩
theorem Apart.union {Shun:Loc->Prop}{own:Nat->Prop}{w:World}(h:Apart Shun own w)(K:Nat->Prop)(hK:∀q,K q->q<w.heap.size/\∀l,aI.ls q l->¬Shun l):Apart Shun (fun b=>own b\/K b) w:=
 ⟨fun b hb l hl=>hb.elim (fun x=>h.off b x l hl) fun x=>(hK b x).2 l hl,fun b hb=>hb.elim (h.lt b) fun x=>(hK b x).1,h.low,h.cell⟩
theorem Apart.part {Shun:Loc->Prop}{own own':Nat->Prop}{w:World}(h:Apart Shun own w)(hs:∀b,own' b->own b):Apart Shun own' w:=
 ⟨fun b hb=>h.off b (hs b hb),fun b hb=>h.lt b (hs b hb),h.low,h.cell⟩
theorem Link.wider {H Z O O' RO:Nat->Prop}{π:Nat->Nat}{wL w:World}(h:Link H Z O RO π wL w)(ho:∀b,O b->O' b):Link H Z O' RO π wL w:=⟨h.inj,h.zero,h.lt,h.lw,h.wr,fun b hb hz=>ho _ (h.own b hb hz),h.ro⟩
theorem Cj {P:Program}{S E:FuncId->Bool}{str:Bool}{o:Oper}(h:lF P S E str o=true):eE (sl []) P S E str o=true:=by simp[eE,sl,h]
theorem qS {π:Nat->Nat}(a:Act)(d:Option Tmp)(v:Value):(bg π a []).put d (Value.ren π v)=bg π (a.put d v) []:=hU a [] d v fun _ _=>by simp[sl]
theorem IK {π:Nat->Nat}(a:Act){x:Operand}(hx:mY x=true):(bg π a []).eval x=Value.ren π (a.eval x):=kG a [] hx (by cases x<;>rfl)
namespace aj
abbrev PP:Program:=Tryz.prog
abbrev no:Nat->Prop:=fun _=>False
structure Env where
 Ok:Machine->Trace->Prop
 back:∀N M t M' t',runNT PP N M t=(.next M',t')->Ok M' t'->Ok M t
 os:Os
 H:Nat->Prop
 K:Nat->Option Obj
 out:Array (Nat×ByteArray)
def KF (K:Nat->Option Obj)(Shun:Loc->Prop)(own:Nat->Prop)(w:World):Prop:=∀q o,K q=some o->¬own q/\w.heap[q]? =some o/\∀l,aI.ls q l->¬Shun l
def Osl (E:Env)(w:World):Prop:=ConcM.OsLater E.os w.os/\w.output=E.out
structure AS (E:Env)(π:Nat->Nat)(wL:World)(M:Machine)(t:Trace)(g:Goroutine):Prop where
 ex:∃(Shun:Loc->Prop) (own:Nat->Prop) (w:World),Zero PP Shun M t g w/\Link E.H no own no π wL w/\Apart Shun own w/\Osl E w/\KF E.K Shun own w
abbrev VA (H:Nat->Prop)(wL:World)(c:Array Value):Prop:=∀v∈c,VV (fY H wL) v
section
variable {H Z O RO:Nat->Prop}{π:Nat->Nat}{wL w:World}
theorem _root_.Go.Proofs.YtchcmhodnkgojaaGreat.Link.ay (h:Link H Z O RO π wL w)(t:dU)(d:Nat):Link H Z O RO π (ay wL t d) w:=⟨h.inj,h.zero,h.lt,h.lw.ay t d,h.wr,h.own,h.ro⟩
theorem _root_.Go.Proofs.YtchcmhodnkgojaaGreat.Link.Bb {t:dU}{d:Nat}(h:Link H Z O RO π (ay wL t d) w):Link H Z O RO π wL w:=⟨h.inj,h.zero,h.lt,h.lw.ay wL.tape wL.drawn,h.wr,h.own,h.ro⟩
theorem _root_.Go.Proofs.YtchcmhodnkgojaaGreat.Link.at (h:Link H Z O RO π wL w)(d:Nat):Link H Z O RO π wL (w.at d):=
 ⟨h.inj,h.zero,h.lt,h.lw,⟨h.wr.inj,rfl,rfl,h.wr.lt,h.wr.ok,h.wr.hid,h.wr.np,h.wr.low,h.wr.xM⟩,h.own,h.ro⟩
end
theorem AS.ay {E:Env}{π:Nat->Nat}{wL:World}{M:Machine}{tr:Trace}{g:Goroutine}(t:dU)(d:Nat):AS E π (ay wL t d) M tr g↔AS E π wL M tr g:=
 ⟨fun⟨D,o,w,h1,h2,h3⟩=>⟨D,o,w,h1,h2.Bb,h3⟩,fun⟨D,o,w,h1,h2,h3⟩=>⟨D,o,w,h1,h2.ay t d,h3⟩⟩
theorem Af (own:Nat->Prop)(w:World):j4 own no w w #[]:=⟨Nat.le_refl _,fun _ _ _=>rfl,rfl,rfl,rfl,by simp⟩
theorem Fp (s:Nat->Prop)(w:World):kK.up s w w=s:=funext fun b=>propext ⟨fun h=>h.elim id fun h=>by omega,.inl⟩
theorem j6 {H:Nat->Prop}{π b6:Nat->Nat}{wL:World}{a:Act}(ha:VA H wL a.tmps)(h:∀b,b<wL.heap.size->b6 b=π b)(D:jU):bg π a D=bg b6 a D:=by
 unfold bg;rw[ku fun v hv r x=>(h r (ha v hv r x).1).symm]
theorem VA.grow {H:Nat->Prop}{wL bG:World}{c:Array Value}(h:VA H wL c)(hs:wL.heap.size<=bG.heap.size):VA H bG c:=fun v hv=>(h v hv).weak fun _ hi=>⟨Nat.lt_of_lt_of_le hi.1 hs,hi.2⟩
section
variable (Ok:Env)
def CI (f:FuncId)(t:List Item)(R:Act->World->Prop)(a:Act)(wL:World):Prop:=
 ∀(CS:List Frame) (π:Nat->Nat) (M:Machine) (tr:Trace),AS Ok π wL M tr (G ((base f).at (bg π a []) t) CS)->VA Ok.H wL a.tmps->a.defers=[]->
  (∀(a':Act) (bG:World) (b6:Nat->Nat) (M':Machine) (jO:Trace) (todo:List Item),(∃t d,R a' (ay bG t d))->AS Ok b6 bG M' jO (G {(base f).at (bg b6 a' []) todo with mode:= .returning} CS)->
   VA Ok.H bG a'.tmps->a'.defers=[]->(∀b,b<wL.heap.size->b6 b=π b)->wL.heap.size<=bG.heap.size->Ok.Ok M' jO)->Ok.Ok M tr
def CC (f:FuncId)(args:Array Value)(R:Value->World->Prop)(wL:World):Prop:=
 ∀(c:Frame) (CS:List Frame) (π:Nat->Nat) (M:Machine) (tr:Trace),AS Ok π wL M tr (G (Frame.enter PP f (args.map (Value.ren π)) .normal) (c::CS))->VA Ok.H wL args->
  (∀(v:Value) (bG:World) (b6:Nat->Nat) (M':Machine) (jO:Trace),(∃t d,R v (ay bG t d))->AS Ok b6 bG M' jO (G (c.finish (Value.ren b6 v)) CS)->VV (fY Ok.H bG) v->
   (∀b,b<wL.heap.size->b6 b=π b)->wL.heap.size<=bG.heap.size->Ok.Ok M' jO)->Ok.Ok M tr
end
section
variable {Ok:Env}{f:FuncId}{k t:List Item}{R:Act->World->Prop}{a:Act}{wL:World}
theorem mN (t':dU)(d:Nat):CI Ok f t R a (ay wL t' d)↔CI Ok f t R a wL:=
 ⟨fun h CS π M tr hp=>h CS π M tr ((AS.ay t' d).2 hp),fun h CS π M tr hp=>h CS π M tr ((AS.ay t' d).1 hp)⟩
theorem CI.mono {R':Act->World->Prop}(h:CI Ok f t R a wL)(hr:∀a w,R a w->R' a w):CI Ok f t R' a wL:=fun CS π M tr hp ha hd hk=>
 h CS π M tr hp ha hd fun a' bG b6 M' jO todo ⟨t,d,hR⟩=>hk a' bG b6 M' jO todo ⟨t,d,hr _ _ hR⟩
theorem CC.mono {args:Array Value}{R R':Value->World->Prop}(h:CC Ok f args R wL)(hr:∀v w,R v w->R' v w):CC Ok f args R' wL:=fun c CS π M tr hp ha hk=>
 h c CS π M tr hp ha fun v bG b6 M' jO ⟨t,d,hR⟩=>hk v bG b6 M' jO ⟨t,d,hr _ _ hR⟩
theorem j7 {π:Nat->Nat}{M:Machine}{tr:Trace}{g:Goroutine}{Stop:(Nat->Prop)->Goroutine->World->Prop}(hp:AS Ok π wL M tr g)
  (h:∀(own:Nat->Prop) (w:World),Link Ok.H no own no π wL w->aD PP true kK Stop own g w)
  (hk:∀(Shun:Loc->Prop) (s:Nat->Prop) (g':Goroutine) (w':World) (M':Machine) (jO:Trace),Zero PP Shun M' jO g' w'->Stop s g' w'->Apart Shun s w'/\Osl Ok w'/\KF Ok.K Shun s w'->Ok.Ok M' jO):Ok.Ok M tr:=by
 obtain⟨D,o,w,h1,h2,h3,h4,h5⟩:=hp;obtain⟨N,M',t',g',w',e1,e2,⟨s',⟨e3,e3k,e3o⟩,e4⟩,e5,_⟩:=kx h1 (uW (od (fun q=>∃o,Ok.K q=some o) (h o w h2) fun q ⟨o',ho⟩=>⟨(Array.getElem?_eq_some_iff.1 (h5 q o' ho).2.1).1,(h5 q o' ho).1⟩) h3)
 exact Ok.back _ _ _ _ _ e1 (hk _ _ _ _ _ _ e2 e3 ⟨e4,⟨by rw[e5];exact h4.1,e3o.trans h4.2⟩,fun q o' ho=>⟨(e3k q ⟨o',ho⟩).1,(e3k q ⟨o',ho⟩).2.trans (h5 q o' ho).2.1,(h5 q o' ho).2.2⟩⟩)
theorem eu {π:Nat->Nat}{M:Machine}{tr:Trace}{fr:Frame}{cs:List Frame}{g':Goroutine}(hp:AS Ok π wL M tr (G fr cs))(hs:∀w,stepG PP true (G fr cs) w= .go g' w)
  (hk:∀(M':Machine) (jO:Trace),AS Ok π wL M' jO g'->Ok.Ok M' jO):Ok.Ok M tr:=by
 refine j7 (Stop:=fun s g w=>g=g'/\Link Ok.H no s no π wL w) hp (fun own w hl=>?_) fun Dead s g w M' jO hz ⟨e,hl⟩ hd=>hk M' jO ⟨Dead,s,w,e▸hz,hl,hd⟩
 refine aD.silent rfl hs (fun w₁ _=>Af _ _) (fun w₁=>Fp _ _) (.stop fun w₁ ⟨d,e⟩=>⟨rfl,?_⟩);rw[e];exact hl.at d
theorem mO {t':List Item}(hs:∀(b:Act) (CS:List Frame) (w:World),(∀x,a.eval x= .bool true->b.eval x= .bool true)->(∀x,a.eval x= .bool false->b.eval x= .bool false)->stepG PP true (G ((base f).at b t) CS) w= .go (G ((base f).at b t') CS) w)
  (h:CI Ok f t' R a wL):CI Ok f t R a wL:=fun CS π M tr hp ha hd hk=>by
 have ev:∀(x:Operand) (t:Bool),a.eval x= .bool t->(bg π a []).eval x= .bool t:=fun x t hx=>by
  cases x with
  |tmp i=>
   show(a.tmps.map (Value.ren π)).getD i undef=_;rw[jB,show a.tmps.getD i undef=_ from hx];simp
  |const v=>exact hx
  |global g=>cases hx
  |func f=>cases hx
 exact eu hp (hs _ _ · (fun x=>ev x true) fun x=>ev x false) fun M' jO hp'=>h CS π M' jO hp' ha hd hk
theorem eI {x y:Code}(h:CI Ok f (.code x::.code y::k) R a wL):CI Ok f (.code (.seq x y)::k) R a wL:=mO (fun _ _ _ _ _=>stepG_seq) h
theorem MD {id:Nat}{c:Code}(h:CI Ok f (.code c::.inBlock id::k) R a wL):CI Ok f (.code (.block id c)::k) R a wL:=mO (fun _ _ _ _ _=>stepG_block) h
theorem EW {id:Nat}(h:CI Ok f k R a wL):CI Ok f (.inBlock id::k) R a wL:=mO (fun _ _ _ _ _=>stepG_inBlock) h
theorem Qy (h:CI Ok f k R a wL):CI Ok f (.code .skip::k) R a wL:=mO (fun _ _ _ _ _=>stepG_skip) h
theorem vb {x:Operand}{p q:Code}{b:Bool}(hx:a.eval x= .bool b)(h:CI Ok f (.code (if b then p else q)::k) R a wL):CI Ok f (.code (.cond x p q)::k) R a wL:=by
 refine mO (fun b' CS w h1 h2=>?_) h;cases b with
 |true=>exact stepG_cond (h1 x hx)
 |false=>exact stepG_cond (h2 x hx)
theorem dW {id:Nat}{ops:Array Oper}(h:CI Ok f (.inRegion ops (List.range ops.size)::k) R a wL):CI Ok f (.code (.region id ops false)::k) R a wL:=mO (fun _ _ _ _ _=>stepG_region) h
theorem cF {ops:Array Oper}(h:CI Ok f k R a wL):CI Ok f (.inRegion ops []::k) R a wL:=mO (fun _ _ _ _ _=>stepG_region_end) h
theorem EV (h:R a wL):CI Ok f (.code .ret::k) R a wL:=fun CS π M tr hp ha hd hk=>
 eu hp (fun w=>stepG_ret') fun M' jO hp'=>hk a wL π M' jO _ ⟨wL.tape,wL.drawn,h⟩ hp' ha hd (fun _ _=>rfl) (Nat.le_refl _)
def after (Ok:Env)(fM:Option Nat)(f:FuncId)(k:List Item)(R:Act->World->Prop):Exit->Act->World->Prop
 |.normal,a,w=>CI Ok f k R a w
 |.exit id,a,w=>fM=some id/\∃k',exitTo id k=some k'/\CI Ok f k' R a w
 |.ret,a,w=>∃t d,R a (ay w t d)
 |_,_,_=>False
theorem Hx {fM:Option Nat}:QOk fM (after Ok fM f k R) where
 tape:=fun e a w t d=>by
  cases e with
  |normal=>exact mN t d
  |exit id=>exact and_congr Iff.rfl (exists_congr fun k'=>and_congr Iff.rfl (mN t d))
  |ret=>exact Iff.rfl
  |_=>exact Iff.rfl
 out:=fun e a w h=>by
  cases e with
  |normal=>exact .inl rfl
  |ret=>exact .inr (.inl rfl)
  |exit id=>exact .inr (.inr ⟨id,rfl,h.1⟩)
  |_=>exact h.elim
theorem Gu {t0:List Item}(fM:Option Nat)(h0:∃fn,PP.funcs[f]? =some fn)(AX:∀it∈t0,Aj PP S0 E0 true it=true)(hx:∀id,fM=some id->∃y,exitTo id k=some y)
  (hwp:∀t d,WpT PP t0 (after Ok fM f k R) a (ay wL t d)):CI Ok f (t0++k) R a wL:=fun CS π M tr hp ha hd hk=>by
 refine j7 hp (fun own w hl=>K3 Bp (fun _ _ h=>h) h0 wN Hx (B:=base f) (D0:=[]) (CS:=CS) (kT:=k) rfl (by simp[base]) hx AX hl ha hd hwp) ?_;rintro Dead s g w M' jO hz ⟨e,a',bG,b6,q,hl,hd',ha',hg,hag,hsz⟩ hs;have go:∀k',g=G ((base f).at (bg b6 a' []) k') CS->CI Ok f k' R a' bG->Ok.Ok M' jO:=fun k' e h=>
  h CS b6 M' jO ⟨Dead,s,w,e▸hz,hl,hs⟩ ha' hd' fun a2 A9 uq M2 Be todo r p v d g2 z=>hk a2 A9 uq M2 Be todo r p v d (fun b hb=>(g2 b (Nat.lt_of_lt_of_le hb hsz)).trans (hag b hb)) (Nat.le_trans hsz z)
 cases e with
 |normal=>exact go k hg q
 |exit id=>
  obtain⟨_,k',h1,h2⟩:=q;obtain⟨y,h3,h4⟩:=hg;rw[h1] at h3;cases h3;exact go k' h4 h2
 |ret=>
  obtain⟨todo,rfl⟩:=hg;exact hk a' bG b6 M' jO todo q ⟨Dead,s,w,hz,hl,hs⟩ ha' hd' hag hsz
 |_=>exact q.elim
theorem eZ {cd:Code}(fM:Option Nat)(h0:∃fn,PP.funcs[f]? =some fn)(AX:wl PP S0 E0 true cd=true)(hx:∀id,fM=some id->∃y,exitTo id k=some y)
  (I:World->Prop) (hb:∀w t d,I w->I (ay w t d)) (hI:I wL) (hwp:∀w,I w->w.heap.size=wL.heap.size->cd.wp PP (after Ok fM f k R) a w):CI Ok f (.code cd::k) R a wL:=
 Gu (t0:=[.code cd]) fM h0 (fun it hit=>by simp at hit;subst hit;exact AX) hx fun t d=>hwp _ (hb _ t d hI) rfl
theorem Qz {ops:Array Oper}{l:List Nat}(fM:Option Nat)(h0:∃fn,PP.funcs[f]? =some fn)(AX:Aj PP S0 E0 true (.inRegion ops l)=true)(hx:∀id,fM=some id->∃y,exitTo id k=some y)
  (I:World->Prop) (hb:∀w t d,I w->I (ay w t d)) (hI:I wL) (hwp:∀w,I w->w.heap.size=wL.heap.size->wpOps PP ops (after Ok fM f k R) l a w):CI Ok f (.inRegion ops l::k) R a wL:=
 Gu (t0:=[.inRegion ops l]) fM h0 (fun it hit=>by simp at hit;subst hit;exact AX) hx fun t d b k cs=>wp_ops l a _ (hwp _ (hb _ t d hI) rfl) b k cs
theorem Sa {ops:Array Oper}{i:Nat}{rest:List Nat}{o:Oper}(ho:ops[i]? =some o)(sc:lF PP S0 E0 true o=true)(hg:o.guard=none)
  (h:∀t d,uponE o a (fun a' w'=>CI Ok f (.inRegion ops rest::k) R a' w') (fun _ _ _=>False) ((execOp a.eval o).run PP (ay wL t d))):CI Ok f (.inRegion ops (i::rest)::k) R a wL:=fun CS π M tr hp ha hd hk=>by
 have hwd:∀c:Array Value,Region.wanted o (yielded ops c)=true:=fun c=>by simp[Region.wanted,hg]
 have hkb:(base f).kind≠.early:=by simp[base]
 refine j7 (Stop:=fun s g w=>∃a' bG b6,CI Ok f (.inRegion ops rest::k) R a' bG/\g=G ((base f).at (bg b6 a' []) (.inRegion ops rest::k)) CS/\Link Ok.H no s no b6 bG w/\VA Ok.H bG a'.tmps/\a'.defers=[]/\(∀b,b<wL.heap.size->b6 b=π b)/\wL.heap.size<=bG.heap.size) hp (fun own w hl=>?_) ?_
 .refine aD.step rfl fun w₁ hR=>?_
  obtain⟨r1,r2,r3⟩:=wN.rel own w w₁ hR;obtain⟨b6,hl',F0,hag⟩:=hl.rely r1 r2 r3;have hl1:LW Ok.H no (ay wL w₁.tape w₁.drawn):=hl'.lw.ay _ _;have eπ:bg π a []=bg b6 a []:=j6 ha (fun b hb=>(F0 b hb).symm) [];have h1:=h w₁.tape w₁.drawn
  have both:=fun {x bG} (hr:(execOp a.eval o).run PP (ay wL w₁.tape w₁.drawn)= .ok x bG)=>mS Bp hl'.inj hl'.zero (fun _ _ h=>h) hl1 hl'.wr [] ha (Cj sc) hr fun i _=>hag i
  cases hr:(execOp a.eval o).run PP (ay wL w₁.tape w₁.drawn) with
  |halt hh u=>rw[hr] at h1;exact h1.elim
  |ok nx u=>
   rw[hr] at h1;obtain⟨l1,l2,x',w',e1,e2,e3,e4,e5,e6⟩:=both hr;obtain⟨o1,o2⟩:=hl'.qV (fun i _=>hag i) l1 l2 e3 e4 (fun e he=>e5 e (mem_listed (fn:=(base f).fn) he))
   have fin:∀v:Value,CI Ok f (.inRegion ops rest::k) R (a.put o.dst v) u->VV (fY Ok.H u) v->aD PP true kK (fun s g w=>∃a' bG b6,CI Ok f (.inRegion ops rest::k) R a' bG/\g=G ((base f).at (bg b6 a' []) (.inRegion ops rest::k)) CS/\Link Ok.H no s no b6 bG w/\VA Ok.H bG a'.tmps/\a'.defers=[]/\(∀b,b<wL.heap.size->b6 b=π b)/\wL.heap.size<=bG.heap.size)
     (kK.up own w₁ w') (G ((base f).at (bg b6 (a.put o.dst v) []) (.inRegion ops rest::k)) CS) w':=fun v hc hv=>
    .stop fun w₂ ⟨d,e⟩=>⟨_,u,b6,hc,rfl,by rw[e];exact(o2 _ fun b=>Iff.rfl).at d,jf (VA.grow ha l2) hv,(put_defers _ _ _).trans hd,fun b hb=>(F0 b hb).symm,l2⟩
   cases nx with
   |value v=>
    cases e2;refine⟨_,w',_,by rw[eπ];exact stepG_value ho (hwd _) hkb e1,o1,?_⟩;rw[qS];exact fin v h1 e6
   |skip=>
    cases e2;refine⟨_,w',_,by rw[eπ];exact stepG_none ho (hwd _) hkb e1,o1,?_⟩;have e:(bg b6 a []).put o.dst undef=bg b6 (a.put o.dst undef) []:=by
     have:=qS (π:=b6) a o.dst undef
     rwa [show Value.ren b6 undef=undef by simp[undef]] at this
    rw[e];exact fin undef h1 gz
   |_=>exact h1.elim
 .rintro Dead s g w M' jO hz ⟨a',bG,b6,hc,rfl,hl,ha',hd',hag,hsz⟩ hs
  exact hc CS b6 M' jO ⟨Dead,s,w,hz,hl,hs⟩ ha' hd' fun a2 A9 uq M2 Be todo r p v d g2 z=>hk a2 A9 uq M2 Be todo r p v d (fun b hb=>(g2 b (Nat.lt_of_lt_of_le hb hsz)).trans (hag b hb)) (Nat.le_trans hsz z)
theorem QA {ops:Array Oper}{i:Nat}{rest:List Nat}{o:Oper}{f2:FuncId}{xs:Array Operand}{R2:Value->World->Prop}(ho:ops[i]? =some o)(hg:o.guard=none)(hxs:xs.all mY=true)
  (hrun:∀(b:Act) (w:World),(execOp b.eval o).runT PP w #[]=(.ok (.enter f2 (xs.map b.eval)) w,#[])) (hcc:CC Ok f2 (xs.map a.eval) R2 wL)
  (h:∀v w',R2 v w'->wL.heap.size<=w'.heap.size->CI Ok f (.inRegion ops rest::k) R (a.put o.dst v) w'):CI Ok f (.inRegion ops (i::rest)::k) R a wL:=fun CS π M tr hp ha hd hk=>by
 have hwd:∀c:Array Value,Region.wanted o (yielded ops c)=true:=fun c=>by simp[Region.wanted,hg]
 have hkb:(base f).kind≠.early:=by simp[base]
 have hev:xs.map (bg π a []).eval=(xs.map a.eval).map (Value.ren π):=by
  rw[Array.map_map];exact Array.map_congr_left fun x hx=>IK a (Array.all_eq_true_iff_forall_mem.1 hxs x hx)
 have hr:∀w,(execOp (bg π a []).eval o).run PP w= .ok (.enter f2 ((xs.map a.eval).map (Value.ren π))) w:=fun w=>by rw[<-Sem.runT_fst PP _ w #[],hrun,hev]
 have hl0:∀w,listed PP (base f).fn (bg π a []) o w=#[]:=fun w=>by
  unfold listed;rw[show(execOp (bg π a []).eval o).events PP w #[]=#[] from congrArg Prod.snd (hrun _ w)];simp[seen]
 refine eu hp (fun w=>by rw[stepG_enter ho (hwd _) hkb (hr w),hl0]) fun M1 GU hp1=>?_
 refine hcc _ CS π M1 GU hp1 (fun v hv=>?_) fun v bG b6 M' jO ⟨t,d,hR⟩ hp' hv hag hsz=>?_
 .obtain⟨x,hx,rfl⟩:=Array.mem_map.1 hv
  exact k9 ha (Array.all_eq_true_iff_forall_mem.1 hxs x hx)
 .have hc:CI Ok f (.inRegion ops rest::k) R (a.put o.dst v) bG:=(mN t d).1 (h v _ hR hsz)
  have e:((base f).at (bg π a []) (.inRegion ops (i::rest)::k)).finish (Value.ren b6 v)=(base f).at (bg b6 (a.put o.dst v) []) (.inRegion ops rest::k):=by
   rw[Frame.finish_at,ho,Option.bind_some,j6 ha hag,qS]
  rw[e] at hp';exact hc CS b6 M' jO hp' (jf (VA.grow ha hsz) hv) ((put_defers _ _ _).trans hd) fun a2 A9 uq M2 Be todo r p v d g2 z=>hk a2 A9 uq M2 Be todo r p v d (fun b hb=>(g2 b (Nat.lt_of_lt_of_le hb hsz)).trans (hag b hb)) (Nat.le_trans hsz z)
def R9 (fn:Func)(R2:Value->World->Prop)(a:Act)(w:World):Prop:=∃v,(results fn a.tmps).run PP w= .ok v w/\R2 v w
theorem z9 {H Z:Nat->Prop}{w:World}(hl:LW H Z w){fn:Func}{c:Array Value}{v:Value}{t:dU}{d:Nat}(hr:(results fn c).run PP (ay w t d)= .ok v (ay w t d))(t2:dU)(d2:Nat):
  (results fn c).run PP (ay w t2 d2)= .ok v (ay w t2 d2):=by
 have CF:=kP (P:=PP) (π:=id) (N:=fun b=>H b\/Z b) (V:=fY H w) fn c;have hrT:(results fn c).runT PP (ay w t d) #[]=(.ok v (ay w t d),(results fn c).events PP (ay w t d) #[]):=by rw[Sem.runT_eq,hr]
 obtain⟨k,hk1,hk2⟩:=CF.DO hl.y8 (fun b hb=>hl.low b hb) hrT;have e:d=d+k:=congrArg World.drawn hk1;obtain rfl:k=0:=by omega
 have:=hk2 t2 d2 fun i hi=>by omega
 rw[<-Sem.runT_fst PP _ _ #[],this];rfl
theorem l9 {fn:Func}{cd:Code}{args:Array Value}{R2:Value->World->Prop}(hf:PP.funcs[f]? =some fn)(hb:fn.body=some cd)
  (h:CI Ok f [.code cd] (R9 fn R2) {tmps:=args++Array.replicate (fn.ntmps-args.size) undef,defers:=[]} wL):CC Ok f args R2 wL:=fun c CS π M tr hp ha hk=>by
 rw[enter_at _ hf hb] at hp;have er:bg π {tmps:=args++Array.replicate (fn.ntmps-args.size) undef,defers:=[]} []={tmps:=args.map (Value.ren π)++Array.replicate (fn.ntmps-(args.map (Value.ren π)).size) undef,defers:=[]}:=by
  simp[bg,wh,undef]
 rw[<-er] at hp;refine h (c::CS) π M tr hp (fun v hv=>?_) rfl fun a' bG b6 M' jO todo ⟨t,d,v,hr,hR⟩ hp' ha' hd' hag hsz=>?_
 .rcases Array.mem_append.1 hv with hv|hv
  .exact ha v hv
  .rw[(Array.mem_replicate.1 hv).2];exact gz
 refine j7 (Stop:=fun s g w=>∃uq,g=G (c.finish (Value.ren uq v)) CS/\Link Ok.H no s no uq bG w/\VV (fY Ok.H bG) v/\∀b,b<bG.heap.size->uq b=b6 b) hp' (fun own w hl=>?_) ?_
 .refine aD.step rfl fun w₁ Nt=>?_
  obtain⟨r1,r2,r3⟩:=wN.rel own w w₁ Nt;obtain⟨uq,hl',F0,PN⟩:=hl.rely r1 r2 r3;have hl1:LW Ok.H no (ay bG w₁.tape w₁.drawn):=hl'.lw.ay _ _;have hr1:=z9 hl'.lw hr w₁.tape w₁.drawn;obtain⟨l1,l2,w',e1,e3,e4,e5,e6⟩:=mR Bp hl'.inj hl1 hl'.wr ha' fn hr1 fun i _=>PN i
  obtain⟨o1,o2⟩:=hl'.qV (fun i _=>PN i) l1 l2 e3 e4 (es:=seen PP f ((results fn (a'.tmps.map (Value.ren uq))).events PP w₁ #[])) (fun e he=>e5 e (by simpa using mem_seen (by simpa using he)));have hT:=AC hf (main:=true) (b:=base f) (a:=bg uq a' []) (todo:=todo) (cr:=c) (Du:=CS) (w:=w₁) rfl rfl rfl;rw[show(bg uq a' []).tmps=a'.tmps.map (Value.ren uq) from rfl,e1] at hT
  simp only[GStep.after] at hT;refine⟨_,w',_,by rw[j6 ha' (fun b hb=>(F0 b hb).symm) []];exact hT,(show j4 own no w₁ w' _ by simpa using o1),.stop fun w₂ ⟨d2,e⟩=>⟨uq,rfl,?_,e6,fun b hb=>(F0 b hb).symm⟩⟩;rw[e];exact((o2 _ fun b=>Iff.rfl).Bb).at d2
 .rintro Dead s g w M2 Be hz ⟨uq,rfl,hl,hv,PN⟩ hs
  exact hk v bG uq M2 Be ⟨t,d,hR⟩ ⟨Dead,s,w,hz,hl,hs⟩ hv (fun b hb=>(PN b (Nat.lt_of_lt_of_le hb hsz)).trans (hag b hb)) hsz
end
def Nf (Post:Value->World->Prop)(M:Machine)(t:Trace):Prop:=∃N last o w' t',runNT PP (N+1) M t=(.ended o w',t')/\runN PP N M= .next last/\step PP last= .ended o w'/\Go.Conc.Good PP Post last o w' t'
theorem Hl (Post:Value->World->Prop)(N:Nat)(M:Machine)(t:Trace)(M':Machine)(t':Trace)(h:runNT PP N M t=(.next M',t'))(k:Nf Post M' t'):Nf Post M t:=by
 obtain⟨n,last,o,w',t2,h1,h2,h3,h4⟩:=k;refine⟨N+n,last,o,w',t2,?_,?_,h3,h4⟩
 .rw[Nat.add_assoc,runNT_add,h]
  exact h1
 .rw[runN_add,show runN PP N M= .next M' by rw[<-runNT_fst PP N M t,h]]
  exact h2
def R8 (Post:Value->World->Prop)(W:World)(H:Nat->Prop)(K:Nat->Option Obj):Env:=⟨Nf Post,Hl Post,W.os,H,K,W.output⟩
end aj
end
section
open Go.RowKit Go.Lib
structure DS where
 aM:List UInt8
 waiting:List (Int×List UInt8)
 acts:Int
 given:Bool
 left:Int
 keep:Int
 failed:Bool
def dI (p:Int×List UInt8):List Value:= .int .i64 p.1::byteCells p.2
def jV (l:List (Int×List UInt8)):List Value:=l.flatMap dI
def iq (bl n:Nat)(vw:Value)(x:DS):Array Value:=
 #[.slice (some ⟨bl,0,none⟩) n n,vw,.int .i64 x.acts,.bool x.given,.int .i64 x.left,.int .i64 x.keep,.bool x.failed]
theorem iU {w:World}{d bl n:Nat}{vw:Value}{x:DS}{t:TypeId}(h:Row w d (iq bl n vw x) t):
  w.cell? ⟨d,0,none⟩=some (.slice (some ⟨bl,0,none⟩) n n)/\w.cell? ⟨d,1,none⟩=some vw/\w.cell? ⟨d,2,none⟩=some (.int .i64 x.acts)/\w.cell? ⟨d,3,none⟩=some (.bool x.given)/\
  w.cell? ⟨d,4,none⟩=some (.int .i64 x.left)/\w.cell? ⟨d,5,none⟩=some (.int .i64 x.keep)/\w.cell? ⟨d,6,none⟩=some (.bool x.failed):=by
 refine⟨?_,?_,?_,?_,?_,?_,?_⟩<;>rw[h.cell]<;>rfl
structure bE (w:World)(d bl n:Nat)(vw:Value)(x:DS):Prop where
 row:Row w d (iq bl n vw x) 134
 last:Row w bl (byteCells x.aM).toArray 148
 len:x.aM.length=64*n
 own:w.ownsRow 0 240 65 vw x.waiting.length (jV x.waiting)
 d8:∀p∈x.waiting,p.2.length=64
 within:∀p∈x.waiting,0<=p.1/\p.1<n
 lo:16<=n
 hi:n<=400
 few:x.waiting.length<=60
 ne:d≠bl
 ne1:vw.ownBlock≠some d
 AY:vw.ownBlock≠some bl
 nil:x.waiting=[]->vw= .slice none 0 0
theorem bE.wV {w w':World}{S:List Nat}{d bl n:Nat}{vw:Value}{x:DS}(h:bE w d bl n vw x)(f:aR S w w')(h1:d∉S)(h2:bl∉S)(h3:∀k∈S,vw.ownBlock≠some k):bE w' d bl n vw x:=
 {h with row:=f.row h.row h1,last:=f.row h.last h2,own:=f.owns h.own h3}
theorem KE {w:World}{base:Nat}{e:TypeId}{size:Nat}{v:Value}{n:Nat}{xs:List Value}(h:w.ownsRow base e size v n xs){k:Nat}(hk:v.ownBlock=some k):k<w.heap.size:=(h.lt k hk).2
theorem bE.new {w w':World}{S:List Nat}{d bl n:Nat}{vw:Value}{x:DS}(h:bE w d bl n vw x)(f:aR S w w')(hS:∀k∈S,w.heap.size<=k:=by simp):bE w' d bl n vw x:=by
 have l1:=h.row.lt;have l2:=h.last.lt;exact h.wV f (fun hs=>by have:=hS _ hs;omega) (fun hs=>by have:=hS _ hs;omega) (fun k hk e=>by have:=hS _ hk;have:=KE h.own e;omega)
theorem bE.reset {w w':World}{d bl n:Nat}{vw:Value}{x y:DS}(h:bE w d bl n vw x)(f:aR [d] w w')(hr:Row w' d (iq bl n vw y) 134)(h1:y.aM=x.aM)(h2:y.waiting=x.waiting):bE w' d bl n vw y:=by
 have hl:=f.row h.last (by simpa using fun e=>h.ne e.symm);have ho:=f.owns h.own (by simpa using h.ne1);exact {row:=hr,last:=by rw[h1];exact hl,len:=by rw[h1];exact h.len,own:=by rw[h2];exact ho,d8:=by rw[h2];exact h.d8,within:=by rw[h2];exact h.within,lo:=h.lo,hi:=h.hi,few:=by rw[h2];exact h.few,ne:=h.ne,ne1:=h.ne1,AY:=h.AY,nil:=by rw[h2];exact h.nil}
def seenIn (aM:List UInt8)(waiting:List (Int×List UInt8))(s:Int):List UInt8:=
 waiting.foldl (fun b p=>if p.1=s then p.2 else b) ((aM.drop (64*s.toNat)).take 64)
def DS.read (x:DS)(s:Int):List UInt8:=seenIn x.aM x.waiting s
theorem af (l:List UInt8):(byteCells l).length=l.length:=by simp[byteCells]
theorem ez (l:List UInt8)(n:Nat):(byteCells l).take n=byteCells (l.take n):=by simp[byteCells,List.map_take]
theorem eA (l:List UInt8)(n:Nat):(byteCells l).drop n=byteCells (l.drop n):=by simp[byteCells,List.map_drop]
theorem byteCells_append (l m:List UInt8):byteCells (l++m)=byteCells l++byteCells m:=by simp[byteCells]
theorem byteCells_one (l:List UInt8):∀v∈byteCells l,v.oneCell'=true:=by
 intro v hv;simp only[byteCells,List.mem_map] at hv;obtain⟨b,_,rfl⟩:=hv;rfl
theorem bX (p:Int×List UInt8)(h:p.2.length=64):(dI p).length=65:=by simp[dI,byteCells,h]
theorem qv:∀(l:List (Int×List UInt8)),(∀p∈l,p.2.length=64)->∀k,(jV l).drop (k*65)=jV (l.drop k)
 |_,_,0=>by simp
 |[],_,k+1=>by simp[jV]
 |p::r,h,k+1=>by
  have:=qv r (fun q hq=>h q (by simp[hq])) k;simp only[jV,List.flatMap_cons,List.drop_succ_cons] at this⊢;rw[List.drop_append,bX p (h p (by simp)),List.drop_eq_nil_of_le (by rw[bX p (h p (by simp))];omega)];simpa [Nat.add_mul] using this
theorem pU (l:List (Int×List UInt8))(h:∀p∈l,p.2.length=64)(k:Nat)(hk:k<l.length):((jV l).drop (k*65)).take 65=dI l[k]:=by
 rw[qv l h k,List.drop_eq_getElem_cons hk];simp only[jV,List.flatMap_cons];rw[List.take_append_of_le_length (by rw[bX _ (h _ (List.getElem_mem hk))];omega),List.take_of_length_le (by rw[bX _ (h _ (List.getElem_mem hk))];omega)]
theorem tI (la:List UInt8)(l:List (Int×List UInt8))(s:Int)(k:Nat)(hk:k<l.length):
  seenIn la (l.take (k+1)) s=if l[k].1=s then l[k].2 else seenIn la (l.take k) s:=by
 unfold seenIn;rw[List.take_succ_eq_append_getElem hk,List.foldl_append];rfl
theorem tT (s:Int):∀(l:List (Int×List UInt8)) (b:List UInt8),b.length=64->(∀p∈l,p.2.length=64)->(l.foldl (fun b p=>if p.1=s then p.2 else b) b).length=64
 |[],_,hb,_=>hb
 |p::r,b,hb,h=>by
  refine tT s r _ ?_ fun q hq=>h q (by simp[hq])
  dsimp only;split
  .exact h p (by simp)
  .exact hb
theorem bq (la:List UInt8)(s:Int)(h0:64*s.toNat+64<=la.length)(l:List (Int×List UInt8))(h:∀p∈l,p.2.length=64):(seenIn la l s).length=64:=
 tT s l _ (by simp;omega) h
theorem br:(Tryz.prog.info? 148).map (·.size)=some 64:=by kernel_rfl
theorem io:(Tryz.prog.info? 240).map (·.size)=some 65:=by kernel_rfl
def eN:Value:= .agg (byteCells (List.replicate 64 0)).toArray
def jH:Value:= .agg (dI (0,List.replicate 64 0)).toArray
theorem dH:(Tryz.prog.info? 148).map (·.zero)=some (some eN):=by kernel_rfl
theorem j9:(Tryz.prog.info? 240).map (·.zero)=some (some jH):=by kernel_rfl
theorem sy:(Tryz.prog.underlying 240).map TypeDesc.isRow=some true:=by kernel_rfl
theorem dy:(Tryz.prog.underlying 148).map TypeDesc.isRow=some true:=by kernel_rfl
theorem vV (d bl n:Nat)(vw:Value)(x:DS)(s:Int)(w:World)(h:bE w d bl n vw x)(hs:0<=s)(hn:s<n):
  Calls Tryz.prog 114 #[.pointer (some ⟨d,0,none⟩),.int .i64 s] w fun e w'=>e= .returned (.agg (byteCells (x.read s)).toArray)/\aR [] w w':=by
 have YG:=h.row.lt;have Yl:=h.last.lt;obtain⟨ad,cap,hvw⟩:=cy h.own;have hfit:64*s.toNat+64<=x.aM.length:=by rw[h.len];omega
 subst hvw;go_enter Tryz.func114,Tryz.ntmps114;go_wp2_with (with_reducible first|refine aA rfl ?_|refine az 148 rfl ?_|refine az 240 rfl ?_|refine ah 148 rfl ?_|refine ah 240 rfl ?_);refine ax.go (bv rfl 148 rfl eN dH ?_);intro w1 b4 l4 f1 r4;have h1:=h.new f1;obtain⟨c0,c1,-⟩:=iU h1.row
 go_wp2_with (with_reducible first|refine aA rfl ?_|refine az 148 rfl ?_|refine az 240 rfl ?_|refine ah 148 rfl ?_|refine ah 240 rfl ?_);refine ax.go (bY rfl 148 _ rfl bl (s.toNat*64) rfl dy 64 br _ _ h1.last (byteCells (seenIn x.aM [] s)) ?_ ?_ ?_)
 .simp[seenIn,eA,ez,Nat.mul_comm]
 .rw[af];exact bq _ _ hfit _ (by simp)
 go_wp2_with (with_reducible first|refine aA rfl ?_|refine az 148 rfl ?_|refine az 240 rfl ?_|refine ah 148 rfl ?_|refine ah 240 rfl ?_);refine ax.go (bv rfl 148 rfl eN dH ?_);intro w2 b5 l5 f2 r5
 go_wp2_with (with_reducible first|refine aA rfl ?_|refine az 148 rfl ?_|refine az 240 rfl ?_|refine ah 148 rfl ?_|refine ah 240 rfl ?_);refine ax.go (bT rfl 148 _ _ rfl _ 0 rfl _ rfl 64 br ?_ ?_ _ _ r5 ?_ ?_)
 .simp only[List.size_toArray,af];exact bq _ _ hfit _ (by simp)
 .exact byteCells_one _
 .decide
 intro w3 f3 r5;have D5:=f3.row (f2.row r4) (by have:=r4.lt;simp;omega);have f13:aR [] w w3:=(f1.trans f2).trans f3 (by simp;have:=f1.size;omega);rw[bO _ _ (by rw[af,bq _ _ hfit _ (by simp)];rfl)] at r5;have h3:=h.new f13;clear c0 c1 h1;obtain⟨c0,c1,-⟩:=iU h3.row
 go_wp2_with (with_reducible first|refine aA rfl ?_|refine az 148 rfl ?_|refine az 240 rfl ?_|refine ah 148 rfl ?_|refine ah 240 rfl ?_);have hne:b4≠b5:=by have:=r4.lt;omega
 have l4':w.heap.size<=b5:=by have:=f1.size;omega
 go_loopw [20] (fun i wr=>∃k:Nat,i= .int .i64 k/\k<=x.waiting.length/\aR [] w wr/\Row wr b4 eN.cells 148/\
  Row wr b5 (byteCells (seenIn x.aM (x.waiting.take k) s)).toArray 148) (fun i _=>x.waiting.length-(intOf i).toNat)
 case atStart=>exact⟨0,rfl,by omega,f13,D5,r5⟩
 case round=>
  obtain⟨k,rfl,hk,fk,q4,q5⟩:=hrel;clear c0 c1 h3 f13 D5;have hw:=h.new fk;have gS:=h.few
  by_cases hlt:k<x.waiting.length
  .obtain⟨g,cur,rfl,hg,hle,_,hcs,htk⟩:=e9 hw.own
   have h64:=h.d8 _ (List.getElem_mem hlt);have hat:((cur.toList.drop (k*65)).take 65)=dI x.waiting[k]:=by
    rw[cL htk _ _,pU x.waiting h.d8 k hlt]
   clear hcs htk;go_wp2_with (with_reducible first|refine aA rfl ?_|refine az 148 rfl ?_|refine az 240 rfl ?_|refine ah 148 rfl ?_|refine ah 240 rfl ?_);refine ax.go (bY rfl 240 _ rfl g (k*65) rfl sy 65 io _ _ hg _ hat (bX _ h64) ?_);clear hat
   go_wp2_with (with_reducible first|refine aA rfl ?_|refine az 148 rfl ?_|refine az 240 rfl ?_|refine ah 148 rfl ?_|refine ah 240 rfl ?_);refine ax.go (bv rfl 240 rfl jH j9 ?_);intro w4 b7 l7 f4 r7
   go_wp2_with (with_reducible first|refine aA rfl ?_|refine az 148 rfl ?_|refine az 240 rfl ?_|refine ah 148 rfl ?_|refine ah 240 rfl ?_);refine ax.go (bT rfl 240 _ _ rfl _ 0 rfl _ rfl 65 io ?_ ?_ _ _ r7 ?_ ?_)
   .simp only[List.size_toArray];exact bX _ h64
   .intro v hv;simp only[dI,List.mem_cons] at hv;rcases hv with rfl|hv;rfl;exact byteCells_one _ v hv
   .decide
   intro w5 f5 sG;rw[bO _ _ (by rw[bX _ h64];rfl)] at sG;clear r7;have l7':wr.heap.size<=b7:=l7;have mI:aR [] wr w5:=f4.trans f5 (by simpa using l7);have Ks:=mI.row q4;have oQ:=mI.row q5;have fw:=fk.trans mI;have c0:w5.cell? ⟨b7,0,none⟩=some (.int .i64 x.waiting[k].1):=by rw[sG.cell];rfl
   clear q4 q5 fk hw f4 f5 l7;have l47:b4<w5.heap.size:=Ks.lt
   by_cases he:x.waiting[k].1=s
   .have hb:(x.waiting[k].1==s)=true:=by simp[he]
    have HE:Hid (x.waiting[k].1=s):=he;clear he;go_wp2_with (with_reducible first|refine aA rfl ?_|refine az 148 rfl ?_|refine az 240 rfl ?_|refine ah 148 rfl ?_|refine ah 240 rfl ?_);refine ax.go (bY rfl 148 _ rfl b7 1 rfl dy 64 br _ _ sG (byteCells x.waiting[k].2) ?_ (by rw[af,h64]) ?_)
    .simp[dI];rw[List.take_of_length_le];rw[af,h64];omega
    go_wp2_with (with_reducible first|refine aA rfl ?_|refine az 148 rfl ?_|refine az 240 rfl ?_|refine ah 148 rfl ?_|refine ah 240 rfl ?_);refine ax.go (bT rfl 148 _ _ rfl _ 0 rfl _ rfl 64 br ?_ ?_ _ _ oQ ?_ ?_)
    .simp only[List.size_toArray,af,h64]
    .exact byteCells_one _
    .simp only[List.size_toArray,af];rw[bq _ _ hfit _ (fun p hp=>h.d8 p (List.mem_of_mem_take hp))];omega
    intro w6 f6 q6;rw[bO _ _ (by simp only[List.size_toArray,af];rw[bq _ _ hfit _ (fun p hp=>h.d8 p (List.mem_of_mem_take hp)),h64])] at q6;have afl:=f6.row Ks (by simp;exact hne);have sR:aR [] w w6:=fw.trans f6 (by simp;omega)
    go_wp2_with (with_reducible first|refine aA rfl ?_|refine az 148 rfl ?_|refine az 240 rfl ?_|refine ah 148 rfl ?_|refine ah 240 rfl ?_)
    go_roundw
    case rel=>
     refine⟨k+1,by go_num,by omega,sR,afl,?_⟩;rw[tI _ _ _ _ hlt,if_pos HE.out];exact q6
    case measure=>simp[intOf];omega
   .have hb:(x.waiting[k].1==s)=false:=by simp[he]
    have HE:Hid (¬x.waiting[k].1=s):=he;clear he;go_wp2_with (with_reducible first|refine aA rfl ?_|refine az 148 rfl ?_|refine az 240 rfl ?_|refine ah 148 rfl ?_|refine ah 240 rfl ?_)
    go_roundw
    case rel=>
     refine⟨k+1,by go_num,by omega,fw,Ks,?_⟩;rw[tI _ _ _ _ hlt,if_neg HE.out];exact oQ
    case measure=>simp[intOf];omega
  .have hk':k=x.waiting.length:=by omega
   have HK:Hid (k=x.waiting.length):=hk';clear hk';go_wp2_with (with_reducible first|refine aA rfl ?_|refine az 148 rfl ?_|refine az 240 rfl ?_|refine ah 148 rfl ?_|refine ah 240 rfl ?_);refine ax.go (bY rfl 148 _ rfl b5 0 rfl dy 64 br _ _ q5 (byteCells (x.read s)) ?_ ?_ ?_)
   .simp only[List.drop_zero]
    rw[HK.out,List.take_of_length_le (Nat.le_refl _),List.take_of_length_le (by rw[af,bq _ _ hfit _ h.d8];omega)];rfl
   .rw[af];exact bq _ _ hfit _ h.d8
   go_wp2_with (with_reducible first|refine aA rfl ?_|refine az 148 rfl ?_|refine az 240 rfl ?_|refine ah 148 rfl ?_|refine ah 240 rfl ?_);refine ax.go (bT rfl 148 _ _ rfl _ 0 rfl _ rfl 64 br ?_ ?_ _ _ q4 ?_ ?_)
   .simp only[List.size_toArray,af];exact bq _ _ hfit _ h.d8
   .exact byteCells_one _
   .decide
   intro w6 f6 q6;rw[bO _ _ (by simp only[af];rw[show(x.read s).length=64 from bq _ _ hfit _ h.d8];rfl)] at q6;have sR:aR [] w w6:=fk.trans f6 (by simp;omega);go_wp2_with (with_reducible first|refine aA rfl ?_|refine az 148 rfl ?_|refine az 240 rfl ?_|refine ah 148 rfl ?_|refine ah 240 rfl ?_)
   exact kV rfl b4 rfl rfl _ _ q6 dy (by simp only[List.size_toArray,af];rw[show(x.read s).length=64 from bq _ _ hfit _ h.d8];exact br) ⟨rfl,sR⟩
theorem qN {w:World}{b off:Nat}{vs:List Value}{c:Array Value}{u:TypeId}(hr:Row w b c u)(hl:off+vs.length<=c.size)(h1:∀v∈vs,v.oneCell'=true):
  w.setCells b off vs=w.setRow b (over c off vs):=by
 have a1:=run_storeCells_cells (P:=Tryz.prog) b off vs 0 w (fun j hj=>by rw[hr.cell];simp;omega) (fun j hj=>hr.thaw _) h1;have a2:=run_storeCells_at Tryz.prog b off u vs 0 c w hr (by simpa using hl) h1;rw[a1] at a2;simpa [over] using a2
def bI (la:List UInt8)(p:Int×List UInt8):List UInt8:=la.take (64*p.1.toNat)++p.2++la.drop (64*p.1.toNat+64)
theorem fT (la:List UInt8)(p:Int×List UInt8)(h:p.2.length=64)(hf:64*p.1.toNat+64<=la.length):(bI la p).length=la.length:=by
 simp[bI,h];omega
theorem n4 (la:List UInt8)(p:Int×List UInt8)(h:p.2.length=64):over (byteCells la).toArray (p.1.toNat*64) (byteCells p.2)=(byteCells (bI la p)).toArray:=by
 simp[over,bI,byteCells_append,ez,eA,af,h,Nat.mul_comm]
def jg (la:List UInt8)(l:List (Int×List UInt8)):List UInt8:=l.foldl bI la
theorem Cb (la:List UInt8)(l:List (Int×List UInt8))(k:Nat)(hk:k<l.length):jg la (l.take (k+1))=bI (jg la (l.take k)) l[k]:=by
 unfold jg;rw[List.take_succ_eq_append_getElem hk,List.foldl_append];rfl
theorem pM (n:Nat):∀(l:List (Int×List UInt8)) (la:List UInt8),la.length=64*n->(∀p∈l,p.2.length=64)->(∀p∈l,0<=p.1/\p.1<n)->(jg la l).length=64*n
 |[],la,h,_,_=>h
 |p::r,la,h,h1,h2=>by
  have hp:=h2 p (by simp);exact pM n r (bI la p) (by rw[fT _ _ (h1 p (by simp)) (by omega)];exact h) (fun q hq=>h1 q (by simp[hq])) (fun q hq=>h2 q (by simp[hq]))
theorem vl:Tryz.prog.underlying 148=some (.array 64 5):=by kernel_rfl
theorem IE (d bl n:Nat)(vw:Value)(x:DS)(w:World)
  (hm:Calls Tryz.prog 187 #[.pointer (some ⟨d,0,none⟩)] w fun e w'=>e= .returned (.bool true)/\bE w' d bl n vw x/\aR [d] w w'):
  Calls Tryz.prog 149 #[.pointer (some ⟨d,0,none⟩)] w fun e w'=>e= .returned (.int .i64 0)/\bE w' d bl n (.slice none 0 0) {x with aM:=jg x.aM x.waiting,waiting:=[]}/\aR [d,bl] w w':=by
 go_enter Tryz.func149,Tryz.ntmps149;go_wp2_with fail;refine hm.mono ?_;clear hm;rintro e w1 ⟨rfl,h1,f1⟩;have h:=h1;have YG:=h.row.lt;have Yl:=h.last.lt;obtain⟨ad,cap,hvw⟩:=cy h.own;subst hvw;obtain⟨c0,c1,-⟩:=iU h1.row;go_wp2_with fail;have hlen:=h.len
 go_loopw [13] (fun i wr=>∃k:Nat,i= .int .i64 k/\k<=x.waiting.length/\aR [d,bl] w wr/\bE wr d bl n (.slice ad x.waiting.length cap) {x with aM:=jg x.aM (x.waiting.take k)}) (fun i _=>x.waiting.length-(intOf i).toNat)
 case atStart=>exact⟨0,rfl,by omega,f1.mono,by simpa [jg] using h1⟩
 case round=>
  obtain⟨k,rfl,hk,fk,hw⟩:=hrel;clear c0 c1 h1;have gS:=h.few
  by_cases hlt:k<x.waiting.length
  .obtain⟨g,cur,rfl,hg,hle,_,hcs,htk⟩:=e9 (n:=x.waiting.length) hw.own
   have h64:=h.d8 _ (List.getElem_mem hlt);have hin:=h.within _ (List.getElem_mem hlt);have hat:((cur.toList.drop (k*65)).take 65)=dI x.waiting[k]:=by
    rw[cL htk _ _,pU x.waiting h.d8 k hlt]
   clear hcs htk;go_wp2_with (with_reducible first|refine aA rfl ?_|refine az 148 rfl ?_|refine az 240 rfl ?_|refine ah 148 rfl ?_|refine ah 240 rfl ?_);refine ax.go (bY rfl 240 _ rfl g (k*65) rfl sy 65 io _ _ hg _ hat (bX _ h64) ?_);clear hat
   go_wp2_with (with_reducible first|refine aA rfl ?_|refine az 148 rfl ?_|refine az 240 rfl ?_|refine ah 148 rfl ?_|refine ah 240 rfl ?_);refine ax.go (bv rfl 240 rfl jH j9 ?_);intro w4 b7 l7 f4 r7
   go_wp2_with (with_reducible first|refine aA rfl ?_|refine az 148 rfl ?_|refine az 240 rfl ?_|refine ah 148 rfl ?_|refine ah 240 rfl ?_);refine ax.go (bT rfl 240 _ _ rfl _ 0 rfl _ rfl 65 io ?_ ?_ _ _ r7 ?_ ?_)
   .simp only[List.size_toArray];exact bX _ h64
   .intro v hv;simp only[dI,List.mem_cons] at hv;rcases hv with rfl|hv;rfl;exact byteCells_one _ v hv
   .decide
   intro w5 f5 sG;rw[bO _ _ (by rw[bX _ h64];rfl)] at sG;clear r7;have l7':wr.heap.size<=b7:=l7;have mI:aR [] wr w5:=f4.trans f5 (by simpa using l7);have h5:=hw.new mI;have fw:=fk.trans mI;obtain⟨c0,c1,-⟩:=iU h5.row;have e0:w5.cell? ⟨b7,0,none⟩=some (.int .i64 x.waiting[k].1):=by rw[sG.cell];rfl
   have hne:bl≠b7:=by have:=hw.last.lt;omega
   have af3:d≠b7:=by have:=hw.row.lt;omega
   clear fk hw f4 f5 l7;go_wp2_with fail;have hpl:(jg x.aM (x.waiting.take k)).length=64*n:=pM n _ _ h.len (fun p hp=>h.d8 p (List.mem_of_mem_take hp)) (fun p hp=>h.within p (List.mem_of_mem_take hp));have gr:w5.rangeAt b7 1 (byteCells x.waiting[k].2):=fun j v hv=>by rw[sG.cell];simpa [dI,Nat.add_comm] using hv
   have gt:w5.there bl (x.waiting[k].1.toNat*64) 64:=fun j hj=>by rw[h5.last.cell,h5.last.thaw];simp[af,hpl];omega
   have gi:(Tryz.prog.info? 148).map (·.size)=some (byteCells x.waiting[k].2).length:=by rw[af,h64];exact br
   have gl:(byteCells x.waiting[k].2).length=64:=by rw[af,h64]
   have go:=byteCells_one x.waiting[k].2;have gu:=vl;obtain⟨agu,agt⟩:=hin;have hdb:=h.ne
   go_region_held3 (fun w'=>w'.cell? ⟨d,0,none⟩=some (.slice (some ⟨bl,0,none⟩) n n)/\w'.cell? ⟨b7,0,none⟩=some (.int .i64 x.waiting[k].1)/\w'.rangeAt b7 1 (byteCells x.waiting[k].2)/\w'.there bl (x.waiting[k].1.toNat*64) 64) ((go_split_ands;(try simp only[World.rangeAt_drew,World.there_drew,World.cell?_drew] at*);(repeat' constructor)<;>first|assumption|(rw[World.cell?_setCells_out _ _ _ _ _ (by intro e;simp only at e;omega)];assumption)|(apply World.there_setCells;assumption)|(refine World.rangeAt_setCells_apart (by assumption) _ _ _ (by omega)))) (fail)
   have h6:bE (w5.drew.setCells bl (x.waiting[k].1.toNat*64) (byteCells x.waiting[k].2)) d bl n (.slice (some ⟨g,0,none⟩) x.waiting.length cap) {x with aM:=jg x.aM (x.waiting.take (k+1))}/\
     aR [d,bl] w (w5.drew.setCells bl (x.waiting[k].1.toNat*64) (byteCells x.waiting[k].2)):=by
    rw[qN (w:=w5.drew) h5.last (by simp[af,hpl,h64];omega) go,n4 _ _ h64,Cb _ _ _ hlt];have fd:aR [bl] w5 (w5.drew.setRow bl (byteCells (bI (jg x.aM (x.waiting.take k)) x.waiting[k])).toArray):=(aR.drew [bl] w5).trans (aR.setRow [bl] _ _ _ (by simp))
    refine⟨{h5 with row:=fd.row h5.row (by simpa using h5.ne),last:=h5.last.setRow (w:=w5.drew) _,len:=?_,own:=fd.owns h5.own (by simpa using h5.AY)},fw.trans fd⟩;rw[fT _ _ h64 (by rw[hpl];omega)];exact hpl
   obtain⟨h6,f6⟩:=h6;clear gr gt h5 fw sG gi gl go gu c0 c1 e0;generalize w5.drew.setCells bl (x.waiting[k].1.toNat*64) (byteCells x.waiting[k].2)=w6 at h6 f6⊢;go_wp2_with fail
   go_roundw
   case rel=>exact⟨k+1,by go_num,by omega,f6,h6⟩
   case measure=>simp[intOf];omega
  .have HK:Hid (k=x.waiting.length):=(by omega:k=x.waiting.length)
   have hkd:Hid (List.take k x.waiting=x.waiting):=by show _=_;rw[HK.out,List.take_of_length_le (Nat.le_refl _)]
   obtain⟨c0,c1,-⟩:=iU hw.row;have hf:=hw.row.thaw;go_wp2_with fail;go_ret;rw[hkd.out] at hw;have fs:aR [d] wr (wr.setCell ⟨d,1,none⟩ (.slice none 0 0)):=aR.setCell _ _ _ _
   refine⟨rfl,{row:=hw.row.setCell 1 _,last:=fs.row hw.last (by simpa using fun e=>hw.ne e.symm),len:=hw.len,own:=World.ownsRow_nil _ _ _ _,d8:=by simp,within:=by simp,lo:=h.lo,hi:=h.hi,few:=by simp,ne:=h.ne,ne1:=by simp[Value.ownBlock],AY:=by simp[Value.ownBlock],nil:=fun _=>rfl},fk.trans fs⟩
theorem CQ (d:Nat)(w:World)(R:World->Prop)(hm:Calls Tryz.prog 187 #[.pointer (some ⟨d,0,none⟩)] w fun e w'=>e= .returned (.bool false)/\R w'):
  Calls Tryz.prog 149 #[.pointer (some ⟨d,0,none⟩)] w fun e w'=>e= .returned (.int .i64 3)/\R w':=by
 go_enter Tryz.func149,Tryz.ntmps149;go_wp2_with fail;refine hm.mono ?_;rintro e w1 ⟨rfl,h1⟩;go_wp2_with fail;go_ret;exact⟨rfl,h1⟩
def kZ (keep:Int)(k:Nat):Bool:=bits BinOp.and .i64 (keep/2^k) 1==1
def fE (keep:Int)(la:List UInt8)(l:List (Int×List UInt8)):Nat->List UInt8
 |0=>la
 |k+1=>match l[k]? with
  |some p=>if kZ keep k then bI (fE keep la l k) p else fE keep la l k
  |none=>fE keep la l k
theorem Eo (keep:Int)(la:List UInt8)(l:List (Int×List UInt8))(k:Nat)(hk:k<l.length)(h:kZ keep k=true):fE keep la l (k+1)=bI (fE keep la l k) l[k]:=by simp[fE,hk,h]
theorem Ir (keep:Int)(la:List UInt8)(l:List (Int×List UInt8))(k:Nat)(h:kZ keep k=false):fE keep la l (k+1)=fE keep la l k:=by
 simp only[fE];split<;>simp[h]
theorem lI (keep:Int)(n:Nat)(la:List UInt8)(l:List (Int×List UInt8))(h:la.length=64*n)(h1:∀p∈l,p.2.length=64)(h2:∀p∈l,0<=p.1/\p.1<n):∀k,(fE keep la l k).length=64*n
 |0=>h
 |k+1=>by
  have ih:=lI keep n la l h h1 h2 k;simp only[fE];split
  .rename_i p hp
   have hm:=List.mem_of_getElem? hp;have:=h2 p hm;split
   .rw[fT _ _ (h1 p hm) (by omega)];exact ih
   .exact ih
  .exact ih
theorem LM (d bl n:Nat)(vw:Value)(x:DS)(w:World)(h:bE w d bl n vw x):
  Calls Tryz.prog 210 #[.pointer (some ⟨d,0,none⟩)] w fun e w'=>e= .returned (.tuple #[])/\bE w' d bl n (.slice none 0 0) {x with aM:=fE x.keep x.aM x.waiting x.waiting.length,waiting:=[],failed:=true}/\aR [d,bl] w w':=by
 have YG:=h.row.lt;have Yl:=h.last.lt;obtain⟨ad,cap,hvw⟩:=cy h.own;subst hvw;obtain⟨c0,c1,-⟩:=iU h.row;go_enter Tryz.func210,Tryz.ntmps210;go_wp2_with fail;have hlen:=h.len
 go_loopw [9] (fun i wr=>∃k:Nat,i= .int .i64 k/\k<=x.waiting.length/\aR [d,bl] w wr/\bE wr d bl n (.slice ad x.waiting.length cap) {x with aM:=fE x.keep x.aM x.waiting k}) (fun i _=>x.waiting.length-(intOf i).toNat)
 case atStart=>exact⟨0,rfl,by omega,aR.refl _ _,h⟩
 case round=>
  obtain⟨k,rfl,hk,fk,hw⟩:=hrel;clear c0 c1;have gS:=h.few
  by_cases hlt:k<x.waiting.length
  .obtain⟨g,cur,rfl,hg,hle,_,hcs,htk⟩:=e9 (n:=x.waiting.length) hw.own
   have h64:=h.d8 _ (List.getElem_mem hlt);have hin:=h.within _ (List.getElem_mem hlt);have hat:((cur.toList.drop (k*65)).take 65)=dI x.waiting[k]:=by
    rw[cL htk _ _,pU x.waiting h.d8 k hlt]
   clear hcs htk;go_wp2_with (with_reducible first|refine aA rfl ?_|refine az 148 rfl ?_|refine az 240 rfl ?_|refine ah 148 rfl ?_|refine ah 240 rfl ?_);refine ax.go (bY rfl 240 _ rfl g (k*65) rfl sy 65 io _ _ hg _ hat (bX _ h64) ?_);clear hat
   go_wp2_with (with_reducible first|refine aA rfl ?_|refine az 148 rfl ?_|refine az 240 rfl ?_|refine ah 148 rfl ?_|refine ah 240 rfl ?_);refine ax.go (bv rfl 240 rfl jH j9 ?_);intro w4 b7 l7 f4 r7
   go_wp2_with (with_reducible first|refine aA rfl ?_|refine az 148 rfl ?_|refine az 240 rfl ?_|refine ah 148 rfl ?_|refine ah 240 rfl ?_);refine ax.go (bT rfl 240 _ _ rfl _ 0 rfl _ rfl 65 io ?_ ?_ _ _ r7 ?_ ?_)
   .simp only[List.size_toArray];exact bX _ h64
   .intro v hv;simp only[dI,List.mem_cons] at hv;rcases hv with rfl|hv;rfl;exact byteCells_one _ v hv
   .decide
   intro w5 f5 sG;rw[bO _ _ (by rw[bX _ h64];rfl)] at sG;clear r7;have l7':wr.heap.size<=b7:=l7;have mI:aR [] wr w5:=f4.trans f5 (by simpa using l7);have h5:=hw.new mI;have fw:=fk.trans mI;obtain⟨c0,c1,c2,c3,c4,c5,c6⟩:=iU h5.row;have e0:w5.cell? ⟨b7,0,none⟩=some (.int .i64 x.waiting[k].1):=by rw[sG.cell];rfl
   have hne:bl≠b7:=by have:=hw.last.lt;omega
   have af3:d≠b7:=by have:=hw.row.lt;omega
   clear fk hw f4 f5 l7
   by_cases hb:kZ x.keep k=true
   .have HB:Hid (kZ x.keep k=true):=hb
    unfold kZ at hb;go_wp2_with fail;have hpl:(fE x.keep x.aM x.waiting k).length=64*n:=lI _ n _ _ h.len h.d8 h.within k;have gr:w5.rangeAt b7 1 (byteCells x.waiting[k].2):=fun j v hv=>by rw[sG.cell];simpa [dI,Nat.add_comm] using hv
    have gt:w5.there bl (x.waiting[k].1.toNat*64) 64:=fun j hj=>by rw[h5.last.cell,h5.last.thaw];simp[af,hpl];omega
    have gi:(Tryz.prog.info? 148).map (·.size)=some (byteCells x.waiting[k].2).length:=by rw[af,h64];exact br
    have gl:(byteCells x.waiting[k].2).length=64:=by rw[af,h64]
    have go:=byteCells_one x.waiting[k].2;have gu:=vl;obtain⟨agu,agt⟩:=hin;have hdb:=h.ne
    go_region_held3 (fun w'=>w'.cell? ⟨d,0,none⟩=some (.slice (some ⟨bl,0,none⟩) n n)/\w'.cell? ⟨b7,0,none⟩=some (.int .i64 x.waiting[k].1)/\w'.rangeAt b7 1 (byteCells x.waiting[k].2)/\w'.there bl (x.waiting[k].1.toNat*64) 64) ((go_split_ands;(try simp only[World.rangeAt_drew,World.there_drew,World.cell?_drew] at*);(repeat' constructor)<;>first|assumption|(rw[World.cell?_setCells_out _ _ _ _ _ (by intro e;simp only at e;omega)];assumption)|(apply World.there_setCells;assumption)|(refine World.rangeAt_setCells_apart (by assumption) _ _ _ (by omega)))) (fail)
    have h6:bE (w5.drew.setCells bl (x.waiting[k].1.toNat*64) (byteCells x.waiting[k].2)) d bl n (.slice (some ⟨g,0,none⟩) x.waiting.length cap) {x with aM:=fE x.keep x.aM x.waiting (k+1)}/\
      aR [d,bl] w (w5.drew.setCells bl (x.waiting[k].1.toNat*64) (byteCells x.waiting[k].2)):=by
     rw[qN (w:=w5.drew) h5.last (by simp[af,hpl,h64];omega) go,n4 _ _ h64,Eo _ _ _ _ hlt HB.out];have fd:aR [bl] w5 (w5.drew.setRow bl (byteCells (bI (fE x.keep x.aM x.waiting k) x.waiting[k])).toArray):=(aR.drew [bl] w5).trans (aR.setRow [bl] _ _ _ (by simp))
     refine⟨{h5 with row:=fd.row h5.row (by simpa using h5.ne),last:=h5.last.setRow (w:=w5.drew) _,len:=?_,own:=fd.owns h5.own (by simpa using h5.AY)},fw.trans fd⟩;rw[fT _ _ h64 (by rw[hpl];omega)];exact hpl
    obtain⟨h6,f6⟩:=h6;clear gr gt h5 fw sG gi gl go gu c0 c1 e0;generalize w5.drew.setCells bl (x.waiting[k].1.toNat*64) (byteCells x.waiting[k].2)=w6 at h6 f6⊢;go_wp2_with fail
    go_roundw
    case rel=>exact⟨k+1,by go_num,by omega,f6,h6⟩
    case measure=>simp[intOf];omega
   .have HB:Hid (kZ x.keep k=false):=(by simpa using hb:kZ x.keep k=false)
    have hb':(bits BinOp.and .i64 (x.keep/2^k) 1==1)=false:=HB.out;clear hb;go_wp2_with fail
    go_roundw
    case rel=>exact⟨k+1,by go_num,by omega,fw,by rw[Ir _ _ _ _ HB.out];exact h5⟩
    case measure=>simp[intOf];omega
  .have HK:Hid (k=x.waiting.length):=(by omega:k=x.waiting.length)
   obtain⟨c0,c1,c2,c3,c4,c5,c6⟩:=iU hw.row;have hf:=hw.row.thaw;have hlast:=hw.last;rw[HK.out] at hlast;have hl2:=lI x.keep n _ _ h.len h.d8 h.within x.waiting.length;go_wp2_with fail
   go_end0
   have fs:aR [d] wr ((wr.setCell ⟨d,1,none⟩ (.slice none 0 0)).setCell ⟨d,6,none⟩ (.bool true)):=(aR.setCell [d] _ _ _ (by simp)).trans (aR.setCell [d] _ _ _ (by simp))
   refine⟨rfl,{row:=(hw.row.setCell 1 _).setCell 6 _,last:=fs.row hlast (by simpa using fun e=>hw.ne e.symm),len:=hl2,own:=World.ownsRow_nil _ _ _ _,d8:=by simp,within:=by simp,lo:=h.lo,hi:=h.hi,few:=by simp,ne:=h.ne,ne1:=by simp[Value.ownBlock],AY:=by simp[Value.ownBlock],nil:=fun _=>rfl},fk.trans fs⟩
def DS.fall (x:DS):DS:={x with aM:=fE x.keep x.aM x.waiting x.waiting.length,waiting:=[],failed:=true}
def DS.iC (x:DS):DS:={x with left:=if x.given then x.left-1 else x.left,acts:=x.acts+1}
def DS.bp (x:DS):Bool:=!x.failed&&!(x.given&&x.left==0)
def DS.stopped (x:DS):DS:=if x.failed then x else x.fall
theorem wq (d bl n:Nat)(vw:Value)(x:DS)(w:World)(h:bE w d bl n vw x)(hf:x.failed=true):
  Calls Tryz.prog 187 #[.pointer (some ⟨d,0,none⟩)] w fun e w'=>e= .returned (.bool false)/\w'=w:=by
 obtain⟨c0,c1,c2,c3,c4,c5,c6⟩:=iU h.row;rw[hf] at c6;clear hf;go_enter Tryz.func187,Tryz.ntmps187;go_wp2_with fail;go_ret;exact⟨rfl,rfl⟩
theorem y9 (d bl n:Nat)(vw:Value)(x:DS)(w:World)(h:bE w d bl n vw x)(hf:x.failed=false)(hg:x.given=true)(hl:x.left=0):
  Calls Tryz.prog 187 #[.pointer (some ⟨d,0,none⟩)] w fun e w'=>e= .returned (.bool false)/\bE w' d bl n (.slice none 0 0) x.fall/\aR [d,bl] w w':=by
 obtain⟨c0,c1,c2,c3,c4,c5,c6⟩:=iU h.row;rw[hf] at c6;rw[hg] at c3;rw[hl] at c4;clear hf hg hl;go_enter Tryz.func187,Tryz.ntmps187;go_wp2_with fail;refine(LM d bl n vw x _ h).mono ?_;rintro e w1 ⟨rfl,h1,f1⟩;go_wp2_with fail;go_ret;exact⟨rfl,h1,f1⟩
theorem Cm (d bl n:Nat)(vw:Value)(x:DS)(w:World)(h:bE w d bl n vw x)(hc:x.bp=true)(hl:0<=x.left)(hl2:x.left<=9223372036854775807)(ha:0<=x.acts)(ha2:x.acts<1000000000):
  Calls Tryz.prog 187 #[.pointer (some ⟨d,0,none⟩)] w fun e w'=>e= .returned (.bool true)/\bE w' d bl n vw x.iC/\aR [d] w w':=by
 obtain⟨c0,c1,c2,c3,c4,c5,c6⟩:=iU h.row;have hth:=h.row.thaw;have hdb:=h.ne;have hf:x.failed=false:=by simp[DS.bp] at hc;exact hc.1
 rw[hf] at c6
 by_cases hg:x.given=true
 .have hz:(x.left==0)=false:=by simp[DS.bp,hg] at hc;simpa using hc.2
  have hz':x.left≠0:=by simpa using hz
  rw[hg] at c3;have HG:Hid (x.given=true):=hg;clear hg hf hc;go_enter Tryz.func187,Tryz.ntmps187;go_wp2_with fail;go_ret;have fs:aR [d] w ((w.setCell ⟨d,4,none⟩ (.int .i64 (x.left-1))).setCell ⟨d,2,none⟩ (.int .i64 (x.acts+1))):=(aR.setCell [d] _ _ _ (by simp)).trans (aR.setCell [d] _ _ _ (by simp));refine⟨rfl,h.reset fs ?_ rfl rfl,fs⟩
  have:=(h.row.setCell 4 (.int .i64 (x.left-1))).setCell 2 (.int .i64 (x.acts+1));simpa [iq,DS.iC,HG.out] using this
 .have hg':x.given=false:=by simpa using hg
  rw[hg'] at c3;have HG:Hid (x.given=false):=hg';clear hg hf hc hg';go_enter Tryz.func187,Tryz.ntmps187;go_wp2_with fail;go_ret;have fs:aR [d] w (w.setCell ⟨d,2,none⟩ (.int .i64 (x.acts+1))):=aR.setCell [d] _ _ _ (by simp);refine⟨rfl,h.reset fs ?_ rfl rfl,fs⟩;have:=h.row.setCell 2 (.int .i64 (x.acts+1));simpa [iq,DS.iC,HG.out] using this
end
section
open Go.RowKit
theorem Ib (c:Array Value)(o:Nat)(v:Value)(r:List Value)(h:o+r.length+1<=c.size):over (c.setIfInBounds o v) (o+1) r=over c o (v::r):=by
 unfold over
 congr 1
 have:=list_seg_step c.toList o v r (by simpa [Nat.add_assoc] using h);simp only[Array.toList_setIfInBounds];rw[this];simp
theorem zn:∀(l:List Value) (k off:Nat) (cells:Array Value),off+k+l.length<=cells.size->
  (l.zipIdx k).foldl (fun cs (x:Value×Nat)=>cs.setIfInBounds (off+x.2) x.1) cells=over cells (off+k) l
 |[],k,off,cells,_=>by simp[over]
 |v::r,k,off,cells,h=>by
  simp only[List.zipIdx_cons,List.foldl_cons];simp only[List.length_cons] at h;rw[zn r (k+1) off _ (by simp;omega),<-Nat.add_assoc,Ib _ _ _ _ (by omega)]
theorem sU (place:Nat->Option (Nat×Nat))(cells:Array Value)(i:Nat)(v:Value)(rest:List (Nat×Value))(off size:Nat)(hp:place i=some (off,size))(hs:v.cells.size=size)(hf:off+size<=cells.size):
  Instr.fill place cells ((i,v)::rest)=Instr.fill place (over cells off v.cells.toList) rest:=by
 subst hs;have hz:v.cells.zipIdx.foldl (fun cs (x:Value×Nat)=>cs.setIfInBounds (off+x.2) x.1) cells=over cells off v.cells.toList:=by
  rw[<-Array.foldl_toList,Array.toList_zipIdx];exact zn v.cells.toList 0 off cells (by simpa using hf)
 simp only[Instr.fill,hp];rw[if_neg (by simp;omega)];exact congrArg (fun c=>Instr.fill place c rest) hz
section
variable {P:Program}{w:World}{o:Oper}{ρ:Operand->Value}
theorem gU (t:TypeId)(ps:Array (Nat×Operand))(ho:o.op= .build t ps)(cells:Array Value)(hb:P.built t (ps.toList.map fun x=>(x.1,ρ x.2))=some cells):(execOp ρ o).run P w= .ok (.value (.agg cells)) w:=by
 have:=run_build (P:=P) w t (ps.map fun x=>(x.1,ρ x.2)) cells (by simpa using hb);simp only[execOp,ho,Sem.run_bind];rw[this];rfl
theorem rJ (t:TypeId)(x:Operand)(ho:o.op= .load t x)(b off:Nat)(hx:ρ x= .pointer (some ⟨b,off,none⟩))(hu:(P.underlying t).map TypeDesc.isRow=some true)(n:Nat)(hi:(P.info? t).map (·.size)=some n)
  (c:Array Value) (u:TypeId) (hr:Row w b c u) (vs:List Value) (hv:(c.toList.drop off).take n=vs) (hl:vs.length=n):(execOp ρ o).run P w= .ok (.value (.agg vs.toArray)) w:=by
 obtain⟨d,hu',hd⟩:=Option.map_eq_some_iff.1 hu;have:=run_loadAt_mid (P:=P) w b off t vs d (fun j v hj=>by
  rw[hr.cell];subst hv;rw[List.getElem?_take] at hj;split at hj
  .simpa [List.getElem?_drop] using hj
  .cases hj) hu' hd (by rw[hi,hl])
 simp only[execOp,ho,hx,Sem.run_bind];rw[this];rfl
theorem sV (t e:TypeId)(x:Operand)(ho:o.op= .buildSlice t 1 #[(0,x)])(hu:P.underlying t=some (.slice e))(i:TypeInfo)(z v:Value)(hi:P.info? e=some i)(hz:i.zero=some z)(h0:0<i.size)(h24:i.size<=1000)
  (hx:ρ x=v) (hv:v.cells.size=i.size):(execOp ρ o).run P w= .ok (.value (.slice (some ⟨w.heap.size,0,none⟩) 1 1)) (w.alloc (.cells v.cells e)):=by
 have hf:Instr.fill (fun j=>some (j*i.size,i.size)) ((Array.range (1*i.size)).map (z.cells[·%z.cells.size]!)) [(0,v)]=some v.cells:=by
  rw[sU _ _ 0 v [] 0 i.size (by simp) hv (by simp)];simp only[Instr.fill];rw[bO _ _ (by simp[hv])]
 have h1:¬i.size>2^24:=by omega
 have h2:¬i.size=0:=by omega
 have h3:zeroValue e=(do match(<-typeInfo e).zero with|some v=>pure v|none=>unsupported (.resourceLimit "a value of more than 2^22 cells")):=rfl;simp only[Nat.one_mul] at hf;simp[execOp,ho,hx,Instr.buildSlice,run_underlying hu,sizeOf,typeInfo,hi,h1,h2,zeroValue,hz,hf,newRow]
theorem Gr (d s:Operand)(dT sT elem:TypeId)(ho:o.op= .call {callee:= .builtin .copy,args:=#[d,s],argTypes:=#[dT,sT]})(hu:P.underlying dT=some (.slice elem))(hs:(P.info? elem).map (·.size)=some 1)
  (g off dLen dCap:Nat) (hd:ρ d= .slice (some ⟨g,off,none⟩) dLen dCap) (b o2 sLen sCap:Nat) (hx:ρ s= .slice (some ⟨b,o2,none⟩) sLen sCap) (cur:Array Value) (t:TypeId) (hg:Row w g cur t)
  (acJ:Array Value) (u:TypeId) (hb:Row w b acJ u) (cs:List Value) (hc:(acJ.toList.drop o2).take (Nat.min sLen dLen)=cs) (hn:cs.length=Nat.min sLen dLen) (hfit:off+cs.length<=cur.size) (h1:∀v∈cs,v.oneCell'=true):
  (execOp ρ o).run P w= .ok (.value (goInt cs.length)) (w.setRow g (over cur off cs)):=by
 have:=run_copy_row (P:=P) w dT sT o.type elem g off dLen dCap ⟨b,o2,none⟩ sLen sCap cur t cs hu hs hg hn (fun j v hv=>by
  rw[Addr.add_mid,hb.cell];subst hc;rw[List.getElem?_take] at hv;split at hv
  .simpa [List.getElem?_drop] using hv
  .cases hv) hfit h1
 simp only[execOp,ho,resolve,invoke,builtin,Sem.run_bind,Sem.run_pure,Result.andThen_ok,List.map_toArray,List.map_cons,List.map_nil,hd,hx,this];rfl
theorem k8 (d s:Operand)(dT sT elem:TypeId)(ho:o.op= .call {callee:= .builtin .copy,args:=#[d,s],argTypes:=#[dT,sT]})(hu:P.underlying dT=some (.slice elem))(g off dLen dCap:Nat)(hd:ρ d= .slice (some ⟨g,off,none⟩) dLen dCap)(str:ByteArray)(hx:ρ s= .string str)(cur:Array Value)(t:TypeId)(hg:Row w g cur t)(hfit:off+Nat.min str.size dLen<=cur.size)(hs:(P.info? elem).map (·.size)=some 1:=by kernel_rfl):
  (execOp ρ o).run P w= .ok (.value (goInt (Nat.min str.size dLen))) (w.setRow g (over cur off (Lib.byteCells (str.data.toList.take dLen)))):=by
 have hsz:str.data.toList.length=str.size:=by rw[Array.length_toList];rfl
 have hl:(Lib.byteCells (str.data.toList.take dLen)).length=Nat.min str.size dLen:=by
  simp only[Lib.byteCells,List.length_map,List.length_take,hsz];exact Nat.min_comm _ _
 have h1:∀v∈Lib.byteCells (str.data.toList.take dLen),v.oneCell'=true:=by
  intro v hv;simp only[Lib.byteCells,List.mem_map] at hv;obtain⟨b,_,rfl⟩:=hv;rfl
 have hst:=run_storeCells_at P g off t (Lib.byteCells (str.data.toList.take dLen)) 0 cur w hg (by rw[hl];simpa using hfit) h1;have e:Lib.byteCells (str.data.toList.take dLen)=(str.data.toList.map fun b=>Value.int .u8 b.toNat).take (Nat.min str.size dLen):=by
  have:str.data.toList.take (Nat.min str.size dLen)=str.data.toList.take dLen:=by
   rw[<-hsz,show Nat.min str.data.toList.length dLen=min dLen str.data.toList.length from Nat.min_comm _ _,<-List.take_take,List.take_of_length_le (Nat.le_refl _)]
  rw[<-List.map_take,this];rfl
 rw[e] at hst⊢;have:(Builtin.copy_ #[dT,sT] o.type #[.slice (some ⟨g,off,none⟩) dLen dCap,.string str]).run P w= .ok (goInt (Nat.min str.size dLen)) (w.setRow g (over cur off ((str.data.toList.map fun b=>Value.int .u8 b.toNat).take (Nat.min str.size dLen)))):=by
  cases hq:P.info? elem with
  |none=>simp[hq] at hs
  |some i=>
   simp only[Nat.add_zero] at hst;simp[Builtin.copy_,run_underlying hu,Builtin.lenOf,Builtin.firstCells,sizeOf,typeInfo,hq,hst,over]
 simp only[execOp,ho,resolve,invoke,builtin,Sem.run_bind,Sem.run_pure,Result.andThen_ok,List.map_toArray,List.map_cons,List.map_nil,hd,hx,this]
theorem lJ (t e:TypeId)(n:Nat)(x l:Operand)(ho:o.op= .slice t x (some l) none none)(hu:P.underlying t=some (.array n e))(hs:(P.info? e).map (·.size)=some 1)
  (b off:Nat) (hx:ρ x= .pointer (some ⟨b,off,none⟩)) (k:Int) (hl:ρ l= .int .i64 k) (h0:0<=k) (hk:k<n) (q r:Nat) (e1:off+k.toNat=q) (e2:n-k.toNat=r):(execOp ρ o).run P w= .ok (.value (.slice (some ⟨b,q,none⟩) r r)) w:=by
 subst e1;subst e2;cases hq:P.info? e with
 |none=>simp[hq] at hs
 |some i=>
  have hi:i.size=1:=by simpa [hq] using hs
  have h2:k<=n:=by omega
  have h3:¬n=k.toNat:=by omega
  simp[execOp,ho,hx,hl,Instr.sliceAt,run_underlying hu,Instr.sureAddr,Instr.sliceBounds,Instr.sliceBound,asIntOf,h0,h2,h3,sizeOf,typeInfo,hq,hi,Addr.add_mid]
theorem jM (t e:TypeId)(n:Nat)(x l m:Operand)(ho:o.op= .slice t x (some l) (some m) none)(hu:P.underlying t=some (.array n e))(hs:(P.info? e).map (·.size)=some 1)
  (b off:Nat) (hx:ρ x= .pointer (some ⟨b,off,none⟩)) (k j:Int) (hl:ρ l= .int .i64 k) (hm:ρ m= .int .i64 j) (h0:0<=k) (hk:k<n) (hkj:k<=j) (hj:j<=n) (q r c:Nat) (e1:off+k.toNat=q) (e2:j.toNat-k.toNat=r) (e3:n-k.toNat=c):
  (execOp ρ o).run P w= .ok (.value (.slice (some ⟨b,q,none⟩) r c)) w:=by
 subst e1;subst e2;subst e3;cases hq:P.info? e with
 |none=>simp[hq] at hs
 |some i=>
  have hi:i.size=1:=by simpa [hq] using hs
  have h1:0<=j:=by omega
  have h2:k<=(j.toNat:Int):=by omega
  have h3:¬n=k.toNat:=by omega
  have h4:k<=max j 0:=by omega
  simp[execOp,ho,hx,hl,hm,Instr.sliceAt,run_underlying hu,Instr.sureAddr,Instr.sliceBounds,Instr.sliceBound,asIntOf,h0,h1,hj,h4,h3,sizeOf,typeInfo,hq,hi,Addr.add_mid]
structure Elem (P:Program)(t e:TypeId)(size bytes:Nat):Prop where
 slice:P.underlying t=some (.slice e)
 info:(P.info? e).map (fun i=>(i.size,i.bytes,i.zero.map (·.cells.size)))=some (size,bytes,some size)
 pos:0<size
theorem Elem.open {t e:TypeId}{size bytes:Nat}(E:Elem P t e size bytes):∃i z,P.info? e=some i/\i.zero=some z/\i.size=size/\i.bytes=bytes/\z.cells.size=size:=by
 have h:=E.info;cases hq:P.info? e with
 |none=>rw[hq] at h;cases h
 |some i=>
  rw[hq] at h;simp only[Option.map_some,Option.some.injEq,Prod.mk.injEq] at h;obtain⟨h1,h2,h3⟩:=h;cases hz:i.zero with
  |none=>rw[hz] at h3;cases h3
  |some z=>rw[hz] at h3;exact⟨i,z,rfl,hz,h1,h2,by simpa using h3⟩
end
section
variable {P:Program}{ops:Array Oper}{Q:Exit->Act->World->Prop}{a:Act}{w:World}{rest:List Oper}{o:Oper}
theorem cg {s x:Operand}{t u:TypeId}(_:o.op= .call {callee:= .builtin .append,args:=#[s,x],argTypes:=#[t,u]})(h:ax (wpList P ops Q (o::rest) a w)):wpList P ops Q (o::rest) a w:=h
theorem ce {t:TypeId}{n:Nat}{ps:Array (Nat×Operand)}(_:o.op= .buildSlice t n ps)(h:ax (wpList P ops Q (o::rest) a w)):wpList P ops Q (o::rest) a w:=h
theorem iv (hg:o.guard=none)(t e:TypeId)(size bytes:Nat)(E:Elem P t e size bytes)(x:Operand)(ho:o.op= .buildSlice t 1 #[(0,x)])(v:Value)(hx:a.eval x=v)(hv:v.cells.size=size)(h:∀(w1:World) (b:Nat),w.heap.size<=b->aR [] w w1->Row w1 b v.cells e->wpList P ops Q rest (a.put o.dst (.slice (some ⟨b,0,none⟩) 1 1)) w1)(h24:size<=1000:=by omega):wpList P ops Q (o::rest) a w:=by
 obtain⟨i,z,hi,hz,hs,hb,hzs⟩:=E.open;have h0:=E.pos;exact cN hg _ _ (sV t e x ho E.slice i z v hi hz (by omega) (by omega) hx (by omega)) (h _ _ (Nat.le_refl _) (aR.alloc _ _ _) (Row.new _ _ _))
theorem yJ {K:Act->World->Prop}(t e:TypeId)(size bytes:Nat)(E:Elem P t e size bytes)(s x:Operand)
  (ho:o.op= .call {callee:= .builtin .append,args:=#[s,x],argTypes:=#[t,t]}) (base:Nat) (v:Value) (n:Nat) (xs:List Value) (hs:a.eval s=v) (hown:w.ownsRow base e size v n xs)
  (b m c:Nat) (news:List Value) (hx:a.eval x= .slice (some ⟨b,0,none⟩) m c) (cur:Array Value) (u:TypeId) (hr:Row w b cur u) (hn:cur.toList.take (m*size)=news) (hl:news.length=m*size) (h1:∀v∈news,v.oneCell'=true) (hm:0<m)
  (hsmall:n+m<=1048576) (hbytes:bytes<=1048576) (hbase:base<=w.heap.size)
  (h:∀g cap w',w'.ownsRow base e size (.slice (some ⟨g,0,none⟩) (n+m) cap) (n+m) (xs++news)->aR v.ownBlock.toList w w'->(v.ownBlock=some g\/w.heap.size<=g)->K (a.put o.dst (.slice (some ⟨g,0,none⟩) (n+m) cap)) w'):o.wp P a w K Q:=by
 obtain⟨i,z,hi,hz,hsz,hb,hzs⟩:=E.open;refine wp_append_lies w s x t ho base e i z size bytes E.slice hi hz hsz hb hzs E.pos v n xs hs hown ⟨b,0,none⟩ m c news hx hl (fun j u hu=>?_) h1 hm (by simp[maxLen];omega) ?_ hbase w.heap.size rfl (fun g cap w' o1 o2 o3 _=>h g cap w' o1 (aR.grown o2) (o3.imp id (by omega)))
 .rw[Addr.add_mid,hr.cell]
  subst hn;rw[List.getElem?_take] at hu;split at hu
  .simpa using hu
  .cases hu
 .exact Nat.le_trans (Nat.mul_le_mul hsmall hbytes) (by decide)
theorem i7 (hg:o.guard=none)(t e:TypeId)(size bytes:Nat)(E:Elem P t e size bytes)(s x:Operand)
  (ho:o.op= .call {callee:= .builtin .append,args:=#[s,x],argTypes:=#[t,t]}) (base:Nat) (v:Value) (n:Nat) (xs:List Value) (hs:a.eval s=v) (hown:w.ownsRow base e size v n xs)
  (b m c:Nat) (news:List Value) (hx:a.eval x= .slice (some ⟨b,0,none⟩) m c) (cur:Array Value) (u:TypeId) (hr:Row w b cur u) (hn:cur.toList.take (m*size)=news) (hl:news.length=m*size) (h1:∀v∈news,v.oneCell'=true) (hm:0<m)
  (hsmall:n+m<=1048576) (hbytes:bytes<=1048576) (hbase:base<=w.heap.size)
  (h:∀g cap w',w'.ownsRow base e size (.slice (some ⟨g,0,none⟩) (n+m) cap) (n+m) (xs++news)->aR v.ownBlock.toList w w'->(v.ownBlock=some g\/w.heap.size<=g)->wpList P ops Q rest (a.put o.dst (.slice (some ⟨g,0,none⟩) (n+m) cap)) w'):wpList P ops Q (o::rest) a w:=
 wpList_plain hg fun _ hK=>yJ t e size bytes E s x ho base v n xs hs hown b m c news hx cur u hr hn hl h1 hm hsmall hbytes hbase fun g cap w' o1 o2 o3=>hK _ _ (h g cap w' o1 o2 o3)
end
def eC (P:Program)(C:World->Prop)(o:Oper):Prop:=∀ρ w,C w->match(execOp ρ o).run P w with
 |.ok (.value _) w'=>C w'
 |.ok .skip w'=>C w'
 |.ok _ _=>False
 |.halt _ _=>True
def Gives (P:Program)(C:World->Prop)(e:Sem Next)(v:Value):Prop:=∀w,C w->match e.run P w with
 |.ok (.value u) w'=>u=v/\w'=w
 |.ok (.enter f args) w'=>w'=w/\Calls P f args w (fun e x=>e= .returned v/\x=w)
 |_=>False
section
variable {P:Program}{ops:Array Oper}{Q:Exit->Act->World->Prop}{md:Region.Mode}{C:World->Prop}
theorem Gives.wp {o:Oper}{a:Act}{v:Value}{w:World}{K:Act->World->Prop}(h:Gives P C (execOp a.eval o) v)(hC:C w)(hK:K (a.put o.dst v) w):o.wp P a w K Q:=by
 have:=h w hC;unfold Oper.wp;cases hr:(execOp a.eval o).run P w with
 |ok n w'=>
  rw[hr] at this;cases n<;>simp only[Oper.upon] at this⊢
  case value u=>obtain⟨rfl,rfl⟩:=this;exact hK
  case enter f args=>
   obtain⟨rfl,hc⟩:=this;refine hc.mono ?_;rintro e x ⟨rfl,rfl⟩;exact hK
 |halt x w'=>rw[hr] at this;exact this.elim
theorem Gives.val {e:Sem Next}{v:Value}(h:∀w,C w->e.run P w= .ok (.value v) w):Gives P C e v:=fun w hw=>by
 rw[h w hw];exact⟨rfl,rfl⟩
theorem Je {i:Nat}{oi:Oper}{v:Value}(hi:ops[i]? =some oi)(hsel:∀(j:Nat) (o:Oper) cs b,ops[j]? =some o->o.op≠.select cs b)
  (hQ:∀c a w,Q (.panic c) (a.put oi.dst v) w->Q (.panic c) a w):
  ∀(fuel:Nat) (listed:Array Bool) (a:Act) (w:World),
   (∀j oj,ops[j]? =some oj->j≠i->listed.getD j true=false->(∀e∈oj.after,Region.binds md e=true->e.on≠i)->oi.apart ops oj=true/\eC P C oj)->
   i∈Region.ready md ops listed->Region.wanted oi (yielded ops a.tmps)=true->Gives P C (execOp a.eval oi) v->C w->
   wpAny P md ops Q fuel (listed.setIfInBounds i true) (a.put oi.dst v) w->wpAny P md ops Q (fuel+1) listed a w:=by
 intro fuel
 induction fuel with
 |zero=>
  intro listed a w _ hr hw hy hC H;refine⟨fun h=>(by rw[h] at hr;cases hr),fun j hj=>?_⟩
  by_cases hji:j=i
  .subst hji
   unfold wpOp;simp only[hi,hw,if_true];exact .inl (hy.wp hC H)
  .have:=ready_mono hj hji
   rw[H.1] at this;cases this
 |succ fuel ih=>
  intro listed a w hfree hr hw hy hC H;refine⟨fun h=>(by rw[h] at hr;cases hr),fun j hj=>?_⟩
  by_cases hji:j=i
  .subst hji
   unfold wpOp;simp only[hi,hw,if_true];exact .inl (hy.wp hC H)
  .have h1:=H.2 j (ready_mono hj hji)
   obtain⟨hjun,oj,hoj,hall⟩:=mem_ready.1 hj;have hnot:∀e∈oj.after,Region.binds md e=true->e.on≠i:=fun e he hb heq=>by
    have h1:=hall e he hb;have h0:=(mem_ready.1 hr).1;rw[heq] at h1;rcases Nat.lt_or_ge i listed.size with h'|h'
    .simp[h'] at h0 h1;rw[h0] at h1;cases h1
    .simp[Array.getElem?_eq_none h'] at h1
   obtain⟨hap,hkeep⟩:=hfree j oj hoj hji hjun hnot;obtain⟨s1,s2,s3⟩:=Oper.apart_spec hap;have hfree':∀k ok,ops[k]? =some ok->k≠i->(listed.setIfInBounds j true).getD k true=false->
     (∀e∈ok.after,Region.binds md e=true->e.on≠i)->oi.apart ops ok=true/\eC P C ok:=fun k ok hk hki hun hno=>by
    refine hfree k ok hk hki ?_ hno
    by_cases hjk:j=k
    .subst hjk;exact hjun
    .rw[getD_set_ne true hjk] at hun;exact hun
   have next:∀(u:Value) (w':World),C w'->wpAny P md ops Q fuel ((listed.setIfInBounds i true).setIfInBounds j true) ((a.put oi.dst v).put oj.dst u) w'->
     wpAny P md ops Q (fuel+1) (listed.setIfInBounds j true) (a.put oj.dst u) w':=fun u w' hC' h3=>by
    refine ih _ _ w' hfree' (ready_mono hr (Ne.symm hji)) ?_ ?_ hC' ?_
    .rw[wanted_put oi a oj.dst u s3];exact hw
    .rw[execOp_put oi (fun cs b=>hsel i oi cs b hi) a oj.dst u s3];exact hy
    .rw[Array.setIfInBounds_comm _ _ hji,<-Act.put_comm a v u s2];exact h3
   have hex:=execOp_put oj (fun cs b=>hsel j oj cs b hoj) a oi.dst v s1;unfold wpOp at h1⊢;simp only[hoj] at h1⊢;rw[wanted_put oj a oi.dst v s1] at h1;split
   .rename_i hwj
    simp only[hwj,if_true] at h1;rcases h1 with h1|⟨h1,h2⟩
    .refine .inl ?_
     unfold Oper.wp at h1⊢;rw[hex] at h1;have hk:=hkeep a.eval w hC;generalize (execOp a.eval oj).run P w=r at h1 hk⊢;cases r with
     |ok n w'=>
      cases n<;>simp only[Oper.upon] at h1 hk⊢
      case value u=>exact next u w' hk h1
      case skip=>exact next undef w' hk h1
     |halt x w'=>
      cases x<;>simp only[Oper.upon] at h1⊢
      case panic u=>exact hQ _ _ _ h1
    .exact .inr ⟨by unfold Oper.asks at h1⊢;rw[hex] at h1;exact h1,h2⟩
   .rename_i hwj
    simp only[hwj] at h1;exact next undef w hC h1
def others (md:Region.Mode)(ops:Array Oper)(listed:Array Bool)(i:Nat):List Oper:=
 (List.range ops.size).filterMap fun j=>if j==i||listed.getD j true then none else match ops[j]? with
  |some oj=>if oj.after.any (fun e=>Region.binds md e&&e.on==i) then none else some oj
  |none=>none
theorem Dm {i:Nat}{oi:Oper}{v:Value}{fuel:Nat}{listed:Array Bool}{a:Act}{w:World}(C:World->Prop)(hi:ops[i]? =some oi)
  (hs:Region.noSelect ops=true) (hf:Region.free md ops listed i=true) (hr:(Region.ready md ops listed).contains i=true)
  (hQ:∀c a w,Q (.panic c) (a.put oi.dst v) w->Q (.panic c) a w) (hg:oi.guard=none) (hC:C w) (hy:Gives P C (execOp a.eval oi) v)
  (rs:List Oper) (ho:others md ops listed i=rs) (hk:∀o∈rs,eC P C o)
  (h:wpAny P md ops Q fuel (listed.setIfInBounds i true) (a.put oi.dst v) w):wpAny P md ops Q (fuel+1) listed a w:=by
 refine Je (C:=C) hi (Region.noSelect_spec hs) hQ fuel listed a w (fun j oj hj hne hun hno=>⟨Region.free_spec hi hf j oj hj hne hun hno,hk oj ?_⟩) (by simpa using hr) (by simp[Region.wanted,hg]) hy hC h;rw[<-ho];unfold others;rw[List.mem_filterMap];refine⟨j,List.mem_range.2 (Array.getElem?_eq_some_iff.1 hj).1,?_⟩
 rw[if_neg (by simp only[Bool.or_eq_true,beq_iff_eq,hun,or_false,Bool.false_eq_true];exact hne)];simp only[hj];rw[if_neg];intro hany;obtain⟨e,he,hb⟩:=Array.any_eq_true'.1 hany;simp only[Bool.and_eq_true,beq_iff_eq] at hb;exact hno e he hb.1 hb.2
theorem AN {i:Nat}{oi:Oper}{fuel:Nat}{listed:Array Bool}{a:Act}{w:World}(hr:Region.ready md ops listed=[i])(hi:ops[i]? =some oi)(hg:oi.guard=none)
  (h:∀K:Act->World->Prop,(∀a w,wpAny P md ops Q fuel (listed.setIfInBounds i true) a w->K a w)->oi.wp P a w K Q):wpAny P md ops Q (fuel+1) listed a w:=
 wpAny_all hr (by simp) fun j hj=>by
  obtain rfl:j=i:=by simpa using hj
  unfold wpOp;simp only[hi];rw[if_pos (by simp[Region.wanted,hg])];exact .inl (h _ fun _ _ x=>x)
theorem Gz {i:Nat}{oi:Oper}{fuel:Nat}{listed:Array Bool}{a:Act}{w:World}(hr:Region.ready md ops listed=[i])(hi:ops[i]? =some oi)(hg:oi.guard=none)
  (v:Value) (w1:World) (hrun:(execOp a.eval oi).run P w= .ok (.value v) w1) (h:wpAny P md ops Q fuel (listed.setIfInBounds i true) (a.put oi.dst v) w1):wpAny P md ops Q (fuel+1) listed a w:=
 AN hr hi hg fun K hK=>by
  unfold Oper.wp;rw[hrun];exact hK _ _ h
theorem MZ {i:Nat}{oi:Oper}{fuel:Nat}{listed:Array Bool}{a:Act}{w:World}(hr:Region.ready md ops listed=[i])(hi:ops[i]? =some oi)(hg:oi.guard=none)
  (w1:World) (hrun:(execOp a.eval oi).run P w= .ok .skip w1) (h:wpAny P md ops Q fuel (listed.setIfInBounds i true) (a.put oi.dst undef) w1):wpAny P md ops Q (fuel+1) listed a w:=
 AN hr hi hg fun K hK=>by
  unfold Oper.wp;rw[hrun];exact hK _ _ h
end
structure Lets (C:World->Prop):Prop where
 alloc:∀w o,C w->C (w.alloc o)
 drew:∀w,C w->C w.drew
def aB {α:Type}(P:Program)(C:World->Prop)(e:Sem α):Prop:=∀w,C w->match e.run P w with
 |.ok _ w'=>C w'
 |.halt _ _=>True
section
variable {P:Program}{C:World->Prop}{α β:Type}
theorem aB.pure (a:α):aB P C (Pure.pure a:Sem α):=fun _ h=>h
theorem aB.halt (x:Halt):aB P C (Sem.halt x:Sem α):=fun _ _=>trivial
theorem aB.stuck (x:String):aB P C (stuck x:Sem α):=fun _ _=>trivial
theorem aB.bind {e:Sem α}{f:α->Sem β}(h:aB P C e)(k:∀a,aB P C (f a)):aB P C (e>>=f):=fun w hw=>by
 have:=h w hw;rw[Sem.run_bind];cases hr:e.run P w with
 |ok a w'=>rw[hr] at this;exact k a w' this
 |halt x w'=>trivial
theorem aB.map {e:Sem α}{f:α->β}(h:aB P C e):aB P C (Functor.map f e):=fun w hw=>by
 have:=h w hw;rw[Sem.run_map];cases hr:e.run P w with
 |ok a w'=>rw[hr] at this;exact this
 |halt x w'=>trivial
theorem aB.typeInfo (t:TypeId):aB P C (typeInfo t):=fun w hw=>by
 simp only[Go.typeInfo,Sem.run_bind,run_program,Result.andThen_ok];cases P.info? t with
 |none=>trivial
 |some i=>exact hw
theorem aB.underlying (t:TypeId):aB P C (underlying t):=fun w hw=>by
 simp only[Go.underlying,Sem.run_bind,run_program,Result.andThen_ok];cases P.underlying t with
 |none=>trivial
 |some i=>exact hw
theorem aB.sizeOf (t:TypeId):aB P C (sizeOf t):=(aB.typeInfo t).bind fun _=>aB.pure _
theorem aB.zeroValue (t:TypeId):aB P C (zeroValue t):=(aB.typeInfo t).bind fun i=>by
 cases i.zero with
 |none=>exact fun _ _=>trivial
 |some v=>exact aB.pure _
theorem aB.isAgg (t:TypeId):aB P C (isAgg t):=(aB.underlying t).bind fun d=>by
 cases d<;>exact aB.pure _
theorem aB.load (a:Addr):aB P C (load a):=fun w hw=>by
 unfold Go.load;simp only[Sem.run];cases w.cell? a with
 |some v=>exact hw
 |none=>
  simp only;cases w.farLoad P a (Mode.plain==Mode.atomic) with
  |ok r=>exact hw
  |error h=>trivial
theorem aB.loadCellsFrom (a:Addr):∀(n i:Nat) (acc:Array Value),aB P C (loadCellsFrom a i n acc)
 |0,_,_=>aB.pure _
 |n+1,i,_=>(aB.load _).bind fun _=>aB.loadCellsFrom a n (i+1) _
theorem aB.loadVar (t:TypeId)(a:Addr):aB P C (loadVar t a):=(aB.isAgg t).bind fun b=>by
 cases b with
 |true=>exact(aB.sizeOf t).bind fun n=>(aB.loadCellsFrom a n 0 #[]).bind fun _=>aB.pure _
 |false=>exact aB.load a
theorem aB.sureAddr (v:Value):aB P C (Instr.sureAddr v):=by
 unfold Instr.sureAddr;split
 .exact aB.pure _
 .exact aB.stuck _
theorem aB.loadAt (t:TypeId)(v:Value):aB P C (Instr.loadAt t v):=(aB.sureAddr v).bind fun a=>aB.loadVar t a
theorem aB.newRow (hC:Lets C)(t:TypeId)(cs:Array Value):aB P C (newRow t cs):=fun w hw=>by
 simp only[Go.newRow,Sem.run_bind,run_newObj_alloc,Result.andThen_ok];exact hC.alloc w _ hw
theorem aB.mapM {f:α->Sem β}(h:∀a,aB P C (f a)):∀(l:List α),aB P C (l.mapM f)
 |[]=>by simp only[List.mapM_nil];exact aB.pure _
 |a::r=>by simp only[List.mapM_cons];exact(h a).bind fun _=>(aB.mapM h r).bind fun _=>aB.pure _
theorem aB.aaM {f:α->Sem β}(h:∀a,aB P C (f a))(l:Array α):aB P C (l.mapM f):=by
 rw[Array.mapM_eq_mapM_toList];exact aB.map (aB.mapM h _)
theorem aB.build (t:TypeId)(parts:Array (Nat×Value)):aB P C (Instr.build t parts):=by
 refine(aB.zeroValue t).bind fun z=>(aB.underlying t).bind fun d=>?_
 cases d<;>try exact aB.stuck _
 case array n e=>
  refine(aB.sizeOf e).bind fun s=>?_
  split
  .exact aB.pure _
  .exact aB.stuck _
 case struct fs=>
  have hp:aB P C (fs.mapM fun f=>(do Pure.pure (f.offset,<-Go.sizeOf f.type):Sem (Nat×Nat))):=aB.aaM (fun f=>(aB.sizeOf f.type).bind fun _=>aB.pure _) fs;refine aB.bind hp fun places=>?_
  split
  .exact aB.pure _
  .exact aB.stuck _
theorem aB.buildSlice (hC:Lets C)(t:TypeId)(n:Nat)(parts:Array (Nat×Value)):aB P C (Instr.buildSlice t n parts):=by
 refine(aB.underlying t).bind fun d=>?_
 cases d<;>try exact aB.stuck _
 case slice e=>
  refine(aB.sizeOf e).bind fun s=>?_
  have tail:∀zero:Array Value,aB P C (match Instr.fill (fun i=>some (i*s,s)) ((Array.range (n*s)).map (zero[·%zero.size]!)) parts.toList with
    |some cells=>(do Pure.pure (Value.slice (some (<-Go.newRow e cells)) n n):Sem Value)
    |_=>Go.stuck "buildSlice: a part of the wrong size"):=fun zero=>by
   split
   .exact(aB.newRow hC _ _).bind fun _=>aB.pure _
   .exact aB.stuck _
  dsimp only;split
  .exact fun _ _=>trivial
  .split
   .exact(aB.pure _).bind fun z=>tail z
   .exact(aB.zeroValue e).bind fun v=>(aB.pure v.cells).bind fun z=>tail z
def fL {α:Type}(P:Program)(e:Sem α):Prop:=∀w v w',e.run P w≠.ok v w'
theorem fL.keeps {e:Sem α}(h:fL P e):aB P C e:=fun w _=>by
 cases hr:e.run P w with
 |ok a w'=>exact absurd hr (h w a w')
 |halt x w'=>trivial
theorem fL.halt (x:Halt):fL P (Sem.halt x:Sem α):=fun _ _ _ h=>by cases h
theorem fL.bind {e:Sem α}{f:α->Sem β}(h:∀a,fL P (f a)):fL P (e>>=f):=fun w v w' hr=>by
 rw[Sem.run_bind] at hr;cases he:e.run P w with
 |ok a w1=>rw[he] at hr;exact h a w1 v w' hr
 |halt x w1=>rw[he] at hr;cases hr
theorem fL.runtimePanic (x:RuntimeError):fL P (runtimePanic x:Sem α):=by
 refine fL.bind fun p=>?_
 cases x<;>first|exact fL.halt _|exact fL.bind fun _=>fL.bind fun _=>fL.halt _
theorem fL.boundsPanic (k:IntKind)(x y:Int)(c:BoundsCode):fL P (boundsPanic k x y c:Sem α):=by
 have h:∀s,fL P (Go.runtimePanic (.bounds (IntKind.i64.wrap x) y s c):Sem α):=fun s=>fL.runtimePanic _
 unfold Go.boundsPanic;unfold Go.runtimePanic at h⊢;dsimp only;split
 .exact fL.bind h
 .exact fL.bind h
theorem aB.asIntOf (v:Value):aB P C (asIntOf v):=by
 unfold Go.asIntOf;split<;>first|exact aB.pure _|exact aB.halt _
theorem aB.sliceBound (v:Value)(y:Nat)(c:BoundsCode):aB P C (Instr.sliceBound v y c):=by
 refine(aB.asIntOf v).bind fun x=>?_
 dsimp only;split
 .exact aB.pure _
 .exact(fL.boundsPanic _ _ _ _).keeps
theorem aB.sliceBounds (b:Bool)(l c:Nat)(x y z:Option Value):aB P C (Instr.sliceBounds b l c x y z):=by
 unfold Instr.sliceBounds;dsimp only
 (repeat' first|exact aB.pure _|exact aB.sliceBound _ _ _|exact aB.stuck _|(refine aB.bind ?_ fun _=>?_)|split)
theorem aB.asAddr (v:Value):aB P C (asAddr v):=by
 unfold Go.asAddr
 (repeat' first|exact aB.pure _|exact aB.stuck _|exact aB.halt _|exact(fL.runtimePanic _).keeps|split)
theorem aB.SO (t:TypeId)(v:Value)(x y z:Option Value):aB P C (Instr.slice t v x y z):=by
 refine(aB.underlying t).bind fun d=>?_
 (repeat' first|exact aB.pure _|exact aB.stuck _|exact aB.asAddr _|exact aB.sliceBounds _ _ _ _ _ _|exact aB.sizeOf _|exact aB.underlying _|(refine aB.bind ?_ fun _=>?_)|split)
theorem aB.sliceAt (t:TypeId)(v:Value)(x y z:Option Value):aB P C (Instr.sliceAt t v x y z):=by
 refine(aB.underlying t).bind fun d=>?_
 (repeat' first|exact aB.pure _|exact aB.SO _ _ _ _ _|exact aB.stuck _|exact aB.sureAddr _|exact aB.sliceBounds _ _ _ _ _ _|exact aB.sizeOf _|(refine aB.bind ?_ fun _=>?_)|split)
theorem aB.indexAt (t:TypeId)(x i:Value):aB P C (Instr.indexAt t x i):=by
 refine(aB.asIntOf i).bind fun k=>?_
 refine(aB.underlying t).bind fun d=>?_
 (repeat' first|exact aB.pure _|exact aB.stuck _|exact aB.halt _|exact aB.sureAddr _|exact(fL.boundsPanic _ _ _ _).keeps|exact aB.sizeOf _|exact aB.underlying _|(refine aB.bind ?_ fun _=>?_)|split|(dsimp only;split))
theorem eC.lV {o:Oper}(s:(Operand->Value)->Sem Value)(ho:∀ρ,execOp ρ o=(do pure (Next.value (<-s ρ))))(h:∀ρ,aB P C (s ρ)):eC P C o:=fun ρ w hw=>by
 have:=h ρ w hw;rw[ho,Sem.run_bind];cases hr:(s ρ).run P w with
 |ok a w'=>rw[hr] at this;exact this
 |halt x w'=>trivial
theorem eC.load {o:Oper}{t:TypeId}{x:Operand}(ho:o.op= .load t x):eC P C o:= .lV (fun ρ=>Instr.loadAt t (ρ x)) (fun ρ=>by simp only[execOp,ho]) (fun _=>aB.loadAt _ _)
theorem eC.build {o:Oper}{t:TypeId}{ps:Array (Nat×Operand)}(ho:o.op= .build t ps):eC P C o:= .lV (fun ρ=>Instr.build t (ps.map fun(i,x)=>(i,ρ x))) (fun ρ=>by simp only[execOp,ho]) (fun _=>aB.build _ _)
theorem eC.buildSlice (hC:Lets C){o:Oper}{t:TypeId}{n:Nat}{ps:Array (Nat×Operand)}(ho:o.op= .buildSlice t n ps):eC P C o:= .lV (fun ρ=>Instr.buildSlice t n (ps.map fun(i,x)=>(i,ρ x))) (fun ρ=>by simp only[execOp,ho]) (fun _=>aB.buildSlice hC _ _ _)
theorem eC.indexAddr {o:Oper}{t:TypeId}{x i:Operand}(ho:o.op= .indexAddr t x i):eC P C o:= .lV (fun ρ=>Instr.indexAt t (ρ x) (ρ i)) (fun ρ=>by simp only[execOp,ho]) (fun _=>aB.indexAt _ _ _)
theorem eC.slice {o:Oper}{t:TypeId}{x:Operand}{l h m:Option Operand}(ho:o.op= .slice t x l h m):eC P C o:= .lV (fun ρ=>Instr.sliceAt t (ρ x) (l.map ρ) (h.map ρ) (m.map ρ)) (fun ρ=>by simp only[execOp,ho]) (fun _=>aB.sliceAt _ _ _ _ _)
def Plain (P:Program)(src dst:TypeId):Bool:=match P.underlying src,P.underlying dst with
 |some (.slice e),some .string=>match P.underlying e with|some (.int .u8)=>true|_=>false
 |some (.int _),some (.int _)=>true
 |_,_=>false
theorem aB.LF {γ:Type}{f:γ->β->Sem (ForInStep β)}(h:∀a s,aB P C (f a s)):∀(l:List γ) (s:β),aB P C (forIn l s f)
 |[],s=>by rw[List.forIn_nil];exact aB.pure _
 |a::r,s=>by
  rw[List.forIn_cons];refine(h a s).bind fun x=>?_
  cases x with
  |done b=>exact aB.pure _
  |yield b=>exact aB.LF h r b
theorem aB.bytesToString (x:Value):aB P C (Conv.bytesToString x):=by
 unfold Conv.bytesToString;split
 .exact aB.pure _
 .refine aB.bind (aB.loadCellsFrom _ _ _ _) fun cs=>?_
  refine aB.bind ?_ fun _=>aB.pure _
  rw[<-Array.forIn_toList];refine aB.LF (fun a s=>?_) _ _;split
  .exact aB.pure _
  .exact(aB.stuck _).bind fun _=>aB.pure _
 .exact aB.stuck _
theorem aB.choose (hC:Lets C)(q:Question):aB P C (choose q):=fun w hw=>by
 unfold Go.choose;simp only[Sem.run]
 by_cases hq:q.forced=true
 .simp only[hq,if_true];exact hw
 .simp only[hq];exact hC.drew w hw
theorem aB.floatToInt (hC:Lets C)(k:FloatKind)(b:Nat)(d:IntKind):aB P C (Conv.floatToInt k b d):=by
 unfold Conv.floatToInt;dsimp only;split
 .split
  .exact aB.pure _
  .exact(aB.choose hC _).bind fun _=>aB.pure _
 .exact(aB.choose hC _).bind fun _=>aB.pure _
theorem eC.convert (hC:Lets C){o:Oper}{src dst:TypeId}{x:Operand}(hp:Plain P src dst=true)(ho:o.op= .convert src dst x):eC P C o:=by
 refine .lV (fun ρ=>Go.convert src dst (ρ x)) (fun ρ=>by simp only[execOp,ho]) (fun ρ=>?_);intro w hw;unfold Plain at hp;split at hp
 .rename_i e h1 h2
  split at hp
  .rename_i h3
   simp only[Go.convert,Sem.run_bind,run_underlying h1,run_underlying h2,Result.andThen_ok];have hb:=aB.bytesToString (P:=P) (C:=C) (ρ x) w hw;cases hx:ρ x<;>rw[hx] at hb<;>first|exact hw|(simp only[Sem.run_bind,run_underlying h3,Result.andThen_ok];exact hb)
  .cases hp
 .rename_i k1 k2 h1 h2
  simp only[Go.convert,Sem.run_bind,run_underlying h1,run_underlying h2,Result.andThen_ok];cases hx:ρ x<;>first|exact hw|exact trivial|exact aB.floatToInt hC _ _ _ w hw|skip
  case pointer ad=>cases ad<;>exact trivial
 .cases hp
theorem eC.move {o:Oper}{x:Operand}(ho:o.op= .move x\/o.op= .assign x):eC P C o:=fun ρ w hw=>by
 rcases ho with ho|ho<;>simp only[execOp,ho]<;>exact hw
def Bg (P:Program)(o:Oper):Bool:=match o.op with
 |.load .. |.build .. |.buildSlice .. |.move _|.assign _|.indexAddr .. |.slice .. =>true
 |.convert src dst _=>Plain P src dst
 |_=>false
theorem eC.Bg (hC:Lets C){o:Oper}(h:Bg P o=true):eC P C o:=by
 cases ho:o.op<;>simp only[Go.Proofs.YtchcmhodnkgojaaGreat.Bg,ho] at h<;>first|(cases h;done)|exact eC.load ho|exact eC.build ho|exact eC.buildSlice hC ho|exact eC.move (.inl ho)|exact eC.move (.inr ho)|exact eC.indexAddr ho|exact eC.slice ho|exact eC.convert hC h ho
end
section
variable {P:Program}{ops:Array Oper}{Q:Exit->Act->World->Prop}{md:Region.Mode}
theorem MY {i:Nat}{oi:Oper}{v:Value}{fuel:Nat}{listed:Array Bool}{a:Act}{w:World}(C:World->Prop)(hl:Lets C)(hC:C w)(hi:ops[i]? =some oi)
  (hs:Region.noSelect ops=true) (hf:Region.free md ops listed i=true) (hr:(Region.ready md ops listed).contains i=true)
  (hQ:∀c a w,Q (.panic c) (a.put oi.dst v) w->Q (.panic c) a w) (hg:oi.guard=none) (hk:(others md ops listed i).all (Bg P)=true) (hy:∀w,C w->(execOp a.eval oi).run P w= .ok (.value v) w)
  (h:wpAny P md ops Q fuel (listed.setIfInBounds i true) (a.put oi.dst v) w):wpAny P md ops Q (fuel+1) listed a w:=
 Dm C hi hs hf hr hQ hg hC (Gives.val hy) _ rfl (fun o ho=>eC.Bg hl (List.all_eq_true.1 hk o ho)) h
theorem Dn {i:Nat}{oi:Oper}{v:Value}{fuel:Nat}{listed:Array Bool}{a:Act}{w:World}(hi:ops[i]? =some oi)
  (hs:Region.noSelect ops=true) (hf:Region.free md ops listed i=true) (hr:(Region.ready md ops listed).contains i=true)
  (hQ:∀c a w,Q (.panic c) (a.put oi.dst v) w->Q (.panic c) a w) (hg:oi.guard=none) (hy:∀w,(execOp a.eval oi).run P w= .ok (.value v) w)
  (h:wpAny P md ops Q fuel (listed.setIfInBounds i true) (a.put oi.dst v) w):wpAny P md ops Q (fuel+1) listed a w:=
 wpAny_take hi hs hf hr hQ (.inl ⟨by simp[Region.wanted,hg],hy⟩) h
def upto (n k:Nat):Array Bool:=((List.range n).map fun j=>decide (j<k)).toArray
theorem lN (n k:Nat)(_h:k<n):(upto n k).setIfInBounds k true=upto n (k+1):=by
 apply Array.ext_getElem?
 intro i;simp only[upto,Array.getElem?_setIfInBounds,List.size_toArray,List.length_map,List.length_range,List.getElem?_toArray,List.getElem?_map]
 by_cases hi:k=i
 .subst hi;simp[_h]
 .simp only[hi,if_false]
  rcases Nat.lt_or_ge i n with h'|h'
  .simp only[List.getElem?_range h',Option.map_some,Option.some.injEq,decide_eq_decide];omega
  .simp[h']
def At (P:Program)(ops:Array Oper)(Q:Exit->Act->World->Prop)(n k:Nat)(a:Act)(w:World):Prop:=wpAny P .any ops Q (n-k) (upto n k) a w
theorem fg {id:Nat}{a:Act}{w:World}(n:Nat)(hn:ops.size=n)(h:At P ops Q n 0 a w.drew)(hm:P.follows .mixedOrders=true:=by kernel_rfl):(Code.region id ops true).wp P Q a w:=by
 refine wp_region_any hm ?_;rw[hn];have e:Array.replicate n false=upto n 0:=by
  apply Array.ext_getElem?
  intro i;rcases Nat.lt_or_ge i n with h'|h'
  .simp[upto,h']
  .simp[upto,h']
 rw[e];exact h
theorem At.step {n k:Nat}{a:Act}{w:World}(hk:k<n)(h:wpAny P .any ops Q ((n-(k+1))+1) (upto n k) a w):At P ops Q n k a w:=by
 unfold At;rw[show n-k=(n-(k+1))+1 by omega];exact h
theorem bQ {n:Nat}(k:Nat){oi:Oper}{v:Value}{a:Act}{w:World}(dst:Option Tmp)(hi:ops[k]? =some oi)(hd:oi.dst=dst)(hQ:∀c a w,Q (.panic c) (a.put oi.dst v) w->Q (.panic c) a w)(hg:oi.guard=none)(hy:∀w,(execOp a.eval oi).run P w= .ok (.value v) w)(h:At P ops Q n (k+1) (a.put dst v) w)(hk:k<n:=by omega)(hs:Region.noSelect ops=true:=by kernel_rfl)(hf:Region.free .any ops (upto n k) k=true:=by kernel_rfl)(hr:(Region.ready .any ops (upto n k)).contains k=true:=by kernel_rfl):At P ops Q n k a w:=
 .step hk (Dn hi hs hf hr hQ hg hy (by rw[lN n k hk,hd];exact h))
theorem lk {n:Nat}(k:Nat){oi:Oper}{v:Value}{a:Act}{w:World}(C:World->Prop)(hl:Lets C)(hC:C w)(dst:Option Tmp)(hi:ops[k]? =some oi)(hd:oi.dst=dst)(hQ:∀c a w,Q (.panic c) (a.put oi.dst v) w->Q (.panic c) a w)(hg:oi.guard=none)(hy:∀w,C w->(execOp a.eval oi).run P w= .ok (.value v) w)(h:At P ops Q n (k+1) (a.put dst v) w)(hk:k<n:=by omega)(hs:Region.noSelect ops=true:=by kernel_rfl)(hf:Region.free .any ops (upto n k) k=true:=by kernel_rfl)(hr:(Region.ready .any ops (upto n k)).contains k=true:=by kernel_rfl)(ht:(others .any ops (upto n k) k).all (Bg P)=true:=by kernel_rfl):At P ops Q n k a w:=
 .step hk (MY C hl hC hi hs hf hr hQ hg ht hy (by rw[lN n k hk,hd];exact h))
theorem QS {n:Nat}(k:Nat){oi:Oper}{a:Act}{w:World}(C:World->Prop)(hl:Lets C)(hC:C w)(hk:k<n)(dst:Option Tmp)(hi:ops[k]? =some oi)(hd:oi.dst=dst)
  (hs:Region.noSelect ops=true) (hf:Region.free .any ops (upto n k) k=true) (hr:(Region.ready .any ops (upto n k)).contains k=true)
  (hg:oi.guard=none) (ht:(others .any ops (upto n k) k).all (Bg P)=true) (f:FuncId) (args:Array Value) (v:Value) (hQ:∀c a w,Q (.panic c) (a.put oi.dst v) w->Q (.panic c) a w)
  (hx:∀w,(execOp a.eval oi).run P w= .ok (.enter f args) w) (hc:∀w,C w->Calls P f args w fun e x=>e= .returned v/\x=w)
  (h:At P ops Q n (k+1) (a.put dst v) w):At P ops Q n k a w:=
 .step hk (Dm C hi hs hf hr hQ hg hC (fun w hw=>by rw[hx w];exact⟨rfl,hc w hw⟩) _ rfl (fun o ho=>eC.Bg hl (List.all_eq_true.1 ht o ho)) (by rw[lN n k hk,hd];exact h))
theorem at_one {n:Nat}(k:Nat){oi:Oper}{a:Act}{w:World}(hk:k<n)(hi:ops[k]? =some oi)(hr:Region.ready .any ops (upto n k)=[k])(hg:oi.guard=none)
  (h:∀K:Act->World->Prop,(∀a w,At P ops Q n (k+1) a w->K a w)->oi.wp P a w K Q):At P ops Q n k a w:=
 .step hk (AN hr hi hg fun K hK=>h K fun a w x=>hK a w (by rw[lN n k hk];exact x))
theorem qp {n:Nat}(k:Nat){oi:Oper}{a:Act}{w:World}(dst:Option Tmp)(hi:ops[k]? =some oi)(hd:oi.dst=dst)(hg:oi.guard=none)(v:Value)(w1:World)(hrun:(execOp a.eval oi).run P w= .ok (.value v) w1)(h:At P ops Q n (k+1) (a.put dst v) w1)(hk:k<n:=by omega)(hr:Region.ready .any ops (upto n k)=[k]:=by kernel_rfl):At P ops Q n k a w:=
 .step hk (Gz hr hi hg v w1 hrun (by rw[lN n k hk,hd];exact h))
theorem Gy {n:Nat}(k:Nat){oi:Oper}{a:Act}{w:World}(hk:k<n)(dst:Option Tmp)(hi:ops[k]? =some oi)(hd:oi.dst=dst)(hr:Region.ready .any ops (upto n k)=[k])(hg:oi.guard=none)
  (w1:World) (hrun:(execOp a.eval oi).run P w= .ok .skip w1) (h:At P ops Q n (k+1) (a.put dst undef) w1):At P ops Q n k a w:=
 .step hk (MZ hr hi hg w1 hrun (by rw[lN n k hk,hd];exact h))
theorem lp {n:Nat}{a:Act}{w:World}(h:Q .normal a w)(hr:Region.ready .any ops (upto n n)=[]:=by kernel_rfl):At P ops Q n n a w:=wpAny_done hr h _
end
end
section
open Go.RowKit Go.Lib
theorem tD:jH.cells.size=65:=by simp[jH,Value.cells,dI,af]
theorem Db (s:Int)(l:List UInt8)(h:l.length=64):Tryz.prog.built 240 [(0,.int .i64 s),(1,.agg (byteCells l).toArray)]=some (dI (s,l)).toArray:=by
 have hi:∃it,Tryz.prog.info? 240=some it/\it.zero=some jH:=by
  have:=j9;cases hq:Tryz.prog.info? 240 with
  |none=>rw[hq] at this;cases this
  |some it=>rw[hq] at this;exact⟨it,rfl,by simpa using this⟩
 obtain⟨it,hi,hz⟩:=hi;have hp:∃fs,Tryz.prog.underlying 240=some (.struct fs)/\fs.toList.mapM (fun f=>(Tryz.prog.info? f.type).map fun i=>(f.offset,i.size))=some [(0,1),(1,64)]:=⟨_,Tryz.underlying240,by kernel_rfl⟩
 obtain⟨fs,hu,hp⟩:=hp;unfold Program.built;simp only[hi,hu,hz,hp];have e1:over jH.cells 0 [Value.int .i64 s]=(Value.int .i64 s::byteCells (List.replicate 64 0)).toArray:=by simp[over,jH,Value.cells,dI]
 rw[sU _ _ 0 _ _ 0 1 rfl rfl (by rw[tD];omega)];rw[show(Value.int IntKind.i64 s).cells.toList=[Value.int .i64 s] from rfl,e1];rw[sU _ _ 1 _ _ 1 64 rfl (by simp[Value.cells,af,h]) (by simp only[List.size_toArray,List.length_cons,af,List.length_replicate];omega)];simp only[Instr.fill]
 congr 1
 simp[over,dI,af,h,Value.cells]
theorem GK (d bl n:Nat)(vw:Value)(x:DS)(w:World)(s:Int)(l:List UInt8)(hl:l.length=64)(hs:0<=s)(hn:s<n)(gS:x.waiting.length<60)(hd0:d<w.heap.size)
  (hm:∀w1,aR [] w w1->Calls Tryz.prog 187 #[.pointer (some ⟨d,0,none⟩)] w1 fun e w'=>e= .returned (.bool true)/\bE w' d bl n vw x/\aR [d] w1 w'):
  Calls Tryz.prog 148 #[.pointer (some ⟨d,0,none⟩),.int .i64 s,.agg (byteCells l).toArray] w fun e w'=>e= .returned (.int .i64 0)/\
   ∃Ya,bE w' d bl n Ya {x with waiting:=x.waiting++[(s,l)]}/\aR (d::vw.ownBlock.toList) w w'/\(Ya.ownBlock=vw.ownBlock\/∃k,Ya.ownBlock=some k/\w.heap.size<=k):=by
 go_enter Tryz.func148,Tryz.ntmps148;go_wp2_with (with_reducible first|refine bL rfl ?_);refine ax.go (ii rfl 148 _ rfl (.agg (byteCells l).toArray) rfl ?_);intro w1 b5 l5 f1 r5;go_wp2_with fail;refine(hm w1 f1).mono ?_;clear hm;rintro e w2 ⟨rfl,h2,f2⟩;have r5':=f2.row r5 (by simp;omega);have hf:=h2.row.thaw;have q5:Row w2.drew b5 (byteCells l).toArray 148:=r5'
 have h3:bE w2.drew d bl n vw x:=h2.wV (aR.drew [] _) (by simp) (by simp) (by simp);go_wp2_with fail;refine fg 13 rfl ?_;have f3:aR [] w2 w2.drew:=aR.drew [] _;generalize w2.drew=w3 at q5 h3 f3;obtain⟨c0,c1,-⟩:=iU h3.row;refine bQ 0 (some 10) rfl rfl (fun _ _ _ h=>h) rfl (fun _=>rfl) ?_
 refine bQ 1 (some 11) rfl rfl (fun _ _ _ h=>h) rfl (fun _=>rfl) ?_;refine bQ 2 (some 12) rfl rfl (fun _ _ _ h=>h) rfl (fun _=>rfl) ?_
 refine bQ 3 (some 13) rfl rfl (fun _ _ _ h=>h) rfl (v:= .pointer (some ⟨d,1,none⟩)) (fun _=>by go_simp) ?_;simp only[Act.put,aX,aY,aW]
 have hC:Lets (fun w':World=>w'.cell? ⟨d,1,none⟩=some vw/\w'.rangeAt b5 0 (byteCells l)):=⟨fun w o h=>⟨by rw[World.cell?_alloc_some _ _ _ (by rw[h.1];rfl)];exact h.1,World.rangeAt_alloc h.2 o⟩,fun w h=>h⟩
 have hC0:w3.cell? ⟨d,1,none⟩=some vw/\w3.rangeAt b5 0 (byteCells l):=⟨c1,fun j v hv=>by rw[q5.cell];simpa using hv⟩
 refine lk 4 _ hC hC0 (some 14) rfl rfl (fun _ _ _ h=>h) rfl (v:=vw) (fun w' hw'=>by have:=hw'.1;go_simp) ?_;refine bQ 5 (some 15) rfl rfl (fun _ _ _ h=>h) rfl (fun _=>rfl) ?_;clear hC hC0
 refine qp 6 (some 16) rfl rfl rfl _ w3 (rJ 148 _ rfl b5 0 rfl dy 64 br _ _ q5 (byteCells l) ?_ (by rw[af,hl])) ?_
 .simp only[List.drop_zero];rw[List.take_of_length_le (by rw[af,hl];omega)]
 refine bQ 7 (some 17) rfl rfl (fun _ _ _ h=>h) rfl (v:= .agg (dI (s,l)).toArray) (fun w'=>?_) ?_
 .exact gU _ _ rfl _ (Db s l hl)
 simp only[Act.put,aX,aY,aW];obtain⟨i,hi,hz,hsz,hby⟩:∃i,Tryz.prog.info? 240=some i/\i.zero=some jH/\i.size=65/\i.bytes=72:=by
  have a1:=j9;have a2:=io;have a3:(Tryz.prog.info? 240).map (·.bytes)=some 72:=by kernel_rfl
  cases hq:Tryz.prog.info? 240 with
  |none=>rw[hq] at a1;cases a1
  |some it=>rw[hq] at a1 a2 a3;exact⟨it,rfl,by simpa using a1,by simpa using a2,by simpa using a3⟩
 refine qp 8 (some 18) rfl rfl rfl _ _ (sV 130 240 _ rfl Tryz.underlying130 i jH (.agg (dI (s,l)).toArray) hi hz (by omega) (by omega) rfl ?_) ?_
 .simp only[Value.cells,List.size_toArray,hsz];exact bX _ hl
 have h4:=h3.new (w':=w3.alloc (.cells (Value.agg (dI (s,l)).toArray).cells 240)) (aR.alloc [] _ _) (by simp);have r8:Row (w3.alloc (.cells (Value.agg (dI (s,l)).toArray).cells 240)) w3.heap.size (dI (s,l)).toArray 240:=Row.new _ _ _;have f4:aR [] w3 (w3.alloc (.cells (Value.agg (dI (s,l)).toArray).cells 240)):=aR.alloc _ _ _
 generalize w3.alloc (.cells (Value.agg (dI (s,l)).toArray).cells 240)=w4 at h4 r8 f4;refine at_one 9 (by omega) rfl (by kernel_rfl) rfl (fun K hK=>?_)
 refine wp_append_lies w4 (.tmp 14) (.tmp 18) 130 rfl 0 240 i jH 65 72 Tryz.underlying130 hi hz hsz hby tD (by omega) vw x.waiting.length (jV x.waiting) rfl h4.own ⟨w3.heap.size,0,none⟩ 1 1 (dI (s,l)) rfl (by rw[bX _ hl]) ?_ ?_ (by omega) (by simp[maxLen];omega) (by omega) (Nat.zero_le _) w4.heap.size rfl ?_
 .intro j u hu;rw[Addr.add_mid,r8.cell];simpa using hu
 .intro v hv;simp only[dI,List.mem_cons] at hv;rcases hv with rfl|hv;rfl;exact byteCells_one _ v hv
 intro g cap w5 hown hgr hat hlt;refine hK _ _ ?_;clear hK;simp only[Act.put,aX,aY,aW];have f5:=aR.grown hgr;have hown2:=h4.own;have ajP:=h3.row.lt;have hblt:=h3.last.lt;have ajw:=f4.size;have F7:=f5.row h4.row (by simpa using h4.ne1);have Ln:=f5.row h4.last (by simpa using h4.AY);have gd:d≠g:=by
  rcases hat with hat|rfl
  .intro e;exact h4.ne1 (by rw[hat,e])
  .omega
 have gb:bl≠g:=by
  rcases hat with hat|rfl
  .intro e;exact h4.AY (by rw[hat,e])
  .omega
 refine bQ 10 (some 20) rfl rfl (fun _ _ _ h=>h) rfl (fun _=>rfl) ?_;refine bQ 11 (some 21) rfl rfl (fun _ _ _ h=>h) rfl (v:= .pointer (some ⟨d,1,none⟩)) (fun _=>by go_simp) ?_;simp only[Act.put]
 refine Gy 12 (by omega) none rfl rfl (by kernel_rfl) rfl (w5.setCell ⟨d,1,none⟩ (.slice (some ⟨g,0,none⟩) (x.waiting.length+1) cap)) ?_ ?_
 .have:=F7.thaw 1
  have:=(iU F7).2.1;go_simp
 refine lp ?_;simp only[Act.put];have f6:aR [d] w5 (w5.setCell ⟨d,1,none⟩ (.slice (some ⟨g,0,none⟩) (x.waiting.length+1) cap)):=aR.setCell _ _ _ _;have Lg:=F7.setCell 1 (.slice (some ⟨g,0,none⟩) (x.waiting.length+1) cap);have Ex:=f6.row Ln (by simpa using fun e=>h4.ne e.symm);have hown6:=f6.owns hown (by simpa [Value.ownBlock] using gd.symm)
 generalize w5.setCell ⟨d,1,none⟩ (.slice (some ⟨g,0,none⟩) (x.waiting.length+1) cap)=w6 at f6 Lg Ex hown6;have hfin:bE w6 d bl n (.slice (some ⟨g,0,none⟩) (x.waiting.length+1) cap) {x with waiting:=x.waiting++[(s,l)]}:=by
  refine {row:=Lg,last:=Ex,len:=h3.len,own:=?_,d8:=?_,within:=?_,lo:=h3.lo,hi:=h3.hi,few:=by simp;omega,ne:=h3.ne,ne1:=by simpa [Value.ownBlock] using gd.symm,AY:=by simpa [Value.ownBlock] using gb.symm,nil:=by simp}
  .simpa [jV] using hown6
  .intro p hp;simp only[List.mem_append,List.mem_singleton] at hp;rcases hp with hp|rfl;exact h3.d8 p hp;exact hl
  .intro p hp;simp only[List.mem_append,List.mem_singleton] at hp;rcases hp with hp|rfl;exact h3.within p hp;exact⟨hs,hn⟩
 clear c0 c1 hf F7 Ln hown hown2 Lg Ex hown6 q5 r8 r5' r5;go_wp2_with fail;go_ret;have g0:aR [d] w w4:=((((f1.mono (by simp):aR [d] w w1).trans f2).trans f3).trans f4)
 have g1:aR (d::vw.ownBlock.toList) w w4:=g0.mono;refine⟨rfl,_,hfin,(g1.trans f5 (by intro i hi;left;simp[hi])).trans f6,?_⟩;rcases hat with hat|rfl
 .exact .inl (by rw[hat];rfl)
 .exact .inr ⟨_,rfl,by have:=g1.size;omega⟩
theorem A4 (d:Nat)(s:Int)(l:List UInt8)(w:World)(R:World->Prop)(hm:∀w1,aR [] w w1->Calls Tryz.prog 187 #[.pointer (some ⟨d,0,none⟩)] w1 fun e w'=>e= .returned (.bool false)/\R w'):
  Calls Tryz.prog 148 #[.pointer (some ⟨d,0,none⟩),.int .i64 s,.agg (byteCells l).toArray] w fun e w'=>e= .returned (.int .i64 3)/\R w':=by
 go_enter Tryz.func148,Tryz.ntmps148;go_wp2_with (with_reducible first|refine bL rfl ?_);refine ax.go (ii rfl 148 _ rfl (.agg (byteCells l).toArray) rfl ?_);intro w1 b5 l5 f1 r5;go_wp2_with fail;refine(hm w1 f1).mono ?_;rintro e w2 ⟨rfl,h1⟩;go_wp2_with fail;go_ret;exact⟨rfl,h1⟩
theorem Nb (d bl n:Nat)(vw:Value)(x:DS)(w:World)(h:bE w d bl n vw x):
  Calls Tryz.prog 45 #[.pointer (some ⟨d,0,none⟩)] w fun e w'=>e= .returned (.int .i64 x.acts)/\w'=w:=by
 obtain⟨c0,c1,c2,c3,c4,c5,c6⟩:=iU h.row;go_enter Tryz.func45,Tryz.ntmps45;go_wp2_with fail;go_ret;exact⟨rfl,rfl⟩
theorem EK (d bl n:Nat)(vw:Value)(x:DS)(w:World)(h:bE w d bl n vw x):
  Calls Tryz.prog 79 #[.pointer (some ⟨d,0,none⟩)] w fun e w'=>e= .returned (.bool x.failed)/\w'=w:=by
 obtain⟨c0,c1,c2,c3,c4,c5,c6⟩:=iU h.row;go_enter Tryz.func79,Tryz.ntmps79;go_wp2_with fail;go_ret;exact⟨rfl,rfl⟩
theorem nO (d bl n:Nat)(vw:Value)(x:DS)(w:World)(h:bE w d bl n vw x):
  Calls Tryz.prog 117 #[.pointer (some ⟨d,0,none⟩)] w fun e w'=>e= .returned (.int .i64 n)/\w'=w:=by
 obtain⟨c0,c1,c2,c3,c4,c5,c6⟩:=iU h.row;go_enter Tryz.func117,Tryz.ntmps117;go_wp2_with fail;go_ret;exact⟨rfl,rfl⟩
def aN (n:Nat):Nat:=min ((n-1)/2) 54
def db (root:List UInt8)(i:Nat):UInt8:=root.getD (10+i) 0
def iF (root:List UInt8)(k:Nat):List Nat:=(List.range k).filter fun i=>db root i==1
def taken (x:DS)(n:Nat):List Nat:=iF (x.read 0) (aN n)
def ib (l:List Nat):List Value:=l.map fun(i:Nat)=>Value.int .i64 i
theorem lz (n:Nat)(h:16<=n)(h2:n<=400)(w:World):
  Calls Tryz.prog 116 #[.int .i64 n] w fun e w'=>e= .returned (.int .i64 (aN n))/\w'=w:=by
 go_enter Tryz.func116,Tryz.ntmps116
 by_cases hc:((n:Int)-1)/2<=54
 all_goals
  go_wp2_with fail;go_ret;refine⟨oP ?_,rfl⟩;unfold aN;omega
theorem m9 (i:Nat)(h:i<200)(w:World):
  Calls Tryz.prog 115 #[.int .i64 i] w fun e w'=>e= .returned (.int .i64 (1+2*i:Nat))/\w'=w:=by
 go_enter Tryz.func115,Tryz.ntmps115;go_wp2_with fail;go_ret;exact⟨oP (by omega),rfl⟩
theorem qy (root:List UInt8)(k:Nat):iF root (k+1)=iF root k++if db root k==1 then [k] else []:=by
 simp[iF,List.range_succ,List.filter_append,List.filter_cons]
theorem Ej (root:List UInt8)(i:Nat):(((db root i).toNat:Int)==1)=(db root i==1):=by
 rw[Bool.eq_iff_iff];simp[<-UInt8.toNat_inj];omega
theorem wJ (a b:List Nat):ib (a++b)=ib a++ib b:=by simp[ib]
theorem nu (root:List UInt8)(k:Nat):(iF root k).length<=k:=by
 have:=List.length_filter_le (fun i=>db root i==1) (List.range k);simpa [iF] using this
theorem CY:Elem Tryz.prog 64 3 1 8:=⟨Tryz.underlying64,by kernel_rfl,by omega⟩
structure Ny (D:World->Prop)(d n:Nat)(x:DS):Prop where
 lo:16<=n
 hi:n<=400
 len:∀j:Nat,j<n->(x.read j).length=64
 new:∀{w w':World} {S:List Nat},D w->aR S w w'->(∀k∈S,w.heap.size<=k)->D w'
 read:∀(s:Int) (w:World),D w->0<=s->s<n->Calls Tryz.prog 114 #[.pointer (some ⟨d,0,none⟩),.int .i64 s] w fun e w'=>e= .returned (.agg (byteCells (x.read s)).toArray)/\aR [] w w'
 Oc:∀w:World,D w->Calls Tryz.prog 117 #[.pointer (some ⟨d,0,none⟩)] w fun e w'=>e= .returned (.int .i64 n)/\w'=w
theorem D4 {w0:World}{d bl n:Nat}{vw:Value}{x:DS}(h:bE w0 d bl n vw x):Ny (fun w=>bE w d bl n vw x) d n x:=
 ⟨h.lo,h.hi,fun j hj=>bq _ _ (by rw[h.len];simp;omega) _ h.d8,fun h f hS=>h.new f hS,fun s w h h0 h1=>vV d bl n vw x s w h h0 h1,fun w h=>nO d bl n vw x w h⟩
theorem px {D:World->Prop}{d n:Nat}{x:DS}(R:Ny D d n x)(w:World)(h:D w):
  Calls Tryz.prog 83 #[.pointer (some ⟨d,0,none⟩)] w fun e w'=>∃v,e= .returned v/\w'.ownsRow w.heap.size 3 1 v (taken x n).length (ib (taken x n))/\aR [] w w':=by
 have hlo:=R.lo;have hhi:=R.hi;have ru:(x.read 0).length=64:=R.len 0 (by omega);go_enter Tryz.func83,Tryz.ntmps83;go_wp2_with fail;refine(R.read 0 w h (by omega) (by omega)).mono ?_;rintro e w1 ⟨rfl,f1⟩;go_wp2_with (with_reducible first|refine aA rfl ?_|refine ah 148 rfl ?_);refine ax.go (bv rfl 148 rfl eN dH ?_);intro w2 b4 l4 f2 r4
 go_wp2_with (with_reducible first|refine aA rfl ?_|refine ah 148 rfl ?_);refine ax.go (bT rfl 148 _ _ rfl _ 0 rfl _ rfl 64 br ?_ ?_ _ _ r4 ?_ ?_)
 .simp only[List.size_toArray,af];exact ru
 .exact byteCells_one _
 .decide
 intro w3 f3 D5;rw[bO _ _ (by rw[af,ru];rfl)] at D5;have f13:aR [] w w3:=(f1.trans f2).trans f3 (by simp;have:=f1.size;omega);have h3:=R.new h f13 (by simp);clear r4 f3 f2;go_wp2_with fail;refine(R.Oc w3 h3).mono ?_;rintro e w4 ⟨rfl,rfl⟩;go_wp2_with fail;refine(lz n hlo hhi _).mono ?_;rintro e w4 ⟨rfl,rfl⟩;go_wp2_with fail
 have hns:aN n<=54:=by unfold aN;omega
 have l4w:w.heap.size<=b4:=by have:=f1.size;omega
 go_loopw [3,11] (fun v i wr=>∃k:Nat,i= .int .i64 k/\k<=aN n/\aR [] w wr/\Row wr b4 (byteCells (x.read 0)).toArray 148/\
  wr.ownsRow w.heap.size 3 1 v (iF (x.read 0) k).length (ib (iF (x.read 0) k))/\v.ownBlock≠some b4) (fun _ i _=>aN n-(intOf i).toNat)
 case atStart=>exact⟨0,rfl,by omega,f13,D5,World.ownsRow_nil _ _ _ _,by simp[Value.ownBlock]⟩
 case round=>
  obtain⟨k,rfl,hk,fk,rk,ok,nk⟩:=hrel;clear h3 f13 D5 f1
  by_cases hlt:k<aN n
  .have hc:wr.cell? ⟨b4,10+k,none⟩=some (.int .u8 (db (x.read 0) k).toNat):=by
    rw[rk.cell];simp[byteCells,db,List.getD_eq_getElem?_getD];rw[List.getElem?_eq_getElem (by omega)];exact⟨_,rfl,rfl⟩
   have HR:Hid ((x.read 0).length=64):=ru;clear ru;have hm1:=Ej (x.read 0) k
   by_cases hm:(db (x.read 0) k==1)=true
   .have hb:(((db (x.read 0) k).toNat:Int)==1)=true:=by rw[hm1];exact hm
    have HM:Hid ((db (x.read 0) k==1)=true):=hm;clear hm hm1;go_wp2_with (with_reducible first|refine ce rfl ?_|refine cg rfl ?_);refine ax.go (iv rfl 64 3 1 8 CY _ rfl (.int .i64 k) rfl rfl ?_);intro w5 b5 l5 f5 r5;go_wp2_with (with_reducible first|refine ce rfl ?_|refine cg rfl ?_);have ok5:=f5.owns ok
    refine ax.go (i7 rfl 64 3 1 8 CY _ _ rfl w.heap.size u3 _ _ rfl ok5 b5 1 1 [.int .i64 k] rfl _ _ r5 rfl rfl (by simp[Value.oneCell']) (by omega) ?_ (by omega) ?_ ?_)
    .have:=nu (x.read 0) k;omega
    .have:=fk.size;have:=f5.size;omega
    intro g cap w6 ok6 f6 hat;have mI:=fk.trans f5;have hg4:g≠b4:=by
     rcases hat with hat|hat
     .intro e;exact nk (by rw[hat,e])
     .have:=rk.lt;have:=f5.size;omega
    have rk6:=f6.row (f5.row rk) (by simpa using fun e=>nk e);have Js:aR [] w w6:=mI.trans f6 (by intro i hi;right;simp at hi;exact(ok5.lt i hi).1);clear rk ok fk hc ok5 r5 f5 f6 mI hat l5;go_wp2_with fail
    go_roundw
    case rel=>
     refine⟨k+1,by go_num,by omega,Js,rk6,?_,by simpa [Value.ownBlock] using hg4⟩;rw[qy,HM.out];simpa [wJ,ib] using ok6
    case measure=>simp[intOf];omega
   .have hm':(db (x.read 0) k==1)=false:=by simpa using hm
    have hb:(((db (x.read 0) k).toNat:Int)==1)=false:=by rw[hm1];exact hm'
    have HM:Hid ((db (x.read 0) k==1)=false):=hm';clear hm hm' hm1;go_wp2_with fail
    go_roundw
    case rel=>
     refine⟨k+1,by go_num,by omega,fk,rk,?_,nk⟩;rw[qy,HM.out];simpa using ok
    case measure=>simp[intOf];omega
  .have HK:Hid (k=aN n):=(by omega:k=aN n)
   go_wp2_with fail;go_ret;have hk:=HK.out;subst hk;exact⟨_,rfl,ok,fk⟩
theorem ny (d bl n:Nat)(vw:Value)(x:DS)(w:World)(h:bE w d bl n vw x):
  Calls Tryz.prog 83 #[.pointer (some ⟨d,0,none⟩)] w fun e w'=>∃v,e= .returned v/\w'.ownsRow w.heap.size 3 1 v (taken x n).length (ib (taken x n))/\aR [] w w':=px (D4 h) w h
theorem iz:(Tryz.prog.info? 138).map (·.size)=some 128:=by kernel_rfl
theorem mr:(Tryz.prog.underlying 138).map TypeDesc.isRow=some true:=by kernel_rfl
def oH:Value:= .agg (byteCells (List.replicate 128 0)).toArray
theorem kN:(Tryz.prog.info? 138).map (·.zero)=some (some oH):=by kernel_rfl
def DS.sec (x:DS)(j:Nat):List UInt8:=x.read j
theorem adn (d bl n:Nat)(vw:Value)(x:DS)(j:Nat)(s:Int)(hs:s=j)(w:World)(h:bE w d bl n vw x)(hn:j<n):
  Calls Tryz.prog 114 #[.pointer (some ⟨d,0,none⟩),.int .i64 s] w fun e w'=>e= .returned (.agg (byteCells (x.sec j)).toArray)/\aR [] w w':=by
 subst hs;exact vV d bl n vw x j w h (by omega) (by omega)
theorem ww {w:World}{d bl n:Nat}{vw:Value}{x:DS}(h:bE w d bl n vw x)(j:Nat)(hn:j<n):(x.sec j).length=64:=bq _ _ (by rw[h.len];omega) _ h.d8
def cJ (x:DS)(i:Nat):List UInt8:=x.sec (1+2*i)++x.sec (2+2*i)
def pD (x:DS)(i:Nat):Nat->List UInt8
 |0=>List.replicate 128 0
 |1=>x.sec (1+2*i)++List.replicate 64 0
 |_=>cJ x i
theorem Eb (x:DS)(i k:Nat)(hk:k<2)(h1:(x.sec (1+2*i)).length=64)(h2:(x.sec (2+2*i)).length=64):over (byteCells (pD x i k)).toArray (k*64) (byteCells (x.sec (1+2*i+k)))=(byteCells (pD x i (k+1))).toArray:=by
 have e:1+2*i+1=2+2*i:=by omega
 rcases(by omega:k=0\/k=1) with rfl|rfl
 .simp[over,pD,byteCells,h1]
 .simp[over,pD,cJ,byteCells,h1,h2,e]
theorem ri (x:DS)(i k:Nat)(h1:(x.sec (1+2*i)).length=64)(h2:(x.sec (2+2*i)).length=64):(pD x i k).length=128:=by
 unfold pD;split<;>simp[cJ,h1,h2]
theorem Ny.sec {D:World->Prop}{d n:Nat}{x:DS}(R:Ny D d n x)(j:Nat)(s:Int)(hs:s=j)(w:World)(h:D w)(hn:j<n):
  Calls Tryz.prog 114 #[.pointer (some ⟨d,0,none⟩),.int .i64 s] w fun e w'=>e= .returned (.agg (byteCells (x.sec j)).toArray)/\aR [] w w':=by
 subst hs;exact R.read j w h (by omega) (by omega)
theorem pE {D:World->Prop}{d n:Nat}{x:DS}(R:Ny D d n x)(i:Nat)(w:World)(h:D w)(hi:i<aN n):
  Calls Tryz.prog 82 #[.pointer (some ⟨d,0,none⟩),.int .i64 i] w fun e w'=>e= .returned (.agg (byteCells (cJ x i)).toArray)/\aR [] w w':=by
 have hlo:=R.lo;have hhi:=R.hi;have hin:2*i+2<n:=by unfold aN at hi;omega
 have aga:i<54:=by unfold aN at hi;omega
 have hl1:∀j:Nat,j<n->Hid ((x.sec j).length=64):=fun j hj=>R.len j hj
 go_enter Tryz.func82,Tryz.ntmps82;go_wp2_with (with_reducible first|refine aA rfl ?_);refine ax.go (bv rfl 138 rfl oH kN ?_);intro w1 b4 l4 f1 r4;go_wp2_with (with_reducible first|refine aA rfl ?_);refine ax.go (bv rfl 138 rfl oH kN ?_);intro w2 b5 l5 f2 r5;have D5:=f2.row r4;have f12:=f1.trans f2
 have l4w:w.heap.size<=b4:=l4;have l5w:w.heap.size<=b5:=by have:=f1.size;omega
 have hne:b4≠b5:=by have:=r4.lt;omega
 clear f1 f2 r4 l5;go_wp2_with fail
 go_loopw [8] (fun c wr=>∃k:Nat,c= .int .i64 k/\k<=2/\aR [] w wr/\Row wr b4 oH.cells 138/\Row wr b5 (byteCells (pD x i k)).toArray 138) (fun c _=>2-(intOf c).toNat)
 case atStart=>exact⟨0,rfl,by omega,f12,D5,r5⟩
 case round=>
  obtain⟨k,rfl,hk,fk,q4,q5⟩:=hrel;clear f12 D5 r5
  by_cases hlt:k<2
  .have h0:=R.new h fk (by simp)
   go_wp2_with fail;refine(m9 i (by omega) wr).mono ?_;rintro e w3 ⟨rfl,rfl⟩;go_wp2_with fail;have hlk:=hl1 (1+2*i+k) (by omega);refine(R.sec (1+2*i+k) _ (by omega) w3 h0 (by omega)).mono ?_;rintro e w4 ⟨rfl,f4⟩;go_wp2_with (with_reducible first|refine aA rfl ?_|refine ah 148 rfl ?_);refine ax.go (bv rfl 148 rfl eN dH ?_);intro w5 b7 l7 f5 r7
   go_wp2_with (with_reducible first|refine aA rfl ?_|refine ah 148 rfl ?_);refine ax.go (bT rfl 148 _ _ rfl _ 0 rfl _ rfl 64 br ?_ ?_ _ _ r7 ?_ ?_)
   .simp only[List.size_toArray,af];exact hlk.out
   .exact byteCells_one _
   .decide
   intro w6 f6 sG;rw[bO _ _ (by rw[af,hlk.out];rfl)] at sG;have f36:aR [] w3 w6:=(f4.trans f5).trans f6 (by simp;have:=f4.size;omega);have Ks:=f36.row q4;have oQ:=f36.row q5;have fw:=fk.trans f36;have b57:b5≠b7:=by have:=q5.lt;have:=f4.size;omega
   clear q4 q5 fk f36 f4 f5 f6 r7 l7 h0;go_wp2_with fail;refine fg 5 rfl ?_;have f7:aR [] w6 w6.drew:=aR.drew _ _;have q4:=f7.row Ks;have q5:=f7.row oQ;have q7:=f7.row sG;have xP:=fw.trans f7;generalize w6.drew=w7 at q4 q5 q7 xP;clear Ks oQ sG fw f7
   refine bQ 0 (some 17) rfl rfl (fun _ _ _ h=>h) rfl (fun _=>rfl) ?_;refine bQ 1 (some 18) rfl rfl (fun _ _ _ h=>h) rfl (v:= .int .i64 (k*64)) (fun _=>by go_simp;exact IntWalk.i64_in _ (by omega)) ?_;simp only[Act.put,aX,aY,aW]
   refine bQ 2 (some 19) rfl rfl (fun _ _ _ h=>h) rfl (v:= .slice (some ⟨b5,k*64,none⟩) (128-k*64) (128-k*64)) (fun _=>?_) ?_
   .exact lJ 138 5 128 _ _ rfl Tryz.underlying138 (by kernel_rfl) b5 0 rfl (k*64) rfl (by omega) (by omega) _ _ (by omega) (by omega)
   refine bQ 3 (some 20) rfl rfl (fun _ _ _ h=>h) rfl (v:= .slice (some ⟨b7,0,none⟩) 64 64) (fun _=>by go_simp) ?_;simp only[Act.put,aX,aY,aW];have hs1:=(hl1 (1+2*i) (by omega)).out;have hs2:=(hl1 (2+2*i) (by omega)).out;have hmin:Nat.min 64 (128-k*64)=64:=Nat.min_eq_left (by omega)
   refine qp 4 (some 21) rfl rfl rfl _ _ (Gr _ _ _ _ 5 rfl Tryz.underlying85 (by kernel_rfl) b5 (k*64) _ _ rfl b7 0 64 64 rfl _ _ q5 _ _ q7 (byteCells (x.sec (1+2*i+k))) ?_ ?_ ?_ (byteCells_one _)) ?_
   .rw[hmin];simp only[List.drop_zero];rw[List.take_of_length_le (by rw[af,hlk.out];omega)]
   .rw[hmin,af,hlk.out]
   .simp only[List.size_toArray,af];rw[ri x i k hs1 hs2,hlk.out];omega
   rw[Eb x i k hlt hs1 hs2];refine lp ?_;have oQ:=q5.setRow (byteCells (pD x i (k+1))).toArray;have f8:aR [b5] w7 (w7.setRow b5 (byteCells (pD x i (k+1))).toArray):=aR.setRow _ _ _ _;have Ks:=f8.row q4 (by simpa using hne);have qt:aR [] w _:=xP.trans f8 (by simpa using l5w)
   generalize w7.setRow b5 (byteCells (pD x i (k+1))).toArray=w8 at oQ Ks qt;simp only[Act.put,aX,aY,aW];clear hs1 hs2 hmin q4 q5 q7 xP f8 hlk;go_wp2_with fail
   go_roundw
   case rel=>exact⟨k+1,by go_num,by omega,qt,Ks,oQ⟩
   case measure=>simp[intOf];omega
  .have HK:Hid (k=2):=(by omega:k=2)
   have hs1:=(hl1 (1+2*i) (by omega))
   have hs2:=(hl1 (2+2*i) (by omega))
   have h128:Hid ((cJ x i).length=128):=by show _=_;have:=ri x i 2 hs1.out hs2.out;exact this
   go_wp2_with (with_reducible first|refine az 138 rfl ?_|refine ah 138 rfl ?_);refine ax.go (bY rfl 138 _ rfl b5 0 rfl mr 128 iz _ _ q5 (byteCells (cJ x i)) ?_ ?_ ?_)
   .simp only[List.drop_zero]
    rw[HK.out];exact List.take_of_length_le (by rw[af];exact Nat.le_of_eq h128.out)
   .rw[af];exact h128.out
   go_wp2_with (with_reducible first|refine az 138 rfl ?_|refine ah 138 rfl ?_);refine ax.go (bT rfl 138 _ _ rfl _ 0 rfl _ rfl 128 iz ?_ ?_ _ _ q4 ?_ ?_)
   .simp only[List.size_toArray,af];exact h128.out
   .exact byteCells_one _
   .decide
   intro w6 f6 q6;rw[bO _ _ (by simp only[af];rw[h128.out];rfl)] at q6;have sR:aR [] w w6:=fk.trans f6 (by simpa using l4w);go_wp2_with fail;exact kV rfl b4 rfl rfl _ _ q6 mr (by simp only[List.size_toArray,af];rw[h128.out];exact iz) ⟨rfl,sR⟩
theorem nZ (d bl n:Nat)(vw:Value)(x:DS)(i:Nat)(w:World)(h:bE w d bl n vw x)(hi:i<aN n):
  Calls Tryz.prog 82 #[.pointer (some ⟨d,0,none⟩),.int .i64 i] w fun e w'=>e= .returned (.agg (byteCells (cJ x i)).toArray)/\aR [] w w':=pE (D4 h) i w h hi
theorem Ny.Vr {D:World->Prop}{d n:Nat}{x:DS}(R:Ny D d n x)(i:Nat)(hi:i<aN n):(cJ x i).length=128:=by
 have:2*i+2<n:=by unfold aN at hi;have:=R.lo;omega
 have h1:(x.sec (1+2*i)).length=64:=R.len _ (by omega);have h2:(x.sec (2+2*i)).length=64:=R.len _ (by omega);simp[cJ,h1,h2]
def aF (l:List UInt8):ByteArray:=⟨l.toArray⟩
def eB (r:List UInt8)(i:Nat):Nat:=(r.getD i 0).toNat
theorem pn (r:List UInt8)(i:Nat):eB r i<256:=(r.getD i 0).toNat_lt
def gj (r:List UInt8):Nat:=(eB r 0)
def dV (r:List UInt8):List UInt8:=(r.drop 3).take (min (eB r 1) 8)
def bW (r:List UInt8):List UInt8:=(r.drop 11).take (min (eB r 2) 96)
def cj (s:Int)(p c:List UInt8):List Value:=[.int .i64 s,.string (aF p),.string (aF c)]
theorem tg {w:World}{b:Nat}{r:List UInt8}{t:TypeId}(h:Row w b (byteCells r).toArray t)(j:Nat)(hj:j<r.length):w.cell? ⟨b,j,none⟩=some (.int .u8 (eB r j)):=by
 rw[h.cell];simp[byteCells,eB,List.getD_eq_getElem?_getD,hj]
section
variable {P:Program}{w:World}{o:Oper}{ρ:Operand->Value}
theorem xc (src dst e:TypeId)(x:Operand)(ho:o.op= .convert src dst x)(hs:P.underlying src=some (.slice e))(he:P.underlying e=some (.int .u8))(hd:P.underlying dst=some .string)
  (b off n c:Nat) (hx:ρ x= .slice (some ⟨b,off,none⟩) n c) (r:List UInt8) (t:TypeId) (hr:Row w b (byteCells r).toArray t) (l:List UInt8) (hl:(r.drop off).take n=l) (hn:l.length=n):
  (execOp ρ o).run P w= .ok (.value (.string (aF l))) w:=by
 have hc:∀j v,((byteCells r).drop off|>.take n)[j]? =some v->w.cell? ⟨b,off+j,none⟩=some v:=fun j v hv=>by
  rw[hr.cell];rw[List.getElem?_take] at hv;split at hv
  .simpa [List.getElem?_drop] using hv
  .cases hv
 rw[eA,ez,hl] at hc;subst hn;have:=run_convert_bytes_back (P:=P) w src dst e ⟨b,off,none⟩ c l hs he hd (fun j hj=>by
  rw[Addr.add_mid];exact hc j _ (by simp[byteCells,hj]))
 simp only[execOp,ho,hx,Sem.run_bind,this];rfl
end
section
variable {P:Program}{w:World}{o:Oper}{ρ:Operand->Value}
theorem Md (t:TypeId)(x y:Operand)(ho:o.op= .store t x y)(vx:Value)(hx:ρ x=vx)(vy:Value)(hy:ρ y=vy)(w1:World)(h:(Instr.storeAt t vx vy).run P w= .ok () w1):(execOp ρ o).run P w= .ok .skip w1:=by
 simp only[execOp,ho,hx,hy,Sem.run_bind,h,Result.andThen_ok];rfl
end
theorem fh:(Tryz.prog.info? 107).map (·.size)=some 3:=by kernel_rfl
theorem lS:(Tryz.prog.underlying 107).map TypeDesc.isRow=some true:=by kernel_rfl
def A1:Value:= .agg (cj 0 [] []).toArray
theorem oG:(Tryz.prog.info? 107).map (·.zero)=some (some A1):=by kernel_rfl
theorem E5 (s:Int)(p:ByteArray):Tryz.prog.built 103 [(0,.int .i64 s),(1,.string p)]=some #[.int .i64 s,.string p]:=by kernel_rfl
theorem E6 (s:Int)(p c:ByteArray):Tryz.prog.built 107 [(0,.agg #[.int .i64 s,.string p]),(1,.string c)]=some #[.int .i64 s,.string p,.string c]:=by kernel_rfl
theorem qm (r:List UInt8)(w:World)(hr:r.length=128):
  Calls Tryz.prog 81 #[.agg (byteCells r).toArray] w fun e w'=>e= .returned (.agg (cj (gj r) (dV r) (bW r)).toArray)/\aR [] w w':=by
 go_enter Tryz.func81,Tryz.ntmps81;go_wp2_with (with_reducible first|refine bL rfl ?_|refine aA rfl ?_);refine ax.go (ii rfl 138 _ rfl (.agg (byteCells r).toArray) rfl ?_);intro w1 b1 l1 f1 r1;go_wp2_with (with_reducible first|refine bL rfl ?_|refine aA rfl ?_);refine ax.go (bv rfl 107 rfl A1 oG ?_);intro w2 b2 l2 f2 r2
 have q1:Row w2 b1 (byteCells r).toArray 138:=f2.row r1;have f12:=f1.trans f2;have l2w:w.heap.size<=b2:=by have:=f1.size;omega
 have hne:b1≠b2:=by have:=r1.lt;omega
 have c1:=tg q1 1 (by omega);have c2:=tg q1 2 (by omega);obtain⟨pl,hpl⟩:∃pl,min (eB r 1) 8=pl:=⟨_,rfl⟩
 obtain⟨cl,hcl⟩:∃cl,min (eB r 2) 96=cl:=⟨_,rfl⟩
 have hp8:pl<=8:=by omega
 have hc96:cl<=96:=by omega
 have HR:Hid (r.length=128):=hr;have afX:=hpl;have hcl0:=hcl;have HP:Hid (min (eB r 1) 8=pl):=hpl;have HC:Hid (min (eB r 2) 96=cl):=hcl;have ag3:((eB r 1):Int)<=255:=by have:=pn r 1;omega
 have ag2:((eB r 2):Int)<=255:=by have:=pn r 2;omega
 generalize (eB r 1)=n1 at c1 hpl HP ag3;generalize (eB r 2)=n2 at c2 hcl HC ag2;clear hr r1 f1 f2;clear hpl hcl;have hC:Lets (fun w':World=>Row w' b1 (byteCells r).toArray 138):=⟨fun w o h=>(aR.alloc [] w o).row h,fun w h=>h⟩
 by_cases h1:(n1:Int)<=8<;>by_cases h2:(n2:Int)<=96
 all_goals
  go_wp2_with fail;have hpl:=HP.out;have hcl:=HC.out;have hr:=HR.out;refine fg 12 rfl ?_;have fd:aR [] w2 w2.drew:=aR.drew _ _;have q1':=fd.row q1;have r2':=fd.row r2;have fw:=f12.trans fd;generalize w2.drew=w3 at q1' r2' fw
  refine bQ 0 (some 15) rfl rfl (fun _ _ _ h=>h) rfl (v:= .pointer (some ⟨b1,0,none⟩)) (fun _=>by go_simp) ?_
  refine lk 1 _ hC q1' (some 16) rfl rfl (fun _ _ _ h=>h) rfl (v:= .int .u8 (eB r 0)) (fun w' hw'=>by have:=tg hw' 0 (by omega);go_simp) ?_;have hb0:((eB r 0):Int)<=255:=by have:=pn r 0;omega
  refine bQ 2 (some 17) rfl rfl (fun _ _ _ h=>h) rfl (v:= .int .i64 (eB r 0)) (fun _=>by go_simp;try exact IntWalk.i64_in _ (by omega)) ?_;simp only[Act.put,aX,aY,aW];refine bQ 3 (some 18) rfl rfl (fun _ _ _ h=>h) rfl (fun _=>rfl) ?_
  refine bQ 4 (some 19) rfl rfl (fun _ _ _ h=>h) rfl (v:= .slice (some ⟨b1,3,none⟩) pl 125) (fun _=>jM 138 5 128 _ _ _ rfl Tryz.underlying138 (by kernel_rfl) b1 0 rfl 3 _ rfl rfl (by omega) (by omega) (by omega) (by omega) _ _ _ (by omega) (by omega) (by omega)) ?_
  refine lk 5 _ hC q1' (some 20) rfl rfl (fun _ _ _ h=>h) rfl (v:= .string (aF (dV r))) (fun w' hw'=>xc 85 9 5 _ rfl Tryz.underlying85 Tryz.underlying5 Tryz.underlying9 b1 3 pl 125 rfl r _ hw' (dV r) ?_ ?_) ?_
  .unfold dV;rw[afX]
  .unfold dV;rw[List.length_take,List.length_drop];omega
  simp only[Act.put,aX,aY,aW];refine bQ 6 (some 21) rfl rfl (fun _ _ _ h=>h) rfl (v:= .agg #[.int .i64 (eB r 0),.string (aF (dV r))]) (fun w'=>gU _ _ rfl _ (E5 _ _)) ?_;refine bQ 7 (some 22) rfl rfl (fun _ _ _ h=>h) rfl (fun _=>rfl) ?_
  refine bQ 8 (some 23) rfl rfl (fun _ _ _ h=>h) rfl (v:= .slice (some ⟨b1,11,none⟩) cl 117) (fun _=>jM 138 5 128 _ _ _ rfl Tryz.underlying138 (by kernel_rfl) b1 0 rfl 11 _ rfl rfl (by omega) (by omega) (by omega) (by omega) _ _ _ (by omega) (by omega) (by omega)) ?_
  refine lk 9 _ hC q1' (some 24) rfl rfl (fun _ _ _ h=>h) rfl (v:= .string (aF (bW r))) (fun w' hw'=>xc 85 9 5 _ rfl Tryz.underlying85 Tryz.underlying5 Tryz.underlying9 b1 11 cl 117 rfl r _ hw' (bW r) ?_ ?_) ?_
  .unfold bW;rw[hcl0]
  .unfold bW;rw[List.length_take,List.length_drop];omega
  simp only[Act.put,aX,aY,aW];refine bQ 10 (some 25) rfl rfl (fun _ _ _ h=>h) rfl (v:= .agg (cj (gj r) (dV r) (bW r)).toArray) (fun w'=>gU _ _ rfl _ (E6 _ _ _)) ?_
  refine Gy 11 (by omega) none rfl rfl (by kernel_rfl) rfl (w3.setRow b2 (cj (gj r) (dV r) (bW r)).toArray) ?_ ?_
  .have:=mV (P:=Tryz.prog) (w:=w3) 107 b2 0 (cj (gj r) (dV r) (bW r)).toArray 3 fh rfl (by simp[cj,Value.oneCell']) _ _ r2' (by decide)
   rw[bO _ _ (by rfl)] at this;exact Md _ _ _ rfl _ rfl _ rfl _ this
  refine lp ?_;have r2n:=r2'.setRow (cj (gj r) (dV r) (bW r)).toArray;have fn:aR [] w (w3.setRow b2 (cj (gj r) (dV r) (bW r)).toArray):=fw.trans (aR.setRow [b2] _ _ _ (by simp)) (by simpa using l2w);generalize w3.setRow b2 (cj (gj r) (dV r) (bW r)).toArray=w4 at r2n fn;simp only[Act.put];clear hC q1' r2' fw
  go_wp2_with fail;exact kV rfl b2 rfl rfl _ _ r2n lS fh ⟨rfl,fn⟩
end
section
open Go.RowKit
section
variable {P:Program}{ops:Array Oper}{Q:Act->Prop}{C:World->Prop}{a:Act}{rest:List Oper}{o:Oper}
theorem cM (hg:o.guard=none)(dst:Option Tmp)(hd:o.dst=dst)(v:Value)(hr:∀w',C w'->(execOp a.eval o).run P w'= .ok (.value v) w')(h:wpQuiet P ops C Q rest (a.put dst v)):wpQuiet P ops C Q (o::rest) a:=by
 subst hd;unfold wpQuiet;rw[if_pos (by simp[Region.wanted,hg])];refine⟨v,fun w' hw'=>?_,h⟩;unfold Oper.quietAt;rw[hr w' hw'];exact⟨rfl,rfl⟩
theorem tj (hg:o.guard=none)(dst:Option Tmp)(hd:o.dst=dst)(f:FuncId)(args:Array Value)(v:Value)(hr:∀w',C w'->(execOp a.eval o).run P w'= .ok (.enter f args) w')
  (hc:∀w',C w'->Calls P f args w' fun e w''=>e= .returned v/\C w'') (h:wpQuiet P ops C Q rest (a.put dst v)):wpQuiet P ops C Q (o::rest) a:=by
 subst hd;unfold wpQuiet;rw[if_pos (by simp[Region.wanted,hg])];refine⟨v,fun w' hw'=>?_,h⟩;unfold Oper.quietAt;rw[hr w' hw'];exact⟨rfl,hc w' hw'⟩
theorem qn {id:Nat}{ops:Array Oper}{Q:Exit->Act->World->Prop}{w:World}(hm:P.follows .mixedOrders=true)(hB:Region.lexB .any ops=true)
  (h:wpQuiet P ops (fun w'=>aR [] w w') (fun a'=>∀w',aR [] w w'->Q .normal a' w') ops.toList a):(Code.region id ops true).wp P Q a w:=
 wp_region_quiet (C:=fun w'=>aR [] w w') hm hB (aR.drew [] w) h
end
end
section
open Go.RowKit Go.Lib
theorem eJ:(Tryz.prog.info? 103).map (·.size)=some 2:=by kernel_rfl
theorem gG:(Tryz.prog.underlying 103).map TypeDesc.isRow=some true:=by kernel_rfl
def dK (s:Int)(p:ByteArray):Array Value:=#[.int .i64 s,.string p]
theorem Me (s t:Int)(p q:ByteArray)(w:World):(binOp .eql 103 (.agg #[.int .i64 s,.string p]) (.agg #[.int .i64 t,.string q])).run Tryz.prog w= .ok (.bool (s==t&&p==q)) w:=by
 go_simp;rw[beq_toListBytes]
 by_cases h1:s=t<;>by_cases h2:p.toList=q.toList<;>simp[h1,h2]
def named (x:DS)(s:Int)(p:ByteArray)(i:Nat):Bool:=((gj (cJ x i):Int)==s)&&aF (dV (cJ x i))==p
def cG (x:DS)(s:Int)(p:ByteArray):List Nat->Int
 |[]=>-1
 |i::r=>if named x s p i then i else cG x s p r
section
variable {P:Program}{w:World}{o:Oper}{ρ:Operand->Value}
theorem CV (t:TypeId)(x:Operand)(f:Nat)(ho:o.op= .field t x f)(vx:Value)(hx:ρ x=vx)(v:Value)(h:(Instr.field t vx f).run P w= .ok v w):(execOp ρ o).run P w= .ok (.value v) w:=by
 simp only[execOp,ho,hx,Sem.run_bind,h,Result.andThen_ok];rfl
theorem EM (op:BinOp)(t u:TypeId)(x y:Operand)(ho:o.op= .binOp op t x y u)(vx vy:Value)(hx:ρ x=vx)(hy:ρ y=vy)(v:Value)(hg:(eqGuard op t x y vx vy).run P w= .ok () w)(h:(binOp op t vx vy).run P w= .ok v w):(execOp ρ o).run P w= .ok (.value v) w:=by
 simp only[execOp,ho,hx,hy,Sem.run_bind,hg,h,Result.andThen_ok];rfl
end
theorem EJ (a b c:Value)(w:World):(Instr.field 107 (.agg #[a,b,c]) 0).run Tryz.prog w= .ok (.agg #[a,b]) w:=by kernel_rfl
theorem yo (a b c:Value)(w:World):(Instr.field 107 (.agg #[a,b,c]) 1).run Tryz.prog w= .ok c w:=by kernel_rfl
theorem EC (op:BinOp)(x y:Operand)(a b:Array Value)(w:World):(eqGuard op 103 x y (.agg a) (.agg b)).run Tryz.prog w= .ok () w:=by
 cases op<;>kernel_rfl
theorem Bt (x:DS)(s:Int)(p:ByteArray)(l:List Nat)(k:Nat)(hk:k<l.length)(h:named x s p l[k]=false):cG x s p (l.drop k)=cG x s p (l.drop (k+1)):=by
 rw[List.drop_eq_getElem_cons hk,cG,if_neg (by simp[h])]
theorem G4 (x:DS)(s:Int)(p:ByteArray)(l:List Nat)(k:Nat)(hk:k<l.length)(h:named x s p l[k]=true):cG x s p (l.drop k)=l[k]:=by
 rw[List.drop_eq_getElem_cons hk,cG,if_pos h]
theorem qx (x:DS)(n i:Nat)(h:i∈taken x n):i<aN n:=by
 simp only[taken,iF,List.mem_filter,List.mem_range] at h;exact h.1
theorem i9 (x:DS)(n:Nat):(taken x n).length<=54:=by
 have:=nu (x.read 0) (aN n);have:aN n<=54:=by unfold aN;omega
 unfold taken;omega
theorem rj {w:World}{d bl n:Nat}{vw:Value}{x:DS}(h:bE w d bl n vw x)(i:Nat)(hi:i<aN n):(cJ x i).length=128:=by
 have:2*i+2<n:=by unfold aN at hi;have:=h.lo;omega
 simp[cJ,ww h (1+2*i) (by omega),ww h (2+2*i) (by omega)]
theorem pZ (d bl n:Nat)(vw:Value)(x:DS)(s:Int)(p:ByteArray)(w:World)(h:bE w d bl n vw x):
  Calls Tryz.prog 80 #[.pointer (some ⟨d,0,none⟩),.agg (dK s p)] w fun e w'=>e= .returned (.int .i64 (cG x s p (taken x n)))/\aR [] w w':=by
 go_enter Tryz.func80,Tryz.ntmps80;go_wp2_with (with_reducible first|refine bL rfl ?_);refine ax.go (ii rfl 103 _ rfl (.agg (dK s p)) rfl ?_);intro w1 b3 l3 f1 r3;have h1:=h.new f1;go_wp2_with fail;refine(ny d bl n vw x w1 h1).mono ?_;rintro e w2 ⟨v,rfl,hv,f2⟩;have r3':=f2.row r3;have f12:=f1.trans f2;have h2:=h.new f12
 have h54:=i9 x n;obtain⟨ad,cap,hv'⟩:=cy hv;subst hv';clear h1 f1 f2 r3;go_wp2_with fail;have HA:Hid (∀i∈taken x n,i<aN n):=fun i hi=>qx x n i hi
 generalize htk:taken x n=tk at*;have HT:Hid (taken x n=tk):=htk;clear htk
 go_loopw [10] (fun c wr=>∃k:Nat,c= .int .i64 k/\k<=tk.length/\aR [] w2 wr/\Hid (cG x s p tk=cG x s p (tk.drop k))) (fun c _=>tk.length-(intOf c).toNat)
 case atStart=>exact⟨0,rfl,by omega,aR.refl _ _,rfl⟩
 case round=>
  obtain⟨k,rfl,hk,fk,HS⟩:=hrel;have hd:=h2.new fk;have hvk:=fk.owns hv;have q3:=fk.row r3'
  by_cases hlt:k<tk.length
  .obtain⟨g,cur,rfl,hg,hle,_,hcs,htk⟩:=e9 hvk
   have hi:tk[k]<aN n:=HA.out _ (List.getElem_mem hlt);have hc:wr.cell? ⟨g,k,none⟩=some (.int .i64 (tk[k]:Nat)):=by
    rw[hg.cell,<-Array.getElem?_toList];have:(cur.toList.take (tk.length*1))[k]? =(ib tk)[k]? :=by rw[htk]
    rw[List.getElem?_take_of_lt (by omega)] at this;rw[this];simp[ib,hlt]
   have hrl:=rj hd tk[k] hi;generalize hik:tk[k]=i at hi hc hrl;have HI:Hid (tk[k]=i):=hik;clear hik;clear hcs htk;go_wp2_with fail;refine qn (by kernel_rfl) (by kernel_rfl) ?_;refine cM rfl (some 14) rfl _ (fun _ _=>rfl) ?_;refine cM rfl (some 15) rfl _ (fun _ _=>rfl) ?_;simp only[Act.put,aX,aY,aW]
   refine tj rfl (some 16) rfl 82 #[.pointer (some ⟨d,0,none⟩),.int .i64 i] (.agg (byteCells (cJ x i)).toArray) (fun _ _=>by go_simp) (fun w' hw'=>?_) ?_
   .refine(nZ d bl n vw x i w' (hd.new hw') hi).mono ?_
    rintro e w'' ⟨rfl,f⟩;exact⟨rfl,hw'.trans f⟩
   refine tj rfl (some 17) rfl 81 #[.agg (byteCells (cJ x i)).toArray] (.agg (cj (gj (cJ x i)) (dV (cJ x i)) (bW (cJ x i))).toArray) (fun _ _=>by go_simp) (fun w' hw'=>?_) ?_
   .refine(qm (cJ x i) w' hrl).mono ?_
    rintro e w'' ⟨rfl,f⟩;exact⟨rfl,hw'.trans f⟩
   simp only[Act.put,aX,aY,aW];refine cM rfl (some 18) rfl (.agg (dK (gj (cJ x i)) (aF (dV (cJ x i))))) (fun w' _=>?_) ?_
   .exact CV _ _ _ rfl _ rfl _ (EJ _ _ _ _)
   refine cM rfl (some 19) rfl (.agg (dK s p)) (fun w' hw'=>rJ 103 _ rfl b3 0 rfl gG 2 eJ _ _ (hw'.row q3) [.int .i64 s,.string p] rfl rfl) ?_;simp only[Act.put,aX,aY,aW];refine cM rfl (some 20) rfl (.bool (named x s p i)) (fun w' _=>?_) ?_
   .exact EM _ _ _ _ _ rfl _ _ rfl rfl _ (EC _ _ _ _ _ _) (Me _ _ _ _ _)
   simp only[Act.put,aX,aY,aW];intro w5 f5;have mI:=fk.trans f5;have rz:=f12.trans mI
   by_cases hn:named x s p i=true
   .have HN:Hid (named x s p i=true):=hn
    rw[hn];clear hn hd hvk q3 hg hc fk f5;go_wp2_with fail;go_ret;refine⟨oP ?_,rz⟩;rw[show taken x n=tk from HT.out,HS.out];have:=HI.out;rw[G4 _ _ _ _ _ hlt (by rw[this];exact HN.out),this]
   .have hn':named x s p i=false:=by simpa using hn
    have HN:Hid (named x s p i=false):=hn';rw[hn'];clear hn hn' hd hvk q3 hg hc fk f5;go_wp2_with fail
    go_roundw
    case rel=>
     refine⟨k+1,by go_num,by omega,mI,?_⟩;show _=_;have:=HI.out;rw[HS.out,Bt _ _ _ _ _ hlt (by rw[this];exact HN.out)]
    case measure=>simp[intOf];omega
  .have HK:Hid (k=tk.length):=(by omega:k=tk.length)
   go_wp2_with fail;go_ret;refine⟨oP ?_,f12.trans fk⟩;rw[show taken x n=tk from HT.out,HS.out,HK.out,List.drop_length];rfl
def DS.content (x:DS)(n:Nat)(s:Int)(p:ByteArray):Option (List UInt8):=
 match cG x s p (taken x n) with
 |.ofNat i=>some (bW (cJ x i))
 |.negSucc _=>none
theorem mh (x:DS)(s:Int)(p:ByteArray):∀(l:List Nat),cG x s p l=-1\/∃i∈l,cG x s p l=(i:Nat)/\named x s p i=true
 |[]=> .inl rfl
 |i::r=>by
  unfold cG
  by_cases h:named x s p i=true
  .exact .inr ⟨i,by simp,by simp[h],h⟩
  .rw[if_neg h]
   rcases mh x s p r with h'|⟨j,hj,h1,h2⟩
   .exact .inl h'
   .exact .inr ⟨j,by simp[hj],h1,h2⟩
theorem rG (d bl n:Nat)(vw:Value)(x:DS)(s:Int)(p:ByteArray)(w:World)(h:bE w d bl n vw x):
  Calls Tryz.prog 50 #[.pointer (some ⟨d,0,none⟩),.agg (dK s p)] w fun e w'=>
   e= .returned (.tuple #[.string (aF ((x.content n s p).getD [])),.bool (x.content n s p).isSome])/\aR [] w w':=by
 go_enter Tryz.func50,Tryz.ntmps50;go_wp2_with (with_reducible first|refine bL rfl ?_|refine az 103 rfl ?_);refine ax.go (ii rfl 103 _ rfl (.agg (dK s p)) rfl ?_);intro w1 b3 l3 f1 r3;have h1:=h.new f1;go_wp2_with (with_reducible first|refine bL rfl ?_|refine az 103 rfl ?_)
 refine ax.go (bY rfl 103 _ rfl b3 0 rfl gG 2 eJ _ _ r3 [.int .i64 s,.string p] rfl rfl ?_);go_wp2_with fail;refine(pZ d bl n vw x s p w1 h1).mono ?_;rintro e w2 ⟨rfl,f2⟩;have h2:=h1.new f2;have fw:=f1.trans f2;clear h1 f1 f2 r3;rcases mh x s p (taken x n) with hs|⟨i,hi,hs,_⟩
 .have hc:Hid (x.content n s p=none):=by show _=_;unfold DS.content;rw[hs];rfl
  rw[hs];clear hs;go_wp2_with fail
  go_ret2
  refine⟨?_,fw⟩;rw[hc.out];rfl
 .have hc:Hid (x.content n s p=some (bW (cJ x i))):=by show _=_;unfold DS.content;rw[hs]
  have hlt:=qx x n i hi;have hrl:=rj h2 i hlt;rw[hs];clear hs hi;have hne:((i:Int)==-1)=false:=by rw[beq_eq_false_iff_ne];omega
  go_wp2_with fail;refine(nZ d bl n vw x i w2 h2 hlt).mono ?_;rintro e w3 ⟨rfl,f3⟩;go_wp2_with fail;refine(qm (cJ x i) w3 hrl).mono ?_;rintro e w4 ⟨rfl,f4⟩;have Dt:=(fw.trans f3).trans f4;go_wp2_with (with_reducible first|refine Dz rfl ?_);refine ax.go (cN rfl _ _ (CV _ _ _ rfl _ rfl _ (yo _ _ _ _)) ?_);go_wp2_with fail
  go_ret2
  refine⟨?_,Dt⟩;rw[hc.out];rfl
structure dk where
 set:Nat
 path:List UInt8
 content:List UInt8
def fileAt (x:DS)(i:Nat):dk:=⟨gj (cJ x i),dV (cJ x i),bW (cJ x i)⟩
def bh (x:DS)(n:Nat):List dk:=(taken x n).map (fileAt x)
def gT (l:List dk):List Value:=l.flatMap fun f=>cj f.set f.path f.content
theorem Ar (l:List dk):(gT l).length=l.length*3:=by
 induction l with
 |nil=>rfl
 |cons f r ih=>simp only[gT,List.flatMap_cons,List.length_append,List.length_cons,cj] at ih⊢;rw[ih];simp;omega
theorem rD (a b:List dk):gT (a++b)=gT a++gT b:=by simp[gT]
theorem pg:Elem Tryz.prog 104 107 3 40:=⟨Tryz.underlying104,by kernel_rfl,by omega⟩
theorem M0 {D:World->Prop}{d n:Nat}{x:DS}(R:Ny D d n x)(w:World)(h:D w):
  Calls Tryz.prog 51 #[.pointer (some ⟨d,0,none⟩)] w fun e w'=>∃v,e= .returned v/\w'.ownsRow w.heap.size 107 3 v (bh x n).length (gT (bh x n))/\aR [] w w':=by
 go_enter Tryz.func51,Tryz.ntmps51;go_wp2_with fail;refine(px R w h).mono ?_;rintro e w2 ⟨v,rfl,hv,f2⟩;have h2:=R.new h f2 (by simp);have h54:=i9 x n;obtain⟨ad,cap,hv'⟩:=cy hv;subst hv';go_wp2_with fail;have HA:Hid (∀i∈taken x n,i<aN n):=fun i hi=>qx x n i hi
 generalize htk:taken x n=tk at*;have HT:Hid (taken x n=tk):=htk;clear htk;have hsz2:=f2.size
 go_loopw [3,9] (fun u c wr=>∃k:Nat,c= .int .i64 k/\k<=tk.length/\aR [] w2 wr/\wr.ownsRow w2.heap.size 107 3 u k (gT ((tk.take k).map (fileAt x)))) (fun _ c _=>tk.length-(intOf c).toNat)
 case atStart=>exact⟨0,rfl,by omega,aR.refl _ _,World.ownsRow_nil _ _ _ _⟩
 case round=>
  obtain⟨k,rfl,hk,fk,ho⟩:=hrel;have hd:=R.new h2 fk (by simp);have hvk:=fk.owns hv
  by_cases hlt:k<tk.length
  .obtain⟨g,cur,rfl,hg,hle,_,hcs,htk⟩:=e9 hvk
   have hi:tk[k]<aN n:=HA.out _ (List.getElem_mem hlt);have hc:wr.cell? ⟨g,k,none⟩=some (.int .i64 (tk[k]:Nat)):=by
    rw[hg.cell,<-Array.getElem?_toList];have:(cur.toList.take (tk.length*1))[k]? =(ib tk)[k]? :=by rw[htk]
    rw[List.getElem?_take_of_lt (by omega)] at this;rw[this];simp[ib,hlt]
   have hrl:=R.Vr tk[k] hi;generalize hik:tk[k]=i at hi hc hrl;have HI:Hid (tk[k]=i):=hik;clear hik hcs htk;go_wp2_with fail;refine(pE R i wr hd hi).mono ?_;rintro e w3 ⟨rfl,f3⟩;go_wp2_with fail;refine(qm (cJ x i) w3 hrl).mono ?_;rintro e w4 ⟨rfl,f4⟩;have ho4:=f4.owns (f3.owns ho (by simp));have RY:=(fk.trans f3).trans f4
   clear ho fk hd hvk hg hc f3 f4;go_wp2_with (with_reducible first|refine ce rfl ?_|refine cg rfl ?_);refine ax.go (iv rfl 104 107 3 40 pg _ rfl (.agg (cj (gj (cJ x i)) (dV (cJ x i)) (bW (cJ x i))).toArray) rfl rfl ?_);intro w5 b5 l5 f5 r5
   go_wp2_with (with_reducible first|refine ce rfl ?_|refine cg rfl ?_);have Gb:=f5.owns ho4;have hbase:w2.heap.size<=w5.heap.size:=by have:=RY.size;have:=f5.size;omega
   refine ax.go (i7 rfl 104 107 3 40 pg _ _ rfl w2.heap.size u3 _ _ rfl Gb b5 1 1 (cj (gj (cJ x i)) (dV (cJ x i)) (bW (cJ x i))) rfl _ _ r5 rfl rfl (by simp[cj,Value.oneCell']) (by omega) (by omega) (by omega) hbase ?_);intro g' cap' w6 ho6 f6 hat;have Js:=(RY.trans f5).trans f6 (by intro j hj;right;simp at hj;exact(Gb.lt j hj).1)
   clear ho4 Gb r5 f5 f6 hat l5 RY hbase;go_wp2_with fail
   go_roundw
   case rel=>
    refine⟨k+1,by go_num,by omega,Js,?_⟩;rw[List.take_succ_eq_append_getElem hlt,List.map_append,rD,show tk[k]=i from HI.out];simpa [gT,fileAt] using ho6
   case measure=>simp[intOf];omega
  .have HK:Hid (k=tk.length):=(by omega:k=tk.length)
   go_wp2_with fail;go_ret;refine⟨_,rfl,?_,f2.trans fk⟩;have:=HK.out;subst this;have e:bh x n=(tk.take tk.length).map (fileAt x):=by unfold bh;rw[show taken x n=tk from HT.out,List.take_of_length_le (Nat.le_refl _)]
   rw[e];obtain⟨o1,o2⟩:=ho;refine⟨by simpa using Ar ((tk.take tk.length).map (fileAt x)),?_⟩;rcases o2 with⟨e1,e2⟩|⟨g,cap,cur,e1,e2,e3⟩
   .exact .inl ⟨e1,by simpa using e2⟩
   .exact .inr ⟨g,cap,cur,by simpa using e1,by omega,by simpa using e3⟩
theorem QU (d bl n:Nat)(vw:Value)(x:DS)(w:World)(h:bE w d bl n vw x):
  Calls Tryz.prog 51 #[.pointer (some ⟨d,0,none⟩)] w fun e w'=>∃v,e= .returned v/\w'.ownsRow w.heap.size 107 3 v (bh x n).length (gT (bh x n))/\aR [] w w':=M0 (D4 h) w h
structure fp (w:World)(d bl n:Nat)(vw:Value)(x:DS):Prop where
 row:∃f,w.heap[d]? =some (.cells (iq bl n vw x) 134 f)
 last:∃f,w.heap[bl]? =some (.cells (byteCells x.aM).toArray 148 f)
 len:x.aM.length=64*n
 lo:16<=n
 hi:n<=400
 nil:vw= .slice none 0 0
 none:x.waiting=[]
 vw:∃ad cap,vw= .slice ad x.waiting.length cap
theorem fp.d8 {w:World}{d bl n:Nat}{vw:Value}{x:DS}(h:fp w d bl n vw x):∀p∈x.waiting,p.2.length=64:=by rw[h.none];simp
theorem fp.YG {w:World}{d bl n:Nat}{vw:Value}{x:DS}(h:fp w d bl n vw x):d<w.heap.size:=let⟨_,h⟩:=h.row;(Array.getElem?_eq_some_iff.1 h).1
theorem fp.Yl {w:World}{d bl n:Nat}{vw:Value}{x:DS}(h:fp w d bl n vw x):bl<w.heap.size:=let⟨_,h⟩:=h.last;(Array.getElem?_eq_some_iff.1 h).1
theorem fp.new {w w':World}{S:List Nat}{d bl n:Nat}{vw:Value}{x:DS}(h:fp w d bl n vw x)(f:aR S w w')(hS:∀k∈S,w.heap.size<=k:=by simp):fp w' d bl n vw x:=by
 have l1:=h.YG;have l2:=h.Yl;obtain⟨f1,h1⟩:=h.row;obtain⟨f2,h2⟩:=h.last;exact⟨⟨f1,by rw[f.block d l1 fun hd=>by have:=hS _ hd;omega];exact h1⟩,⟨f2,by rw[f.block bl l2 fun hd=>by have:=hS _ hd;omega];exact h2⟩,h.len,h.lo,h.hi,h.nil,h.none,h.vw⟩
theorem xk {w:World}{d bl n:Nat}{vw:Value}{x:DS}(h:fp w d bl n vw x):
  w.cell? ⟨d,0,none⟩=some (.slice (some ⟨bl,0,none⟩) n n)/\w.cell? ⟨d,1,none⟩=some vw/\w.cell? ⟨d,2,none⟩=some (.int .i64 x.acts)/\w.cell? ⟨d,3,none⟩=some (.bool x.given)/\
  w.cell? ⟨d,4,none⟩=some (.int .i64 x.left)/\w.cell? ⟨d,5,none⟩=some (.int .i64 x.keep)/\w.cell? ⟨d,6,none⟩=some (.bool x.failed):=by
 obtain⟨f,h⟩:=h.row;refine⟨?_,?_,?_,?_,?_,?_,?_⟩<;>rw[cell_of_row w d _ _ _ f h]<;>rfl
section
variable {P:Program}{ops:Array Oper}{Q:Exit->Act->World->Prop}{o:Oper}{rest:List Oper}{a:Act}{w:World}
theorem JA (hg:o.guard=none)(t:TypeId)(x:Operand)(ho:o.op= .load t x)(b off:Nat)(hx:a.eval x= .pointer (some ⟨b,off,none⟩))
  (hu:(P.underlying t).map TypeDesc.isRow=some true) (n:Nat) (hi:(P.info? t).map (·.size)=some n)
  (c:Array Value) (u:TypeId) (hr:∃f,w.heap[b]? =some (.cells c u f)) (vs:List Value) (hv:(c.toList.drop off).take n=vs) (hl:vs.length=n)
  (h:wpList P ops Q rest (a.put o.dst (.agg vs.toArray)) w):wpList P ops Q (o::rest) a w:=by
 obtain⟨d,hu',hd⟩:=Option.map_eq_some_iff.1 hu;obtain⟨f,hr⟩:=hr;refine wpList_load_mid hg t x ho b off hx vs d (fun j v hj=>?_) hu' hd (by rw[hi,hl]) h;rw[cell_of_row w b _ _ _ f hr];subst hv;rw[List.getElem?_take] at hj;split at hj
 .simpa [List.getElem?_drop] using hj
 .cases hj
end
theorem OF (d bl n:Nat)(vw:Value)(x:DS)(s:Int)(w:World)(h:fp w d bl n vw x)(hs:0<=s)(hn:s<n):
  Calls Tryz.prog 114 #[.pointer (some ⟨d,0,none⟩),.int .i64 s] w fun e w'=>e= .returned (.agg (byteCells (x.read s)).toArray)/\aR [] w w':=by
 have YG:=h.YG;have Yl:=h.Yl;obtain⟨ad,cap,hvw⟩:=h.vw;have hfit:64*s.toNat+64<=x.aM.length:=by rw[h.len];omega
 subst hvw;go_enter Tryz.func114,Tryz.ntmps114;go_wp2_with (with_reducible first|refine aA rfl ?_|refine az 148 rfl ?_|refine az 240 rfl ?_|refine ah 148 rfl ?_|refine ah 240 rfl ?_);refine ax.go (bv rfl 148 rfl eN dH ?_);intro w1 b4 l4 f1 r4;have h1:=h.new f1;obtain⟨c0,c1,-⟩:=xk h1
 go_wp2_with (with_reducible first|refine aA rfl ?_|refine az 148 rfl ?_|refine az 240 rfl ?_|refine ah 148 rfl ?_|refine ah 240 rfl ?_);refine ax.go (JA rfl 148 _ rfl bl (s.toNat*64) rfl dy 64 br _ _ h1.last (byteCells (seenIn x.aM [] s)) ?_ ?_ ?_)
 .simp[seenIn,eA,ez,Nat.mul_comm]
 .rw[af];exact bq _ _ hfit _ (by simp)
 go_wp2_with (with_reducible first|refine aA rfl ?_|refine az 148 rfl ?_|refine az 240 rfl ?_|refine ah 148 rfl ?_|refine ah 240 rfl ?_);refine ax.go (bv rfl 148 rfl eN dH ?_);intro w2 b5 l5 f2 r5
 go_wp2_with (with_reducible first|refine aA rfl ?_|refine az 148 rfl ?_|refine az 240 rfl ?_|refine ah 148 rfl ?_|refine ah 240 rfl ?_);refine ax.go (bT rfl 148 _ _ rfl _ 0 rfl _ rfl 64 br ?_ ?_ _ _ r5 ?_ ?_)
 .simp only[List.size_toArray,af];exact bq _ _ hfit _ (by simp)
 .exact byteCells_one _
 .decide
 intro w3 f3 r5;have D5:=f3.row (f2.row r4) (by have:=r4.lt;simp;omega);have f13:aR [] w w3:=(f1.trans f2).trans f3 (by simp;have:=f1.size;omega);rw[bO _ _ (by rw[af,bq _ _ hfit _ (by simp)];rfl)] at r5;have h3:=h.new f13;clear c0 c1 h1;obtain⟨c0,c1,-⟩:=xk h3
 go_wp2_with (with_reducible first|refine aA rfl ?_|refine az 148 rfl ?_|refine az 240 rfl ?_|refine ah 148 rfl ?_|refine ah 240 rfl ?_);have hne:b4≠b5:=by have:=r4.lt;omega
 have l4':w.heap.size<=b5:=by have:=f1.size;omega
 go_loopw [20] (fun i wr=>∃k:Nat,i= .int .i64 k/\k<=x.waiting.length/\aR [] w wr/\Row wr b4 eN.cells 148/\
  Row wr b5 (byteCells (seenIn x.aM (x.waiting.take k) s)).toArray 148) (fun i _=>x.waiting.length-(intOf i).toNat)
 case atStart=>exact⟨0,rfl,by omega,f13,D5,r5⟩
 case round=>
  obtain⟨k,rfl,hk,fk,q4,q5⟩:=hrel;clear c0 c1 h3 f13 D5;have gS:x.waiting.length<=60:=by rw[h.none];simp
  have hlt:¬k<x.waiting.length:=by rw[h.none];simp
  have hk':k=x.waiting.length:=by omega
  have HK:Hid (k=x.waiting.length):=hk';clear hk';go_wp2_with (with_reducible first|refine aA rfl ?_|refine az 148 rfl ?_|refine az 240 rfl ?_|refine ah 148 rfl ?_|refine ah 240 rfl ?_);refine ax.go (bY rfl 148 _ rfl b5 0 rfl dy 64 br _ _ q5 (byteCells (x.read s)) ?_ ?_ ?_)
  .simp only[List.drop_zero]
   rw[HK.out,List.take_of_length_le (Nat.le_refl _),List.take_of_length_le (by rw[af,bq _ _ hfit _ h.d8];omega)];rfl
  .rw[af];exact bq _ _ hfit _ h.d8
  go_wp2_with (with_reducible first|refine aA rfl ?_|refine az 148 rfl ?_|refine az 240 rfl ?_|refine ah 148 rfl ?_|refine ah 240 rfl ?_);refine ax.go (bT rfl 148 _ _ rfl _ 0 rfl _ rfl 64 br ?_ ?_ _ _ q4 ?_ ?_)
  .simp only[List.size_toArray,af];exact bq _ _ hfit _ h.d8
  .exact byteCells_one _
  .decide
  intro w6 f6 q6;rw[bO _ _ (by simp only[af];rw[show(x.read s).length=64 from bq _ _ hfit _ h.d8];rfl)] at q6;have sR:aR [] w w6:=fk.trans f6 (by simp;omega);go_wp2_with (with_reducible first|refine aA rfl ?_|refine az 148 rfl ?_|refine az 240 rfl ?_|refine ah 148 rfl ?_|refine ah 240 rfl ?_)
  exact kV rfl b4 rfl rfl _ _ q6 dy (by simp only[List.size_toArray,af];rw[show(x.read s).length=64 from bq _ _ hfit _ h.d8];exact br) ⟨rfl,sR⟩
theorem DQ (d bl n:Nat)(vw:Value)(x:DS)(w:World)(h:fp w d bl n vw x):
  Calls Tryz.prog 117 #[.pointer (some ⟨d,0,none⟩)] w fun e w'=>e= .returned (.int .i64 n)/\w'=w:=by
 obtain⟨c0,c1,c2,c3,c4,c5,c6⟩:=xk h;go_enter Tryz.func117,Tryz.ntmps117;go_wp2_with fail;go_ret;exact⟨rfl,rfl⟩
theorem UF {w0:World}{d bl n:Nat}{vw:Value}{x:DS}(h:fp w0 d bl n vw x):Ny (fun w=>fp w d bl n vw x) d n x:=
 ⟨h.lo,h.hi,fun j hj=>bq _ _ (by rw[h.len];simp;omega) _ h.d8,fun h f hS=>h.new f hS,fun s w h h0 h1=>OF d bl n vw x s w h h0 h1,fun w h=>DQ d bl n vw x w h⟩
def bM (w:World)(F:List Nat)(d n:Nat)(x:DS):Prop:=∃bl vw,bE w d bl n vw x/\F=d::bl::vw.ownBlock.toList
theorem bM.wV {w w':World}{F S:List Nat}{d n:Nat}{x:DS}(h:bM w F d n x)(f:aR S w w')(hS:∀k∈S,k∉F):bM w' F d n x:=by
 obtain⟨bl,vw,h,rfl⟩:=h;refine⟨bl,vw,h.wV f (fun e=>hS _ e (by simp)) (fun e=>hS _ e (by simp)) (fun k hk e=>hS k hk (by simp[e])),rfl⟩
theorem bM.lt {w:World}{F:List Nat}{d n:Nat}{x:DS}(h:bM w F d n x):∀k∈F,k<w.heap.size:=by
 obtain⟨bl,vw,h,rfl⟩:=h;intro k hk;simp only[List.mem_cons,Option.mem_toList] at hk;rcases hk with rfl|rfl|hk
 .exact h.row.lt
 .exact h.last.lt
 .exact KE h.own hk
theorem bM.new {w w':World}{F S:List Nat}{d n:Nat}{x:DS}(h:bM w F d n x)(f:aR S w w')(hS:∀k∈S,w.heap.size<=k:=by simp):bM w' F d n x:=
 h.wV f fun k hk hF=>by have:=h.lt k hF;have:=hS k hk;omega
structure DS.Fit (x:DS)(room:Nat):Prop where
 jT:0<=x.acts
 jS:x.acts+room<=1000000000
 jR:0<=x.left
 jQ:x.left<=9223372036854775807
def DS.write (x:DS)(s:Int)(l:List UInt8):DS:=if x.bp then {x.iC with waiting:=x.waiting++[(s,l)]} else x.stopped
def DS.flush (x:DS):DS:=if x.bp then {x.iC with aM:=jg x.aM x.waiting,waiting:=[]} else x.stopped
def cK (b:Bool):Value:= .int .i64 (if b then 0 else 3)
theorem cannot {x:DS}(h:x.bp=false):x.failed=true\/(x.failed=false/\x.given=true/\x.left=0):=by
 unfold DS.bp at h;cases hf:x.failed<;>simp_all
def bP (F F':List Nat)(w:World):Prop:=∀k∈F',k∈F\/w.heap.size<=k
theorem bP.refl (F:List Nat)(w:World):bP F F w:=fun _ h=> .inl h
theorem bP.trans {F G H:List Nat}{w w':World}(h:bP F G w)(k:bP G H w')(hs:w.heap.size<=w'.heap.size:=by simp):bP F H w:=fun i hi=>by
 rcases k i hi with h1|h1
 .exact h i h1
 .exact .inr (by omega)
theorem tB {d bl n:Nat}{vw:Value}{x:DS}{w w':World}(h:bE w d bl n vw x)(h':bE w' d bl n (.slice none 0 0) x.fall):∃F',bM w' F' d n x.fall/\bP (d::bl::vw.ownBlock.toList) F' w:=
 ⟨[d,bl],⟨bl,_,h',by simp[Value.ownBlock]⟩,fun k hk=> .inl (by simp at hk;simp;rcases hk with rfl|rfl<;>simp)⟩
theorem ka (F:List Nat)(d n:Nat)(x:DS)(s:Int)(l:List UInt8)(w:World)(h:bM w F d n x)(hx:x.Fit 1)(hl:l.length=64)(gS:x.waiting.length<60)(hs:0<=s:=by omega)(hn:s<n:=by omega):
  Calls Tryz.prog 148 #[.pointer (some ⟨d,0,none⟩),.int .i64 s,.agg (byteCells l).toArray] w fun e w'=>e= .returned (cK x.bp)/\∃F',bM w' F' d n (x.write s l)/\aR F w w'/\bP F F' w:=by
 obtain⟨bl,vw,h,rfl⟩:=h;cases hc:x.bp with
 |true=>
  refine(GK d bl n vw x.iC w s l hl hs hn (by simpa [DS.iC] using gS) h.row.lt fun w1 f1=>Cm d bl n vw x w1 (h.new f1) hc hx.jR hx.jQ hx.jT (by have:=hx.jS;omega)).mono ?_;rintro e w' ⟨rfl,Ya,h',f,hv⟩
  refine⟨by simp[cK],d::bl::Ya.ownBlock.toList,⟨bl,Ya,by simpa [DS.write,hc,DS.iC] using h',rfl⟩,f.mono (fun k hk=> .inl (by simp only[List.mem_cons] at hk⊢;rcases hk with hk|hk;exact .inl hk;exact .inr (.inr hk))),?_⟩;intro k hk;simp only[List.mem_cons,Option.mem_toList] at hk⊢;rcases hk with rfl|rfl|hk
  .exact .inl (.inl rfl)
  .exact .inl (.inr (.inl rfl))
  .rcases hv with hv|⟨j,hj,hlt⟩
   .exact .inl (.inr (.inr (by rw[<-hv];exact hk)))
   .rw[hj] at hk
    obtain rfl:j=k:=by simpa using hk
    exact .inr hlt
 |false=>
  rcases cannot hc with hf|⟨hf,hg,h0⟩
  .refine(A4 d s l w (fun w'=>bE w' d bl n vw x/\aR [] w w') fun w1 f1=>?_).mono ?_
   .refine(wq d bl n vw x w1 (h.new f1) hf).mono ?_
    rintro e w' ⟨rfl,rfl⟩;exact⟨rfl,h.new f1,f1⟩
   .rintro e w' ⟨rfl,h',f⟩
    exact⟨by simp[cK],_,⟨bl,vw,by simpa [DS.write,hc,DS.stopped,hf] using h',rfl⟩,f.mono,bP.refl _ _⟩
  .refine(A4 d s l w (fun w'=>bE w' d bl n (.slice none 0 0) x.fall/\aR [d,bl] w w') fun w1 f1=>?_).mono ?_
   .refine(y9 d bl n vw x w1 (h.new f1) hf hg h0).mono ?_
    rintro e w' ⟨rfl,h',f2⟩;exact⟨rfl,h',(f1.mono (by simp):aR [d,bl] w w1).trans f2⟩
   .rintro e w' ⟨rfl,h',f⟩
    obtain⟨F',o1,o2⟩:=tB h h';exact⟨by simp[cK],F',by simpa [DS.write,hc,DS.stopped,hf] using o1,f.mono,o2⟩
theorem kD (F:List Nat)(d n:Nat)(x:DS)(w:World)(h:bM w F d n x)(hx:x.Fit 1):
  Calls Tryz.prog 149 #[.pointer (some ⟨d,0,none⟩)] w fun e w'=>e= .returned (cK x.bp)/\∃F',bM w' F' d n x.flush/\aR F w w'/\bP F F' w:=by
 obtain⟨bl,vw,h,rfl⟩:=h;cases hc:x.bp with
 |true=>
  refine(IE d bl n vw x.iC w (Cm d bl n vw x w h hc hx.jR hx.jQ hx.jT (by have:=hx.jS;omega))).mono ?_;rintro e w' ⟨rfl,h',f⟩;refine⟨by simp[cK],[d,bl],⟨bl,_,by simpa [DS.flush,hc,DS.iC] using h',by simp[Value.ownBlock]⟩,f.mono,?_⟩;intro k hk;simp at hk;rcases hk with rfl|rfl<;>simp
 |false=>
  rcases cannot hc with hf|⟨hf,hg,h0⟩
  .refine(CQ d w (fun w'=>w'=w) (wq d bl n vw x w h hf)).mono ?_
   rintro e w' ⟨rfl,rfl⟩;exact⟨by simp[cK],_,⟨bl,vw,by simpa [DS.flush,hc,DS.stopped,hf] using h,rfl⟩,aR.refl _ _,bP.refl _ _⟩
  .refine(CQ d w (fun w'=>bE w' d bl n (.slice none 0 0) x.fall/\aR [d,bl] w w') (y9 d bl n vw x w h hf hg h0)).mono ?_
   rintro e w' ⟨rfl,h',f⟩;obtain⟨F',o1,o2⟩:=tB h h';exact⟨by simp[cK],F',by simpa [DS.flush,hc,DS.stopped,hf] using o1,f.mono,o2⟩
end
end
end Go.Proofs.YtchcmhodnkgojaaGreat
