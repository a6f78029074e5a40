/- On the way to the last text; put together and shortened by program. -/
import Derived.Conc.QuitsD
import Derived.Conc.ClockLaws
import Derived.Conc.AtomicLaws2
import Derived.Test.YtchcmhodnkgojaaGreatPart5
import Derived.Test.YtchcmhodnkgojaaGreatRows
import Derived.WalkKit
import Derived.WalkSpells
import Derived.WalkLawsBesides
import Derived.Deep.MidRow
import Derived.Laws.CopyOwn
import Derived.Laws.Rows
import Derived.Lib.UnsafeStr
import Derived.Deep.RegionHeld3
import Derived.Deep.AppendLies
import Derived.Orders
import Derived.Deep.RegionHeld
import Derived.Laws.IdiomStrings
import Derived.Deep.Quiet
set_option linter.all false
set_option maxRecDepth 100000
set_option maxHeartbeats 8000000
namespace Go.Proofs.YtchcmhodnkgojaaGreat
noncomputable section
section
open Go.Conc
def LL (
  P:ω) (g:Ω):Bool:=
 match g.frame.mode with
 |.run=>
  match g.frame.todo with
  |.inRegion ops (i::_)::_=>
   match ops[i]? with
   |none=>false
   |some o=>
    if Region.wanted o (yielded ops g.frame.tmps) then
     match o.op with
     |.move _|.assign _|.pick .. |.unOp .. |.extract .. |.fieldAddr .. |.field .. |.makeFunc .. |.nilCheck _|.defer _=>true
     |.binOp op _ x y _=>match op,g.frame.eval x,g.frame.eval y with
      |.eql,.nilIface,_|.neq,.nilIface,_=>true
      |_,.int _ _,.int _ _=>true
      |_,_,_=>false
     |.convert _ _ x=>match g.frame.eval x with
      |.int _ _=>true
      |_=>false
     |.call {callee:= .value f,.. }=>
      match g.frame.eval f with
      |.func (.func f) .. =>(P.funcs[f]?).any (·.body.isSome)
      |_=>false
     |.call {callee:= .builtin .recover,.. }=>true
     |_=>false
    else true
  |.code (.region _ _ true)::_=>false
  |.code (.rangeFunc ..)::_=>false
  |.code _::_|.inRegion _ []::_|.inBlock _::_|.inLoop _::_|.inScope _::_=>true
  |[]=>true
  |_=>false
 |.returning=>
  match g.frame.defers with
  |{target:= .fn (.func f) _,.. }::_=>(P.funcs[f]?).any (·.body.isSome)
  |_::_=>false
  |[]=>!g.callers.isEmpty&&((P.funcs[g.frame.fn]?).any λfn=>fn.results.all λ|.tmp _=>true|_=>false)
 |.panicking _=>
  match g.frame.defers with
  |{target:= .fn (.func f) _,.. }::_=>(P.funcs[f]?).any (·.body.isSome)
  |_=>false
def yz (P:ω)(main:Bool):Nat->Ω->(Nat->Θ)->Option (Ω×List Θ)
 |0,g,_=>some (g,[])
 |n+1,g,ws=>
  if LL P g then
   match g.status,stepG P main g (ws 0) with
   |.running,.go g' w' es=>if es.isEmpty then(match yz P main n g' (λi=>ws (i+1)) with|some (x,l)=>some (x,w'::l)|none=>none) else none
   |_,_=>none
  else some (g,[])
def A2 (P:ω)(main:Bool)(n:Nat)(g:Ω):Ω:=match yz P main n g (λ_=>default) with|some (x,_)=>x|none=>g
def bT (P:ω)(main:Bool)(n:Nat)(g:Ω):Nat:=match yz P main n g (λ_=>default) with|some (_,l)=>l.length|none=>0
def au (P:ω)(main:Bool)(g g':Ω):Prop:=∃n k,∀ws:Nat->Θ,yz P main n g ws=some (g',(List.range k).map ws)
theorem wV (k:Nat)(ws:Nat->Θ):(List.range (k+1)).map ws=ws 0::(List.range k).map (λi=>ws (i+1)):=by
 rw[List.range_succ_eq_map];simp[List.map_map]
section
variable {S:Type}{P:ω}{main:Bool}{C:Co S}{Stop:S->Ω->Θ->Prop}{s:S}{g g':Ω}{w:Θ}
def Idle (C:Co S):Prop:=∀s w,C.D s w w #[]/\C.up s w w=s
theorem jY (hI:Idle C)(h:au P main g g')(k:aD P main C Stop s g' w):aD P main C Stop s g w:=by
 obtain⟨n,m,h⟩:=h
 induction n generalizing g w m with
 |zero=>
  have:=h λ_=>w
  simp only[yz,ae9,af8] at this;rw[this.1];exact k
 |succ n ih=>
  by_cases hq:LL P g=true
  .refine aD.step ?_ λw₁ hr=>?_
   .have:=h λ_=>w
    simp only[yz,hq,if_true] at this;cases hs:g.status<;>rw[hs] at this<;>first|rfl|cases this
   .have h0:∀ws':Nat->Θ,∃g1,stepG P main g w₁= .go g1 w₁ #[]/\∃m',m=m'+1/\yz P main n g1 ws'=some (g',(List.range m').map ws'):=λws'=>by
     have:=h λi=>match i with|0=>w₁|i+1=>ws' i
     simp only[yz,hq,if_true] at this;cases hs:g.status<;>rw[hs] at this<;>(try cases this;done)
     cases hst:stepG P main g w₁<;>rw[hst] at this<;>simp only at this<;>(try cases this;done)
     rename_i g1 w' es;split at this
     .rename_i he
      have he:es=#[]:=by simpa using he
      subst he;split at this
      .rename_i x l hx
       simp only[ae9,af8] at this;obtain⟨rfl,hl⟩:=this;cases m with
       |zero=>simp at hl
       |succ m'=>
        rw[wV] at hl;simp only[List.cons.injEq] at hl;obtain⟨rfl,rfl⟩:=hl;exact⟨g1,rfl,m',rfl,hx⟩
      .cases this
     .cases this
    obtain⟨g1,e1,m',e2,_⟩:=h0 λ_=>w
    refine⟨g1,w₁,#[],e1,(hI s w₁).1,?_⟩;rw[(hI s w₁).2];refine ih (m:=m') (k.rely hr) λws'=>?_
    obtain⟨g2,e3,m2,e4,e5⟩:=h0 ws';rw[e1] at e3;cases e3;obtain rfl:m2=m':=by omega
    exact e5
  .have:=h λ_=>w
   simp only[yz,hq,if_false,ae9,af8,ι] at this;rw[this.1];exact k
theorem au.of (n:Nat)(h:∀ws:Nat->Θ,yz P main n g ws=some (A2 P main n g,(List.range (bT P main n g)).map ws)):au P main g (A2 P main n g):=⟨n,_,h⟩
end
def Bj (g:Ω):Option Oper:=
 match g.status,g.dying,g.offers,g.frame.mode,g.frame.roundOf,g.frame.todo with
 |.running,none,none,.run,none,.inRegion ops (i::_)::_=>
  match ops[i]? with
  |some o=>if Region.wanted o (yielded ops g.frame.tmps)&&g.frame.kind != .early then some o else none
  |none=>none
 |_,_,_,_,_,_=>none
def resume (g:Ω)(v:Φ):Ω:={g with frame:=g.frame.finish v}
theorem uJ {g:Ω}{o:Oper}(h:Bj g=some o):∃(b:κ) (a:Act) (ops:Array Oper) (i:Nat) (rest:List Nat) (kk:List Item) (cs:List κ),
  g=G (b.at a (.inRegion ops (i::rest)::kk)) cs/\ops[i]? =some o/\Region.wanted o (yielded ops a.tmps)=true/\b.kind≠.early/\b.fn=g.frame.fn/\a.eval=g.frame.eval/\∀v,resume g v=G (b.at (a.put o.dst v) (.inRegion ops rest::kk)) cs:=by
 obtain⟨⟨fn,tmps,todo,defers,mode,kind,rd⟩,callers,status,dying,offers⟩:=g;unfold Bj at h;simp only at h;split at h
 .rename_i ops i rest kk
  split at h
  .rename_i o' ho
   split at h
   .rename_i hw
    simp only[ae9] at h;subst h;simp only[ξ,bne_iff_ne,ne_eq] at hw;refine⟨{(default:κ) with fn:=fn,kind:=kind},⟨tmps,defers⟩,ops,i,rest,kk,callers,rfl,ho,hw.1,hw.2,rfl,?_,λv=>?_⟩
    .funext x;cases x<;>rfl
    .have:=Frame.finish_at {(default:κ) with fn:=fn,kind:=kind} ⟨tmps,defers⟩ ops i rest kk v
     rw[ho] at this;show G (Frame.finish _ v) _=_;exact congrArg (λf=>G f callers) this
   .cases h
  .cases h
 .cases h
def aF (g:Ω):Option (aa9×Array Φ):=
 (Bj g).bind λo=>match o.op with
  |.call {callee:= .value (.func f),args,.. }=>some (f,args.map g.frame.eval)
  |_=>none
theorem cX {g:Ω}{f:aa9}{args:Array Φ}(h:aF g=some (f,args)):∃(b:κ) (a:Act) (ops:Array Oper) (i:Nat) (rest:List Nat) (kk:List Item) (cs:List κ) (o:Oper) (ae:Array aa8) (ats:Array η),
  g=G (b.at a (.inRegion ops (i::rest)::kk)) cs/\ops[i]? =some o/\Region.wanted o (yielded ops a.tmps)=true/\b.kind≠.early/\o.op= .call {callee:= .value (.func f),args:=ae,argTypes:=ats}/\ae.map a.eval=args/\∀v,resume g v=G (b.at (a.put o.dst v) (.inRegion ops rest::kk)) cs:=by
 unfold aF at h;obtain⟨o,ho,h⟩:=Option.bind_eq_some_iff.1 h;obtain⟨b,a,ops,i,rest,kk,cs,e1,e2,e3,e4,e5,e6,e7⟩:=uJ ho;split at h
 .rename_i f' ae ats hop
  simp only[ae9,af8] at h;obtain⟨rfl,rfl⟩:=h;exact⟨b,a,ops,i,rest,kk,cs,o,ae,ats,e1,e2,e3,e4,hop,by rw[e6],e7⟩
 .cases h
structure Ext (P:ω)(f:aa9)(fn:Func):Prop where
 at_:P.funcs[f]? =some fn
 name:(fn.name== "runtime.NumGoroutine")=false
 body:fn.body.isNone=true
 next:Extern.findNext fn=none
section
variable {P:ω}{main:Bool}{g:Ω}{f:aa9}{fn:Func}{args:Array Φ}{w:Θ}
theorem jh (X:Ext P f fn)(m:Mark)(he:Extern.find fn=some (λ_=>do mark m;pure Extern.Race.none_))(h:aF g=some (f,args))(hm:∀g,m≠.extern g:=by simp):
  stepG P main g w= .go (resume g (.tuple #[])) w #[⟨.mark m,false,true⟩]:=by
 obtain⟨b,a,ops,i,rest,kk,cs,o,ae,ats,rfl,h2,h3,h4,h5,h6,h7⟩:=cX h;rw[h7];exact stepG_mark0 m hm h2 h3 h4 h5 X.at_ X.name X.body X.next he
theorem fU (X:Ext P f fn)(mk:Addr->Mark)(he:Extern.find fn=some (Extern.Race.marked mk)){ad:Addr}(h:aF g=some (f,#[.pointer (some ad)]))(hm:∀ad g,mk ad≠.extern g:=by simp):
  stepG P main g w= .go (resume g (.tuple #[])) w #[⟨.mark (mk ad),false,true⟩]:=by
 obtain⟨b,a,ops,i,rest,kk,cs,o,ae,ats,rfl,h2,h3,h4,h5,h6,h7⟩:=cX h;rw[h7];exact stepG_markAt mk hm h2 h3 h4 h5 X.at_ X.name X.body X.next he (by rw[h6];rfl)
theorem K7 (X:Ext P f fn)(he:Extern.find fn=some Extern.Sync.semacquire){ad:Addr}{n:Int}{u v:Φ}(h:aF g=some (f,#[.pointer (some ad),u,v]))(hc:w.cell? ad=some (.int .u32 n))(hn:n≠0)(hz:w.frozen? ad=false):
  stepG P main g w= .go (resume g (.tuple #[])) (w.setCell ad (.int .u32 (n-1))) (semEvents ad):=by
 obtain⟨b,a,ops,i,rest,kk,cs,o,ae,ats,rfl,h2,h3,h4,h5,h6,h7⟩:=cX h;rw[h7];exact stepG_semacquire h2 h3 h4 h5 X.at_ X.name X.body X.next he (by rw[h6];rfl) hc hn hz
theorem IE (X:Ext P f fn)(he:Extern.find fn=some Extern.Sync.semacquire){ad:Addr}{u v:Φ}(h:aF g=some (f,#[.pointer (some ad),u,v]))(hc:w.cell? ad=some (.int .u32 0)):
  stepG P main g w= .go {g with status:= .blocked} w #[]:=by
 obtain⟨b,a,ops,i,rest,kk,cs,o,ae,ats,rfl,h2,h3,h4,h5,h6,h7⟩:=cX h;exact stepG_semacquire_wait h2 h3 h5 X.at_ X.name X.body X.next he (by rw[h6];rfl) hc
theorem Cm (X:Ext P f fn)(he:Extern.find fn=some Extern.Sync.semrelease){ad:Addr}{n:Int}{u v:Φ}(h:aF g=some (f,#[.pointer (some ad),u,v]))(hc:w.cell? ad=some (.int .u32 n))(hz:w.frozen? ad=false):
  stepG P main g w= .go (resume g (.tuple #[])) (w.setCell ad (.int .u32 (IntKind.u32.wrap (n+1)))) (semEvents ad):=by
 obtain⟨b,a,ops,i,rest,kk,cs,o,ae,ats,rfl,h2,h3,h4,h5,h6,h7⟩:=cX h;rw[h7];exact stepG_semrelease h2 h3 h4 h5 X.at_ X.name X.body X.next he (by rw[h6];rfl) hc hz
theorem BX (X:Ext P f fn)(h:aF g=some (f,args)):mayWake P g=true:=by
 obtain⟨b,a,ops,i,rest,kk,cs,o,ae,ats,rfl,h2,h3,h4,h5,h6,h7⟩:=cX h;have h2':fn.body=none:=by simpa using X.body
 have ef:(b.at a (.inRegion ops (i::rest)::kk)).eval (.func f)= .func (.func f) #[] #[]:=rfl;simp[mayWake,G,Frame.at,h2,h5] at ef⊢;simp[ef,X.at_,h2']
theorem zE (X:Ext P f fn)(he:Extern.find fn=some Extern.OsHooks.nano)(hq:fn.norace=true)(h:aF g=some (f,args)):
  stepG P main g w= .go (resume g (.int .i64 ((w.os.mono+w.tick:Nat):Int))) w.later #[]:=by
 obtain⟨b,a,ops,i,rest,kk,cs,o,ae,ats,rfl,h2,h3,h4,h5,h6,h7⟩:=cX h;rw[h7];exact stepG_nanotime h2 h3 h4 h5 X.at_ X.name X.body X.next he hq
theorem rG {e:Array Φ->Sem Φ}(X:Ext P f fn)(he:Extern.find fn=some e)(h:aF g=some (f,args)){v:Φ}{w':Θ}{evs:Array Event}(hrun:(e args).run P w= .ok v w')
  (hev:(e args).events P w #[⟨.mark (.extern f),false,true⟩]=#[⟨.mark (.extern f),false,true⟩]++evs) (hs:∀x∈evs,x.sync=true/\∀g,x.loc≠.mark (.extern g)):stepG P main g w= .go (resume g v) w' evs:=by
 obtain⟨b,a,ops,i,rest,kk,cs,o,ae,ats,rfl,h2,h3,h4,h5,h6,h7⟩:=cX h;rw[h7];exact stepG_entry h2 h3 h4 h5 X.at_ X.name X.body X.next he (by rw[h6];exact hrun) (by rw[h6];exact hev) hs
theorem zD (X:Ext P f fn)(v:Φ)(he:Extern.find fn=some (λ_=>pure v))(h:aF g=some (f,args)):stepG P main g w= .go (resume g v) w #[]:=
 rG X he h (by simp) (by simp) (by simp)
theorem Az (X:Ext P f fn)(he:Extern.find fn=some Extern.Sync.canSpin){k:IntKind}{n:Int}(h:aF g=some (f,#[.int k n]))(h4:4<=n):stepG P main g w= .go (resume g (.bool false)) w #[]:=by
 obtain⟨b,a,ops,i,rest,kk,cs,o,ae,ats,rfl,h2,h3,h4',h5,h6,h7⟩:=cX h;rw[h7];exact stepG_canSpin_no h2 h3 h4' h5 X.at_ X.name X.body X.next he h6 h4
theorem ID (X:Ext P f fn)(he:Extern.find fn=some Extern.Sync.canSpin){k:IntKind}{n:Int}(h:aF g=some (f,#[.int k n]))(h4:n<4):stepG P main g w= .go (resume g (.bool w.spins)) w.asked #[]:=by
 obtain⟨b,a,ops,i,rest,kk,cs,o,ae,ats,rfl,h2,h3,h4',h5,h6,h7⟩:=cX h;rw[h7];exact stepG_canSpin_ask h2 h3 h4' h5 X.at_ X.name X.body X.next he h6 h4
theorem mZ (X:Ext P f fn)(k:IntKind)(he:Extern.find fn=some (Extern.Atomic.casT (.int k))){ad:Addr}{v n:Int}(h:aF g=some (f,#[.pointer (some ad),.int k v,.int k n]))(hc:w.cell? ad=some (.int k v))(hz:w.frozen? ad=false):
  stepG P main g w= .go (resume g (.bool true)) (w.setCell ad (.int k n)) #[⟨.cell ad,false,true⟩,⟨.cell ad,true,true⟩]:=
 rG X he h (by rw[casT_eq];exact run_cas_hit_entry hc hz) (by rw[casT_eq,events_cas_hit_entry hc hz];rfl) (sync_rw ad)
theorem lZ (X:Ext P f fn)(k:IntKind)(he:Extern.find fn=some (Extern.Atomic.casT (.int k))){ad:Addr}{v old n:Int}(h:aF g=some (f,#[.pointer (some ad),.int k old,.int k n]))(hc:w.cell? ad=some (.int k v))(hz:w.frozen? ad=false)(hne:¬v=old):
  stepG P main g w= .go (resume g (.bool false)) w #[⟨.cell ad,false,true⟩]:=
 rG X he h (by rw[casT_eq];exact run_cas_miss_entry hc hz hne) (by rw[casT_eq,events_cas_miss_entry hc hz hne];rfl) (sync_r ad)
theorem rH (X:Ext P f fn)(k:IntKind)(he:Extern.find fn=some (Extern.Atomic.update (Op.intArith .add) k true)){ad:Addr}{v d:Int}(h:aF g=some (f,#[.pointer (some ad),.int k d]))(hc:w.cell? ad=some (.int k v))(hz:w.frozen? ad=false):
  stepG P main g w= .go (resume g (.int k (k.wrap (v+d)))) (w.setCell ad (.int k (k.wrap (v+d)))) #[⟨.cell ad,false,true⟩,⟨.cell ad,true,true⟩]:=
 rG X he h (run_add_entry hc hz) (by rw[events_add_entry hc hz];rfl) (sync_rw ad)
theorem qN (X:Ext P f fn)(k:IntKind)(he:Extern.find fn=some (Extern.Atomic.loadT (.int k))){ad:Addr}{v:Int}(h:aF g=some (f,#[.pointer (some ad)]))(hc:w.cell? ad=some (.int k v)):
  stepG P main g w= .go (resume g (.int k v)) w #[⟨.cell ad,false,true⟩]:=by
 obtain⟨b,a,ops,i,rest,kk,cs,o,ae,ats,rfl,h2,h3,h4,h5,h6,h7⟩:=cX h;have hl:ae.size=1:=by have:=congrArg Array.size h6;simpa using this
 obtain⟨x,rfl⟩:∃x,ae=#[x]:=by
  obtain⟨l⟩:=ae;rcases l with _|⟨x,_|⟨y,l⟩⟩<;>simp at hl
  exact⟨x,rfl⟩
 rw[h7];exact stepG_load_atomic h2 h3 h4 h5 X.at_ X.name X.body X.next k he (by simpa using h6) hc
theorem Cj (X:Ext P f fn)(he:Extern.find fn=some Extern.Atomic.storeT){k:IntKind}{ad:Addr}{v:Int}{u:Φ}(h:aF g=some (f,#[.pointer (some ad),.int k v]))(hc:w.cell? ad=some u)(hz:w.frozen? ad=false):
  stepG P main g w= .go (resume g (.tuple #[])) (w.setCell ad (.int k v)) #[⟨.cell ad,true,true⟩]:=by
 obtain⟨b,a,ops,i,rest,kk,cs,o,ae,ats,rfl,h2,h3,h4,h5,h6,h7⟩:=cX h;have hl:ae.size=2:=by have:=congrArg Array.size h6;simpa using this
 obtain⟨x,y,rfl⟩:∃x y,ae=#[x,y]:=by
  obtain⟨l⟩:=ae;rcases l with _|⟨x,_|⟨y,_|⟨z,l⟩⟩⟩<;>simp at hl
  exact⟨x,y,rfl⟩
 have h6':a.eval x= .pointer (some ad)/\a.eval y= .int k v:=by simpa using h6
 rw[h7];exact stepG_store_atomic h2 h3 h4 h5 X.at_ X.name X.body X.next he h6'.1 h6'.2 hc hz
end
def iu (g:Ω):Option (aa9×Array Φ):=
 match g.status,g.dying,g.offers,g.frame.mode,g.frame.roundOf,g.frame.defers with
 |.running,none,none,.returning,none,{target:= .fn (.func f) c,args:=args}::_=>if c.isEmpty then some (f,args) else none
 |_,_,_,_,_,_=>none
def dc (g:Ω):Ω:={g with frame:={g.frame with defers:=g.frame.defers.tail}}
theorem sO {g:Ω}{f:aa9}{args:Array Φ}(h:iu g=some (f,args)):∃(b:κ) (a:Act) (todo:List Item) (ds:List Deferred) (cs:List κ),
  g=G {b.at a todo with mode:= .returning} cs/\a.defers=dcall f args::ds/\dc g=G {b.at ⟨a.tmps,ds⟩ todo with mode:= .returning} cs:=by
 obtain⟨⟨fn,tmps,todo,defers,mode,kind,rd⟩,callers,status,dying,offers⟩:=g;unfold iu at h;simp only at h;split at h
 .rename_i f' c args' ds
  split at h
  .rename_i hc
   obtain rfl:c=#[]:=by simpa using hc
   simp only[ae9,af8] at h;obtain⟨rfl,rfl⟩:=h;exact⟨{(default:κ) with fn:=fn,kind:=kind},⟨tmps,_⟩,todo,ds,callers,rfl,rfl,rfl⟩
  .cases h
 .cases h
theorem ji {P:ω}{main:Bool}{g:Ω}{f:aa9}{fn:Func}{w:Θ}(X:Ext P f fn)(m:Mark)(hm:∀g,m≠.extern g)(he:Extern.find fn=some (λ_=>do mark m;pure Extern.Race.none_))(h:iu g=some (f,#[])):
  stepG P main g w= .go (dc g) w #[⟨.mark m,false,true⟩]:=by
 obtain⟨b,a,todo,ds,cs,rfl,h2,h3⟩:=sO h;rw[h3];exact stepG_unwind_entry (v:= .tuple #[]) h2 X.at_ X.name X.body X.next he (by simp[Extern.Race.none_]) (by simp) (by
  intro x hx;simp at hx;subst hx;exact⟨rfl,λg h=>hm g (by cases h;rfl)⟩)
inductive lu where
 |load (t:η) (a:Φ)
 |store (t:η) (a x:Φ)
 |box (t:η) (x:Φ)
 |alloc (t:η)
 |conv (s d:η) (x:Φ)
 |lookup (t:η) (m k:Φ) (ok:Bool)
 |mapUpdate (t:η) (m k x:Φ)
 |range (t:η) (x:Φ)
 |next (it:Φ) (str:Bool) (ty:η)
 |entry (it:Φ)
 |makeMap (t:η)
 |build (t:η) (parts:Array (Nat×Φ))
 |bin (op:BinOp) (t:η) (x y:Φ)
 |indexAddr (t:η) (x i:Φ)
def lu.sem:lu->Sem Next
 |.load t a=>do pure (.value (<-Instr.loadAt t a))
 |.store t a x=>do Instr.storeAt t a x;pure .skip
 |.box t x=>do pure (.value (<-Instr.box t x))
 |.alloc t=>do pure (.value (<-Instr.alloc t true (.tuple #[])))
 |.conv s d x=>do pure (.value (<-convert s d x))
 |.lookup t m k ok=>do pure (.value (<-Instr.lookup t m k ok))
 |.mapUpdate t m k x=>do Instr.mapUpdate t m k x;pure .skip
 |.range t x=>do pure (.value (<-Instr.range t x))
 |.next it str ty=>do pure (.value (<-Instr.next it str ty))
 |.entry it=>do pure (.value (<-Instr.entry it))
 |.makeMap t=>do pure (.value (<-Instr.makeMap t none))
 |.build t parts=>do pure (.value (<-Instr.build t parts))
 |.bin op t x y=>do pure (.value (<-(do eqGuard op t (.tmp 0) (.tmp 0) x y;binOp op t x y)))
 |.indexAddr t x i=>do pure (.value (<-Instr.indexAt t x i))
def z6:aa8->Bool
 |.tmp _=>true
 |_=>false
def aT (g:Ω):Option lu:=
 (Bj g).bind λo=>match o.op with
  |.load t a=>some (.load t (g.frame.eval a))
  |.store t a x=>some (.store t (g.frame.eval a) (g.frame.eval x))
  |.box t x=>some (.box t (g.frame.eval x))
  |.alloc t=>some (.alloc t)
  |.convert s d x=>some (.conv s d (g.frame.eval x))
  |.lookup t m k ok=>some (.lookup t (g.frame.eval m) (g.frame.eval k) ok)
  |.mapUpdate t m k x=>some (.mapUpdate t (g.frame.eval m) (g.frame.eval k) (g.frame.eval x))
  |.range t x=>some (.range t (g.frame.eval x))
  |.next it str=>some (.next (g.frame.eval it) str o.type)
  |.entry it=>some (.entry (g.frame.eval it))
  |.makeMap t none=>some (.makeMap t)
  |.build t ps=>some (.build t (ps.map λ(i,x)=>(i,g.frame.eval x)))
  |.binOp op t x y _=>if z6 x&&z6 y then some (.bin op t (g.frame.eval x) (g.frame.eval y)) else none
  |.indexAddr t x i=>some (.indexAddr t (g.frame.eval x) (g.frame.eval i))
  |_=>none
theorem pr (op:BinOp)(t:η)(x y:aa8)(hx:z6 x=true)(hy:z6 y=true)(a b:Φ):eqGuard op t x y a b=eqGuard op t (.tmp 0) (.tmp 0) a b:=by
 cases x<;>simp[z6] at hx;cases y<;>simp[z6] at hy;rfl
theorem mV {g:Ω}{v:lu}(h:aT g=some v):∃(b:κ) (a:Act) (ops:Array Oper) (i:Nat) (rest:List Nat) (kk:List Item) (cs:List κ) (o:Oper),
  g=G (b.at a (.inRegion ops (i::rest)::kk)) cs/\ops[i]? =some o/\Region.wanted o (yielded ops a.tmps)=true/\b.kind≠.early/\b.fn=g.frame.fn/\execOp a.eval o=v.sem/\∀v,resume g v=G (b.at (a.put o.dst v) (.inRegion ops rest::kk)) cs:=by
 unfold aT at h;obtain⟨o,ho,h⟩:=Option.bind_eq_some_iff.1 h;obtain⟨b,a,ops,i,rest,kk,cs,e1,e2,e3,e4,e5,e6,e7⟩:=uJ ho;refine⟨b,a,ops,i,rest,kk,cs,o,e1,e2,e3,e4,e5,?_,e7⟩;rw[e6];unfold execOp;split at h<;>first|(cases h;done)|(rename_i hop;rw[hop])
 case h_13=>
  split at h
  .rename_i hxy
   simp only[ξ] at hxy;simp only[ae9] at h;subst h;simp only[lu.sem];rw[pr _ _ _ _ hxy.1 hxy.2]
  .cases h
 all_goals first|(simp only[ae9] at h;subst h;rfl)|cases h
section
variable {P:ω}{main:Bool}{g:Ω}{v:lu}{w w':Θ}
theorem mY (h:aT g=some v){x:Φ}(hr:v.sem.run P w= .ok (.value x) w'):∃es,stepG P main g w= .go (resume g x) w' es/\∀e∈es,e∈v.sem.events P w #[]:=by
 obtain⟨b,a,ops,i,rest,kk,cs,o,rfl,h2,h3,h4,h5,h6,h7⟩:=mV h;refine⟨listed P b.fn a o w,?_,?_⟩
 .rw[h7];exact stepG_value h2 h3 h4 (by rw[h6];exact hr)
 .intro e he
  have:=mem_listed he
  rwa [h6] at this
theorem step_skip (h:aT g=some v)(hr:v.sem.run P w= .ok .skip w'):∃es,stepG P main g w= .go (resume g undef) w' es/\∀e∈es,e∈v.sem.events P w #[]:=by
 obtain⟨b,a,ops,i,rest,kk,cs,o,rfl,h2,h3,h4,h5,h6,h7⟩:=mV h;refine⟨listed P b.fn a o w,?_,?_⟩
 .rw[h7];exact stepG_none h2 h3 h4 (by rw[h6];exact hr)
 .intro e he
  have:=mem_listed he
  rwa [h6] at this
end
end
section
open Go.Conc
open Go.ConcN (sumTo sumTo_upd)
def ly:Co (Nat->Prop) where
 R:=λ_ w w₁=>AtRel w w₁
 D:=λown w w' es=>kx own (λ_=>False) w w' es
 up:=λown w w' b=>own b\/(w.heap.size<=b/\b<w'.heap.size)
 refl:=λ_ w=>atRel_refl w
 trans:=λ_ a b c h k=>atRel_trans a b c h k
theorem xB:ON ly (λs=>s) (λ_=>False):=
 ⟨λs w w₁ h=>by obtain⟨d,rfl⟩:=h;exact⟨φ _,rfl,λ_ _ _=>rfl⟩,λs w w' es h=>h,λs w w' b=>Iff.rfl⟩
def O8 (Shun:Loc->Prop):Co Unit where
 R:=λ_ w w₁=>AtRel w w₁
 D:=λ_ w w' es=>w.heap.size<=w'.heap.size/\w'.os=w.os/\(∀e∈es,EvL Shun w'.heap.size e)/\∀e∈es,∀a,e.loc≠.mark (.release a)
 up:=λ_ _ _=>()
 refl:=λ_ w=>atRel_refl w
 trans:=λ_ a b c h k=>atRel_trans a b c h k
theorem acP (Shun:Loc->Prop):Idle (O8 Shun):=λ_ w=>⟨⟨φ _,rfl,by simp,by simp⟩,rfl⟩
def ZD (n:Nat)(t:Trace):Prop:=∀op∈t,op.g<n
def Nr (t t':Trace):Prop:=∀op∈t',op∈t\/∀a,op.act≠.mark (.release a)
theorem Nr.refl (t:Trace):Nr t t:=λ_ h=> .inl h
theorem Nr.trans {t u v:Trace}(h:Nr t u)(k:Nr u v):Nr t v:=λop ho=>(k op ho).elim (h op) .inr
theorem vi {e:Event}{a:Addr}(h:MemAct.ofEvent e= .mark (.release a)):e.loc= .mark (.release a):=by
 obtain⟨l,x,y⟩:=e;cases l<;>cases x<;>cases y<;>simp_all [MemAct.ofEvent]
theorem Nr.own (t:Trace){g:Nat}{fn:aa9}{pos:String}{es:Array Event}(h:∀e∈es,∀a,e.loc≠.mark (.release a)):Nr t (t++MemOp.ofEvents g fn pos es):=λop ho=>by
 rcases af6.1 ho with ho|ho
 .exact .inl ho
 .obtain⟨e,he,rfl⟩:=Go.Conc.mem_ofEvents ho
  exact .inr λa x=>h e he a (vi x)
theorem Nr.mute (t:Trace){g:Nat}{fn:aa9}{pos:String}{es:Array Event}(h:∀e∈es,e.mute=true):Nr t (t++MemOp.ofEvents g fn pos es):=Nr.own t λe he a x=>by
 have:=h e he;obtain⟨l,u,v⟩:=e;simp only at x;subst x;simp[Event.mute] at this
theorem ZD.own {n:Nat}{t:Trace}(h:ZD n t){g:Nat}(hg:g<n){fn:aa9}{pos:String}{es:Array Event}:ZD n (t++MemOp.ofEvents g fn pos es):=λop ho=>by
 rcases af6.1 ho with ho|ho
 .exact h op ho
 .obtain⟨e,he,rfl⟩:=Go.Conc.mem_ofEvents ho
  exact hg
structure Apart (Shun:Loc->Prop)(own:Nat->Prop)(w:Θ):Prop where
 off:∀b,own b->∀l,aG.lX b l->¬Shun l
 lt:∀b,own b->b<w.heap.size
 low:∀l b,Shun l->aG.lX b l->b<w.heap.size
 cell:∀l,Shun l->∃a:Addr,l= .cell a
section
variable {Shun:Loc->Prop}{own:Nat->Prop}{w w':Θ}{es:Array Event}
theorem Apart.step (h:Apart Shun own w)(hs:w.heap.size<=w'.heap.size):Apart Shun (ly.up own w w') w':=
 ⟨λb hb l hl hS=>hb.elim (λx=>h.off b x l hl hS) λx=>by have:=h.low l b hS hl;omega,λb hb=>hb.elim (λx=>ψ (h.lt b x) hs) (·.2),λl b hS hl=>ψ (h.low l b hS hl) hs,h.cell⟩
theorem Apart.at (h:Apart Shun own w)(d:Nat):Apart Shun own (w.at d):=⟨h.off,h.lt,h.low,h.cell⟩
theorem RQ (h:kx own (λ_=>False) w w' es)(hA:Apart Shun own w):∀e∈es,EvL Shun w'.heap.size e:=by
 intro e he;have hA':=hA.step h.size;rcases h.ev e he with⟨b,hb,hloc⟩|⟨m,h1,h2⟩
 .have hin:aG.lX b e.loc:=hloc
  obtain⟨e1,e2,e3⟩:=aG.pj hin;have hb':ly.up own w w' b:=by
   rcases hb with hb|hb|hb
   .exact .inl hb
   .exact .inr hb
   .exact hb.1.elim
  refine⟨λx hx hS=>?_,λhm=>e1 .disable (aG.dB hm),λhm=>e1 .enable (aG.dB hm),e2 _ (hA'.lt b hb')⟩;obtain⟨z1,_⟩:=e3 x hx;rw[z1] at hS;exact absurd hS (hA'.off b hb' _ hin)
 .obtain⟨m1,m2,m3,m4,m5⟩:=aG.si h2
  have e0:=aG.dB h1;refine⟨λx hx=>?_,?_,?_,by rw[e0];exact m5 _⟩
  .rw[e0,m1] at hx;cases hx
  .rw[h1];simpa using m2
  .rw[h1];simpa using m3
theorem WF (h:kx own (λ_=>False) w w' es):∀e∈es,∀a,e.loc≠.mark (.release a):=by
 intro e he a x;rcases h.ev e he with⟨b,_,⟨a',h1,_⟩|h1⟩|⟨m,h1,h2⟩
 .rw[x] at h1;cases h1
 .rw[x] at h1;cases h1
 .rw[x] at h1;cases h1;exact h2.elim
theorem vI {P:ω}{Stop:(Nat->Prop)->Ω->Θ->Prop}{g:Ω}(h:aD P true ly Stop own g w)(hA:Apart Shun own w):
  aD P true (O8 Shun) (λ_ g w=>∃s,Stop s g w/\Apart Shun s w) () g w:=by
 obtain⟨r,h⟩:=h
 induction r generalizing own g w with
 |zero=>exact .stop λw₁ hr=>⟨own,h w₁ hr,by obtain⟨d,rfl⟩:=hr;exact hA.at d⟩
 |mk f ih=>
  rcases h with h|⟨hs,h⟩
  .exact .stop λw₁ hr=>⟨own,h w₁ hr,by obtain⟨d,rfl⟩:=hr;exact hA.at d⟩
  .refine aD.step hs λw₁ hr=>?_
   obtain⟨g',w',es,h1,h2,h3⟩:=h w₁ hr;obtain⟨d,rfl⟩:=hr;exact⟨g',w',es,h1,⟨h2.size,h2.os,RQ h2 (hA.at d),WF h2⟩,ih (w.at d) ((hA.at d).step h2.size) h3⟩
end
structure Zero (P:ω)(Shun:Loc->Prop)(M:Machine)(t:Trace)(g:Ω)(w:Θ):Prop where
 ex:∃(gs:Array Ω) (sl:Option (Nat×Nat)) (q:Nat->Nat),M=crowd gs w sl/\gs[0]? =some g/\Leavers P t gs q/\ZD gs.size t
 past:Past Shun w.heap.size t
section
variable {P:ω}{Shun:Loc->Prop}{Stop:Unit->Ω->Θ->Prop}
theorem Ix:∀(r:Rk) (n:Nat) (gs:Array Ω) (a:Ω) (w:Θ) (sl:Option (Nat×Nat)) (t:Trace) (q:Nat->Nat),sumTo gs.size q<n->gs[0]? =some a->Leavers P t gs q->ZD gs.size t->
  Past Shun w.heap.size t->hU P true (O8 Shun) Stop r () a w->
  ∃(N:Nat) (gs':Array Ω) (a':Ω) (w':Θ) (sl':Option (Nat×Nat)) (t':Trace) (q':Nat->Nat),
   runNT P N (crowd gs w sl) t=(.next (crowd gs' w' sl'),t')/\gs'[0]? =some a'/\Stop () a' w'/\Leavers P t' gs' q'/\Past Shun w'.heap.size t'/\w'.os=w.os/\ZD gs'.size t'/\Nr t t':=by
 intro r
 induction r with
 |zero=>
  intro n gs a w sl t q _ h0 hL hI hP hG;exact⟨0,gs,a,w,sl,t,q,rfl,h0,hG w (atRel_refl w),hL,hP,rfl,hI,Nr.refl t⟩
 |mk f ihf=>
  intro n
  induction n with
  |zero=>intro gs a w sl t q hM;omega
  |succ n ih=>
   intro gs a w sl t q hM h0 hL hI hP hG;rcases hG with hstop|⟨hrun,hstep⟩
   .exact⟨0,gs,a,w,sl,t,q,rfl,h0,hstop w (atRel_refl w),hL,hP,rfl,hI,Nr.refl t⟩
   have haw:∀g∈gs,awake g:=by
    intro g hg;obtain⟨i,hi,rfl⟩:=Array.mem_iff_getElem.1 hg;rcases Nat.eq_zero_or_pos i with rfl|hpos
    .have:gs[0]=a:=by simpa [ν hi] using h0
     rw[this];exact awake_of (.inl hrun)
    .exact awake_of ((hL.old i _ hpos (ν hi)).status.elim .inl λx=> .inr (.inr x))
   obtain⟨i,g,d,sl',hi,hg,hst⟩:=crowd_pick (P:=P) (w:=w) (sl:=sl) haw ⟨0,a,h0,hrun⟩;rcases Nat.eq_zero_or_pos i with rfl|hpos
   .obtain rfl:g=a:=by rw[h0] at hi;exact(ae7 hi).symm
    obtain⟨a',w',es,hgo,hd,hG'⟩:=hstep (w.at d) ⟨d,rfl⟩;have hrunT:=runT_crowd_go (P:=P) (sl:=sl') (i:=0) hi (show stepG P (0==0) g (w.at d)=_ from hgo);have hsz:((gs.map (woken P g a' w')).setIfInBounds 0 a').size=gs.size:=by simp
    have hlt:0<gs.size:=(Ψ.1 h0).1;obtain⟨hsize,hos,hev,hnr⟩:=hd;have hsize:w.heap.size<=w'.heap.size:=hsize
    obtain⟨N,gs',a'',w'',sl'',t',q',hr,h0',hS,hL',hP',ho',hI',hN'⟩:=ihf (w.at d) (sumTo ((gs.map (woken P g a' w')).setIfInBounds 0 a').size q+1) ((gs.map (woken P g a' w')).setIfInBounds 0 a') a' w' sl' (t++MemOp.ofEvents 0 g.frame.fn g.frame.place es) q (Nat.lt_succ_self _) (by simp[hlt])
     ⟨λj x hj hx=>by
      have hne:0≠j:=by omega
      rw[aa6 hne,af2] at hx;obtain⟨y,hy,rfl⟩:=τ.1 hx;have hq:=hL.old j y hj hy;rw[woken_quitsD hq,Deaf_other t (by omega) _ (λop hop=>by obtain⟨e,_,rfl⟩:=Go.Conc.mem_ofEvents hop;rfl)];exact hq,λj hj=>by
      rw[Deaf_other t (g':=0) (by simp at hj;omega) _ (λop hop=>by obtain⟨e,_,rfl⟩:=Go.Conc.mem_ofEvents hop;rfl)];exact hL.above j (by simpa using hj)⟩
     (by rw[hsz];exact hI.own hlt) ((hP.mono hsize).own hev) hG'
    exact⟨N+1,gs',a'',w'',sl'',t',q',by simp only[runNT,hst,hrunT];exact hr,h0',hS,hL',hP',ho'.trans hos,hI',(Nr.own t hnr).trans hN'⟩
   ·
    have hq:=hL.old i g hpos hi;have hi0:(i==0)=false:=by simp;omega
    have hlt:i<gs.size:=(Ψ.1 hi).1;cases hqi:q i with
    |zero=>rw[hqi] at hq;rw[hq.1] at hg;cases hg
    |succ k=>
     rw[hqi] at hq;rcases hq with⟨hf,_⟩|⟨_,g',es,hm,hstp,hq'⟩
     .rw[hf] at hg;cases hg
     have hrunT:=runT_crowd_go (P:=P) (sl:=sl') (i:=i) hi (by rw[hi0];exact hstp (w.at d));have hsz:((gs.map (woken P g g' (w.at d))).setIfInBounds i g').size=gs.size:=by simp
     have hsum:sumTo gs.size (Go.ConcN.upd q i k)+(k+1)=sumTo gs.size q+k:=by
      have:=sumTo_upd q k id hlt;simpa [hqi] using this
     obtain⟨N,gs',a'',w'',sl'',t',q',hr,h0',hS,hL',hP',ho',hI',hN'⟩:=ih ((gs.map (woken P g g' (w.at d))).setIfInBounds i g') a (w.at d) sl' (t++MemOp.ofEvents i g.frame.fn g.frame.place es) (Go.ConcN.upd q i k) (by rw[hsz];omega)
      (by
       have hne:i≠0:=by omega
       rw[aa6 hne,af2,h0];simp[woken_run hrun])
      ⟨λj x hj hx=>by
       by_cases hji:i=j
       .subst hji
        rw[ae4 (by simpa using hlt)] at hx;obtain rfl:=ae7 hx;rw[Go.ConcN.upd_same,Deaf_own];exact hq'
       .rw[aa6 hji,af2] at hx
        obtain⟨y,hy,rfl⟩:=τ.1 hx;have hqj:=hL.old j y hj hy;rw[woken_quitsD hqj,Go.ConcN.upd_ne q k (Ne.symm hji),Deaf_other t hji _ (λop hop=>by obtain⟨e,_,rfl⟩:=Go.Conc.mem_ofEvents hop;rfl)];exact hqj,λj hj=>by
       rw[Deaf_other t (g':=i) (by simp at hj;omega) _ (λop hop=>by obtain⟨e,_,rfl⟩:=Go.Conc.mem_ofEvents hop;rfl)];exact hL.above j (by simpa using hj)⟩
      (by rw[hsz];exact hI.own hlt) (hP.mute (by omega) hm) (hU.rely (C:=O8 Shun) (r:= .mk f) (.inr ⟨hrun,hstep⟩) ⟨d,rfl⟩)
     exact⟨N+1,gs',a'',w'',sl'',t',q',by simp only[runNT,hst,hrunT];exact hr,h0',hS,hL',hP',ho',hI',(Nr.mute t hm).trans hN'⟩
theorem kY {M:Machine}{t:Trace}{g:Ω}{w:Θ}(hz:Zero P Shun M t g w)(h:aD P true (O8 Shun) Stop () g w):
  ∃(N:Nat) (M':Machine) (t':Trace) (g':Ω) (w':Θ),runNT P N M t=(.next M',t')/\Zero P Shun M' t' g' w'/\Stop () g' w'/\w'.os=w.os/\Nr t t':=by
 obtain⟨r,h⟩:=h;obtain⟨gs,sl,q,rfl,h0,hL,hI⟩:=hz.ex;obtain⟨N,gs',a',w',sl',t',q',h1,h2,h3,h4,h5,h6,h7,h8⟩:=Ix r _ gs g w sl t q (Nat.lt_succ_self _) h0 hL hI hz.past h;exact⟨N,_,t',a',w',h1,⟨⟨gs',sl',q',rfl,h2,h4,h7⟩,h5⟩,h3,h6,h8⟩
end
end
section
open Go.RowKit
theorem pQ {k:IntKind}{a b:Int}(h:a=b):Ending.returned (.int k a)= .returned (.int k b):=by rw[h]
def ai (p:Prop):Prop:=p
theorem ai.go {p:Prop}(h:p):ai p:=h
def Row (w:Θ)(b:Nat)(c:Array Φ)(t:η):Prop:=w.heap[b]? =some (.cells c t (0,0))
structure aO (S:List Nat)(w w':Θ):Prop where
 os:w'.os=w.os
 tape:w'.tape=w.tape
 output:w'.output=w.output
 size:w.heap.size<=w'.heap.size
 block:∀k,k<w.heap.size->k∉S->w'.heap[k]? =w.heap[k]?
theorem aO.refl (S:List Nat)(w:Θ):aO S w w:=⟨rfl,rfl,rfl,φ _,λ_ _ _=>rfl⟩
theorem aO.mono {S T:List Nat}{w w':Θ}(h:aO S w w')(hs:∀k∈S,k∈T\/w.heap.size<=k:=by simp):aO T w w':=
 ⟨h.os,h.tape,h.output,h.size,λk hk hT=>h.block k hk λhS=>(hs k hS).elim hT (by omega)⟩
theorem aO.trans {S T:List Nat}{a b c:Θ}(h:aO S a b)(k:aO T b c)(hT:∀i∈T,i∈S\/a.heap.size<=i:=by simp):aO S a c:=
 ⟨k.os.trans h.os,k.tape.trans h.tape,k.output.trans h.output,ae3 h.size k.size,
  λi hi hS=>(k.block i (ψ hi h.size) λx=>(hT i x).elim hS (by omega)).trans (h.block i hi hS)⟩
theorem aO.alloc (S:List Nat)(w:Θ)(o:Obj):aO S w (w.alloc o):=⟨rfl,rfl,rfl,by simp,λk hk _=>Below.heap_alloc w o k hk⟩
theorem aO.drew (S:List Nat)(w:Θ):aO S w w.drew:=⟨rfl,rfl,rfl,φ _,λ_ _ _=>rfl⟩
theorem aO.setRow (S:List Nat)(w:Θ)(b:Nat)(c:Array Φ)(hb:b∈S:=by simp):aO S w (w.setRow b c):=
 ⟨rfl,rfl,rfl,by simp,λk _ hk=>setRow_other w b k c λe=>hk (e▸hb)⟩
theorem aO.setCell (S:List Nat)(w:Θ)(a:Addr)(v:Φ)(hb:a.block∈S:=by simp):aO S w (w.setCell a v):=
 ⟨rfl,rfl,rfl,by simp,λk _ hk=>heap_setCell_other w a k v λe=>hk (e▸hb)⟩
theorem aO.row {S:List Nat}{w w':Θ}(h:aO S w w'){b:Nat}{c:Array Φ}{t:η}(hr:Row w b c t)(hb:b∉S:=by simp):Row w' b c t:=by
 unfold Row at*;rw[h.block b (Ψ.1 hr).1 hb];exact hr
theorem aO.of_below {w w':Θ}(h:Below w.heap.size w w'):aO [] w w':=⟨h.os,h.tape,h.output,h.size,λk hk _=>h.block k hk⟩
theorem aO.owns {S:List Nat}{w w':Θ}(h:aO S w w'){base:Nat}{e:η}{size:Nat}{v:Φ}{n:Nat}{xs:List Φ}(ho:w.ownsRow base e size v n xs)(hb:∀k∈S,v.ownBlock≠some k:=by simp):
  w'.ownsRow base e size v n xs:=by
 refine⟨ho.1,?_⟩;rcases ho.2 with hn|⟨g,cap,cur,rfl,hb',hg,r⟩
 .exact .inl hn
 .exact .inr ⟨g,cap,cur,rfl,hb',by rw[h.block g (Ψ.1 hg).1 λhs=>hb g hs rfl];exact hg,r⟩
theorem aO.grown {w w':Θ}{row:Option Nat}(h:w.grownBy w' row):aO row.toList w w':=
 ⟨h.os,h.tape,h.output,h.size,λk hk hn=>h.block k hk λe=>hn (by simp[<-e])⟩
theorem Row.lt {w:Θ}{b:Nat}{c:Array Φ}{t:η}(h:Row w b c t):b<w.heap.size:=(Ψ.1 h).1
theorem Row.cell {w:Θ}{b:Nat}{c:Array Φ}{t:η}(h:Row w b c t)(j:Nat):w.cell? ⟨b,j,none⟩=c[j]? :=cell_of_row w b j c t (0,0) h
theorem Row.thaw {w:Θ}{b:Nat}{c:Array Φ}{t:η}(h:Row w b c t)(j:Nat):w.frozen? ⟨b,j,none⟩=false:=frozen_of_row w b j c t h
theorem Row.new (w:Θ)(c:Array Φ)(t:η):Row (w.alloc (.cells c t)) w.heap.size c t:=heap_alloc_new w _
theorem Row.setCell {w:Θ}{b:Nat}{c:Array Φ}{t:η}(h:Row w b c t)(i:Nat)(v:Φ):Row (w.setCell ⟨b,i,none⟩ v) b (c.setIfInBounds i v) t:=
 heap_setCell_same w b i c t v h
theorem Row.setRow {w:Θ}{b:Nat}{c:Array Φ}{t:η}(h:Row w b c t)(d:Array Φ):Row (w.setRow b d) b d t:=setRow_heap w b c d t (0,0) h
theorem Row.drew {w:Θ}{b:Nat}{c:Array Φ}{t:η}(h:Row w b c t):Row w.drew b c t:=h
def over (c:Array Φ)(o:Nat)(vs:List Φ):Array Φ:=(c.toList.take o++vs++c.toList.drop (o+vs.length)).toArray
theorem bG (c:Array Φ)(vs:List Φ)(h:c.size=vs.length):over c 0 vs=vs.toArray:=by
 simp[over,<-h]
theorem bX {α:Type}{l xs:List α}{m:Nat}(h:l.take m=xs)(i j:Nat)(hk:i+j<=m:=by omega):(l.drop i).take j=(xs.drop i).take j:=by
 subst h;rw[List.drop_take,List.take_take]
 congr 1
 omega
theorem bm (l:List Φ)(i:Nat)(a:Φ):l.toArray.setIfInBounds i a=(l.set i a).toArray:=List.setIfInBounds_toArray l i a
theorem bn (x:Φ)(xs:List Φ)(i:Nat)(a:Φ):(x::xs).set (i+1) a=x::xs.set i a:=rfl
theorem bk (x:Φ)(xs:List Φ)(a:Φ):(x::xs).set 0 a=a::xs:=rfl
theorem bM {w:Θ}{base:Nat}{e:η}{size:Nat}{v:Φ}{n:Nat}{xs:List Φ}(h:w.ownsRow base e size v n xs):∃ad cap,v= .slice ad n cap:=by
 rcases h.2 with⟨rfl,rfl⟩|⟨g,cap,_,rfl,_⟩
 .exact⟨_,_,rfl⟩
 .exact⟨_,_,rfl⟩
theorem dL {w:Θ}{base:Nat}{e:η}{size:Nat}{ad:Option Addr}{cap n:Nat}{xs:List Φ}(h:w.ownsRow base e size (.slice ad n cap) n xs)(hn:0<n:=by omega):
  ∃g cur,ad=some ⟨g,0,none⟩/\Row w g cur e/\n<=cap/\cap<=maxLen/\cur.size=cap*size/\cur.toList.take (n*size)=xs:=by
 rcases h.2 with⟨hv,rfl⟩|⟨g,cap',cur,hv,_,hg,r⟩
 .omega
 .simp only[Value.slice.injEq] at hv
  obtain⟨rfl,_,rfl⟩:=hv;exact⟨g,cur,rfl,hg,r⟩
section
variable {P:ω}{ops:Array Oper}{Q:Exit->Act->Θ->Prop}{a:Act}{w:Θ}{rest:List Oper}{o:Oper}
theorem ay {t:η}(_:o.op= .alloc t)(h:ai (wpList P ops Q (o::rest) a w)):wpList P ops Q (o::rest) a w:=h
theorem bC {t:η}{x:aa8}(_:o.op= .box t x)(h:ai (wpList P ops Q (o::rest) a w)):wpList P ops Q (o::rest) a w:=h
theorem ax (t:η){x:aa8}(_:o.op= .load t x)(h:ai (wpList P ops Q (o::rest) a w)):wpList P ops Q (o::rest) a w:=h
theorem ah (t:η){x y:aa8}(_:o.op= .store t x y)(h:ai (wpList P ops Q (o::rest) a w)):wpList P ops Q (o::rest) a w:=h
theorem EF {t:η}{x:aa8}{f:Nat}(_:o.op= .field t x f)(h:ai (wpList P ops Q (o::rest) a w)):wpList P ops Q (o::rest) a w:=h
theorem dn (t:η){bo:BinOp}{u:η}{x y:aa8}(_:o.op= .binOp bo t x y u)(h:ai (wpList P ops Q (o::rest) a w)):wpList P ops Q (o::rest) a w:=h
theorem fy {t u:η}{x:aa8}(_:o.op= .convert t u x)(h:ai (wpList P ops Q (o::rest) a w)):wpList P ops Q (o::rest) a w:=h
theorem bN (hg:o.guard=none)(v:Φ)(w1:Θ)(hr:(execOp a.eval o).run P w= .ok (.value v) w1)(h:wpList P ops Q rest (a.put o.dst v) w1):wpList P ops Q (o::rest) a w:=
 wpList_plain hg λK hK=>by
  unfold Oper.wp;rw[hr];exact hK _ _ h
theorem Ao (hg:o.guard=none)(w1:Θ)(hr:(execOp a.eval o).run P w= .ok .skip w1)(h:wpList P ops Q rest (a.put o.dst undef) w1):wpList P ops Q (o::rest) a w:=
 wpList_plain hg λK hK=>by
  unfold Oper.wp;rw[hr];exact hK _ _ h
theorem bh (hg:o.guard=none)(t:η)(ho:o.op= .alloc t)(z:Φ)(hz:(P.info? t).map (·.zero)=some (some z))
  (h:∀(w1:Θ) (b:Nat),w.heap.size<=b->aO [] w w1->Row w1 b z.cells t->wpList P ops Q rest (a.put o.dst (.pointer (some ⟨b,0,none⟩))) w1):wpList P ops Q (o::rest) a w:=by
 refine bN hg _ (w.alloc (.cells z.cells t)) ?_ (h _ _ (φ _) (aO.alloc _ _ _) (Row.new _ _ _));cases hi:P.info? t with
 |none=>simp[hi] at hz
 |some i=>
  have hz':i.zero=some z:=by simpa [hi] using hz
  simp[execOp,ho,Instr.alloc,zeroValue,typeInfo,hi,hz',newVar,newRow,Sem.run_bind]
theorem fN (hg:o.guard=none)(t:η)(x:aa8)(ho:o.op= .box t x)(v:Φ)(hx:a.eval x=v)
  (h:∀(w1:Θ) (b:Nat),w.heap.size<=b->aO [] w w1->Row w1 b v.cells t->wpList P ops Q rest (a.put o.dst (.pointer (some ⟨b,0,none⟩))) w1):wpList P ops Q (o::rest) a w:=by
 refine bN hg _ (w.alloc (.cells v.cells t)) ?_ (h _ _ (φ _) (aO.alloc _ _ _) (Row.new _ _ _));simp[execOp,ho,hx,Instr.box,newVar,newRow]
theorem bV (hg:o.guard=none)(t:η)(x:aa8)(ho:o.op= .load t x)(b off:Nat)(hx:a.eval x= .pointer (some ⟨b,off,none⟩))
  (hu:(P.underlying t).map TypeDesc.isRow=some true) (n:Nat) (hi:(P.info? t).map (·.size)=some n)
  (c:Array Φ) (u:η) (hr:Row w b c u) (vs:List Φ) (hv:(c.toList.drop off).take n=vs) (hl:vs.length=n)
  (h:wpList P ops Q rest (a.put o.dst (.agg vs.toArray)) w):wpList P ops Q (o::rest) a w:=by
 obtain⟨d,hu',hd⟩:=τ.1 hu;refine wpList_load_mid hg t x ho b off hx vs d (λj v hj=>?_) hu' hd (by rw[hi,hl]) h;rw[hr.cell];subst hv;rw[List.getElem?_take] at hj;split at hj
 .simpa [ag2] using hj
 .cases hj
theorem nU (t:η)(b off:Nat)(cells:Array Φ)(n:Nat)(hi:(P.info? t).map (·.size)=some n)(hn:cells.size=n)(h1:∀v∈cells.toList,v.oneCell'=true)
  (c:Array Φ) (u:η) (hr:Row w b c u) (hfit:off+n<=c.size):
  (Instr.storeAt t (.pointer (some ⟨b,off,none⟩)) (.agg cells)).run P w= .ok () (w.setRow b (over c off cells.toList)):=by
 subst hn;have:=run_storeCells_at P b off u cells.toList 0 c w hr (by simpa using hfit) h1;cases hq:P.info? t with
 |none=>simp[hq] at hi
 |some i=>
  have hs:i.size=cells.size:=by simpa [hq] using hi
  simp only[Nat.add_zero] at this;simp[Instr.storeAt,Instr.sureAddr,storeVar,sizeOf,typeInfo,hq,Value.cells,hs,this,over,Sem.run_bind]
theorem bP (hg:o.guard=none)(t:η)(x y:aa8)(ho:o.op= .store t x y)(b off:Nat)(hx:a.eval x= .pointer (some ⟨b,off,none⟩))
  (cells:Array Φ) (hy:a.eval y= .agg cells) (n:Nat) (hi:(P.info? t).map (·.size)=some n) (hn:cells.size=n) (h1:∀v∈cells.toList,v.oneCell'=true)
  (c:Array Φ) (u:η) (hr:Row w b c u) (hfit:off+n<=c.size)
  (h:∀w1:Θ,aO [b] w w1->Row w1 b (over c off cells.toList) u->wpList P ops Q rest (a.put o.dst undef) w1):wpList P ops Q (o::rest) a w:=by
 refine Ao hg (w.setRow b (over c off cells.toList)) ?_ (h _ (aO.setRow _ _ _ _) (hr.setRow _));have:=nU (P:=P) t b off cells n hi hn h1 c u hr hfit;simp[execOp,ho,hx,hy,this]
theorem lH {fn:Func}{R:Ending->Θ->Prop}{tp:Tmp}{ty:η}(hf:fn.results=#[.cell tp ty])(b:Nat)(hp:a.tmps.getD tp undef= .pointer (some ⟨b,0,none⟩))(hd:a.defers=[])
  (c:Array Φ) (u:η) (hr:Row w b c u) (hu:(P.underlying ty).map TypeDesc.isRow=some true) (hi:(P.info? ty).map (·.size)=some c.size) (h:R (.returned (.agg c)) w):bodyPost P fn R .ret a w:=by
 obtain⟨d,hu',hd'⟩:=τ.1 hu;exact bodyPost_ret (results_cell_row hf a.tmps w b u c (0,0) d hp hr hu' (by revert hd' hu';cases d<;>intro x y<;>first|rfl|cases y) hi) hd h
end
end
section
open Go.Conc
def Mg (P:ω)(S E:aa9->Bool)(str:Bool)(f:aa9):Bool:=match P.funcs[f]? with
 |some fn=>!(fn.name== "runtime.NumGoroutine")&&(match fn.body with
  |some c=>xg P S E str c
  |none=>false)
 |none=>false
theorem Di {P:ω}{S E:aa9->Bool}{str:Bool}{f:aa9}(h:Mg P S E str f=true):∃fn c,P.funcs[f]? =some fn/\(fn.name== "runtime.NumGoroutine")=false/\fn.body=some c/\xg P S E str c=true:=by
 unfold Mg at h;cases hf:P.funcs[f]? with
 |none=>simp[hf] at h
 |some fn=>
  rw[hf] at h;simp only[ξ,Bool.not_eq_true'] at h;obtain⟨h1,h2⟩:=h;cases hb:fn.body with
  |none=>rw[hb] at h2;cases h2
  |some c=>rw[hb] at h2;exact⟨fn,c,rfl,h1,hb,h2⟩
theorem xG:(decide (Tryz.prog.globals.size<=1))=true:=by kernel_rfl
theorem If:Tryz.prog.cellsOf 1000000=0:=by kernel_rfl
def S1 (f:aa9):Bool:=[166,51,83,82,81,114,115,116,117].contains f
theorem abo:([166,51,83,82,81,114,115,116,117].all (Mg Tryz.prog S1 (λ_=>false) false))=true:=by kernel_rfl
theorem aa0:Stat Tryz.prog S1 (λ_=>false) false where
 y8:=of_decide_eq_true xG
 tT:=If
 body:=λf hf=>by
  have h:f∈[166,51,83,82,81,114,115,116,117]:=by simpa [S1] using hf
  exact Di (ae6.1 abo f h)
 ext:=λf hf=>by cases hf
def l0:List Nat:=[14,15,16,18,19,20,21,22,23,24,25,26,27,29,32,33,35,36,37,38,39,40,41,42,43,44,45,46,47,48,49,50,51,52,53,54,56,57,58,59,60,61,62,63,64,65,66,67,69,70,71,72,73,74,75,76,77,78,79,80,81,82,83,84,85,86,87,92,93,94,95,96,97,98,99,100,101,102,103,104,105,106,107,108,109,110,111,112,113,114,115,116,117,118,119,120,121,122,123,124,125,126,127,128,129,136,137,138,139,140,141,142,143,144,145,146,147,148,149,150,151,152,153,154,155,156,157,158,159,160,166,179,180,181,182,183,184,185,186,187,188,189,190,191,192,206,207,209,210,91]
def S0 (f:aa9):Bool:=l0.contains f
def E0 (f:aa9):Bool:=[161,205,208,211].contains f
theorem V3:l0.all (Mg Tryz.prog S0 E0 true)=true:=by kernel_rfl
theorem abp (f:aa9)(hf:f∈l0):Mg Tryz.prog S0 E0 true f=true:=ae6.1 V3 f hf
theorem zc:Extern.find Tryz.f161=some Extern.AbiNoEscape.same:=by kernel_rfl
theorem xP:Extern.find Tryz.f205=some Extern.BytealgIndexByte.indexByte:=by kernel_rfl
theorem find_index:Extern.find Tryz.f208=some Extern.BytealgIndex.index:=by kernel_rfl
theorem vq:Extern.find Tryz.f211=some (Extern.BytealgMakeNoZero.makeNoZero Tryz.f211.params Tryz.f211.resultTypes):=by kernel_rfl
theorem yV:(Extern.findNext Tryz.f161).isNone=true:=by kernel_rfl
theorem xh:(Extern.findNext Tryz.f205).isNone=true:=by kernel_rfl
theorem Fj:(Extern.findNext Tryz.f208).isNone=true:=by kernel_rfl
theorem vj:(Extern.findNext Tryz.f211).isNone=true:=by kernel_rfl
theorem yW:(Tryz.f161.name== "runtime.NumGoroutine")=false:=by kernel_rfl
theorem xk:(Tryz.f205.name== "runtime.NumGoroutine")=false:=by kernel_rfl
theorem Fp:(Tryz.f208.name== "runtime.NumGoroutine")=false:=by kernel_rfl
theorem vl:(Tryz.f211.name== "runtime.NumGoroutine")=false:=by kernel_rfl
theorem zn:Tryz.f161.body.isNone=true:=by kernel_rfl
theorem yg:Tryz.f205.body.isNone=true:=by kernel_rfl
theorem Gt:Tryz.f208.body.isNone=true:=by kernel_rfl
theorem vr:Tryz.f211.body.isNone=true:=by kernel_rfl
theorem Cp:Stat Tryz.prog S0 E0 true where
 y8:=of_decide_eq_true xG
 tT:=If
 body:=λf hf=>Di (abp f (by simpa [S0] using hf))
 ext:=λf hf π hi h0 N V args=>by
  have hf':f=161\/f=205\/f=208\/f=211:=by simpa [E0] using hf
  rcases hf' with rfl|rfl|rfl|rfl
  .exact m9 Tryz.func161 yW zn (Option.isNone_iff_eq_none.1 yV) zc (AE args)
  .exact m9 Tryz.func205 xk yg (Option.isNone_iff_eq_none.1 xh) xP (yO args)
  .exact m9 Tryz.func208 Fp Gt (Option.isNone_iff_eq_none.1 Fj) find_index (AG h0 (of_decide_eq_true xG) args)
  .exact m9 Tryz.func211 vl vr (Option.isNone_iff_eq_none.1 vj) vq (wv _ _ args)
theorem pn {P:ω}{Stop:(Nat->Prop)->Ω->Θ->Prop}(K:Nat->Prop){own:Nat->Prop}{g:Ω}{w:Θ}(h:aD P true ly Stop own g w)(hK:∀q,K q->q<w.heap.size/\¬own q):
  aD P true ly (λs g w'=>Stop s g w'/\(∀q,K q->¬s q/\w'.heap[q]? =w.heap[q]?)/\w'.output=w.output) own g w:=by
 obtain⟨r,h⟩:=h
 suffices key:∀w0:Θ,(∀q,K q->w.heap[q]? =w0.heap[q]?)->w.output=w0.output->aD P true ly (λs g w'=>Stop s g w'/\(∀q,K q->¬s q/\w'.heap[q]? =w0.heap[q]?)/\w'.output=w0.output) own g w from key w (λ_ _=>rfl) rfl
 induction r generalizing own g w with
 |zero=>exactλw0 he ho=> .stop λw₁ hr=>⟨h w₁ hr,λq hq=>⟨(hK q hq).2,by obtain⟨d,rfl⟩:=hr;exact he q hq⟩,by obtain⟨d,rfl⟩:=hr;exact ho⟩
 |mk f ih=>
  intro w0 he ho;rcases h with h|⟨hs,h⟩
  .exact .stop λw₁ hr=>⟨h w₁ hr,λq hq=>⟨(hK q hq).2,by obtain⟨d,rfl⟩:=hr;exact he q hq⟩,by obtain⟨d,rfl⟩:=hr;exact ho⟩
  .refine aD.step hs λw₁ hr=>?_
   obtain⟨g',w',es,h1,h2,h3⟩:=h w₁ hr;obtain⟨d,rfl⟩:=hr;have h2':kx own (λ_=>False) (w.at d) w' es:=h2;exact⟨g',w',es,h1,h2,ih (w.at d) (λq hq=>⟨ψ (hK q hq).1 h2'.size,λhu=>hu.elim (hK q hq).2 λx=>by
    have h4:=(hK q hq).1;have h5:w.heap.size<=q:=x.1;omega⟩) h3 w0 (λq hq=>(h2'.keep q (hK q hq).1 (hK q hq).2).trans (he q hq)) (h2'.output.trans ho)⟩
theorem Link.less {H Z O RO:Nat->Prop}{π:Nat->Nat}{wL w:Θ}(h:Link H Z O RO π wL w)(K:Nat->Prop)(hK:∀b,gV H wL b->¬K (π b)):Link H Z (λb=>O b/\¬K b) RO π wL w:=
 ⟨h.inj,h.zero,h.lt,h.lw,h.wr,λb hv hz=>⟨h.own b hv hz,hK b hv⟩,h.ro⟩
theorem Apart.union {Shun:Loc->Prop}{own:Nat->Prop}{w:Θ}(h:Apart Shun own w)(K:Nat->Prop)(hK:∀q,K q->q<w.heap.size/\∀l,aG.lX q l->¬Shun l):Apart Shun (λb=>own b\/K b) w:=
 ⟨λb hb l hl=>hb.elim (λx=>h.off b x l hl) λx=>(hK b x).2 l hl,λb hb=>hb.elim (h.lt b) λx=>(hK b x).1,h.low,h.cell⟩
theorem Apart.part {Shun:Loc->Prop}{own own':Nat->Prop}{w:Θ}(h:Apart Shun own w)(hs:∀b,own' b->own b):Apart Shun own' w:=
 ⟨λb hb=>h.off b (hs b hb),λb hb=>h.lt b (hs b hb),h.low,h.cell⟩
theorem Link.wider {H Z O O' RO:Nat->Prop}{π:Nat->Nat}{wL w:Θ}(h:Link H Z O RO π wL w)(ho:∀b,O b->O' b):Link H Z O' RO π wL w:=⟨h.inj,h.zero,h.lt,h.lw,h.wr,λb hb hz=>ho _ (h.own b hb hz),h.ro⟩
theorem Dh {P:ω}{S E:aa9->Bool}{str:Bool}{o:Oper}(h:mj P S E str o=true):eM (sl []) P S E str o=true:=by simp[eM,sl,h]
theorem sa {π:Nat->Nat}(a:Act)(d:Option Tmp)(v:Φ):(aY π a []).put d (Value.ren π v)=aY π (a.put d v) []:=iq a [] d v λ_ _=>by simp[sl]
theorem JW {π:Nat->Nat}(a:Act){x:aa8}(hx:nX x=true):(aY π a []).eval x=Value.ren π (a.eval x):=lk a [] hx (by cases x<;>rfl)
namespace av
abbrev PP:ω:=Tryz.prog
abbrev no:Nat->Prop:=λ_=>False
structure Env where
 Ok:Machine->Trace->Prop
 back:∀N M t M' t',runNT PP N M t=(.next M',t')->Ok M' t'->Ok M t
 os:Os
 H:Nat->Prop
 K:Nat->Option Obj
 out:Array (Nat×Ξ)
def KF (K:Nat->Option Obj)(Shun:Loc->Prop)(own:Nat->Prop)(w:Θ):Prop:=∀q o,K q=some o->¬own q/\w.heap[q]? =some o/\∀l,aG.lX q l->¬Shun l
def Osl (E:Env)(w:Θ):Prop:=ConcM.OsLater E.os w.os/\w.output=E.out
structure BH (E:Env)(π:Nat->Nat)(wL:Θ)(M:Machine)(t:Trace)(g:Ω):Prop where
 ex:∃(Shun:Loc->Prop) (own:Nat->Prop) (w:Θ),Zero PP Shun M t g w/\Link E.H no own no π wL w/\Apart Shun own w/\Osl E w/\KF E.K Shun own w
abbrev VA (H:Nat->Prop)(wL:Θ)(c:Array Φ):Prop:=∀v∈c,VV (gV H wL) v
section
variable {H Z O RO:Nat->Prop}{π:Nat->Nat}{wL w:Θ}
theorem _root_.Go.Proofs.YtchcmhodnkgojaaGreat.Link.az (h:Link H Z O RO π wL w)(t:dZ)(d:Nat):Link H Z O RO π (az wL t d) w:=⟨h.inj,h.zero,h.lt,h.lw.az t d,h.wr,h.own,h.ro⟩
theorem _root_.Go.Proofs.YtchcmhodnkgojaaGreat.Link.B4 {t:dZ}{d:Nat}(h:Link H Z O RO π (az wL t d) w):Link H Z O RO π wL w:=⟨h.inj,h.zero,h.lt,h.lw.az wL.tape wL.drawn,h.wr,h.own,h.ro⟩
theorem _root_.Go.Proofs.YtchcmhodnkgojaaGreat.Link.at (h:Link H Z O RO π wL w)(d:Nat):Link H Z O RO π wL (w.at d):=
 ⟨h.inj,h.zero,h.lt,h.lw,⟨h.wr.inj,rfl,rfl,h.wr.lt,h.wr.ok,h.wr.hid,h.wr.oq,h.wr.low,h.wr.yx⟩,h.own,h.ro⟩
end
theorem BH.az {E:Env}{π:Nat->Nat}{wL:Θ}{M:Machine}{tr:Trace}{g:Ω}(t:dZ)(d:Nat):BH E π (az wL t d) M tr g↔BH E π wL M tr g:=
 ⟨λ⟨D,o,w,h1,h2,h3⟩=>⟨D,o,w,h1,h2.B4,h3⟩,λ⟨D,o,w,h1,h2,h3⟩=>⟨D,o,w,h1,h2.az t d,h3⟩⟩
theorem A0 (own:Nat->Prop)(w:Θ):kx own no w w #[]:=⟨φ _,λ_ _ _=>rfl,rfl,rfl,rfl,by simp⟩
theorem GI (s:Nat->Prop)(w:Θ):ly.up s w w=s:=funext λb=>propext ⟨λh=>h.elim id λh=>by omega,.inl⟩
theorem kD {H:Nat->Prop}{π cu:Nat->Nat}{wL:Θ}{a:Act}(ha:VA H wL a.tmps)(h:∀b,b<wL.heap.size->cu b=π b)(D:lx):aY π a D=aY cu a D:=by
 unfold aY;rw[kW λv hv r x=>(h r (ha v hv r x).1).symm]
theorem VA.grow {H:Nat->Prop}{wL bI:Θ}{c:Array Φ}(h:VA H wL c)(hs:wL.heap.size<=bI.heap.size):VA H bI c:=λv hv=>(h v hv).weak λ_ hi=>⟨ψ hi.1 hs,hi.2⟩
section
variable (Ok:Env)
def CI (f:aa9)(t:List Item)(R:Act->Θ->Prop)(a:Act)(wL:Θ):Prop:=
 ∀(CS:List κ) (π:Nat->Nat) (M:Machine) (tr:Trace),BH Ok π wL M tr (G ((base f).at (aY π a []) t) CS)->VA Ok.H wL a.tmps->a.defers=[]->
  (∀(a':Act) (bI:Θ) (cu:Nat->Nat) (M':Machine) (j6:Trace) (todo:List Item),(∃t d,R a' (az bI t d))->BH Ok cu bI M' j6 (G {(base f).at (aY cu a' []) todo with mode:= .returning} CS)->
   VA Ok.H bI a'.tmps->a'.defers=[]->(∀b,b<wL.heap.size->cu b=π b)->wL.heap.size<=bI.heap.size->Ok.Ok M' j6)->Ok.Ok M tr
def CC (f:aa9)(args:Array Φ)(R:Φ->Θ->Prop)(wL:Θ):Prop:=
 ∀(c:κ) (CS:List κ) (π:Nat->Nat) (M:Machine) (tr:Trace),BH Ok π wL M tr (G (Frame.enter PP f (args.map (Value.ren π)) .normal) (c::CS))->VA Ok.H wL args->
  (∀(v:Φ) (bI:Θ) (cu:Nat->Nat) (M':Machine) (j6:Trace),(∃t d,R v (az bI t d))->BH Ok cu bI M' j6 (G (c.finish (Value.ren cu v)) CS)->VV (gV Ok.H bI) v->
   (∀b,b<wL.heap.size->cu b=π b)->wL.heap.size<=bI.heap.size->Ok.Ok M' j6)->Ok.Ok M tr
end
section
variable {Ok:Env}{f:aa9}{k t:List Item}{R:Act->Θ->Prop}{a:Act}{wL:Θ}
theorem nL (t':dZ)(d:Nat):CI Ok f t R a (az wL t' d)↔CI Ok f t R a wL:=
 ⟨λh CS π M tr hp=>h CS π M tr ((BH.az t' d).2 hp),λh CS π M tr hp=>h CS π M tr ((BH.az t' d).1 hp)⟩
theorem CI.mono {R':Act->Θ->Prop}(h:CI Ok f t R a wL)(hr:∀a w,R a w->R' a w):CI Ok f t R' a wL:=λCS π M tr hp ha hd hk=>
 h CS π M tr hp ha hd λa' bI cu M' j6 todo ⟨t,d,hR⟩=>hk a' bI cu M' j6 todo ⟨t,d,hr _ _ hR⟩
theorem CC.mono {args:Array Φ}{R R':Φ->Θ->Prop}(h:CC Ok f args R wL)(hr:∀v w,R v w->R' v w):CC Ok f args R' wL:=λc CS π M tr hp ha hk=>
 h c CS π M tr hp ha λv bI cu M' j6 ⟨t,d,hR⟩=>hk v bI cu M' j6 ⟨t,d,hr _ _ hR⟩
theorem kF {π:Nat->Nat}{M:Machine}{tr:Trace}{g:Ω}{Stop:(Nat->Prop)->Ω->Θ->Prop}(hp:BH Ok π wL M tr g)
  (h:∀(own:Nat->Prop) (w:Θ),Link Ok.H no own no π wL w->aD PP true ly Stop own g w)
  (hk:∀(Shun:Loc->Prop) (s:Nat->Prop) (g':Ω) (w':Θ) (M':Machine) (j6:Trace),Zero PP Shun M' j6 g' w'->Stop s g' w'->Apart Shun s w'/\Osl Ok w'/\KF Ok.K Shun s w'->Ok.Ok M' j6):Ok.Ok M tr:=by
 obtain⟨D,o,w,h1,h2,h3,h4,h5⟩:=hp;obtain⟨N,M',t',g',w',e1,e2,⟨s',⟨e3,e3k,e3o⟩,e4⟩,e5,_⟩:=kY h1 (vI (pn (λq=>∃o,Ok.K q=some o) (h o w h2) λq ⟨o',ho⟩=>⟨(Ψ.1 (h5 q o' ho).2.1).1,(h5 q o' ho).1⟩) h3)
 exact Ok.back _ _ _ _ _ e1 (hk _ _ _ _ _ _ e2 e3 ⟨e4,⟨by rw[e5];exact h4.1,e3o.trans h4.2⟩,λq o' ho=>⟨(e3k q ⟨o',ho⟩).1,(e3k q ⟨o',ho⟩).2.trans (h5 q o' ho).2.1,(h5 q o' ho).2.2⟩⟩)
theorem eC {π:Nat->Nat}{M:Machine}{tr:Trace}{fr:κ}{cs:List κ}{g':Ω}(hp:BH Ok π wL M tr (G fr cs))(hs:∀w,stepG PP true (G fr cs) w= .go g' w)
  (hk:∀(M':Machine) (j6:Trace),BH Ok π wL M' j6 g'->Ok.Ok M' j6):Ok.Ok M tr:=by
 refine kF (Stop:=λs g w=>g=g'/\Link Ok.H no s no π wL w) hp (λown w hl=>?_) λDead s g w M' j6 hz ⟨e,hl⟩ hd=>hk M' j6 ⟨Dead,s,w,e▸hz,hl,hd⟩
 refine aD.silent rfl hs (λw₁ _=>A0 _ _) (λw₁=>GI _ _) (.stop λw₁ ⟨d,e⟩=>⟨rfl,?_⟩);rw[e];exact hl.at d
theorem nN {t':List Item}(hs:∀(b:Act) (CS:List κ) (w:Θ),(∀x,a.eval x= .bool true->b.eval x= .bool true)->(∀x,a.eval x= .bool false->b.eval x= .bool false)->stepG PP true (G ((base f).at b t) CS) w= .go (G ((base f).at b t') CS) w)
  (h:CI Ok f t' R a wL):CI Ok f t R a wL:=λCS π M tr hp ha hd hk=>by
 have ev:∀(x:aa8) (t:Bool),a.eval x= .bool t->(aY π a []).eval x= .bool t:=λx t hx=>by
  cases x with
  |tmp i=>
   show(a.tmps.map (Value.ren π)).getD i undef=_;rw[jP,show a.tmps.getD i undef=_ from hx];simp
  |const v=>exact hx
  |global g=>cases hx
  |func f=>cases hx
 exact eC hp (hs _ _ · (λx=>ev x true) λx=>ev x false) λM' j6 hp'=>h CS π M' j6 hp' ha hd hk
theorem ep {x y:Code}(h:CI Ok f (.code x::.code y::k) R a wL):CI Ok f (.code (.seq x y)::k) R a wL:=nN (λ_ _ _ _ _=>stepG_seq) h
theorem Ob {id:Nat}{c:Code}(h:CI Ok f (.code c::.inBlock id::k) R a wL):CI Ok f (.code (.block id c)::k) R a wL:=nN (λ_ _ _ _ _=>stepG_block) h
theorem Gg {id:Nat}(h:CI Ok f k R a wL):CI Ok f (.inBlock id::k) R a wL:=nN (λ_ _ _ _ _=>stepG_inBlock) h
theorem Sc (h:CI Ok f k R a wL):CI Ok f (.code .skip::k) R a wL:=nN (λ_ _ _ _ _=>stepG_skip) h
theorem vP {x:aa8}{p q:Code}{b:Bool}(hx:a.eval x= .bool b)(h:CI Ok f (.code (if b then p else q)::k) R a wL):CI Ok f (.code (.cond x p q)::k) R a wL:=by
 refine nN (λb' CS w h1 h2=>?_) h;cases b with
 |true=>exact stepG_cond (h1 x hx)
 |false=>exact stepG_cond (h2 x hx)
theorem d9 {id:Nat}{ops:Array Oper}(h:CI Ok f (.inRegion ops (List.range ops.size)::k) R a wL):CI Ok f (.code (.region id ops false)::k) R a wL:=nN (λ_ _ _ _ _=>stepG_region) h
theorem cJ {ops:Array Oper}(h:CI Ok f k R a wL):CI Ok f (.inRegion ops []::k) R a wL:=nN (λ_ _ _ _ _=>stepG_region_end) h
theorem Gf (h:R a wL):CI Ok f (.code .ret::k) R a wL:=λCS π M tr hp ha hd hk=>
 eC hp (λw=>stepG_ret') λM' j6 hp'=>hk a wL π M' j6 _ ⟨wL.tape,wL.drawn,h⟩ hp' ha hd (λ_ _=>rfl) (φ _)
def after (Ok:Env)(gv:Option Nat)(f:aa9)(k:List Item)(R:Act->Θ->Prop):Exit->Act->Θ->Prop
 |.normal,a,w=>CI Ok f k R a w
 |.exit id,a,w=>gv=some id/\∃k',exitTo id k=some k'/\CI Ok f k' R a w
 |.ret,a,w=>∃t d,R a (az w t d)
 |_,_,_=>False
theorem Ja {gv:Option Nat}:QOk gv (after Ok gv f k R) where
 tape:=λe a w t d=>by
  cases e with
  |normal=>exact nL t d
  |exit id=>exact and_congr Iff.rfl (exists_congr λk'=>and_congr Iff.rfl (nL t d))
  |ret=>exact Iff.rfl
  |_=>exact Iff.rfl
 out:=λe a w h=>by
  cases e with
  |normal=>exact .inl rfl
  |ret=>exact .inr (.inl rfl)
  |exit id=>exact .inr (.inr ⟨id,rfl,h.1⟩)
  |_=>exact h.elim
theorem Ie {t0:List Item}(gv:Option Nat)(h0:∃fn,PP.funcs[f]? =some fn)(BN:∀it∈t0,A6 PP S0 E0 true it=true)(hx:∀id,gv=some id->∃y,exitTo id k=some y)
  (hwp:∀t d,WpT PP t0 (after Ok gv f k R) a (az wL t d)):CI Ok f (t0++k) R a wL:=λCS π M tr hp ha hd hk=>by
 refine kF hp (λown w hl=>MD Cp (λ_ _ h=>h) h0 xB Ja (B:=base f) (D0:=[]) (CS:=CS) (kT:=k) rfl (by simp[base]) hx BN hl ha hd hwp) ?_;rintro Dead s g w M' j6 hz ⟨e,a',bI,cu,q,hl,hd',ha',hg,hag,hsz⟩ hs;have go:∀k',g=G ((base f).at (aY cu a' []) k') CS->CI Ok f k' R a' bI->Ok.Ok M' j6:=λk' e h=>
  h CS cu M' j6 ⟨Dead,s,w,e▸hz,hl,hs⟩ ha' hd' λa2 BZ vc M2 Cb todo r p v d g2 z=>hk a2 BZ vc M2 Cb todo r p v d (λb hb=>(g2 b (ψ hb hsz)).trans (hag b hb)) (ae3 hsz z)
 cases e with
 |normal=>exact go k hg q
 |exit id=>
  obtain⟨_,k',h1,h2⟩:=q;obtain⟨y,h3,h4⟩:=hg;rw[h1] at h3;cases h3;exact go k' h4 h2
 |ret=>
  obtain⟨todo,rfl⟩:=hg;exact hk a' bI cu M' j6 todo q ⟨Dead,s,w,hz,hl,hs⟩ ha' hd' hag hsz
 |_=>exact q.elim
theorem eX {cd:Code}(gv:Option Nat)(h0:∃fn,PP.funcs[f]? =some fn)(I:Θ->Prop)(hb:∀w t d,I w->I (az w t d))(hI:I wL)(hwp:∀w,I w->w.heap.size=wL.heap.size->cd.wp PP (after Ok gv f k R) a w)(BN:xg PP S0 E0 true cd=true:=by kernel_rfl)(hx:∀id,gv=some id->∃y,exitTo id k=some y:=by simp):CI Ok f (.code cd::k) R a wL:=
 Ie (t0:=[.code cd]) gv h0 (λit hit=>by simp at hit;subst hit;exact BN) hx λt d=>hwp _ (hb _ t d hI) rfl
theorem Sd {ops:Array Oper}{l:List Nat}(gv:Option Nat)(h0:∃fn,PP.funcs[f]? =some fn)(BN:A6 PP S0 E0 true (.inRegion ops l)=true)(hx:∀id,gv=some id->∃y,exitTo id k=some y)
  (I:Θ->Prop) (hb:∀w t d,I w->I (az w t d)) (hI:I wL) (hwp:∀w,I w->w.heap.size=wL.heap.size->wpOps PP ops (after Ok gv f k R) l a w):CI Ok f (.inRegion ops l::k) R a wL:=
 Ie (t0:=[.inRegion ops l]) gv h0 (λit hit=>by simp at hit;subst hit;exact BN) hx λt d b k cs=>wp_ops l a _ (hwp _ (hb _ t d hI) rfl) b k cs
theorem TR {ops:Array Oper}{i:Nat}{rest:List Nat}{o:Oper}(ho:ops[i]? =some o)(s9:mj PP S0 E0 true o=true)(hg:o.guard=none)
  (h:∀t d,uponE o a (λa' w'=>CI Ok f (.inRegion ops rest::k) R a' w') (λ_ _ _=>False) ((execOp a.eval o).run PP (az wL t d))):CI Ok f (.inRegion ops (i::rest)::k) R a wL:=λCS π M tr hp ha hd hk=>by
 have hwd:∀c:Array Φ,Region.wanted o (yielded ops c)=true:=λc=>by simp[Region.wanted,hg]
 have hkb:(base f).kind≠.early:=by simp[base]
 refine kF (Stop:=λs g w=>∃a' bI cu,CI Ok f (.inRegion ops rest::k) R a' bI/\g=G ((base f).at (aY cu a' []) (.inRegion ops rest::k)) CS/\Link Ok.H no s no cu bI w/\VA Ok.H bI a'.tmps/\a'.defers=[]/\(∀b,b<wL.heap.size->cu b=π b)/\wL.heap.size<=bI.heap.size) hp (λown w hl=>?_) ?_
 .refine aD.step rfl λw₁ hR=>?_
  obtain⟨r1,r2,r3⟩:=xB.rel own w w₁ hR;obtain⟨cu,hl',Hj,hag⟩:=hl.rely r1 r2 r3;have hl1:LW Ok.H no (az wL w₁.tape w₁.drawn):=hl'.lw.az _ _;have eπ:aY π a []=aY cu a []:=kD ha (λb hb=>(Hj b hb).symm) [];have h1:=h w₁.tape w₁.drawn
  have both:=fun {x bI} (hr:(execOp a.eval o).run PP (az wL w₁.tape w₁.drawn)= .ok x bI)=>nQ Cp hl'.inj hl'.zero (λ_ _ h=>h) hl1 hl'.wr [] ha (Dh s9) hr λi _=>hag i
  cases hr:(execOp a.eval o).run PP (az wL w₁.tape w₁.drawn) with
  |halt hh u=>rw[hr] at h1;exact h1.elim
  |ok nx u=>
   rw[hr] at h1;obtain⟨l1,l2,x',w',e1,e2,e3,e4,e5,e6⟩:=both hr;obtain⟨o1,o2⟩:=hl'.sc (λi _=>hag i) l1 l2 e3 e4 (λe he=>e5 e (mem_listed (fn:=(base f).fn) he))
   have fin:∀v:Φ,CI Ok f (.inRegion ops rest::k) R (a.put o.dst v) u->VV (gV Ok.H u) v->aD PP true ly (λs g w=>∃a' bI cu,CI Ok f (.inRegion ops rest::k) R a' bI/\g=G ((base f).at (aY cu a' []) (.inRegion ops rest::k)) CS/\Link Ok.H no s no cu bI w/\VA Ok.H bI a'.tmps/\a'.defers=[]/\(∀b,b<wL.heap.size->cu b=π b)/\wL.heap.size<=bI.heap.size)
     (ly.up own w₁ w') (G ((base f).at (aY cu (a.put o.dst v) []) (.inRegion ops rest::k)) CS) w':=λv hc hv=>
    .stop λw₂ ⟨d,e⟩=>⟨_,u,cu,hc,rfl,by rw[e];exact(o2 _ λb=>Iff.rfl).at d,jo (VA.grow ha l2) hv,(put_defers _ _ _).trans hd,λb hb=>(Hj b hb).symm,l2⟩
   cases nx with
   |value v=>
    cases e2;refine⟨_,w',_,by rw[eπ];exact stepG_value ho (hwd _) hkb e1,o1,?_⟩;rw[sa];exact fin v h1 e6
   |skip=>
    cases e2;refine⟨_,w',_,by rw[eπ];exact stepG_none ho (hwd _) hkb e1,o1,?_⟩;have e:(aY cu a []).put o.dst undef=aY cu (a.put o.dst undef) []:=by
     have:=sa (π:=cu) a o.dst undef
     rwa [show Value.ren cu undef=undef by simp[undef]] at this
    rw[e];exact fin undef h1 fT
   |_=>exact h1.elim
 .rintro Dead s g w M' j6 hz ⟨a',bI,cu,hc,rfl,hl,ha',hd',hag,hsz⟩ hs
  exact hc CS cu M' j6 ⟨Dead,s,w,hz,hl,hs⟩ ha' hd' λa2 BZ vc M2 Cb todo r p v d g2 z=>hk a2 BZ vc M2 Cb todo r p v d (λb hb=>(g2 b (ψ hb hsz)).trans (hag b hb)) (ae3 hsz z)
theorem Se {ops:Array Oper}{i:Nat}{rest:List Nat}{o:Oper}{f2:aa9}{xs:Array aa8}{R2:Φ->Θ->Prop}(ho:ops[i]? =some o)(hg:o.guard=none)(hxs:xs.all nX=true)
  (hrun:∀(b:Act) (w:Θ),(execOp b.eval o).runT PP w #[]=(.ok (.enter f2 (xs.map b.eval)) w,#[])) (hcc:CC Ok f2 (xs.map a.eval) R2 wL)
  (h:∀v w',R2 v w'->wL.heap.size<=w'.heap.size->CI Ok f (.inRegion ops rest::k) R (a.put o.dst v) w'):CI Ok f (.inRegion ops (i::rest)::k) R a wL:=λCS π M tr hp ha hd hk=>by
 have hwd:∀c:Array Φ,Region.wanted o (yielded ops c)=true:=λc=>by simp[Region.wanted,hg]
 have hkb:(base f).kind≠.early:=by simp[base]
 have hev:xs.map (aY π a []).eval=(xs.map a.eval).map (Value.ren π):=by
  rw[Array.map_map];exact Array.map_congr_left λx hx=>JW a (af0.1 hxs x hx)
 have hr:∀w,(execOp (aY π a []).eval o).run PP w= .ok (.enter f2 ((xs.map a.eval).map (Value.ren π))) w:=λw=>by rw[<-Sem.runT_fst PP _ w #[],hrun,hev]
 have hl0:∀w,listed PP (base f).fn (aY π a []) o w=#[]:=λw=>by
  unfold listed;rw[show(execOp (aY π a []).eval o).events PP w #[]=#[] from congrArg Prod.snd (hrun _ w)];simp[seen]
 refine eC hp (λw=>by rw[stepG_enter ho (hwd _) hkb (hr w),hl0]) λM1 IA hp1=>?_
 refine hcc _ CS π M1 IA hp1 (λv hv=>?_) λv bI cu M' j6 ⟨t,d,hR⟩ hp' hv hag hsz=>?_
 .obtain⟨x,hx,rfl⟩:=Array.mem_map.1 hv
  exact lR ha (af0.1 hxs x hx)
 .have hc:CI Ok f (.inRegion ops rest::k) R (a.put o.dst v) bI:=(nL t d).1 (h v _ hR hsz)
  have e:((base f).at (aY π a []) (.inRegion ops (i::rest)::k)).finish (Value.ren cu v)=(base f).at (aY cu (a.put o.dst v) []) (.inRegion ops rest::k):=by
   rw[Frame.finish_at,ho,Option.bind_some,kD ha hag,sa]
  rw[e] at hp';exact hc CS cu M' j6 hp' (jo (VA.grow ha hsz) hv) ((put_defers _ _ _).trans hd) λa2 BZ vc M2 Cb todo r p v d g2 z=>hk a2 BZ vc M2 Cb todo r p v d (λb hb=>(g2 b (ψ hb hsz)).trans (hag b hb)) (ae3 hsz z)
def TQ (fn:Func)(R2:Φ->Θ->Prop)(a:Act)(w:Θ):Prop:=∃v,(results fn a.tmps).run PP w= .ok v w/\R2 v w
theorem AR {H Z:Nat->Prop}{w:Θ}(hl:LW H Z w){fn:Func}{c:Array Φ}{v:Φ}{t:dZ}{d:Nat}(hr:(results fn c).run PP (az w t d)= .ok v (az w t d))(t2:dZ)(d2:Nat):
  (results fn c).run PP (az w t2 d2)= .ok v (az w t2 d2):=by
 have DG:=lC (P:=PP) (π:=id) (N:=λb=>H b\/Z b) (V:=gV H w) fn c;have hrT:(results fn c).runT PP (az w t d) #[]=(.ok v (az w t d),(results fn c).events PP (az w t d) #[]):=by rw[Sem.runT_eq,hr]
 obtain⟨k,hk1,hk2⟩:=DG.EU hl.zU (λb hb=>hl.low b hb) hrT;have e:d=d+k:=congrArg World.drawn hk1;obtain rfl:k=0:=by omega
 have:=hk2 t2 d2 λi hi=>by omega
 rw[<-Sem.runT_fst PP _ _ #[],this];rfl
theorem lq {fn:Func}{cd:Code}{args:Array Φ}{R2:Φ->Θ->Prop}(hf:PP.funcs[f]? =some fn)(hb:fn.body=some cd)
  (h:CI Ok f [.code cd] (TQ fn R2) {tmps:=args++Array.replicate (fn.ntmps-args.size) undef,defers:=[]} wL):CC Ok f args R2 wL:=λc CS π M tr hp ha hk=>by
 rw[enter_at _ hf hb] at hp;have er:aY π {tmps:=args++Array.replicate (fn.ntmps-args.size) undef,defers:=[]} []={tmps:=args.map (Value.ren π)++Array.replicate (fn.ntmps-(args.map (Value.ren π)).size) undef,defers:=[]}:=by
  simp[aY,xd,undef]
 rw[<-er] at hp;refine h (c::CS) π M tr hp (λv hv=>?_) rfl λa' bI cu M' j6 todo ⟨t,d,v,hr,hR⟩ hp' ha' hd' hag hsz=>?_
 .rcases af6.1 hv with hv|hv
  .exact ha v hv
  .rw[(Array.mem_replicate.1 hv).2];exact fT
 refine kF (Stop:=λs g w=>∃vc,g=G (c.finish (Value.ren vc v)) CS/\Link Ok.H no s no vc bI w/\VV (gV Ok.H bI) v/\∀b,b<bI.heap.size->vc b=cu b) hp' (λown w hl=>?_) ?_
 .refine aD.step rfl λw₁ hR1=>?_
  obtain⟨r1,r2,r3⟩:=xB.rel own w w₁ hR1;obtain⟨vc,hl',Hj,Ri⟩:=hl.rely r1 r2 r3;have hl1:LW Ok.H no (az bI w₁.tape w₁.drawn):=hl'.lw.az _ _;have hr1:=AR hl'.lw hr w₁.tape w₁.drawn;obtain⟨l1,l2,w',e1,e3,e4,e5,e6⟩:=nP Cp hl'.inj hl1 hl'.wr ha' fn hr1 λi _=>Ri i
  obtain⟨o1,o2⟩:=hl'.sc (λi _=>Ri i) l1 l2 e3 e4 (es:=seen PP f ((results fn (a'.tmps.map (Value.ren vc))).events PP w₁ #[])) (λe he=>e5 e (by simpa using mem_seen (by simpa using he)));have hT:=Bn hf (main:=true) (b:=base f) (a:=aY vc a' []) (todo:=todo) (cr:=c) (EB:=CS) (w:=w₁) rfl rfl rfl;rw[show(aY vc a' []).tmps=a'.tmps.map (Value.ren vc) from rfl,e1] at hT
  simp only[GStep.after] at hT;refine⟨_,w',_,by rw[kD ha' (λb hb=>(Hj b hb).symm) []];exact hT,(show kx own no w₁ w' _ by simpa using o1),.stop λw₂ ⟨d2,e⟩=>⟨vc,rfl,?_,e6,λb hb=>(Hj b hb).symm⟩⟩;rw[e];exact((o2 _ λb=>Iff.rfl).B4).at d2
 .rintro Dead s g w M2 Cb hz ⟨vc,rfl,hl,hv,Ri⟩ hs
  exact hk v bI vc M2 Cb ⟨t,d,hR⟩ ⟨Dead,s,w,hz,hl,hs⟩ hv (λb hb=>(Ri b (ψ hb hsz)).trans (hag b hb)) hsz
end
def OK (Post:Φ->Θ->Prop)(M:Machine)(t:Trace):Prop:=∃N last o w' t',runNT PP (N+1) M t=(.ended o w',t')/\runN PP N M= .next last/\step PP last= .ended o w'/\Go.Conc.Good PP Post last o w' t'
theorem I3 (Post:Φ->Θ->Prop)(N:Nat)(M:Machine)(t:Trace)(M':Machine)(t':Trace)(h:runNT PP N M t=(.next M',t'))(k:OK Post M' t'):OK Post M t:=by
 obtain⟨n,last,o,w',t2,h1,h2,h3,h4⟩:=k;refine⟨N+n,last,o,w',t2,?_,?_,h3,h4⟩
 .rw[Nat.add_assoc,runNT_add,h]
  exact h1
 .rw[runN_add,show runN PP N M= .next M' by rw[<-runNT_fst PP N M t,h]]
  exact h2
def TP (Post:Φ->Θ->Prop)(W:Θ)(H:Nat->Prop)(K:Nat->Option Obj):Env:=⟨OK Post,I3 Post,W.os,H,K,W.output⟩
end av
end
section
open Go.RowKit Go.Lib
structure DS where
 aJ:List Γ
 waiting:List (Int×List Γ)
 acts:Int
 given:Bool
 left:Int
 keep:Int
 failed:Bool
def dO (p:Int×List Γ):List Φ:= .int .i64 p.1::byteCells p.2
def kd (l:List (Int×List Γ)):List Φ:=l.flatMap dO
def iC (bl n:Nat)(vw:Φ)(x:DS):Array Φ:=
 #[.slice (some ⟨bl,0,none⟩) n n,vw,.int .i64 x.acts,.bool x.given,.int .i64 x.left,.int .i64 x.keep,.bool x.failed]
theorem jb {w:Θ}{d bl n:Nat}{vw:Φ}{x:DS}{t:η}(h:Row w d (iC bl n vw x) t):
  w.cell? ⟨d,0,none⟩=some (.slice (some ⟨bl,0,none⟩) n n)/\w.cell? ⟨d,1,none⟩=some vw/\w.cell? ⟨d,2,none⟩=some (.int .i64 x.acts)/\w.cell? ⟨d,3,none⟩=some (.bool x.given)/\
  w.cell? ⟨d,4,none⟩=some (.int .i64 x.left)/\w.cell? ⟨d,5,none⟩=some (.int .i64 x.keep)/\w.cell? ⟨d,6,none⟩=some (.bool x.failed):=by
 refine⟨?_,?_,?_,?_,?_,?_,?_⟩<;>rw[h.cell]<;>rfl
structure bv (w:Θ)(d bl n:Nat)(vw:Φ)(x:DS):Prop where
 row:Row w d (iC bl n vw x) 134
 last:Row w bl (byteCells x.aJ).toArray 148
 len:x.aJ.length=64*n
 own:w.ownsRow 0 240 65 vw x.waiting.length (kd x.waiting)
 d7:∀p∈x.waiting,p.2.length=64
 within:∀p∈x.waiting,0<=p.1/\p.1<n
 lo:16<=n
 hi:n<=400
 few:x.waiting.length<=60
 ne:d≠bl
 ne1:vw.ownBlock≠some d
 BO:vw.ownBlock≠some bl
 nil:x.waiting=[]->vw= .slice none 0 0
theorem bv.xJ {w w':Θ}{S:List Nat}{d bl n:Nat}{vw:Φ}{x:DS}(h:bv w d bl n vw x)(f:aO S w w')(h1:d∉S)(h2:bl∉S)(h3:∀k∈S,vw.ownBlock≠some k):bv w' d bl n vw x:=
 {h with row:=f.row h.row h1,last:=f.row h.last h2,own:=f.owns h.own h3}
theorem L8 {w:Θ}{base:Nat}{e:η}{size:Nat}{v:Φ}{n:Nat}{xs:List Φ}(h:w.ownsRow base e size v n xs){k:Nat}(hk:v.ownBlock=some k):k<w.heap.size:=(h.lt k hk).2
theorem bv.new {w w':Θ}{S:List Nat}{d bl n:Nat}{vw:Φ}{x:DS}(h:bv w d bl n vw x)(f:aO S w w')(hS:∀k∈S,w.heap.size<=k:=by simp):bv w' d bl n vw x:=by
 have l1:=h.row.lt;have l2:=h.last.lt;exact h.xJ f (λhs=>by have:=hS _ hs;omega) (λhs=>by have:=hS _ hs;omega) (λk hk e=>by have:=hS _ hk;have:=L8 h.own e;omega)
theorem bv.reset {w w':Θ}{d bl n:Nat}{vw:Φ}{x y:DS}(h:bv w d bl n vw x)(f:aO [d] w w')(hr:Row w' d (iC bl n vw y) 134)(h1:y.aJ=x.aJ)(h2:y.waiting=x.waiting):bv w' d bl n vw y:=by
 have hl:=f.row h.last (by simpa usingλe=>h.ne e.symm);have ho:=f.owns h.own (by simpa using h.ne1);exact {row:=hr,last:=by rw[h1];exact hl,len:=by rw[h1];exact h.len,own:=by rw[h2];exact ho,d7:=by rw[h2];exact h.d7,within:=by rw[h2];exact h.within,lo:=h.lo,hi:=h.hi,few:=by rw[h2];exact h.few,ne:=h.ne,ne1:=h.ne1,BO:=h.BO,nil:=by rw[h2];exact h.nil}
def seenIn (aJ:List Γ)(waiting:List (Int×List Γ))(s:Int):List Γ:=
 waiting.foldl (λb p=>if p.1=s then p.2 else b) ((aJ.drop (64*s.toNat)).take 64)
def DS.read (x:DS)(s:Int):List Γ:=seenIn x.aJ x.waiting s
theorem af (l:List Γ):(byteCells l).length=l.length:=by simp[byteCells]
theorem eG (l:List Γ)(n:Nat):(byteCells l).take n=byteCells (l.take n):=by simp[byteCells,List.map_take]
theorem eH (l:List Γ)(n:Nat):(byteCells l).drop n=byteCells (l.drop n):=by simp[byteCells,List.map_drop]
theorem byteCells_append (l m:List Γ):byteCells (l++m)=byteCells l++byteCells m:=by simp[byteCells]
theorem byteCells_one (l:List Γ):∀v∈byteCells l,v.oneCell'=true:=by
 intro v hv;simp only[byteCells,ae0] at hv;obtain⟨b,_,rfl⟩:=hv;rfl
theorem co (p:Int×List Γ)(h:p.2.length=64):(dO p).length=65:=by simp[dO,byteCells,h]
theorem rD:∀(l:List (Int×List Γ)),(∀p∈l,p.2.length=64)->∀k,(kd l).drop (k*65)=kd (l.drop k)
 |_,_,0=>by simp
 |[],_,k+1=>by simp[kd]
 |p::r,h,k+1=>by
  have:=rD r (λq hq=>h q (by simp[hq])) k;simp only[kd,List.flatMap_cons,List.drop_succ_cons] at this⊢;rw[List.drop_append,co p (h p (by simp)),List.drop_eq_nil_of_le (by rw[co p (h p (by simp))];omega)];simpa [Nat.add_mul] using this
theorem qL (l:List (Int×List Γ))(h:∀p∈l,p.2.length=64)(k:Nat)(hk:k<l.length):((kd l).drop (k*65)).take 65=dO l[k]:=by
 rw[rD l h k,ae5 hk];simp only[kd,List.flatMap_cons];rw[List.take_append_of_le_length (by rw[co _ (h _ (af4 hk))];omega),θ (by rw[co _ (h _ (af4 hk))];omega)]
theorem uj (la:List Γ)(l:List (Int×List Γ))(s:Int)(k:Nat)(hk:k<l.length):
  seenIn la (l.take (k+1)) s=if l[k].1=s then l[k].2 else seenIn la (l.take k) s:=by
 unfold seenIn;rw[ac0 hk,List.foldl_append];rfl
theorem uF (s:Int):∀(l:List (Int×List Γ)) (b:List Γ),b.length=64->(∀p∈l,p.2.length=64)->(l.foldl (λb p=>if p.1=s then p.2 else b) b).length=64
 |[],_,hb,_=>hb
 |p::r,b,hb,h=>by
  refine uF s r _ ?_ λq hq=>h q (by simp[hq])
  dsimp only;split
  .exact h p (by simp)
  .exact hb
theorem bi (la:List Γ)(s:Int)(h0:64*s.toNat+64<=la.length)(l:List (Int×List Γ))(h:∀p∈l,p.2.length=64):(seenIn la l s).length=64:=
 uF s l _ (by simp;omega) h
theorem bj:(Tryz.prog.info? 148).map (·.size)=some 64:=by kernel_rfl
theorem iA:(Tryz.prog.info? 240).map (·.size)=some 65:=by kernel_rfl
def eO:Φ:= .agg (byteCells (List.replicate 64 0)).toArray
def jU:Φ:= .agg (dO (0,List.replicate 64 0)).toArray
theorem dz:(Tryz.prog.info? 148).map (·.zero)=some (some eO):=by kernel_rfl
theorem kI:(Tryz.prog.info? 240).map (·.zero)=some (some jU):=by kernel_rfl
theorem tx:(Tryz.prog.underlying 240).map TypeDesc.isRow=some true:=by kernel_rfl
theorem dr:(Tryz.prog.underlying 148).map TypeDesc.isRow=some true:=by kernel_rfl
theorem rY (d bl n:Nat)(vw:Φ)(x:DS)(s:Int)(w:Θ)(h:bv w d bl n vw x)(hs:0<=s)(hn:s<n):
  Calls Tryz.prog 114 #[.pointer (some ⟨d,0,none⟩),.int .i64 s] w λe w'=>e= .returned (.agg (byteCells (x.read s)).toArray)/\aO [] w w':=by
 have dlt:=h.row.lt;have ZW:=h.last.lt;obtain⟨ad,cap,hvw⟩:=bM h.own;have hfit:64*s.toNat+64<=x.aJ.length:=by rw[h.len];omega
 subst hvw;go_enter Tryz.func114,Tryz.ntmps114;go_wp2_with (with_reducible first|refine ay rfl ?_|refine ax 148 rfl ?_|refine ax 240 rfl ?_|refine ah 148 rfl ?_|refine ah 240 rfl ?_);refine ai.go (bh rfl 148 rfl eO dz ?_);intro w1 b4 l4 f1 r4;have h1:=h.new f1;obtain⟨c0,c1,-⟩:=jb h1.row
 go_wp2_with (with_reducible first|refine ay rfl ?_|refine ax 148 rfl ?_|refine ax 240 rfl ?_|refine ah 148 rfl ?_|refine ah 240 rfl ?_);refine ai.go (bV rfl 148 _ rfl bl (s.toNat*64) rfl dr 64 bj _ _ h1.last (byteCells (seenIn x.aJ [] s)) ?_ ?_ ?_)
 .simp[seenIn,eH,eG,Nat.mul_comm]
 .rw[af];exact bi _ _ hfit _ (by simp)
 go_wp2_with (with_reducible first|refine ay rfl ?_|refine ax 148 rfl ?_|refine ax 240 rfl ?_|refine ah 148 rfl ?_|refine ah 240 rfl ?_);refine ai.go (bh rfl 148 rfl eO dz ?_);intro w2 b5 l5 f2 r5
 go_wp2_with (with_reducible first|refine ay rfl ?_|refine ax 148 rfl ?_|refine ax 240 rfl ?_|refine ah 148 rfl ?_|refine ah 240 rfl ?_);refine ai.go (bP rfl 148 _ _ rfl _ 0 rfl _ rfl 64 bj ?_ ?_ _ _ r5 ?_ ?_)
 .simp only[aa7,af];exact bi _ _ hfit _ (by simp)
 .exact byteCells_one _
 .decide
 intro w3 f3 r5;have E8:=f3.row (f2.row r4) (by have:=r4.lt;simp;omega);have f13:aO [] w w3:=(f1.trans f2).trans f3 (by simp;have:=f1.size;omega);rw[bG _ _ (by rw[af,bi _ _ hfit _ (by simp)];rfl)] at r5;have h3:=h.new f13;clear c0 c1 h1;obtain⟨c0,c1,-⟩:=jb h3.row
 go_wp2_with (with_reducible first|refine ay rfl ?_|refine ax 148 rfl ?_|refine ax 240 rfl ?_|refine ah 148 rfl ?_|refine ah 240 rfl ?_);have hne:b4≠b5:=by have:=r4.lt;omega
 have l4':w.heap.size<=b5:=by have:=f1.size;omega
 go_loopw [20] (λi wr=>∃k:Nat,i= .int .i64 k/\k<=x.waiting.length/\aO [] w wr/\Row wr b4 eO.cells 148/\
  Row wr b5 (byteCells (seenIn x.aJ (x.waiting.take k) s)).toArray 148) (λi _=>x.waiting.length-(intOf i).toNat)
 case atStart=>exact⟨0,rfl,by omega,f13,E8,r5⟩
 case round=>
  obtain⟨k,rfl,hk,fk,q4,q5⟩:=hrel;clear c0 c1 h3 f13 E8;have hw:=h.new fk;have eZ:=h.few
  by_cases hlt:k<x.waiting.length
  .obtain⟨g,cur,rfl,hg,hle,_,hcs,htk⟩:=dL hw.own
   have h64:=h.d7 _ (af4 hlt);have hat:((cur.toList.drop (k*65)).take 65)=dO x.waiting[k]:=by
    rw[bX htk _ _,qL x.waiting h.d7 k hlt]
   clear hcs htk;go_wp2_with (with_reducible first|refine ay rfl ?_|refine ax 148 rfl ?_|refine ax 240 rfl ?_|refine ah 148 rfl ?_|refine ah 240 rfl ?_);refine ai.go (bV rfl 240 _ rfl g (k*65) rfl tx 65 iA _ _ hg _ hat (co _ h64) ?_);clear hat
   go_wp2_with (with_reducible first|refine ay rfl ?_|refine ax 148 rfl ?_|refine ax 240 rfl ?_|refine ah 148 rfl ?_|refine ah 240 rfl ?_);refine ai.go (bh rfl 240 rfl jU kI ?_);intro w4 b7 l7 f4 r7
   go_wp2_with (with_reducible first|refine ay rfl ?_|refine ax 148 rfl ?_|refine ax 240 rfl ?_|refine ah 148 rfl ?_|refine ah 240 rfl ?_);refine ai.go (bP rfl 240 _ _ rfl _ 0 rfl _ rfl 65 iA ?_ ?_ _ _ r7 ?_ ?_)
   .simp only[aa7];exact co _ h64
   .intro v hv;simp only[dO,ab8] at hv;rcases hv with rfl|hv;rfl;exact byteCells_one _ v hv
   .decide
   intro w5 f5 tC;rw[bG _ _ (by rw[co _ h64];rfl)] at tC;clear r7;have l7':wr.heap.size<=b7:=l7;have jT:aO [] wr w5:=f4.trans f5 (by simpa using l7);have LM:=jT.row q4;have kE:=jT.row q5;have fw:=fk.trans jT;have c0:w5.cell? ⟨b7,0,none⟩=some (.int .i64 x.waiting[k].1):=by rw[tC.cell];rfl
   clear q4 q5 fk hw f4 f5 l7;have l47:b4<w5.heap.size:=LM.lt
   by_cases he:x.waiting[k].1=s
   .have hb:(x.waiting[k].1==s)=true:=by simp[he]
    have HE:Hid (x.waiting[k].1=s):=he;clear he;go_wp2_with (with_reducible first|refine ay rfl ?_|refine ax 148 rfl ?_|refine ax 240 rfl ?_|refine ah 148 rfl ?_|refine ah 240 rfl ?_);refine ai.go (bV rfl 148 _ rfl b7 1 rfl dr 64 bj _ _ tC (byteCells x.waiting[k].2) ?_ (by rw[af,h64]) ?_)
    .simp[dO];rw[θ];rw[af,h64];omega
    go_wp2_with (with_reducible first|refine ay rfl ?_|refine ax 148 rfl ?_|refine ax 240 rfl ?_|refine ah 148 rfl ?_|refine ah 240 rfl ?_);refine ai.go (bP rfl 148 _ _ rfl _ 0 rfl _ rfl 64 bj ?_ ?_ _ _ kE ?_ ?_)
    .simp only[aa7,af,h64]
    .exact byteCells_one _
    .simp only[aa7,af];rw[bi _ _ hfit _ (λp hp=>h.d7 p (List.mem_of_mem_take hp))];omega
    intro w6 f6 q6;rw[bG _ _ (by simp only[aa7,af];rw[bi _ _ hfit _ (λp hp=>h.d7 p (List.mem_of_mem_take hp)),h64])] at q6;have ag1:=f6.row LM (by simp;exact hne);have qZ:aO [] w w6:=fw.trans f6 (by simp;omega)
    go_wp2_with (with_reducible first|refine ay rfl ?_|refine ax 148 rfl ?_|refine ax 240 rfl ?_|refine ah 148 rfl ?_|refine ah 240 rfl ?_)
    go_roundw
    case rel=>
     refine⟨k+1,by go_num,by omega,qZ,ag1,?_⟩;rw[uj _ _ _ _ hlt,χ HE.out];exact q6
    case measure=>simp[intOf];omega
   .have hb:(x.waiting[k].1==s)=false:=by simp[he]
    have HE:Hid (¬x.waiting[k].1=s):=he;clear he;go_wp2_with (with_reducible first|refine ay rfl ?_|refine ax 148 rfl ?_|refine ax 240 rfl ?_|refine ah 148 rfl ?_|refine ah 240 rfl ?_)
    go_roundw
    case rel=>
     refine⟨k+1,by go_num,by omega,fw,LM,?_⟩;rw[uj _ _ _ _ hlt,ζ HE.out];exact kE
    case measure=>simp[intOf];omega
  .have hk':k=x.waiting.length:=by omega
   have HK:Hid (k=x.waiting.length):=hk';clear hk';go_wp2_with (with_reducible first|refine ay rfl ?_|refine ax 148 rfl ?_|refine ax 240 rfl ?_|refine ah 148 rfl ?_|refine ah 240 rfl ?_);refine ai.go (bV rfl 148 _ rfl b5 0 rfl dr 64 bj _ _ q5 (byteCells (x.read s)) ?_ ?_ ?_)
   .simp only[List.drop_zero]
    rw[HK.out,θ (φ _),θ (by rw[af,bi _ _ hfit _ h.d7];omega)];rfl
   .rw[af];exact bi _ _ hfit _ h.d7
   go_wp2_with (with_reducible first|refine ay rfl ?_|refine ax 148 rfl ?_|refine ax 240 rfl ?_|refine ah 148 rfl ?_|refine ah 240 rfl ?_);refine ai.go (bP rfl 148 _ _ rfl _ 0 rfl _ rfl 64 bj ?_ ?_ _ _ q4 ?_ ?_)
   .simp only[aa7,af];exact bi _ _ hfit _ h.d7
   .exact byteCells_one _
   .decide
   intro w6 f6 q6;rw[bG _ _ (by simp only[af];rw[show(x.read s).length=64 from bi _ _ hfit _ h.d7];rfl)] at q6;have qZ:aO [] w w6:=fk.trans f6 (by simp;omega);go_wp2_with (with_reducible first|refine ay rfl ?_|refine ax 148 rfl ?_|refine ax 240 rfl ?_|refine ah 148 rfl ?_|refine ah 240 rfl ?_)
   exact lH rfl b4 rfl rfl _ _ q6 dr (by simp only[aa7,af];rw[show(x.read s).length=64 from bi _ _ hfit _ h.d7];exact bj) ⟨rfl,qZ⟩
theorem rT {w:Θ}{b off:Nat}{vs:List Φ}{c:Array Φ}{u:η}(hr:Row w b c u)(hl:off+vs.length<=c.size)(h1:∀v∈vs,v.oneCell'=true):
  w.setCells b off vs=w.setRow b (over c off vs):=by
 have a1:=run_storeCells_cells (P:=Tryz.prog) b off vs 0 w (λj hj=>by rw[hr.cell];simp;omega) (λj hj=>hr.thaw _) h1;have a2:=run_storeCells_at Tryz.prog b off u vs 0 c w hr (by simpa using hl) h1;rw[a1] at a2;simpa [over] using a2
def bL (la:List Γ)(p:Int×List Γ):List Γ:=la.take (64*p.1.toNat)++p.2++la.drop (64*p.1.toNat+64)
theorem gP (la:List Γ)(p:Int×List Γ)(h:p.2.length=64)(hf:64*p.1.toNat+64<=la.length):(bL la p).length=la.length:=by
 simp[bL,h];omega
theorem pg (la:List Γ)(p:Int×List Γ)(h:p.2.length=64):over (byteCells la).toArray (p.1.toNat*64) (byteCells p.2)=(byteCells (bL la p)).toArray:=by
 simp[over,bL,byteCells_append,eG,eH,af,h,Nat.mul_comm]
def jp (la:List Γ)(l:List (Int×List Γ)):List Γ:=l.foldl bL la
theorem C9 (la:List Γ)(l:List (Int×List Γ))(k:Nat)(hk:k<l.length):jp la (l.take (k+1))=bL (jp la (l.take k)) l[k]:=by
 unfold jp;rw[ac0 hk,List.foldl_append];rfl
theorem qC (n:Nat):∀(l:List (Int×List Γ)) (la:List Γ),la.length=64*n->(∀p∈l,p.2.length=64)->(∀p∈l,0<=p.1/\p.1<n)->(jp la l).length=64*n
 |[],la,h,_,_=>h
 |p::r,la,h,h1,h2=>by
  have hp:=h2 p (by simp);exact qC n r (bL la p) (by rw[gP _ _ (h1 p (by simp)) (by omega)];exact h) (λq hq=>h1 q (by simp[hq])) (λq hq=>h2 q (by simp[hq]))
theorem qM:Tryz.prog.underlying 148=some (.array 64 5):=by kernel_rfl
theorem JP (d bl n:Nat)(vw:Φ)(x:DS)(w:Θ)
  (hm:Calls Tryz.prog 187 #[.pointer (some ⟨d,0,none⟩)] w λe w'=>e= .returned (.bool true)/\bv w' d bl n vw x/\aO [d] w w'):
  Calls Tryz.prog 149 #[.pointer (some ⟨d,0,none⟩)] w λe w'=>e= .returned (.int .i64 0)/\bv w' d bl n (.slice none 0 0) {x with aJ:=jp x.aJ x.waiting,waiting:=[]}/\aO [d,bl] w w':=by
 go_enter Tryz.func149,Tryz.ntmps149;go_wp2_with fail;refine hm.mono ?_;clear hm;rintro e w1 ⟨rfl,h1,f1⟩;have h:=h1;have dlt:=h.row.lt;have ZW:=h.last.lt;obtain⟨ad,cap,hvw⟩:=bM h.own;subst hvw;obtain⟨c0,c1,-⟩:=jb h1.row;go_wp2_with fail;have hlen:=h.len
 go_loopw [13] (λi wr=>∃k:Nat,i= .int .i64 k/\k<=x.waiting.length/\aO [d,bl] w wr/\bv wr d bl n (.slice ad x.waiting.length cap) {x with aJ:=jp x.aJ (x.waiting.take k)}) (λi _=>x.waiting.length-(intOf i).toNat)
 case atStart=>exact⟨0,rfl,by omega,f1.mono,by simpa [jp] using h1⟩
 case round=>
  obtain⟨k,rfl,hk,fk,hw⟩:=hrel;clear c0 c1 h1;have eZ:=h.few
  by_cases hlt:k<x.waiting.length
  .obtain⟨g,cur,rfl,hg,hle,_,hcs,htk⟩:=dL (n:=x.waiting.length) hw.own
   have h64:=h.d7 _ (af4 hlt);have hin:=h.within _ (af4 hlt);have hat:((cur.toList.drop (k*65)).take 65)=dO x.waiting[k]:=by
    rw[bX htk _ _,qL x.waiting h.d7 k hlt]
   clear hcs htk;go_wp2_with (with_reducible first|refine ay rfl ?_|refine ax 148 rfl ?_|refine ax 240 rfl ?_|refine ah 148 rfl ?_|refine ah 240 rfl ?_);refine ai.go (bV rfl 240 _ rfl g (k*65) rfl tx 65 iA _ _ hg _ hat (co _ h64) ?_);clear hat
   go_wp2_with (with_reducible first|refine ay rfl ?_|refine ax 148 rfl ?_|refine ax 240 rfl ?_|refine ah 148 rfl ?_|refine ah 240 rfl ?_);refine ai.go (bh rfl 240 rfl jU kI ?_);intro w4 b7 l7 f4 r7
   go_wp2_with (with_reducible first|refine ay rfl ?_|refine ax 148 rfl ?_|refine ax 240 rfl ?_|refine ah 148 rfl ?_|refine ah 240 rfl ?_);refine ai.go (bP rfl 240 _ _ rfl _ 0 rfl _ rfl 65 iA ?_ ?_ _ _ r7 ?_ ?_)
   .simp only[aa7];exact co _ h64
   .intro v hv;simp only[dO,ab8] at hv;rcases hv with rfl|hv;rfl;exact byteCells_one _ v hv
   .decide
   intro w5 f5 tC;rw[bG _ _ (by rw[co _ h64];rfl)] at tC;clear r7;have l7':wr.heap.size<=b7:=l7;have jT:aO [] wr w5:=f4.trans f5 (by simpa using l7);have h5:=hw.new jT;have fw:=fk.trans jT;obtain⟨c0,c1,-⟩:=jb h5.row;have e0:w5.cell? ⟨b7,0,none⟩=some (.int .i64 x.waiting[k].1):=by rw[tC.cell];rfl
   have hne:bl≠b7:=by have:=hw.last.lt;omega
   have ahJ:d≠b7:=by have:=hw.row.lt;omega
   clear fk hw f4 f5 l7;go_wp2_with fail;have hpl:(jp x.aJ (x.waiting.take k)).length=64*n:=qC n _ _ h.len (λp hp=>h.d7 p (List.mem_of_mem_take hp)) (λp hp=>h.within p (List.mem_of_mem_take hp));have gr:w5.rangeAt b7 1 (byteCells x.waiting[k].2):=λj v hv=>by rw[tC.cell];simpa [dO,Nat.add_comm] using hv
   have gt:w5.there bl (x.waiting[k].1.toNat*64) 64:=λj hj=>by rw[h5.last.cell,h5.last.thaw];simp[af,hpl];omega
   have gi:(Tryz.prog.info? 148).map (·.size)=some (byteCells x.waiting[k].2).length:=by rw[af,h64];exact bj
   have gl:(byteCells x.waiting[k].2).length=64:=by rw[af,h64]
   have go:=byteCells_one x.waiting[k].2;have gu:=qM;obtain⟨ah5,ah4⟩:=hin;have hdb:=h.ne
   go_region_held3 (λw'=>w'.cell? ⟨d,0,none⟩=some (.slice (some ⟨bl,0,none⟩) n n)/\w'.cell? ⟨b7,0,none⟩=some (.int .i64 x.waiting[k].1)/\w'.rangeAt b7 1 (byteCells x.waiting[k].2)/\w'.there bl (x.waiting[k].1.toNat*64) 64) ((go_split_ands;(try simp only[World.rangeAt_drew,World.there_drew,World.cell?_drew] at*);(repeat' constructor)<;>first|assumption|(rw[World.cell?_setCells_out _ _ _ _ _ (by intro e;simp only at e;omega)];assumption)|(apply World.there_setCells;assumption)|(refine World.rangeAt_setCells_apart (by assumption) _ _ _ (by omega)))) (fail)
   have h6:bv (w5.drew.setCells bl (x.waiting[k].1.toNat*64) (byteCells x.waiting[k].2)) d bl n (.slice (some ⟨g,0,none⟩) x.waiting.length cap) {x with aJ:=jp x.aJ (x.waiting.take (k+1))}/\
     aO [d,bl] w (w5.drew.setCells bl (x.waiting[k].1.toNat*64) (byteCells x.waiting[k].2)):=by
    rw[rT (w:=w5.drew) h5.last (by simp[af,hpl,h64];omega) go,pg _ _ h64,C9 _ _ _ hlt];have fd:aO [bl] w5 (w5.drew.setRow bl (byteCells (bL (jp x.aJ (x.waiting.take k)) x.waiting[k])).toArray):=(aO.drew [bl] w5).trans (aO.setRow [bl] _ _ _ (by simp))
    refine⟨{h5 with row:=fd.row h5.row (by simpa using h5.ne),last:=h5.last.setRow (w:=w5.drew) _,len:=?_,own:=fd.owns h5.own (by simpa using h5.BO)},fw.trans fd⟩;rw[gP _ _ h64 (by rw[hpl];omega)];exact hpl
   obtain⟨h6,f6⟩:=h6;clear gr gt h5 fw tC gi gl go gu c0 c1 e0;generalize w5.drew.setCells bl (x.waiting[k].1.toNat*64) (byteCells x.waiting[k].2)=w6 at h6 f6⊢;go_wp2_with fail
   go_roundw
   case rel=>exact⟨k+1,by go_num,by omega,f6,h6⟩
   case measure=>simp[intOf];omega
  .have HK:Hid (k=x.waiting.length):=(by omega:k=x.waiting.length)
   have hkd:Hid (List.take k x.waiting=x.waiting):=by show _=_;rw[HK.out,θ (φ _)]
   obtain⟨c0,c1,-⟩:=jb hw.row;have hf:=hw.row.thaw;go_wp2_with fail;go_ret;rw[hkd.out] at hw;have fs:aO [d] wr (wr.setCell ⟨d,1,none⟩ (.slice none 0 0)):=aO.setCell _ _ _ _
   refine⟨rfl,{row:=hw.row.setCell 1 _,last:=fs.row hw.last (by simpa usingλe=>hw.ne e.symm),len:=hw.len,own:=World.ownsRow_nil _ _ _ _,d7:=by simp,within:=by simp,lo:=h.lo,hi:=h.hi,few:=by simp,ne:=h.ne,ne1:=by simp[Value.ownBlock],BO:=by simp[Value.ownBlock],nil:=λ_=>rfl},fk.trans fs⟩
theorem DT (d:Nat)(w:Θ)(R:Θ->Prop)(hm:Calls Tryz.prog 187 #[.pointer (some ⟨d,0,none⟩)] w λe w'=>e= .returned (.bool false)/\R w'):
  Calls Tryz.prog 149 #[.pointer (some ⟨d,0,none⟩)] w λe w'=>e= .returned (.int .i64 3)/\R w':=by
 go_enter Tryz.func149,Tryz.ntmps149;go_wp2_with fail;refine hm.mono ?_;rintro e w1 ⟨rfl,h1⟩;go_wp2_with fail;go_ret;exact⟨rfl,h1⟩
def lN (keep:Int)(k:Nat):Bool:=bits BinOp.and .i64 (keep/2^k) 1==1
def gj (keep:Int)(la:List Γ)(l:List (Int×List Γ)):Nat->List Γ
 |0=>la
 |k+1=>match l[k]? with
  |some p=>if lN keep k then bL (gj keep la l k) p else gj keep la l k
  |none=>gj keep la l k
theorem Fy (keep:Int)(la:List Γ)(l:List (Int×List Γ))(k:Nat)(hk:k<l.length)(h:lN keep k=true):gj keep la l (k+1)=bL (gj keep la l k) l[k]:=by simp[gj,hk,h]
theorem JB (keep:Int)(la:List Γ)(l:List (Int×List Γ))(k:Nat)(h:lN keep k=false):gj keep la l (k+1)=gj keep la l k:=by
 simp only[gj];split<;>simp[h]
theorem mo (keep:Int)(n:Nat)(la:List Γ)(l:List (Int×List Γ))(h:la.length=64*n)(h1:∀p∈l,p.2.length=64)(h2:∀p∈l,0<=p.1/\p.1<n):∀k,(gj keep la l k).length=64*n
 |0=>h
 |k+1=>by
  have ih:=mo keep n la l h h1 h2 k;simp only[gj];split
  .rename_i p hp
   have hm:=af7 hp;have:=h2 p hm;split
   .rw[gP _ _ (h1 p hm) (by omega)];exact ih
   .exact ih
  .exact ih
theorem Nm (d bl n:Nat)(vw:Φ)(x:DS)(w:Θ)(h:bv w d bl n vw x):
  Calls Tryz.prog 210 #[.pointer (some ⟨d,0,none⟩)] w λe w'=>e= .returned (.tuple #[])/\bv w' d bl n (.slice none 0 0) {x with aJ:=gj x.keep x.aJ x.waiting x.waiting.length,waiting:=[],failed:=true}/\aO [d,bl] w w':=by
 have dlt:=h.row.lt;have ZW:=h.last.lt;obtain⟨ad,cap,hvw⟩:=bM h.own;subst hvw;obtain⟨c0,c1,-⟩:=jb h.row;go_enter Tryz.func210,Tryz.ntmps210;go_wp2_with fail;have hlen:=h.len
 go_loopw [9] (λi wr=>∃k:Nat,i= .int .i64 k/\k<=x.waiting.length/\aO [d,bl] w wr/\bv wr d bl n (.slice ad x.waiting.length cap) {x with aJ:=gj x.keep x.aJ x.waiting k}) (λi _=>x.waiting.length-(intOf i).toNat)
 case atStart=>exact⟨0,rfl,by omega,aO.refl _ _,h⟩
 case round=>
  obtain⟨k,rfl,hk,fk,hw⟩:=hrel;clear c0 c1;have eZ:=h.few
  by_cases hlt:k<x.waiting.length
  .obtain⟨g,cur,rfl,hg,hle,_,hcs,htk⟩:=dL (n:=x.waiting.length) hw.own
   have h64:=h.d7 _ (af4 hlt);have hin:=h.within _ (af4 hlt);have hat:((cur.toList.drop (k*65)).take 65)=dO x.waiting[k]:=by
    rw[bX htk _ _,qL x.waiting h.d7 k hlt]
   clear hcs htk;go_wp2_with (with_reducible first|refine ay rfl ?_|refine ax 148 rfl ?_|refine ax 240 rfl ?_|refine ah 148 rfl ?_|refine ah 240 rfl ?_);refine ai.go (bV rfl 240 _ rfl g (k*65) rfl tx 65 iA _ _ hg _ hat (co _ h64) ?_);clear hat
   go_wp2_with (with_reducible first|refine ay rfl ?_|refine ax 148 rfl ?_|refine ax 240 rfl ?_|refine ah 148 rfl ?_|refine ah 240 rfl ?_);refine ai.go (bh rfl 240 rfl jU kI ?_);intro w4 b7 l7 f4 r7
   go_wp2_with (with_reducible first|refine ay rfl ?_|refine ax 148 rfl ?_|refine ax 240 rfl ?_|refine ah 148 rfl ?_|refine ah 240 rfl ?_);refine ai.go (bP rfl 240 _ _ rfl _ 0 rfl _ rfl 65 iA ?_ ?_ _ _ r7 ?_ ?_)
   .simp only[aa7];exact co _ h64
   .intro v hv;simp only[dO,ab8] at hv;rcases hv with rfl|hv;rfl;exact byteCells_one _ v hv
   .decide
   intro w5 f5 tC;rw[bG _ _ (by rw[co _ h64];rfl)] at tC;clear r7;have l7':wr.heap.size<=b7:=l7;have jT:aO [] wr w5:=f4.trans f5 (by simpa using l7);have h5:=hw.new jT;have fw:=fk.trans jT;obtain⟨c0,c1,c2,c3,c4,c5,c6⟩:=jb h5.row;have e0:w5.cell? ⟨b7,0,none⟩=some (.int .i64 x.waiting[k].1):=by rw[tC.cell];rfl
   have hne:bl≠b7:=by have:=hw.last.lt;omega
   have ahJ:d≠b7:=by have:=hw.row.lt;omega
   clear fk hw f4 f5 l7
   by_cases hb:lN x.keep k=true
   .have HB:Hid (lN x.keep k=true):=hb
    unfold lN at hb;go_wp2_with fail;have hpl:(gj x.keep x.aJ x.waiting k).length=64*n:=mo _ n _ _ h.len h.d7 h.within k;have gr:w5.rangeAt b7 1 (byteCells x.waiting[k].2):=λj v hv=>by rw[tC.cell];simpa [dO,Nat.add_comm] using hv
    have gt:w5.there bl (x.waiting[k].1.toNat*64) 64:=λj hj=>by rw[h5.last.cell,h5.last.thaw];simp[af,hpl];omega
    have gi:(Tryz.prog.info? 148).map (·.size)=some (byteCells x.waiting[k].2).length:=by rw[af,h64];exact bj
    have gl:(byteCells x.waiting[k].2).length=64:=by rw[af,h64]
    have go:=byteCells_one x.waiting[k].2;have gu:=qM;obtain⟨ah5,ah4⟩:=hin;have hdb:=h.ne
    go_region_held3 (λw'=>w'.cell? ⟨d,0,none⟩=some (.slice (some ⟨bl,0,none⟩) n n)/\w'.cell? ⟨b7,0,none⟩=some (.int .i64 x.waiting[k].1)/\w'.rangeAt b7 1 (byteCells x.waiting[k].2)/\w'.there bl (x.waiting[k].1.toNat*64) 64) ((go_split_ands;(try simp only[World.rangeAt_drew,World.there_drew,World.cell?_drew] at*);(repeat' constructor)<;>first|assumption|(rw[World.cell?_setCells_out _ _ _ _ _ (by intro e;simp only at e;omega)];assumption)|(apply World.there_setCells;assumption)|(refine World.rangeAt_setCells_apart (by assumption) _ _ _ (by omega)))) (fail)
    have h6:bv (w5.drew.setCells bl (x.waiting[k].1.toNat*64) (byteCells x.waiting[k].2)) d bl n (.slice (some ⟨g,0,none⟩) x.waiting.length cap) {x with aJ:=gj x.keep x.aJ x.waiting (k+1)}/\
      aO [d,bl] w (w5.drew.setCells bl (x.waiting[k].1.toNat*64) (byteCells x.waiting[k].2)):=by
     rw[rT (w:=w5.drew) h5.last (by simp[af,hpl,h64];omega) go,pg _ _ h64,Fy _ _ _ _ hlt HB.out];have fd:aO [bl] w5 (w5.drew.setRow bl (byteCells (bL (gj x.keep x.aJ x.waiting k) x.waiting[k])).toArray):=(aO.drew [bl] w5).trans (aO.setRow [bl] _ _ _ (by simp))
     refine⟨{h5 with row:=fd.row h5.row (by simpa using h5.ne),last:=h5.last.setRow (w:=w5.drew) _,len:=?_,own:=fd.owns h5.own (by simpa using h5.BO)},fw.trans fd⟩;rw[gP _ _ h64 (by rw[hpl];omega)];exact hpl
    obtain⟨h6,f6⟩:=h6;clear gr gt h5 fw tC gi gl go gu c0 c1 e0;generalize w5.drew.setCells bl (x.waiting[k].1.toNat*64) (byteCells x.waiting[k].2)=w6 at h6 f6⊢;go_wp2_with fail
    go_roundw
    case rel=>exact⟨k+1,by go_num,by omega,f6,h6⟩
    case measure=>simp[intOf];omega
   .have HB:Hid (lN x.keep k=false):=(by simpa using hb:lN x.keep k=false)
    have hb':(bits BinOp.and .i64 (x.keep/2^k) 1==1)=false:=HB.out;clear hb;go_wp2_with fail
    go_roundw
    case rel=>exact⟨k+1,by go_num,by omega,fw,by rw[JB _ _ _ _ HB.out];exact h5⟩
    case measure=>simp[intOf];omega
  .have HK:Hid (k=x.waiting.length):=(by omega:k=x.waiting.length)
   obtain⟨c0,c1,c2,c3,c4,c5,c6⟩:=jb hw.row;have hf:=hw.row.thaw;have hlast:=hw.last;rw[HK.out] at hlast;have hl2:=mo x.keep n _ _ h.len h.d7 h.within x.waiting.length;go_wp2_with fail
   go_end0
   have fs:aO [d] wr ((wr.setCell ⟨d,1,none⟩ (.slice none 0 0)).setCell ⟨d,6,none⟩ (.bool true)):=(aO.setCell [d] _ _ _ (by simp)).trans (aO.setCell [d] _ _ _ (by simp))
   refine⟨rfl,{row:=(hw.row.setCell 1 _).setCell 6 _,last:=fs.row hlast (by simpa usingλe=>hw.ne e.symm),len:=hl2,own:=World.ownsRow_nil _ _ _ _,d7:=by simp,within:=by simp,lo:=h.lo,hi:=h.hi,few:=by simp,ne:=h.ne,ne1:=by simp[Value.ownBlock],BO:=by simp[Value.ownBlock],nil:=λ_=>rfl},fk.trans fs⟩
def DS.fall (x:DS):DS:={x with aJ:=gj x.keep x.aJ x.waiting x.waiting.length,waiting:=[],failed:=true}
def DS.jc (x:DS):DS:={x with left:=if x.given then x.left-1 else x.left,acts:=x.acts+1}
def DS.bp (x:DS):Bool:=!x.failed&&!(x.given&&x.left==0)
def DS.stopped (x:DS):DS:=if x.failed then x else x.fall
theorem xl (d bl n:Nat)(vw:Φ)(x:DS)(w:Θ)(h:bv w d bl n vw x)(hf:x.failed=true):
  Calls Tryz.prog 187 #[.pointer (some ⟨d,0,none⟩)] w λe w'=>e= .returned (.bool false)/\w'=w:=by
 obtain⟨c0,c1,c2,c3,c4,c5,c6⟩:=jb h.row;rw[hf] at c6;clear hf;go_enter Tryz.func187,Tryz.ntmps187;go_wp2_with fail;go_ret;exact⟨rfl,rfl⟩
theorem zW (d bl n:Nat)(vw:Φ)(x:DS)(w:Θ)(h:bv w d bl n vw x)(hf:x.failed=false)(hg:x.given=true)(hl:x.left=0):
  Calls Tryz.prog 187 #[.pointer (some ⟨d,0,none⟩)] w λe w'=>e= .returned (.bool false)/\bv w' d bl n (.slice none 0 0) x.fall/\aO [d,bl] w w':=by
 obtain⟨c0,c1,c2,c3,c4,c5,c6⟩:=jb h.row;rw[hf] at c6;rw[hg] at c3;rw[hl] at c4;clear hf hg hl;go_enter Tryz.func187,Tryz.ntmps187;go_wp2_with fail;refine(Nm d bl n vw x _ h).mono ?_;rintro e w1 ⟨rfl,h1,f1⟩;go_wp2_with fail;go_ret;exact⟨rfl,h1,f1⟩
theorem Dl (d bl n:Nat)(vw:Φ)(x:DS)(w:Θ)(h:bv w d bl n vw x)(hc:x.bp=true)(hl:0<=x.left)(hl2:x.left<=9223372036854775807)(ha:0<=x.acts)(ha2:x.acts<1000000000):
  Calls Tryz.prog 187 #[.pointer (some ⟨d,0,none⟩)] w λe w'=>e= .returned (.bool true)/\bv w' d bl n vw x.jc/\aO [d] w w':=by
 obtain⟨c0,c1,c2,c3,c4,c5,c6⟩:=jb h.row;have hth:=h.row.thaw;have hdb:=h.ne;have hf:x.failed=false:=by simp[DS.bp] at hc;exact hc.1
 rw[hf] at c6
 by_cases hg:x.given=true
 .have hz:(x.left==0)=false:=by simp[DS.bp,hg] at hc;simpa using hc.2
  have hz':x.left≠0:=by simpa using hz
  rw[hg] at c3;have HG:Hid (x.given=true):=hg;clear hg hf hc;go_enter Tryz.func187,Tryz.ntmps187;go_wp2_with fail;go_ret;have fs:aO [d] w ((w.setCell ⟨d,4,none⟩ (.int .i64 (x.left-1))).setCell ⟨d,2,none⟩ (.int .i64 (x.acts+1))):=(aO.setCell [d] _ _ _ (by simp)).trans (aO.setCell [d] _ _ _ (by simp));refine⟨rfl,h.reset fs ?_ rfl rfl,fs⟩
  have:=(h.row.setCell 4 (.int .i64 (x.left-1))).setCell 2 (.int .i64 (x.acts+1));simpa [iC,DS.jc,HG.out] using this
 .have hg':x.given=false:=by simpa using hg
  rw[hg'] at c3;have HG:Hid (x.given=false):=hg';clear hg hf hc hg';go_enter Tryz.func187,Tryz.ntmps187;go_wp2_with fail;go_ret;have fs:aO [d] w (w.setCell ⟨d,2,none⟩ (.int .i64 (x.acts+1))):=aO.setCell [d] _ _ _ (by simp);refine⟨rfl,h.reset fs ?_ rfl rfl,fs⟩;have:=h.row.setCell 2 (.int .i64 (x.acts+1));simpa [iC,DS.jc,HG.out] using this
end
section
open Go.RowKit
theorem Jg (c:Array Φ)(o:Nat)(v:Φ)(r:List Φ)(h:o+r.length+1<=c.size):over (c.setIfInBounds o v) (o+1) r=over c o (v::r):=by
 unfold over
 congr 1
 have:=list_seg_step c.toList o v r (by simpa [Nat.add_assoc] using h);simp only[Array.toList_setIfInBounds];rw[this];simp
theorem Ab:∀(l:List Φ) (k off:Nat) (cells:Array Φ),off+k+l.length<=cells.size->
  (l.zipIdx k).foldl (λcs (x:Φ×Nat)=>cs.setIfInBounds (off+x.2) x.1) cells=over cells (off+k) l
 |[],k,off,cells,_=>by simp[over]
 |v::r,k,off,cells,h=>by
  simp only[List.zipIdx_cons,List.foldl_cons];simp only[List.length_cons] at h;rw[Ab r (k+1) off _ (by simp;omega),<-Nat.add_assoc,Jg _ _ _ _ (by omega)]
theorem tO (place:Nat->Option (Nat×Nat))(cells:Array Φ)(i:Nat)(v:Φ)(rest:List (Nat×Φ))(off size:Nat)(hp:place i=some (off,size))(hs:v.cells.size=size)(hf:off+size<=cells.size):
  Instr.fill place cells ((i,v)::rest)=Instr.fill place (over cells off v.cells.toList) rest:=by
 subst hs;have hz:v.cells.zipIdx.foldl (λcs (x:Φ×Nat)=>cs.setIfInBounds (off+x.2) x.1) cells=over cells off v.cells.toList:=by
  rw[<-Array.foldl_toList,Array.toList_zipIdx];exact Ab v.cells.toList 0 off cells (by simpa using hf)
 simp only[Instr.fill,hp];rw[ζ (by simp;omega)];exact congrArg (λc=>Instr.fill place c rest) hz
section
variable {P:ω}{w:Θ}{o:Oper}{ρ:aa8->Φ}
theorem ij (t:η)(ps:Array (Nat×aa8))(ho:o.op= .build t ps)(cells:Array Φ)(hb:P.built t (ps.toList.map λx=>(x.1,ρ x.2))=some cells):(execOp ρ o).run P w= .ok (.value (.agg cells)) w:=by
 have:=run_build (P:=P) w t (ps.map λx=>(x.1,ρ x.2)) cells (by simpa using hb);simp only[execOp,ho,Sem.run_bind];rw[this];rfl
theorem iW (t:η)(x:aa8)(ho:o.op= .load t x)(b off:Nat)(hx:ρ x= .pointer (some ⟨b,off,none⟩))(hu:(P.underlying t).map TypeDesc.isRow=some true)(n:Nat)(hi:(P.info? t).map (·.size)=some n)
  (c:Array Φ) (u:η) (hr:Row w b c u) (vs:List Φ) (hv:(c.toList.drop off).take n=vs) (hl:vs.length=n):(execOp ρ o).run P w= .ok (.value (.agg vs.toArray)) w:=by
 obtain⟨d,hu',hd⟩:=τ.1 hu;have:=run_loadAt_mid (P:=P) w b off t vs d (λj v hj=>by
  rw[hr.cell];subst hv;rw[List.getElem?_take] at hj;split at hj
  .simpa [ag2] using hj
  .cases hj) hu' hd (by rw[hi,hl])
 simp only[execOp,ho,hx,Sem.run_bind];rw[this];rfl
theorem tP (t e:η)(x:aa8)(ho:o.op= .buildSlice t 1 #[(0,x)])(hu:P.underlying t=some (.slice e))(i:TypeInfo)(z v:Φ)(hi:P.info? e=some i)(hz:i.zero=some z)(h0:0<i.size)(h24:i.size<=1000)
  (hx:ρ x=v) (hv:v.cells.size=i.size):(execOp ρ o).run P w= .ok (.value (.slice (some ⟨w.heap.size,0,none⟩) 1 1)) (w.alloc (.cells v.cells e)):=by
 have hf:Instr.fill (λj=>some (j*i.size,i.size)) ((Array.range (1*i.size)).map (z.cells[·%z.cells.size]!)) [(0,v)]=some v.cells:=by
  rw[tO _ _ 0 v [] 0 i.size (by simp) hv (by simp)];simp only[Instr.fill];rw[bG _ _ (by simp[hv])]
 have h1:¬i.size>2^24:=by omega
 have h2:¬i.size=0:=by omega
 have h3:zeroValue e=(do match(<-typeInfo e).zero with|some v=>pure v|none=>unsupported (.resourceLimit "a value of more than 2^22 cells")):=rfl;simp only[Nat.one_mul] at hf;simp[execOp,ho,hx,Instr.buildSlice,run_underlying hu,sizeOf,typeInfo,hi,h1,h2,zeroValue,hz,hf,newRow]
theorem Ia (d s:aa8)(dT sT elem:η)(ho:o.op= .call {callee:= .builtin .copy,args:=#[d,s],argTypes:=#[dT,sT]})(hu:P.underlying dT=some (.slice elem))(hs:(P.info? elem).map (·.size)=some 1)
  (g off dLen dCap:Nat) (hd:ρ d= .slice (some ⟨g,off,none⟩) dLen dCap) (b o2 sLen sCap:Nat) (hx:ρ s= .slice (some ⟨b,o2,none⟩) sLen sCap) (cur:Array Φ) (t:η) (hg:Row w g cur t)
  (aeu:Array Φ) (u:η) (hb:Row w b aeu u) (cs:List Φ) (hc:(aeu.toList.drop o2).take (Nat.min sLen dLen)=cs) (hn:cs.length=Nat.min sLen dLen) (hfit:off+cs.length<=cur.size) (h1:∀v∈cs,v.oneCell'=true):
  (execOp ρ o).run P w= .ok (.value (goInt cs.length)) (w.setRow g (over cur off cs)):=by
 have:=run_copy_row (P:=P) w dT sT o.type elem g off dLen dCap ⟨b,o2,none⟩ sLen sCap cur t cs hu hs hg hn (λj v hv=>by
  rw[Addr.add_mid,hb.cell];subst hc;rw[List.getElem?_take] at hv;split at hv
  .simpa [ag2] using hv
  .cases hv) hfit h1
 simp only[execOp,ho,resolve,invoke,builtin,Sem.run_bind,Sem.run_pure,Result.andThen_ok,List.map_toArray,List.map_cons,List.map_nil,hd,hx,this];rfl
theorem lQ (d s:aa8)(dT sT elem:η)(ho:o.op= .call {callee:= .builtin .copy,args:=#[d,s],argTypes:=#[dT,sT]})(hu:P.underlying dT=some (.slice elem))(g off dLen dCap:Nat)(hd:ρ d= .slice (some ⟨g,off,none⟩) dLen dCap)(str:Ξ)(hx:ρ s= .string str)(cur:Array Φ)(t:η)(hg:Row w g cur t)(hfit:off+Nat.min str.size dLen<=cur.size)(hs:(P.info? elem).map (·.size)=some 1:=by kernel_rfl):
  (execOp ρ o).run P w= .ok (.value (goInt (Nat.min str.size dLen))) (w.setRow g (over cur off (Lib.byteCells (str.data.toList.take dLen)))):=by
 have hsz:str.data.toList.length=str.size:=by rw[Array.length_toList];rfl
 have hl:(Lib.byteCells (str.data.toList.take dLen)).length=Nat.min str.size dLen:=by
  simp only[Lib.byteCells,ag0,ae1,hsz];exact Nat.min_comm _ _
 have h1:∀v∈Lib.byteCells (str.data.toList.take dLen),v.oneCell'=true:=by
  intro v hv;simp only[Lib.byteCells,ae0] at hv;obtain⟨b,_,rfl⟩:=hv;rfl
 have hst:=run_storeCells_at P g off t (Lib.byteCells (str.data.toList.take dLen)) 0 cur w hg (by rw[hl];simpa using hfit) h1;have e:Lib.byteCells (str.data.toList.take dLen)=(str.data.toList.map λb=>Value.int .u8 b.toNat).take (Nat.min str.size dLen):=by
  have:str.data.toList.take (Nat.min str.size dLen)=str.data.toList.take dLen:=by
   rw[<-hsz,show Nat.min str.data.toList.length dLen=min dLen str.data.toList.length from Nat.min_comm _ _,<-List.take_take,θ (φ _)]
  rw[<-List.map_take,this];rfl
 rw[e] at hst⊢;have:(Builtin.copy_ #[dT,sT] o.type #[.slice (some ⟨g,off,none⟩) dLen dCap,.string str]).run P w= .ok (goInt (Nat.min str.size dLen)) (w.setRow g (over cur off ((str.data.toList.map λb=>Value.int .u8 b.toNat).take (Nat.min str.size dLen)))):=by
  cases hq:P.info? elem with
  |none=>simp[hq] at hs
  |some i=>
   simp only[Nat.add_zero] at hst;simp[Builtin.copy_,run_underlying hu,Builtin.lenOf,Builtin.firstCells,sizeOf,typeInfo,hq,hst,over]
 simp only[execOp,ho,resolve,invoke,builtin,Sem.run_bind,Sem.run_pure,Result.andThen_ok,List.map_toArray,List.map_cons,List.map_nil,hd,hx,this]
theorem mr (t e:η)(n:Nat)(x l:aa8)(ho:o.op= .slice t x (some l) none none)(hu:P.underlying t=some (.array n e))(hs:(P.info? e).map (·.size)=some 1)
  (b off:Nat) (hx:ρ x= .pointer (some ⟨b,off,none⟩)) (k:Int) (hl:ρ l= .int .i64 k) (h0:0<=k) (hk:k<n) (q r:Nat) (e1:off+k.toNat=q) (e2:n-k.toNat=r):(execOp ρ o).run P w= .ok (.value (.slice (some ⟨b,q,none⟩) r r)) w:=by
 subst e1;subst e2;cases hq:P.info? e with
 |none=>simp[hq] at hs
 |some i=>
  have hi:i.size=1:=by simpa [hq] using hs
  have h2:k<=n:=by omega
  have h3:¬n=k.toNat:=by omega
  simp[execOp,ho,hx,hl,Instr.sliceAt,run_underlying hu,Instr.sureAddr,Instr.sliceBounds,Instr.sliceBound,asIntOf,h0,h2,h3,sizeOf,typeInfo,hq,hi,Addr.add_mid]
theorem jZ (t e:η)(n:Nat)(x l m:aa8)(ho:o.op= .slice t x (some l) (some m) none)(hu:P.underlying t=some (.array n e))(hs:(P.info? e).map (·.size)=some 1)
  (b off:Nat) (hx:ρ x= .pointer (some ⟨b,off,none⟩)) (k j:Int) (hl:ρ l= .int .i64 k) (hm:ρ m= .int .i64 j) (h0:0<=k) (hk:k<n) (hkj:k<=j) (hj:j<=n) (q r c:Nat) (e1:off+k.toNat=q) (e2:j.toNat-k.toNat=r) (e3:n-k.toNat=c):
  (execOp ρ o).run P w= .ok (.value (.slice (some ⟨b,q,none⟩) r c)) w:=by
 subst e1;subst e2;subst e3;cases hq:P.info? e with
 |none=>simp[hq] at hs
 |some i=>
  have hi:i.size=1:=by simpa [hq] using hs
  have h1:0<=j:=by omega
  have h2:k<=(j.toNat:Int):=by omega
  have h3:¬n=k.toNat:=by omega
  have h4:k<=max j 0:=by omega
  simp[execOp,ho,hx,hl,hm,Instr.sliceAt,run_underlying hu,Instr.sureAddr,Instr.sliceBounds,Instr.sliceBound,asIntOf,h0,h1,hj,h4,h3,sizeOf,typeInfo,hq,hi,Addr.add_mid]
structure Elem (P:ω)(t e:η)(size bytes:Nat):Prop where
 slice:P.underlying t=some (.slice e)
 info:(P.info? e).map (λi=>(i.size,i.bytes,i.zero.map (·.cells.size)))=some (size,bytes,some size)
 pos:0<size
theorem Elem.open {t e:η}{size bytes:Nat}(E:Elem P t e size bytes):∃i z,P.info? e=some i/\i.zero=some z/\i.size=size/\i.bytes=bytes/\z.cells.size=size:=by
 have h:=E.info;cases hq:P.info? e with
 |none=>rw[hq] at h;cases h
 |some i=>
  rw[hq] at h;simp only[ε,ae9,af8] at h;obtain⟨h1,h2,h3⟩:=h;cases hz:i.zero with
  |none=>rw[hz] at h3;cases h3
  |some z=>rw[hz] at h3;exact⟨i,z,rfl,hz,h1,h2,by simpa using h3⟩
end
section
variable {P:ω}{ops:Array Oper}{Q:Exit->Act->Θ->Prop}{a:Act}{w:Θ}{rest:List Oper}{o:Oper}
theorem br {s x:aa8}{t u:η}(_:o.op= .call {callee:= .builtin .append,args:=#[s,x],argTypes:=#[t,u]})(h:ai (wpList P ops Q (o::rest) a w)):wpList P ops Q (o::rest) a w:=h
theorem bq {t:η}{n:Nat}{ps:Array (Nat×aa8)}(_:o.op= .buildSlice t n ps)(h:ai (wpList P ops Q (o::rest) a w)):wpList P ops Q (o::rest) a w:=h
theorem fj (hg:o.guard=none)(t e:η)(size bytes:Nat)(E:Elem P t e size bytes)(x:aa8)(ho:o.op= .buildSlice t 1 #[(0,x)])(v:Φ)(hx:a.eval x=v)(hv:v.cells.size=size)(h:∀(w1:Θ) (b:Nat),w.heap.size<=b->aO [] w w1->Row w1 b v.cells e->wpList P ops Q rest (a.put o.dst (.slice (some ⟨b,0,none⟩) 1 1)) w1)(h24:size<=1000:=by omega):wpList P ops Q (o::rest) a w:=by
 obtain⟨i,z,hi,hz,hs,hb,hzs⟩:=E.open;have h0:=E.pos;exact bN hg _ _ (tP t e x ho E.slice i z v hi hz (by omega) (by omega) hx (by omega)) (h _ _ (φ _) (aO.alloc _ _ _) (Row.new _ _ _))
theorem zx {K:Act->Θ->Prop}(t e:η)(size bytes:Nat)(E:Elem P t e size bytes)(s x:aa8)
  (ho:o.op= .call {callee:= .builtin .append,args:=#[s,x],argTypes:=#[t,t]}) (base:Nat) (v:Φ) (n:Nat) (xs:List Φ) (hs:a.eval s=v) (hown:w.ownsRow base e size v n xs)
  (b m c:Nat) (news:List Φ) (hx:a.eval x= .slice (some ⟨b,0,none⟩) m c) (cur:Array Φ) (u:η) (hr:Row w b cur u) (hn:cur.toList.take (m*size)=news) (hl:news.length=m*size) (h1:∀v∈news,v.oneCell'=true) (hm:0<m)
  (hsmall:n+m<=1048576) (hbytes:bytes<=1048576) (hbase:base<=w.heap.size)
  (h:∀g cap w',w'.ownsRow base e size (.slice (some ⟨g,0,none⟩) (n+m) cap) (n+m) (xs++news)->aO v.ownBlock.toList w w'->(v.ownBlock=some g\/w.heap.size<=g)->K (a.put o.dst (.slice (some ⟨g,0,none⟩) (n+m) cap)) w'):o.wp P a w K Q:=by
 obtain⟨i,z,hi,hz,hsz,hb,hzs⟩:=E.open;refine wp_append_lies w s x t ho base e i z size bytes E.slice hi hz hsz hb hzs E.pos v n xs hs hown ⟨b,0,none⟩ m c news hx hl (λj u hu=>?_) h1 hm (by simp[maxLen];omega) ?_ hbase w.heap.size rfl (λg cap w' o1 o2 o3 _=>h g cap w' o1 (aO.grown o2) (o3.imp id (by omega)))
 .rw[Addr.add_mid,hr.cell]
  subst hn;rw[List.getElem?_take] at hu;split at hu
  .simpa using hu
  .cases hu
 .exact ae3 (Nat.mul_le_mul hsmall hbytes) (by decide)
theorem fK (hg:o.guard=none)(t e:η)(size bytes:Nat)(E:Elem P t e size bytes)(s x:aa8)
  (ho:o.op= .call {callee:= .builtin .append,args:=#[s,x],argTypes:=#[t,t]}) (base:Nat) (v:Φ) (n:Nat) (xs:List Φ) (hs:a.eval s=v) (hown:w.ownsRow base e size v n xs)
  (b m c:Nat) (news:List Φ) (hx:a.eval x= .slice (some ⟨b,0,none⟩) m c) (cur:Array Φ) (u:η) (hr:Row w b cur u) (hn:cur.toList.take (m*size)=news) (hl:news.length=m*size) (h1:∀v∈news,v.oneCell'=true) (hm:0<m)
  (hsmall:n+m<=1048576) (hbytes:bytes<=1048576) (hbase:base<=w.heap.size)
  (h:∀g cap w',w'.ownsRow base e size (.slice (some ⟨g,0,none⟩) (n+m) cap) (n+m) (xs++news)->aO v.ownBlock.toList w w'->(v.ownBlock=some g\/w.heap.size<=g)->wpList P ops Q rest (a.put o.dst (.slice (some ⟨g,0,none⟩) (n+m) cap)) w'):wpList P ops Q (o::rest) a w:=
 wpList_plain hg λ_ hK=>zx t e size bytes E s x ho base v n xs hs hown b m c news hx cur u hr hn hl h1 hm hsmall hbytes hbase λg cap w' o1 o2 o3=>hK _ _ (h g cap w' o1 o2 o3)
end
def eK (P:ω)(C:Θ->Prop)(o:Oper):Prop:=∀ρ w,C w->match(execOp ρ o).run P w with
 |.ok (.value _) w'=>C w'
 |.ok .skip w'=>C w'
 |.ok _ _=>False
 |.halt _ _=>True
def Gives (P:ω)(C:Θ->Prop)(e:Sem Next)(v:Φ):Prop:=∀w,C w->match e.run P w with
 |.ok (.value u) w'=>u=v/\w'=w
 |.ok (.enter f args) w'=>w'=w/\Calls P f args w (λe x=>e= .returned v/\x=w)
 |_=>False
section
variable {P:ω}{ops:Array Oper}{Q:Exit->Act->Θ->Prop}{md:Region.Mode}{C:Θ->Prop}
theorem Gives.wp {o:Oper}{a:Act}{v:Φ}{w:Θ}{K:Act->Θ->Prop}(h:Gives P C (execOp a.eval o) v)(hC:C w)(hK:K (a.put o.dst v) w):o.wp P a w K Q:=by
 have:=h w hC;unfold Oper.wp;cases hr:(execOp a.eval o).run P w with
 |ok n w'=>
  rw[hr] at this;cases n<;>simp only[Oper.upon] at this⊢
  case value u=>obtain⟨rfl,rfl⟩:=this;exact hK
  case enter f args=>
   obtain⟨rfl,hc⟩:=this;refine hc.mono ?_;rintro e x ⟨rfl,rfl⟩;exact hK
 |halt x w'=>rw[hr] at this;exact this.elim
theorem Gives.val {e:Sem Next}{v:Φ}(h:∀w,C w->e.run P w= .ok (.value v) w):Gives P C e v:=λw hw=>by
 rw[h w hw];exact⟨rfl,rfl⟩
theorem KA {i:Nat}{oi:Oper}{v:Φ}(hi:ops[i]? =some oi)(hsel:∀(j:Nat) (o:Oper) cs b,ops[j]? =some o->o.op≠.select cs b)
  (hQ:∀c a w,Q (.panic c) (a.put oi.dst v) w->Q (.panic c) a w):
  ∀(fuel:Nat) (listed:Array Bool) (a:Act) (w:Θ),
   (∀j oj,ops[j]? =some oj->j≠i->listed.getD j true=false->(∀e∈oj.after,Region.binds md e=true->e.on≠i)->oi.apart ops oj=true/\eK P C oj)->
   i∈Region.ready md ops listed->Region.wanted oi (yielded ops a.tmps)=true->Gives P C (execOp a.eval oi) v->C w->
   wpAny P md ops Q fuel (listed.setIfInBounds i true) (a.put oi.dst v) w->wpAny P md ops Q (fuel+1) listed a w:=by
 intro fuel
 induction fuel with
 |zero=>
  intro listed a w _ hr hw hy hC H;refine⟨λh=>(by rw[h] at hr;cases hr),λj hj=>?_⟩
  by_cases hji:j=i
  .subst hji
   unfold wpOp;simp only[hi,hw,if_true];exact .inl (hy.wp hC H)
  .have:=ready_mono hj hji
   rw[H.1] at this;cases this
 |succ fuel ih=>
  intro listed a w hfree hr hw hy hC H;refine⟨λh=>(by rw[h] at hr;cases hr),λj hj=>?_⟩
  by_cases hji:j=i
  .subst hji
   unfold wpOp;simp only[hi,hw,if_true];exact .inl (hy.wp hC H)
  .have h1:=H.2 j (ready_mono hj hji)
   obtain⟨hjun,oj,hoj,hall⟩:=mem_ready.1 hj;have hnot:∀e∈oj.after,Region.binds md e=true->e.on≠i:=λe he hb heq=>by
    have h1:=hall e he hb;have h0:=(mem_ready.1 hr).1;rw[heq] at h1;rcases Nat.lt_or_ge i listed.size with h'|h'
    .simp[h'] at h0 h1;rw[h0] at h1;cases h1
    .simp[Array.getElem?_eq_none h'] at h1
   obtain⟨hap,hkeep⟩:=hfree j oj hoj hji hjun hnot;obtain⟨s1,s2,s3⟩:=Oper.apart_spec hap;have hfree':∀k ok,ops[k]? =some ok->k≠i->(listed.setIfInBounds j true).getD k true=false->
     (∀e∈ok.after,Region.binds md e=true->e.on≠i)->oi.apart ops ok=true/\eK P C ok:=λk ok hk hki hun hno=>by
    refine hfree k ok hk hki ?_ hno
    by_cases hjk:j=k
    .subst hjk;exact hjun
    .rw[getD_set_ne true hjk] at hun;exact hun
   have next:∀(u:Φ) (w':Θ),C w'->wpAny P md ops Q fuel ((listed.setIfInBounds i true).setIfInBounds j true) ((a.put oi.dst v).put oj.dst u) w'->
     wpAny P md ops Q (fuel+1) (listed.setIfInBounds j true) (a.put oj.dst u) w':=λu w' hC' h3=>by
    refine ih _ _ w' hfree' (ready_mono hr (Ne.symm hji)) ?_ ?_ hC' ?_
    .rw[wanted_put oi a oj.dst u s3];exact hw
    .rw[execOp_put oi (λcs b=>hsel i oi cs b hi) a oj.dst u s3];exact hy
    .rw[Array.setIfInBounds_comm _ _ hji,<-Act.put_comm a v u s2];exact h3
   have hex:=execOp_put oj (λcs b=>hsel j oj cs b hoj) a oi.dst v s1;unfold wpOp at h1⊢;simp only[hoj] at h1⊢;rw[wanted_put oj a oi.dst v s1] at h1;split
   .rename_i hwj
    simp only[hwj,if_true] at h1;rcases h1 with h1|⟨h1,h2⟩
    .refine .inl ?_
     unfold Oper.wp at h1⊢;rw[hex] at h1;have hk:=hkeep a.eval w hC;generalize (execOp a.eval oj).run P w=r at h1 hk⊢;cases r with
     |ok n w'=>
      cases n<;>simp only[Oper.upon] at h1 hk⊢
      case value u=>exact next u w' hk h1
      case skip=>exact next undef w' hk h1
     |halt x w'=>
      cases x<;>simp only[Oper.upon] at h1⊢
      case panic u=>exact hQ _ _ _ h1
    .exact .inr ⟨by unfold Oper.asks at h1⊢;rw[hex] at h1;exact h1,h2⟩
   .rename_i hwj
    simp only[hwj] at h1;exact next undef w hC h1
def others (md:Region.Mode)(ops:Array Oper)(listed:Array Bool)(i:Nat):List Oper:=
 (List.range ops.size).filterMap λj=>if j==i||listed.getD j true then none else match ops[j]? with
  |some oj=>if oj.after.any (λe=>Region.binds md e&&e.on==i) then none else some oj
  |none=>none
theorem Ew {i:Nat}{oi:Oper}{v:Φ}{fuel:Nat}{listed:Array Bool}{a:Act}{w:Θ}(C:Θ->Prop)(hi:ops[i]? =some oi)
  (hs:Region.noSelect ops=true) (hf:Region.free md ops listed i=true) (hr:(Region.ready md ops listed).contains i=true)
  (hQ:∀c a w,Q (.panic c) (a.put oi.dst v) w->Q (.panic c) a w) (hg:oi.guard=none) (hC:C w) (hy:Gives P C (execOp a.eval oi) v)
  (rs:List Oper) (ho:others md ops listed i=rs) (hk:∀o∈rs,eK P C o)
  (h:wpAny P md ops Q fuel (listed.setIfInBounds i true) (a.put oi.dst v) w):wpAny P md ops Q (fuel+1) listed a w:=by
 refine KA (C:=C) hi (Region.noSelect_spec hs) hQ fuel listed a w (λj oj hj hne hun hno=>⟨Region.free_spec hi hf j oj hj hne hun hno,hk oj ?_⟩) (by simpa using hr) (by simp[Region.wanted,hg]) hy hC h;rw[<-ho];unfold others;rw[List.mem_filterMap];refine⟨j,af3.2 (Ψ.1 hj).1,?_⟩
 rw[ζ (by simp only[ag9,ai0,hun,or_false,ι];exact hne)];simp only[hj];rw[ζ];intro hany;obtain⟨e,he,hb⟩:=Array.any_eq_true'.1 hany;simp only[ξ,ai0] at hb;exact hno e he hb.1 hb.2
theorem BD {i:Nat}{oi:Oper}{fuel:Nat}{listed:Array Bool}{a:Act}{w:Θ}(hr:Region.ready md ops listed=[i])(hi:ops[i]? =some oi)(hg:oi.guard=none)
  (h:∀K:Act->Θ->Prop,(∀a w,wpAny P md ops Q fuel (listed.setIfInBounds i true) a w->K a w)->oi.wp P a w K Q):wpAny P md ops Q (fuel+1) listed a w:=
 wpAny_all hr (by simp) λj hj=>by
  obtain rfl:j=i:=by simpa using hj
  unfold wpOp;simp only[hi];rw[χ (by simp[Region.wanted,hg])];exact .inl (h _ λ_ _ x=>x)
theorem Ij {i:Nat}{oi:Oper}{fuel:Nat}{listed:Array Bool}{a:Act}{w:Θ}(hr:Region.ready md ops listed=[i])(hi:ops[i]? =some oi)(hg:oi.guard=none)
  (v:Φ) (w1:Θ) (hrun:(execOp a.eval oi).run P w= .ok (.value v) w1) (h:wpAny P md ops Q fuel (listed.setIfInBounds i true) (a.put oi.dst v) w1):wpAny P md ops Q (fuel+1) listed a w:=
 BD hr hi hg λK hK=>by
  unfold Oper.wp;rw[hrun];exact hK _ _ h
theorem OD {i:Nat}{oi:Oper}{fuel:Nat}{listed:Array Bool}{a:Act}{w:Θ}(hr:Region.ready md ops listed=[i])(hi:ops[i]? =some oi)(hg:oi.guard=none)
  (w1:Θ) (hrun:(execOp a.eval oi).run P w= .ok .skip w1) (h:wpAny P md ops Q fuel (listed.setIfInBounds i true) (a.put oi.dst undef) w1):wpAny P md ops Q (fuel+1) listed a w:=
 BD hr hi hg λK hK=>by
  unfold Oper.wp;rw[hrun];exact hK _ _ h
end
structure Lets (C:Θ->Prop):Prop where
 alloc:∀w o,C w->C (w.alloc o)
 drew:∀w,C w->C w.drew
def aA {α:Type}(P:ω)(C:Θ->Prop)(e:Sem α):Prop:=∀w,C w->match e.run P w with
 |.ok _ w'=>C w'
 |.halt _ _=>True
section
variable {P:ω}{C:Θ->Prop}{α β:Type}
theorem aA.pure (a:α):aA P C (Pure.pure a:Sem α):=λ_ h=>h
theorem aA.halt (x:Halt):aA P C (Sem.halt x:Sem α):=λ_ _=>trivial
theorem aA.stuck (x:String):aA P C (stuck x:Sem α):=λ_ _=>trivial
theorem aA.bind {e:Sem α}{f:α->Sem β}(h:aA P C e)(k:∀a,aA P C (f a)):aA P C (e>>=f):=λw hw=>by
 have:=h w hw;rw[Sem.run_bind];cases hr:e.run P w with
 |ok a w'=>rw[hr] at this;exact k a w' this
 |halt x w'=>trivial
theorem aA.map {e:Sem α}{f:α->β}(h:aA P C e):aA P C (Functor.map f e):=λw hw=>by
 have:=h w hw;rw[Sem.run_map];cases hr:e.run P w with
 |ok a w'=>rw[hr] at this;exact this
 |halt x w'=>trivial
theorem aA.typeInfo (t:η):aA P C (typeInfo t):=λw hw=>by
 simp only[Go.typeInfo,Sem.run_bind,run_program,Result.andThen_ok];cases P.info? t with
 |none=>trivial
 |some i=>exact hw
theorem aA.underlying (t:η):aA P C (underlying t):=λw hw=>by
 simp only[Go.underlying,Sem.run_bind,run_program,Result.andThen_ok];cases P.underlying t with
 |none=>trivial
 |some i=>exact hw
theorem aA.sizeOf (t:η):aA P C (sizeOf t):=(aA.typeInfo t).bind λ_=>aA.pure _
theorem aA.zeroValue (t:η):aA P C (zeroValue t):=(aA.typeInfo t).bind λi=>by
 cases i.zero with
 |none=>exactλ_ _=>trivial
 |some v=>exact aA.pure _
theorem aA.isAgg (t:η):aA P C (isAgg t):=(aA.underlying t).bind λd=>by
 cases d<;>exact aA.pure _
theorem aA.load (a:Addr):aA P C (load a):=λw hw=>by
 unfold Go.load;simp only[Sem.run];cases w.cell? a with
 |some v=>exact hw
 |none=>
  simp only;cases w.farLoad P a (Mode.plain==Mode.atomic) with
  |ok r=>exact hw
  |error h=>trivial
theorem aA.loadCellsFrom (a:Addr):∀(n i:Nat) (acc:Array Φ),aA P C (loadCellsFrom a i n acc)
 |0,_,_=>aA.pure _
 |n+1,i,_=>(aA.load _).bind λ_=>aA.loadCellsFrom a n (i+1) _
theorem aA.loadVar (t:η)(a:Addr):aA P C (loadVar t a):=(aA.isAgg t).bind λb=>by
 cases b with
 |true=>exact(aA.sizeOf t).bind λn=>(aA.loadCellsFrom a n 0 #[]).bind λ_=>aA.pure _
 |false=>exact aA.load a
theorem aA.sureAddr (v:Φ):aA P C (Instr.sureAddr v):=by
 unfold Instr.sureAddr;split
 .exact aA.pure _
 .exact aA.stuck _
theorem aA.loadAt (t:η)(v:Φ):aA P C (Instr.loadAt t v):=(aA.sureAddr v).bind λa=>aA.loadVar t a
theorem aA.newRow (hC:Lets C)(t:η)(cs:Array Φ):aA P C (newRow t cs):=λw hw=>by
 simp only[Go.newRow,Sem.run_bind,run_newObj_alloc,Result.andThen_ok];exact hC.alloc w _ hw
theorem aA.mapM {f:α->Sem β}(h:∀a,aA P C (f a)):∀(l:List α),aA P C (l.mapM f)
 |[]=>by simp only[List.mapM_nil];exact aA.pure _
 |a::r=>by simp only[List.mapM_cons];exact(h a).bind λ_=>(aA.mapM h r).bind λ_=>aA.pure _
theorem aA.acp {f:α->Sem β}(h:∀a,aA P C (f a))(l:Array α):aA P C (l.mapM f):=by
 rw[Array.mapM_eq_mapM_toList];exact aA.map (aA.mapM h _)
theorem aA.build (t:η)(parts:Array (Nat×Φ)):aA P C (Instr.build t parts):=by
 refine(aA.zeroValue t).bind λz=>(aA.underlying t).bind λd=>?_
 cases d<;>try exact aA.stuck _
 case array n e=>
  refine(aA.sizeOf e).bind λs=>?_
  split
  .exact aA.pure _
  .exact aA.stuck _
 case struct fs=>
  have hp:aA P C (fs.mapM λf=>(do Pure.pure (f.offset,<-Go.sizeOf f.type):Sem (Nat×Nat))):=aA.acp (λf=>(aA.sizeOf f.type).bind λ_=>aA.pure _) fs;refine aA.bind hp λplaces=>?_
  split
  .exact aA.pure _
  .exact aA.stuck _
theorem aA.buildSlice (hC:Lets C)(t:η)(n:Nat)(parts:Array (Nat×Φ)):aA P C (Instr.buildSlice t n parts):=by
 refine(aA.underlying t).bind λd=>?_
 cases d<;>try exact aA.stuck _
 case slice e=>
  refine(aA.sizeOf e).bind λs=>?_
  have tail:∀zero:Array Φ,aA P C (match Instr.fill (λi=>some (i*s,s)) ((Array.range (n*s)).map (zero[·%zero.size]!)) parts.toList with
    |some cells=>(do Pure.pure (Value.slice (some (<-Go.newRow e cells)) n n):Sem Φ)
    |_=>Go.stuck "buildSlice: a part of the wrong size"):=λzero=>by
   split
   .exact(aA.newRow hC _ _).bind λ_=>aA.pure _
   .exact aA.stuck _
  dsimp only;split
  .exact λ_ _=>trivial
  .split
   .exact(aA.pure _).bind λz=>tail z
   .exact(aA.zeroValue e).bind λv=>(aA.pure v.cells).bind λz=>tail z
def gq {α:Type}(P:ω)(e:Sem α):Prop:=∀w v w',e.run P w≠.ok v w'
theorem gq.keeps {e:Sem α}(h:gq P e):aA P C e:=λw _=>by
 cases hr:e.run P w with
 |ok a w'=>exact absurd hr (h w a w')
 |halt x w'=>trivial
theorem gq.halt (x:Halt):gq P (Sem.halt x:Sem α):=λ_ _ _ h=>by cases h
theorem gq.bind {e:Sem α}{f:α->Sem β}(h:∀a,gq P (f a)):gq P (e>>=f):=λw v w' hr=>by
 rw[Sem.run_bind] at hr;cases he:e.run P w with
 |ok a w1=>rw[he] at hr;exact h a w1 v w' hr
 |halt x w1=>rw[he] at hr;cases hr
theorem gq.runtimePanic (x:RuntimeError):gq P (runtimePanic x:Sem α):=by
 refine gq.bind λp=>?_
 cases x<;>first|exact gq.halt _|exact gq.bind λ_=>gq.bind λ_=>gq.halt _
theorem gq.boundsPanic (k:IntKind)(x y:Int)(c:BoundsCode):gq P (boundsPanic k x y c:Sem α):=by
 have h:∀s,gq P (Go.runtimePanic (.bounds (IntKind.i64.wrap x) y s c):Sem α):=λs=>gq.runtimePanic _
 unfold Go.boundsPanic;unfold Go.runtimePanic at h⊢;dsimp only;split
 .exact gq.bind h
 .exact gq.bind h
theorem aA.asIntOf (v:Φ):aA P C (asIntOf v):=by
 unfold Go.asIntOf;split<;>first|exact aA.pure _|exact aA.halt _
theorem aA.sliceBound (v:Φ)(y:Nat)(c:BoundsCode):aA P C (Instr.sliceBound v y c):=by
 refine(aA.asIntOf v).bind λx=>?_
 dsimp only;split
 .exact aA.pure _
 .exact(gq.boundsPanic _ _ _ _).keeps
theorem aA.sliceBounds (b:Bool)(l c:Nat)(x y z:Option Φ):aA P C (Instr.sliceBounds b l c x y z):=by
 unfold Instr.sliceBounds;dsimp only
 (repeat' first|exact aA.pure _|exact aA.sliceBound _ _ _|exact aA.stuck _|(refine aA.bind ?_ λ_=>?_)|split)
theorem aA.asAddr (v:Φ):aA P C (asAddr v):=by
 unfold Go.asAddr
 (repeat' first|exact aA.pure _|exact aA.stuck _|exact aA.halt _|exact(gq.runtimePanic _).keeps|split)
theorem aA.Uz (t:η)(v:Φ)(x y z:Option Φ):aA P C (Instr.slice t v x y z):=by
 refine(aA.underlying t).bind λd=>?_
 (repeat' first|exact aA.pure _|exact aA.stuck _|exact aA.asAddr _|exact aA.sliceBounds _ _ _ _ _ _|exact aA.sizeOf _|exact aA.underlying _|(refine aA.bind ?_ λ_=>?_)|split)
theorem aA.sliceAt (t:η)(v:Φ)(x y z:Option Φ):aA P C (Instr.sliceAt t v x y z):=by
 refine(aA.underlying t).bind λd=>?_
 (repeat' first|exact aA.pure _|exact aA.Uz _ _ _ _ _|exact aA.stuck _|exact aA.sureAddr _|exact aA.sliceBounds _ _ _ _ _ _|exact aA.sizeOf _|(refine aA.bind ?_ λ_=>?_)|split)
theorem aA.indexAt (t:η)(x i:Φ):aA P C (Instr.indexAt t x i):=by
 refine(aA.asIntOf i).bind λk=>?_
 refine(aA.underlying t).bind λd=>?_
 (repeat' first|exact aA.pure _|exact aA.stuck _|exact aA.halt _|exact aA.sureAddr _|exact(gq.boundsPanic _ _ _ _).keeps|exact aA.sizeOf _|exact aA.underlying _|(refine aA.bind ?_ λ_=>?_)|split|(dsimp only;split))
theorem eK.mM {o:Oper}(s:(aa8->Φ)->Sem Φ)(ho:∀ρ,execOp ρ o=(do pure (Next.value (<-s ρ))))(h:∀ρ,aA P C (s ρ)):eK P C o:=λρ w hw=>by
 have:=h ρ w hw;rw[ho,Sem.run_bind];cases hr:(s ρ).run P w with
 |ok a w'=>rw[hr] at this;exact this
 |halt x w'=>trivial
theorem eK.load {o:Oper}{t:η}{x:aa8}(ho:o.op= .load t x):eK P C o:= .mM (λρ=>Instr.loadAt t (ρ x)) (λρ=>by simp only[execOp,ho]) (λ_=>aA.loadAt _ _)
theorem eK.build {o:Oper}{t:η}{ps:Array (Nat×aa8)}(ho:o.op= .build t ps):eK P C o:= .mM (λρ=>Instr.build t (ps.map λ(i,x)=>(i,ρ x))) (λρ=>by simp only[execOp,ho]) (λ_=>aA.build _ _)
theorem eK.buildSlice (hC:Lets C){o:Oper}{t:η}{n:Nat}{ps:Array (Nat×aa8)}(ho:o.op= .buildSlice t n ps):eK P C o:= .mM (λρ=>Instr.buildSlice t n (ps.map λ(i,x)=>(i,ρ x))) (λρ=>by simp only[execOp,ho]) (λ_=>aA.buildSlice hC _ _ _)
theorem eK.indexAddr {o:Oper}{t:η}{x i:aa8}(ho:o.op= .indexAddr t x i):eK P C o:= .mM (λρ=>Instr.indexAt t (ρ x) (ρ i)) (λρ=>by simp only[execOp,ho]) (λ_=>aA.indexAt _ _ _)
theorem eK.slice {o:Oper}{t:η}{x:aa8}{l h m:Option aa8}(ho:o.op= .slice t x l h m):eK P C o:= .mM (λρ=>Instr.sliceAt t (ρ x) (l.map ρ) (h.map ρ) (m.map ρ)) (λρ=>by simp only[execOp,ho]) (λ_=>aA.sliceAt _ _ _ _ _)
def Plain (P:ω)(src dst:η):Bool:=match P.underlying src,P.underlying dst with
 |some (.slice e),some .string=>match P.underlying e with|some (.int .u8)=>true|_=>false
 |some (.int _),some (.int _)=>true
 |_,_=>false
theorem aA.Nh {γ:Type}{f:γ->β->Sem (ForInStep β)}(h:∀a s,aA P C (f a s)):∀(l:List γ) (s:β),aA P C (forIn l s f)
 |[],s=>by rw[List.forIn_nil];exact aA.pure _
 |a::r,s=>by
  rw[List.forIn_cons];refine(h a s).bind λx=>?_
  cases x with
  |done b=>exact aA.pure _
  |yield b=>exact aA.Nh h r b
theorem aA.bytesToString (x:Φ):aA P C (Conv.bytesToString x):=by
 unfold Conv.bytesToString;split
 .exact aA.pure _
 .refine aA.bind (aA.loadCellsFrom _ _ _ _) λcs=>?_
  refine aA.bind ?_ λ_=>aA.pure _
  rw[<-Array.forIn_toList];refine aA.Nh (λa s=>?_) _ _;split
  .exact aA.pure _
  .exact(aA.stuck _).bind λ_=>aA.pure _
 .exact aA.stuck _
theorem aA.choose (hC:Lets C)(q:Question):aA P C (choose q):=λw hw=>by
 unfold Go.choose;simp only[Sem.run]
 by_cases hq:q.forced=true
 .simp only[hq,if_true];exact hw
 .simp only[hq];exact hC.drew w hw
theorem aA.floatToInt (hC:Lets C)(k:FloatKind)(b:Nat)(d:IntKind):aA P C (Conv.floatToInt k b d):=by
 unfold Conv.floatToInt;dsimp only;split
 .split
  .exact aA.pure _
  .exact(aA.choose hC _).bind λ_=>aA.pure _
 .exact(aA.choose hC _).bind λ_=>aA.pure _
theorem eK.convert (hC:Lets C){o:Oper}{src dst:η}{x:aa8}(hp:Plain P src dst=true)(ho:o.op= .convert src dst x):eK P C o:=by
 refine .mM (λρ=>Go.convert src dst (ρ x)) (λρ=>by simp only[execOp,ho]) (λρ=>?_);intro w hw;unfold Plain at hp;split at hp
 .rename_i e h1 h2
  split at hp
  .rename_i h3
   simp only[Go.convert,Sem.run_bind,run_underlying h1,run_underlying h2,Result.andThen_ok];have hb:=aA.bytesToString (P:=P) (C:=C) (ρ x) w hw;cases hx:ρ x<;>rw[hx] at hb<;>first|exact hw|(simp only[Sem.run_bind,run_underlying h3,Result.andThen_ok];exact hb)
  .cases hp
 .rename_i k1 k2 h1 h2
  simp only[Go.convert,Sem.run_bind,run_underlying h1,run_underlying h2,Result.andThen_ok];cases hx:ρ x<;>first|exact hw|exact trivial|exact aA.floatToInt hC _ _ _ w hw|skip
  case pointer ad=>cases ad<;>exact trivial
 .cases hp
theorem eK.move {o:Oper}{x:aa8}(ho:o.op= .move x\/o.op= .assign x):eK P C o:=λρ w hw=>by
 rcases ho with ho|ho<;>simp only[execOp,ho]<;>exact hw
def Cd (P:ω)(o:Oper):Bool:=match o.op with
 |.load .. |.build .. |.buildSlice .. |.move _|.assign _|.indexAddr .. |.slice .. =>true
 |.convert src dst _=>Plain P src dst
 |_=>false
theorem eK.Cd (hC:Lets C){o:Oper}(h:Cd P o=true):eK P C o:=by
 cases ho:o.op<;>simp only[Go.Proofs.YtchcmhodnkgojaaGreat.Cd,ho] at h<;>first|(cases h;done)|exact eK.load ho|exact eK.build ho|exact eK.buildSlice hC ho|exact eK.move (.inl ho)|exact eK.move (.inr ho)|exact eK.indexAddr ho|exact eK.slice ho|exact eK.convert hC h ho
end
section
variable {P:ω}{ops:Array Oper}{Q:Exit->Act->Θ->Prop}{md:Region.Mode}
theorem OC {i:Nat}{oi:Oper}{v:Φ}{fuel:Nat}{listed:Array Bool}{a:Act}{w:Θ}(C:Θ->Prop)(hl:Lets C)(hC:C w)(hi:ops[i]? =some oi)
  (hs:Region.noSelect ops=true) (hf:Region.free md ops listed i=true) (hr:(Region.ready md ops listed).contains i=true)
  (hQ:∀c a w,Q (.panic c) (a.put oi.dst v) w->Q (.panic c) a w) (hg:oi.guard=none) (hk:(others md ops listed i).all (Cd P)=true) (hy:∀w,C w->(execOp a.eval oi).run P w= .ok (.value v) w)
  (h:wpAny P md ops Q fuel (listed.setIfInBounds i true) (a.put oi.dst v) w):wpAny P md ops Q (fuel+1) listed a w:=
 Ew C hi hs hf hr hQ hg hC (Gives.val hy) _ rfl (λo ho=>eK.Cd hl (ae6.1 hk o ho)) h
theorem Ex {i:Nat}{oi:Oper}{v:Φ}{fuel:Nat}{listed:Array Bool}{a:Act}{w:Θ}(hi:ops[i]? =some oi)
  (hs:Region.noSelect ops=true) (hf:Region.free md ops listed i=true) (hr:(Region.ready md ops listed).contains i=true)
  (hQ:∀c a w,Q (.panic c) (a.put oi.dst v) w->Q (.panic c) a w) (hg:oi.guard=none) (hy:∀w,(execOp a.eval oi).run P w= .ok (.value v) w)
  (h:wpAny P md ops Q fuel (listed.setIfInBounds i true) (a.put oi.dst v) w):wpAny P md ops Q (fuel+1) listed a w:=
 wpAny_take hi hs hf hr hQ (.inl ⟨by simp[Region.wanted,hg],hy⟩) h
def upto (n k:Nat):Array Bool:=((List.range n).map λj=>decide (j<k)).toArray
theorem mD (n k:Nat)(_h:k<n):(upto n k).setIfInBounds k true=upto n (k+1):=by
 apply Array.ext_getElem?
 intro i;simp only[upto,Array.getElem?_setIfInBounds,aa7,ag0,List.length_range,List.getElem?_toArray,List.getElem?_map]
 by_cases hi:k=i
 .subst hi;simp[_h]
 .simp only[hi,if_false]
  rcases Nat.lt_or_ge i n with h'|h'
  .simp only[List.getElem?_range h',ε,ae9,decide_eq_decide];omega
  .simp[h']
def At (P:ω)(ops:Array Oper)(Q:Exit->Act->Θ->Prop)(n k:Nat)(a:Act)(w:Θ):Prop:=wpAny P .any ops Q (n-k) (upto n k) a w
theorem fI {id:Nat}{a:Act}{w:Θ}(n:Nat)(hn:ops.size=n)(h:At P ops Q n 0 a w.drew)(hm:P.follows .mixedOrders=true:=by kernel_rfl):(Code.region id ops true).wp P Q a w:=by
 refine wp_region_any hm ?_;rw[hn];have e:Array.replicate n false=upto n 0:=by
  apply Array.ext_getElem?
  intro i;rcases Nat.lt_or_ge i n with h'|h'
  .simp[upto,h']
  .simp[upto,h']
 rw[e];exact h
theorem At.step {n k:Nat}{a:Act}{w:Θ}(hk:k<n)(h:wpAny P .any ops Q ((n-(k+1))+1) (upto n k) a w):At P ops Q n k a w:=by
 unfold At;rw[show n-k=(n-(k+1))+1 by omega];exact h
theorem bY {n:Nat}(k:Nat){oi:Oper}{v:Φ}{a:Act}{w:Θ}(dst:Option Tmp)(hi:ops[k]? =some oi)(hd:oi.dst=dst)(hQ:∀c a w,Q (.panic c) (a.put oi.dst v) w->Q (.panic c) a w)(hg:oi.guard=none)(hy:∀w,(execOp a.eval oi).run P w= .ok (.value v) w)(h:At P ops Q n (k+1) (a.put dst v) w)(hk:k<n:=by omega)(hs:Region.noSelect ops=true:=by kernel_rfl)(hf:Region.free .any ops (upto n k) k=true:=by kernel_rfl)(hr:(Region.ready .any ops (upto n k)).contains k=true:=by kernel_rfl):At P ops Q n k a w:=
 .step hk (Ex hi hs hf hr hQ hg hy (by rw[mD n k hk,hd];exact h))
theorem lT {n:Nat}(k:Nat){oi:Oper}{v:Φ}{a:Act}{w:Θ}(C:Θ->Prop)(hl:Lets C)(hC:C w)(dst:Option Tmp)(hi:ops[k]? =some oi)(hd:oi.dst=dst)(hQ:∀c a w,Q (.panic c) (a.put oi.dst v) w->Q (.panic c) a w)(hg:oi.guard=none)(hy:∀w,C w->(execOp a.eval oi).run P w= .ok (.value v) w)(h:At P ops Q n (k+1) (a.put dst v) w)(hk:k<n:=by omega)(hs:Region.noSelect ops=true:=by kernel_rfl)(hf:Region.free .any ops (upto n k) k=true:=by kernel_rfl)(hr:(Region.ready .any ops (upto n k)).contains k=true:=by kernel_rfl)(ht:(others .any ops (upto n k) k).all (Cd P)=true:=by kernel_rfl):At P ops Q n k a w:=
 .step hk (OC C hl hC hi hs hf hr hQ hg ht hy (by rw[mD n k hk,hd];exact h))
theorem SA {n:Nat}(k:Nat){oi:Oper}{a:Act}{w:Θ}(C:Θ->Prop)(hl:Lets C)(hC:C w)(hk:k<n)(dst:Option Tmp)(hi:ops[k]? =some oi)(hd:oi.dst=dst)
  (hs:Region.noSelect ops=true) (hf:Region.free .any ops (upto n k) k=true) (hr:(Region.ready .any ops (upto n k)).contains k=true)
  (hg:oi.guard=none) (ht:(others .any ops (upto n k) k).all (Cd P)=true) (f:aa9) (args:Array Φ) (v:Φ) (hQ:∀c a w,Q (.panic c) (a.put oi.dst v) w->Q (.panic c) a w)
  (hx:∀w,(execOp a.eval oi).run P w= .ok (.enter f args) w) (hc:∀w,C w->Calls P f args w λe x=>e= .returned v/\x=w)
  (h:At P ops Q n (k+1) (a.put dst v) w):At P ops Q n k a w:=
 .step hk (Ew C hi hs hf hr hQ hg hC (λw hw=>by rw[hx w];exact⟨rfl,hc w hw⟩) _ rfl (λo ho=>eK.Cd hl (ae6.1 ht o ho)) (by rw[mD n k hk,hd];exact h))
theorem at_one {n:Nat}(k:Nat){oi:Oper}{a:Act}{w:Θ}(hk:k<n)(hi:ops[k]? =some oi)(hr:Region.ready .any ops (upto n k)=[k])(hg:oi.guard=none)
  (h:∀K:Act->Θ->Prop,(∀a w,At P ops Q n (k+1) a w->K a w)->oi.wp P a w K Q):At P ops Q n k a w:=
 .step hk (BD hr hi hg λK hK=>h K λa w x=>hK a w (by rw[mD n k hk];exact x))
theorem ru {n:Nat}(k:Nat){oi:Oper}{a:Act}{w:Θ}(dst:Option Tmp)(hi:ops[k]? =some oi)(hd:oi.dst=dst)(hg:oi.guard=none)(v:Φ)(w1:Θ)(hrun:(execOp a.eval oi).run P w= .ok (.value v) w1)(h:At P ops Q n (k+1) (a.put dst v) w1)(hk:k<n:=by omega)(hr:Region.ready .any ops (upto n k)=[k]:=by kernel_rfl):At P ops Q n k a w:=
 .step hk (Ij hr hi hg v w1 hrun (by rw[mD n k hk,hd];exact h))
theorem Ii {n:Nat}(k:Nat){oi:Oper}{a:Act}{w:Θ}(hk:k<n)(dst:Option Tmp)(hi:ops[k]? =some oi)(hd:oi.dst=dst)(hr:Region.ready .any ops (upto n k)=[k])(hg:oi.guard=none)
  (w1:Θ) (hrun:(execOp a.eval oi).run P w= .ok .skip w1) (h:At P ops Q n (k+1) (a.put dst undef) w1):At P ops Q n k a w:=
 .step hk (OD hr hi hg w1 hrun (by rw[mD n k hk,hd];exact h))
theorem lV {n:Nat}{a:Act}{w:Θ}(h:Q .normal a w)(hr:Region.ready .any ops (upto n n)=[]:=by kernel_rfl):At P ops Q n n a w:=wpAny_done hr h _
end
end
section
open Go.RowKit Go.Lib
theorem uf:jU.cells.size=65:=by simp[jU,Value.cells,dO,af]
theorem El (s:Int)(l:List Γ)(h:l.length=64):Tryz.prog.built 240 [(0,.int .i64 s),(1,.agg (byteCells l).toArray)]=some (dO (s,l)).toArray:=by
 have hi:∃it,Tryz.prog.info? 240=some it/\it.zero=some jU:=by
  have:=kI;cases hq:Tryz.prog.info? 240 with
  |none=>rw[hq] at this;cases this
  |some it=>rw[hq] at this;exact⟨it,rfl,by simpa using this⟩
 obtain⟨it,hi,hz⟩:=hi;have hp:∃fs,Tryz.prog.underlying 240=some (.struct fs)/\fs.toList.mapM (λf=>(Tryz.prog.info? f.type).map λi=>(f.offset,i.size))=some [(0,1),(1,64)]:=⟨_,Tryz.underlying240,by kernel_rfl⟩
 obtain⟨fs,hu,hp⟩:=hp;unfold Program.built;simp only[hi,hu,hz,hp];have e1:over jU.cells 0 [Value.int .i64 s]=(Value.int .i64 s::byteCells (List.replicate 64 0)).toArray:=by simp[over,jU,Value.cells,dO]
 rw[tO _ _ 0 _ _ 0 1 rfl rfl (by rw[uf];omega)];rw[show(Value.int IntKind.i64 s).cells.toList=[Value.int .i64 s] from rfl,e1];rw[tO _ _ 1 _ _ 1 64 rfl (by simp[Value.cells,af,h]) (by simp only[aa7,List.length_cons,af,List.length_replicate];omega)];simp only[Instr.fill]
 congr 1
 simp[over,dO,af,h,Value.cells]
theorem Is (d bl n:Nat)(vw:Φ)(x:DS)(w:Θ)(s:Int)(l:List Γ)(hl:l.length=64)(hs:0<=s)(hn:s<n)(eZ:x.waiting.length<60)(hd0:d<w.heap.size)
  (hm:∀w1,aO [] w w1->Calls Tryz.prog 187 #[.pointer (some ⟨d,0,none⟩)] w1 λe w'=>e= .returned (.bool true)/\bv w' d bl n vw x/\aO [d] w1 w'):
  Calls Tryz.prog 148 #[.pointer (some ⟨d,0,none⟩),.int .i64 s,.agg (byteCells l).toArray] w λe w'=>e= .returned (.int .i64 0)/\
   ∃ZL,bv w' d bl n ZL {x with waiting:=x.waiting++[(s,l)]}/\aO (d::vw.ownBlock.toList) w w'/\(ZL.ownBlock=vw.ownBlock\/∃k,ZL.ownBlock=some k/\w.heap.size<=k):=by
 go_enter Tryz.func148,Tryz.ntmps148;go_wp2_with (with_reducible first|refine bC rfl ?_);refine ai.go (fN rfl 148 _ rfl (.agg (byteCells l).toArray) rfl ?_);intro w1 b5 l5 f1 r5;go_wp2_with fail;refine(hm w1 f1).mono ?_;clear hm;rintro e w2 ⟨rfl,h2,f2⟩;have r5':=f2.row r5 (by simp;omega);have hf:=h2.row.thaw;have q5:Row w2.drew b5 (byteCells l).toArray 148:=r5'
 have h3:bv w2.drew d bl n vw x:=h2.xJ (aO.drew [] _) (by simp) (by simp) (by simp);go_wp2_with fail;refine fI 13 rfl ?_;have f3:aO [] w2 w2.drew:=aO.drew [] _;generalize w2.drew=w3 at q5 h3 f3;obtain⟨c0,c1,-⟩:=jb h3.row;refine bY 0 (some 10) rfl rfl (λ_ _ _ h=>h) rfl (λ_=>rfl) ?_
 refine bY 1 (some 11) rfl rfl (λ_ _ _ h=>h) rfl (λ_=>rfl) ?_;refine bY 2 (some 12) rfl rfl (λ_ _ _ h=>h) rfl (λ_=>rfl) ?_
 refine bY 3 (some 13) rfl rfl (λ_ _ _ h=>h) rfl (v:= .pointer (some ⟨d,1,none⟩)) (λ_=>by go_simp) ?_;simp only[Act.put,bm,bn,bk]
 have hC:Lets (λw':Θ=>w'.cell? ⟨d,1,none⟩=some vw/\w'.rangeAt b5 0 (byteCells l)):=⟨λw o h=>⟨by rw[World.cell?_alloc_some _ _ _ (by rw[h.1];rfl)];exact h.1,World.rangeAt_alloc h.2 o⟩,λw h=>h⟩
 have hC0:w3.cell? ⟨d,1,none⟩=some vw/\w3.rangeAt b5 0 (byteCells l):=⟨c1,λj v hv=>by rw[q5.cell];simpa using hv⟩
 refine lT 4 _ hC hC0 (some 14) rfl rfl (λ_ _ _ h=>h) rfl (v:=vw) (λw' hw'=>by have:=hw'.1;go_simp) ?_;refine bY 5 (some 15) rfl rfl (λ_ _ _ h=>h) rfl (λ_=>rfl) ?_;clear hC hC0
 refine ru 6 (some 16) rfl rfl rfl _ w3 (iW 148 _ rfl b5 0 rfl dr 64 bj _ _ q5 (byteCells l) ?_ (by rw[af,hl])) ?_
 .simp only[List.drop_zero];rw[θ (by rw[af,hl];omega)]
 refine bY 7 (some 17) rfl rfl (λ_ _ _ h=>h) rfl (v:= .agg (dO (s,l)).toArray) (λw'=>?_) ?_
 .exact ij _ _ rfl _ (El s l hl)
 simp only[Act.put,bm,bn,bk];obtain⟨i,hi,hz,hsz,hby⟩:∃i,Tryz.prog.info? 240=some i/\i.zero=some jU/\i.size=65/\i.bytes=72:=by
  have a1:=kI;have a2:=iA;have a3:(Tryz.prog.info? 240).map (·.bytes)=some 72:=by kernel_rfl
  cases hq:Tryz.prog.info? 240 with
  |none=>rw[hq] at a1;cases a1
  |some it=>rw[hq] at a1 a2 a3;exact⟨it,rfl,by simpa using a1,by simpa using a2,by simpa using a3⟩
 refine ru 8 (some 18) rfl rfl rfl _ _ (tP 130 240 _ rfl Tryz.underlying130 i jU (.agg (dO (s,l)).toArray) hi hz (by omega) (by omega) rfl ?_) ?_
 .simp only[Value.cells,aa7,hsz];exact co _ hl
 have h4:=h3.new (w':=w3.alloc (.cells (Value.agg (dO (s,l)).toArray).cells 240)) (aO.alloc [] _ _) (by simp);have r8:Row (w3.alloc (.cells (Value.agg (dO (s,l)).toArray).cells 240)) w3.heap.size (dO (s,l)).toArray 240:=Row.new _ _ _;have f4:aO [] w3 (w3.alloc (.cells (Value.agg (dO (s,l)).toArray).cells 240)):=aO.alloc _ _ _
 generalize w3.alloc (.cells (Value.agg (dO (s,l)).toArray).cells 240)=w4 at h4 r8 f4;refine at_one 9 (by omega) rfl (by kernel_rfl) rfl (λK hK=>?_)
 refine wp_append_lies w4 (.tmp 14) (.tmp 18) 130 rfl 0 240 i jU 65 72 Tryz.underlying130 hi hz hsz hby uf (by omega) vw x.waiting.length (kd x.waiting) rfl h4.own ⟨w3.heap.size,0,none⟩ 1 1 (dO (s,l)) rfl (by rw[co _ hl]) ?_ ?_ (by omega) (by simp[maxLen];omega) (by omega) (Nat.zero_le _) w4.heap.size rfl ?_
 .intro j u hu;rw[Addr.add_mid,r8.cell];simpa using hu
 .intro v hv;simp only[dO,ab8] at hv;rcases hv with rfl|hv;rfl;exact byteCells_one _ v hv
 intro g cap w5 hown hgr hat hlt;refine hK _ _ ?_;clear hK;simp only[Act.put,bm,bn,bk];have f5:=aO.grown hgr;have hown2:=h4.own;have alC:=h3.row.lt;have hblt:=h3.last.lt;have alm:=f4.size;have Hm:=f5.row h4.row (by simpa using h4.ne1);have MT:=f5.row h4.last (by simpa using h4.BO);have gd:d≠g:=by
  rcases hat with hat|rfl
  .intro e;exact h4.ne1 (by rw[hat,e])
  .omega
 have gb:bl≠g:=by
  rcases hat with hat|rfl
  .intro e;exact h4.BO (by rw[hat,e])
  .omega
 refine bY 10 (some 20) rfl rfl (λ_ _ _ h=>h) rfl (λ_=>rfl) ?_;refine bY 11 (some 21) rfl rfl (λ_ _ _ h=>h) rfl (v:= .pointer (some ⟨d,1,none⟩)) (λ_=>by go_simp) ?_;simp only[Act.put]
 refine Ii 12 (by omega) none rfl rfl (by kernel_rfl) rfl (w5.setCell ⟨d,1,none⟩ (.slice (some ⟨g,0,none⟩) (x.waiting.length+1) cap)) ?_ ?_
 .have:=Hm.thaw 1
  have:=(jb Hm).2.1;go_simp
 refine lV ?_;simp only[Act.put];have f6:aO [d] w5 (w5.setCell ⟨d,1,none⟩ (.slice (some ⟨g,0,none⟩) (x.waiting.length+1) cap)):=aO.setCell _ _ _ _;have MP:=Hm.setCell 1 (.slice (some ⟨g,0,none⟩) (x.waiting.length+1) cap);have FL:=f6.row MT (by simpa usingλe=>h4.ne e.symm);have hown6:=f6.owns hown (by simpa [Value.ownBlock] using gd.symm)
 generalize w5.setCell ⟨d,1,none⟩ (.slice (some ⟨g,0,none⟩) (x.waiting.length+1) cap)=w6 at f6 MP FL hown6;have hfin:bv w6 d bl n (.slice (some ⟨g,0,none⟩) (x.waiting.length+1) cap) {x with waiting:=x.waiting++[(s,l)]}:=by
  refine {row:=MP,last:=FL,len:=h3.len,own:=?_,d7:=?_,within:=?_,lo:=h3.lo,hi:=h3.hi,few:=by simp;omega,ne:=h3.ne,ne1:=by simpa [Value.ownBlock] using gd.symm,BO:=by simpa [Value.ownBlock] using gb.symm,nil:=by simp}
  .simpa [kd] using hown6
  .intro p hp;simp only[ag8,ad2] at hp;rcases hp with hp|rfl;exact h3.d7 p hp;exact hl
  .intro p hp;simp only[ag8,ad2] at hp;rcases hp with hp|rfl;exact h3.within p hp;exact⟨hs,hn⟩
 clear c0 c1 hf Hm MT hown hown2 MP FL hown6 q5 r8 r5' r5;go_wp2_with fail;go_ret;have g0:aO [d] w w4:=((((f1.mono (by simp):aO [d] w w1).trans f2).trans f3).trans f4)
 have g1:aO (d::vw.ownBlock.toList) w w4:=g0.mono;refine⟨rfl,_,hfin,(g1.trans f5 (by intro i hi;left;simp[hi])).trans f6,?_⟩;rcases hat with hat|rfl
 .exact .inl (by rw[hat];rfl)
 .exact .inr ⟨_,rfl,by have:=g1.size;omega⟩
theorem BU (d:Nat)(s:Int)(l:List Γ)(w:Θ)(R:Θ->Prop)(hm:∀w1,aO [] w w1->Calls Tryz.prog 187 #[.pointer (some ⟨d,0,none⟩)] w1 λe w'=>e= .returned (.bool false)/\R w'):
  Calls Tryz.prog 148 #[.pointer (some ⟨d,0,none⟩),.int .i64 s,.agg (byteCells l).toArray] w λe w'=>e= .returned (.int .i64 3)/\R w':=by
 go_enter Tryz.func148,Tryz.ntmps148;go_wp2_with (with_reducible first|refine bC rfl ?_);refine ai.go (fN rfl 148 _ rfl (.agg (byteCells l).toArray) rfl ?_);intro w1 b5 l5 f1 r5;go_wp2_with fail;refine(hm w1 f1).mono ?_;rintro e w2 ⟨rfl,h1⟩;go_wp2_with fail;go_ret;exact⟨rfl,h1⟩
theorem FX (d bl n:Nat)(vw:Φ)(x:DS)(w:Θ)(h:bv w d bl n vw x):
  Calls Tryz.prog 79 #[.pointer (some ⟨d,0,none⟩)] w λe w'=>e= .returned (.bool x.failed)/\w'=w:=by
 obtain⟨c0,c1,c2,c3,c4,c5,c6⟩:=jb h.row;go_enter Tryz.func79,Tryz.ntmps79;go_wp2_with fail;go_ret;exact⟨rfl,rfl⟩
theorem lF (d bl n:Nat)(vw:Φ)(x:DS)(w:Θ)(h:bv w d bl n vw x):
  Calls Tryz.prog 117 #[.pointer (some ⟨d,0,none⟩)] w λe w'=>e= .returned (.int .i64 n)/\w'=w:=by
 obtain⟨c0,c1,c2,c3,c4,c5,c6⟩:=jb h.row;go_enter Tryz.func117,Tryz.ntmps117;go_wp2_with fail;go_ret;exact⟨rfl,rfl⟩
def aH (n:Nat):Nat:=min ((n-1)/2) 54
def da (root:List Γ)(i:Nat):Γ:=root.getD (10+i) 0
def gz (root:List Γ)(k:Nat):List Nat:=(List.range k).filter λi=>da root i==1
def taken (x:DS)(n:Nat):List Nat:=gz (x.read 0) (aH n)
def fh (l:List Nat):List Φ:=l.map λ(i:Nat)=>Value.int .i64 i
theorem ma (n:Nat)(h:16<=n)(h2:n<=400)(w:Θ):
  Calls Tryz.prog 116 #[.int .i64 n] w λe w'=>e= .returned (.int .i64 (aH n))/\w'=w:=by
 go_enter Tryz.func116,Tryz.ntmps116
 by_cases hc:((n:Int)-1)/2<=54
 all_goals
  go_wp2_with fail;go_ret;refine⟨pQ ?_,rfl⟩;unfold aH;omega
theorem n9 (i:Nat)(h:i<200)(w:Θ):
  Calls Tryz.prog 115 #[.int .i64 i] w λe w'=>e= .returned (.int .i64 (1+2*i:Nat))/\w'=w:=by
 go_enter Tryz.func115,Tryz.ntmps115;go_wp2_with fail;go_ret;exact⟨pQ (by omega),rfl⟩
theorem rF (root:List Γ)(k:Nat):gz root (k+1)=gz root k++if da root k==1 then [k] else []:=by
 simp[gz,List.range_succ,List.filter_append,List.filter_cons]
theorem Ft (root:List Γ)(i:Nat):(((da root i).toNat:Int)==1)=(da root i==1):=by
 rw[Bool.eq_iff_iff];simp[<-UInt8.toNat_inj];omega
theorem xy (a b:List Nat):fh (a++b)=fh a++fh b:=by simp[fh]
theorem ou (root:List Γ)(k:Nat):(gz root k).length<=k:=by
 have:=List.length_filter_le (λi=>da root i==1) (List.range k);simpa [gz] using this
theorem D6:Elem Tryz.prog 64 3 1 8:=⟨Tryz.underlying64,by kernel_rfl,by omega⟩
structure O4 (D:Θ->Prop)(d n:Nat)(x:DS):Prop where
 lo:16<=n
 hi:n<=400
 len:∀j:Nat,j<n->(x.read j).length=64
 new:∀{w w':Θ} {S:List Nat},D w->aO S w w'->(∀k∈S,w.heap.size<=k)->D w'
 read:∀(s:Int) (w:Θ),D w->0<=s->s<n->Calls Tryz.prog 114 #[.pointer (some ⟨d,0,none⟩),.int .i64 s] w λe w'=>e= .returned (.agg (byteCells (x.read s)).toArray)/\aO [] w w'
 PI:∀w:Θ,D w->Calls Tryz.prog 117 #[.pointer (some ⟨d,0,none⟩)] w λe w'=>e= .returned (.int .i64 n)/\w'=w
theorem E7 {w0:Θ}{d bl n:Nat}{vw:Φ}{x:DS}(h:bv w0 d bl n vw x):O4 (λw=>bv w d bl n vw x) d n x:=
 ⟨h.lo,h.hi,λj hj=>bi _ _ (by rw[h.len];simp;omega) _ h.d7,λh f hS=>h.new f hS,λs w h h0 h1=>rY d bl n vw x s w h h0 h1,λw h=>lF d bl n vw x w h⟩
theorem qm {D:Θ->Prop}{d n:Nat}{x:DS}(R:O4 D d n x)(w:Θ)(h:D w):
  Calls Tryz.prog 83 #[.pointer (some ⟨d,0,none⟩)] w λe w'=>∃v,e= .returned v/\w'.ownsRow w.heap.size 3 1 v (taken x n).length (fh (taken x n))/\aO [] w w':=by
 have hlo:=R.lo;have hhi:=R.hi;have sy:(x.read 0).length=64:=R.len 0 (by omega);go_enter Tryz.func83,Tryz.ntmps83;go_wp2_with fail;refine(R.read 0 w h (by omega) (by omega)).mono ?_;rintro e w1 ⟨rfl,f1⟩;go_wp2_with (with_reducible first|refine ay rfl ?_|refine ah 148 rfl ?_);refine ai.go (bh rfl 148 rfl eO dz ?_);intro w2 b4 l4 f2 r4
 go_wp2_with (with_reducible first|refine ay rfl ?_|refine ah 148 rfl ?_);refine ai.go (bP rfl 148 _ _ rfl _ 0 rfl _ rfl 64 bj ?_ ?_ _ _ r4 ?_ ?_)
 .simp only[aa7,af];exact sy
 .exact byteCells_one _
 .decide
 intro w3 f3 E8;rw[bG _ _ (by rw[af,sy];rfl)] at E8;have f13:aO [] w w3:=(f1.trans f2).trans f3 (by simp;have:=f1.size;omega);have h3:=R.new h f13 (by simp);clear r4 f3 f2;go_wp2_with fail;refine(R.PI w3 h3).mono ?_;rintro e w4 ⟨rfl,rfl⟩;go_wp2_with fail;refine(ma n hlo hhi _).mono ?_;rintro e w4 ⟨rfl,rfl⟩;go_wp2_with fail
 have hns:aH n<=54:=by unfold aH;omega
 have l4w:w.heap.size<=b4:=by have:=f1.size;omega
 go_loopw [3,11] (λv i wr=>∃k:Nat,i= .int .i64 k/\k<=aH n/\aO [] w wr/\Row wr b4 (byteCells (x.read 0)).toArray 148/\
  wr.ownsRow w.heap.size 3 1 v (gz (x.read 0) k).length (fh (gz (x.read 0) k))/\v.ownBlock≠some b4) (λ_ i _=>aH n-(intOf i).toNat)
 case atStart=>exact⟨0,rfl,by omega,f13,E8,World.ownsRow_nil _ _ _ _,by simp[Value.ownBlock]⟩
 case round=>
  obtain⟨k,rfl,hk,fk,rk,ok,nk⟩:=hrel;clear h3 f13 E8 f1
  by_cases hlt:k<aH n
  .have hc:wr.cell? ⟨b4,10+k,none⟩=some (.int .u8 (da (x.read 0) k).toNat):=by
    rw[rk.cell];simp[byteCells,da,List.getD_eq_getElem?_getD];rw[List.getElem?_eq_getElem (by omega)];exact⟨_,rfl,rfl⟩
   have HR:Hid ((x.read 0).length=64):=sy;clear sy;have hm1:=Ft (x.read 0) k
   by_cases hm:(da (x.read 0) k==1)=true
   .have hb:(((da (x.read 0) k).toNat:Int)==1)=true:=by rw[hm1];exact hm
    have HM:Hid ((da (x.read 0) k==1)=true):=hm;clear hm hm1;go_wp2_with (with_reducible first|refine bq rfl ?_|refine br rfl ?_);refine ai.go (fj rfl 64 3 1 8 D6 _ rfl (.int .i64 k) rfl rfl ?_);intro w5 b5 l5 f5 r5;go_wp2_with (with_reducible first|refine bq rfl ?_|refine br rfl ?_);have ok5:=f5.owns ok
    refine ai.go (fK rfl 64 3 1 8 D6 _ _ rfl w.heap.size u3 _ _ rfl ok5 b5 1 1 [.int .i64 k] rfl _ _ r5 rfl rfl (by simp[Value.oneCell']) (by omega) ?_ (by omega) ?_ ?_)
    .have:=ou (x.read 0) k;omega
    .have:=fk.size;have:=f5.size;omega
    intro g cap w6 ok6 f6 hat;have jT:=fk.trans f5;have hg4:g≠b4:=by
     rcases hat with hat|hat
     .intro e;exact nk (by rw[hat,e])
     .have:=rk.lt;have:=f5.size;omega
    have rk6:=f6.row (f5.row rk) (by simpa usingλe=>nk e);have Bq:aO [] w w6:=jT.trans f6 (by intro i hi;right;simp at hi;exact(ok5.lt i hi).1);clear rk ok fk hc ok5 r5 f5 f6 jT hat l5;go_wp2_with fail
    go_roundw
    case rel=>
     refine⟨k+1,by go_num,by omega,Bq,rk6,?_,by simpa [Value.ownBlock] using hg4⟩;rw[rF,HM.out];simpa [xy,fh] using ok6
    case measure=>simp[intOf];omega
   .have hm':(da (x.read 0) k==1)=false:=by simpa using hm
    have hb:(((da (x.read 0) k).toNat:Int)==1)=false:=by rw[hm1];exact hm'
    have HM:Hid ((da (x.read 0) k==1)=false):=hm';clear hm hm' hm1;go_wp2_with fail
    go_roundw
    case rel=>
     refine⟨k+1,by go_num,by omega,fk,rk,?_,nk⟩;rw[rF,HM.out];simpa using ok
    case measure=>simp[intOf];omega
  .have HK:Hid (k=aH n):=(by omega:k=aH n)
   go_wp2_with fail;go_ret;have hk:=HK.out;subst hk;exact⟨_,rfl,ok,fk⟩
theorem iK (d bl n:Nat)(vw:Φ)(x:DS)(w:Θ)(h:bv w d bl n vw x):
  Calls Tryz.prog 83 #[.pointer (some ⟨d,0,none⟩)] w λe w'=>∃v,e= .returned v/\w'.ownsRow w.heap.size 3 1 v (taken x n).length (fh (taken x n))/\aO [] w w':=qm (E7 h) w h
theorem eW:(Tryz.prog.info? 138).map (·.size)=some 128:=by kernel_rfl
theorem jm:(Tryz.prog.underlying 138).map TypeDesc.isRow=some true:=by kernel_rfl
def mU:Φ:= .agg (byteCells (List.replicate 128 0)).toArray
theorem jH:(Tryz.prog.info? 138).map (·.zero)=some (some mU):=by kernel_rfl
def DS.sec (x:DS)(j:Nat):List Γ:=x.read j
theorem ae2 (d bl n:Nat)(vw:Φ)(x:DS)(j:Nat)(s:Int)(hs:s=j)(w:Θ)(h:bv w d bl n vw x)(hn:j<n):
  Calls Tryz.prog 114 #[.pointer (some ⟨d,0,none⟩),.int .i64 s] w λe w'=>e= .returned (.agg (byteCells (x.sec j)).toArray)/\aO [] w w':=by
 subst hs;exact rY d bl n vw x j w h (by omega) (by omega)
theorem xp {w:Θ}{d bl n:Nat}{vw:Φ}{x:DS}(h:bv w d bl n vw x)(j:Nat)(hn:j<n):(x.sec j).length=64:=bi _ _ (by rw[h.len];omega) _ h.d7
def ci (x:DS)(i:Nat):List Γ:=x.sec (1+2*i)++x.sec (2+2*i)
def qt (x:DS)(i:Nat):Nat->List Γ
 |0=>List.replicate 128 0
 |1=>x.sec (1+2*i)++List.replicate 64 0
 |_=>ci x i
theorem Fg (x:DS)(i k:Nat)(hk:k<2)(h1:(x.sec (1+2*i)).length=64)(h2:(x.sec (2+2*i)).length=64):over (byteCells (qt x i k)).toArray (k*64) (byteCells (x.sec (1+2*i+k)))=(byteCells (qt x i (k+1))).toArray:=by
 have e:1+2*i+1=2+2*i:=by omega
 rcases(by omega:k=0\/k=1) with rfl|rfl
 .simp[over,qt,byteCells,h1]
 .simp[over,qt,ci,byteCells,h1,h2,e]
theorem sr (x:DS)(i k:Nat)(h1:(x.sec (1+2*i)).length=64)(h2:(x.sec (2+2*i)).length=64):(qt x i k).length=128:=by
 unfold qt;split<;>simp[ci,h1,h2]
theorem O4.sec {D:Θ->Prop}{d n:Nat}{x:DS}(R:O4 D d n x)(j:Nat)(s:Int)(hs:s=j)(w:Θ)(h:D w)(hn:j<n):
  Calls Tryz.prog 114 #[.pointer (some ⟨d,0,none⟩),.int .i64 s] w λe w'=>e= .returned (.agg (byteCells (x.sec j)).toArray)/\aO [] w w':=by
 subst hs;exact R.read j w h (by omega) (by omega)
theorem qu {D:Θ->Prop}{d n:Nat}{x:DS}(R:O4 D d n x)(i:Nat)(w:Θ)(h:D w)(hi:i<aH n):
  Calls Tryz.prog 82 #[.pointer (some ⟨d,0,none⟩),.int .i64 i] w λe w'=>e= .returned (.agg (byteCells (ci x i)).toArray)/\aO [] w w':=by
 have hlo:=R.lo;have hhi:=R.hi;have hin:2*i+2<n:=by unfold aH at hi;omega
 have adf:i<54:=by unfold aH at hi;omega
 have hl1:∀j:Nat,j<n->Hid ((x.sec j).length=64):=λj hj=>R.len j hj
 go_enter Tryz.func82,Tryz.ntmps82;go_wp2_with (with_reducible first|refine ay rfl ?_);refine ai.go (bh rfl 138 rfl mU jH ?_);intro w1 b4 l4 f1 r4;go_wp2_with (with_reducible first|refine ay rfl ?_);refine ai.go (bh rfl 138 rfl mU jH ?_);intro w2 b5 l5 f2 r5;have E8:=f2.row r4;have f12:=f1.trans f2
 have l4w:w.heap.size<=b4:=l4;have l5w:w.heap.size<=b5:=by have:=f1.size;omega
 have hne:b4≠b5:=by have:=r4.lt;omega
 clear f1 f2 r4 l5;go_wp2_with fail
 go_loopw [8] (λc wr=>∃k:Nat,c= .int .i64 k/\k<=2/\aO [] w wr/\Row wr b4 mU.cells 138/\Row wr b5 (byteCells (qt x i k)).toArray 138) (λc _=>2-(intOf c).toNat)
 case atStart=>exact⟨0,rfl,by omega,f12,E8,r5⟩
 case round=>
  obtain⟨k,rfl,hk,fk,q4,q5⟩:=hrel;clear f12 E8 r5
  by_cases hlt:k<2
  .have h0:=R.new h fk (by simp)
   go_wp2_with fail;refine(n9 i (by omega) wr).mono ?_;rintro e w3 ⟨rfl,rfl⟩;go_wp2_with fail;have hlk:=hl1 (1+2*i+k) (by omega);refine(R.sec (1+2*i+k) _ (by omega) w3 h0 (by omega)).mono ?_;rintro e w4 ⟨rfl,f4⟩;go_wp2_with (with_reducible first|refine ay rfl ?_|refine ah 148 rfl ?_);refine ai.go (bh rfl 148 rfl eO dz ?_);intro w5 b7 l7 f5 r7
   go_wp2_with (with_reducible first|refine ay rfl ?_|refine ah 148 rfl ?_);refine ai.go (bP rfl 148 _ _ rfl _ 0 rfl _ rfl 64 bj ?_ ?_ _ _ r7 ?_ ?_)
   .simp only[aa7,af];exact hlk.out
   .exact byteCells_one _
   .decide
   intro w6 f6 tC;rw[bG _ _ (by rw[af,hlk.out];rfl)] at tC;have f36:aO [] w3 w6:=(f4.trans f5).trans f6 (by simp;have:=f4.size;omega);have LM:=f36.row q4;have kE:=f36.row q5;have fw:=fk.trans f36;have b57:b5≠b7:=by have:=q5.lt;have:=f4.size;omega
   clear q4 q5 fk f36 f4 f5 f6 r7 l7 h0;go_wp2_with fail;refine fI 5 rfl ?_;have f7:aO [] w6 w6.drew:=aO.drew _ _;have q4:=f7.row LM;have q5:=f7.row kE;have q7:=f7.row tC;have yA:=fw.trans f7;generalize w6.drew=w7 at q4 q5 q7 yA;clear LM kE tC fw f7
   refine bY 0 (some 17) rfl rfl (λ_ _ _ h=>h) rfl (λ_=>rfl) ?_;refine bY 1 (some 18) rfl rfl (λ_ _ _ h=>h) rfl (v:= .int .i64 (k*64)) (λ_=>by go_simp;exact IntWalk.i64_in _ (by omega)) ?_;simp only[Act.put,bm,bn,bk]
   refine bY 2 (some 19) rfl rfl (λ_ _ _ h=>h) rfl (v:= .slice (some ⟨b5,k*64,none⟩) (128-k*64) (128-k*64)) (λ_=>?_) ?_
   .exact mr 138 5 128 _ _ rfl Tryz.underlying138 (by kernel_rfl) b5 0 rfl (k*64) rfl (by omega) (by omega) _ _ (by omega) (by omega)
   refine bY 3 (some 20) rfl rfl (λ_ _ _ h=>h) rfl (v:= .slice (some ⟨b7,0,none⟩) 64 64) (λ_=>by go_simp) ?_;simp only[Act.put,bm,bn,bk];have hs1:=(hl1 (1+2*i) (by omega)).out;have hs2:=(hl1 (2+2*i) (by omega)).out;have hmin:Nat.min 64 (128-k*64)=64:=Nat.min_eq_left (by omega)
   refine ru 4 (some 21) rfl rfl rfl _ _ (Ia _ _ _ _ 5 rfl Tryz.underlying85 (by kernel_rfl) b5 (k*64) _ _ rfl b7 0 64 64 rfl _ _ q5 _ _ q7 (byteCells (x.sec (1+2*i+k))) ?_ ?_ ?_ (byteCells_one _)) ?_
   .rw[hmin];simp only[List.drop_zero];rw[θ (by rw[af,hlk.out];omega)]
   .rw[hmin,af,hlk.out]
   .simp only[aa7,af];rw[sr x i k hs1 hs2,hlk.out];omega
   rw[Fg x i k hlt hs1 hs2];refine lV ?_;have kE:=q5.setRow (byteCells (qt x i (k+1))).toArray;have f8:aO [b5] w7 (w7.setRow b5 (byteCells (qt x i (k+1))).toArray):=aO.setRow _ _ _ _;have LM:=f8.row q4 (by simpa using hne);have ry:aO [] w _:=yA.trans f8 (by simpa using l5w)
   generalize w7.setRow b5 (byteCells (qt x i (k+1))).toArray=w8 at kE LM ry;simp only[Act.put,bm,bn,bk];clear hs1 hs2 hmin q4 q5 q7 yA f8 hlk;go_wp2_with fail
   go_roundw
   case rel=>exact⟨k+1,by go_num,by omega,ry,LM,kE⟩
   case measure=>simp[intOf];omega
  .have HK:Hid (k=2):=(by omega:k=2)
   have hs1:=(hl1 (1+2*i) (by omega))
   have hs2:=(hl1 (2+2*i) (by omega))
   have h128:Hid ((ci x i).length=128):=by show _=_;have:=sr x i 2 hs1.out hs2.out;exact this
   go_wp2_with (with_reducible first|refine ax 138 rfl ?_|refine ah 138 rfl ?_);refine ai.go (bV rfl 138 _ rfl b5 0 rfl jm 128 eW _ _ q5 (byteCells (ci x i)) ?_ ?_ ?_)
   .simp only[List.drop_zero]
    rw[HK.out];exact θ (by rw[af];exact ah1 h128.out)
   .rw[af];exact h128.out
   go_wp2_with (with_reducible first|refine ax 138 rfl ?_|refine ah 138 rfl ?_);refine ai.go (bP rfl 138 _ _ rfl _ 0 rfl _ rfl 128 eW ?_ ?_ _ _ q4 ?_ ?_)
   .simp only[aa7,af];exact h128.out
   .exact byteCells_one _
   .decide
   intro w6 f6 q6;rw[bG _ _ (by simp only[af];rw[h128.out];rfl)] at q6;have qZ:aO [] w w6:=fk.trans f6 (by simpa using l4w);go_wp2_with fail;exact lH rfl b4 rfl rfl _ _ q6 jm (by simp only[aa7,af];rw[h128.out];exact eW) ⟨rfl,qZ⟩
theorem kR (d bl n:Nat)(vw:Φ)(x:DS)(i:Nat)(w:Θ)(h:bv w d bl n vw x)(hi:i<aH n):
  Calls Tryz.prog 82 #[.pointer (some ⟨d,0,none⟩),.int .i64 i] w λe w'=>e= .returned (.agg (byteCells (ci x i)).toArray)/\aO [] w w':=qu (E7 h) i w h hi
theorem O4.WZ {D:Θ->Prop}{d n:Nat}{x:DS}(R:O4 D d n x)(i:Nat)(hi:i<aH n):(ci x i).length=128:=by
 have:2*i+2<n:=by unfold aH at hi;have:=R.lo;omega
 have h1:(x.sec (1+2*i)).length=64:=R.len _ (by omega);have h2:(x.sec (2+2*i)).length=64:=R.len _ (by omega);simp[ci,h1,h2]
def aB (l:List Γ):Ξ:=⟨l.toArray⟩
def eI (r:List Γ)(i:Nat):Nat:=(r.getD i 0).toNat
theorem qg (r:List Γ)(i:Nat):eI r i<256:=(r.getD i 0).toNat_lt
def eB (r:List Γ):Nat:=(eI r 0)
def cN (r:List Γ):List Γ:=(r.drop 3).take (min (eI r 1) 8)
def bu (r:List Γ):List Γ:=(r.drop 11).take (min (eI r 2) 96)
def bR (s:Int)(p c:List Γ):List Φ:=[.int .i64 s,.string (aB p),.string (aB c)]
theorem tV {w:Θ}{b:Nat}{r:List Γ}{t:η}(h:Row w b (byteCells r).toArray t)(j:Nat)(hj:j<r.length):w.cell? ⟨b,j,none⟩=some (.int .u8 (eI r j)):=by
 rw[h.cell];simp[byteCells,eI,List.getD_eq_getElem?_getD,hj]
section
variable {P:ω}{w:Θ}{o:Oper}{ρ:aa8->Φ}
theorem xR (src dst e:η)(x:aa8)(ho:o.op= .convert src dst x)(hs:P.underlying src=some (.slice e))(he:P.underlying e=some (.int .u8))(hd:P.underlying dst=some .string)
  (b off n c:Nat) (hx:ρ x= .slice (some ⟨b,off,none⟩) n c) (r:List Γ) (t:η) (hr:Row w b (byteCells r).toArray t) (l:List Γ) (hl:(r.drop off).take n=l) (hn:l.length=n):
  (execOp ρ o).run P w= .ok (.value (.string (aB l))) w:=by
 have hc:∀j v,((byteCells r).drop off|>.take n)[j]? =some v->w.cell? ⟨b,off+j,none⟩=some v:=λj v hv=>by
  rw[hr.cell];rw[List.getElem?_take] at hv;split at hv
  .simpa [ag2] using hv
  .cases hv
 rw[eH,eG,hl] at hc;subst hn;have:=run_convert_bytes_back (P:=P) w src dst e ⟨b,off,none⟩ c l hs he hd (λj hj=>by
  rw[Addr.add_mid];exact hc j _ (by simp[byteCells,hj]))
 simp only[execOp,ho,hx,Sem.run_bind,this];rfl
end
section
variable {P:ω}{w:Θ}{o:Oper}{ρ:aa8->Φ}
theorem NJ (t:η)(x y:aa8)(ho:o.op= .store t x y)(vx:Φ)(hx:ρ x=vx)(vy:Φ)(hy:ρ y=vy)(w1:Θ)(h:(Instr.storeAt t vx vy).run P w= .ok () w1):(execOp ρ o).run P w= .ok .skip w1:=by
 simp only[execOp,ho,hx,hy,Sem.run_bind,h,Result.andThen_ok];rfl
end
theorem d8:(Tryz.prog.info? 107).map (·.size)=some 3:=by kernel_rfl
theorem jM:(Tryz.prog.underlying 107).map TypeDesc.isRow=some true:=by kernel_rfl
def vU:Φ:= .agg (bR 0 [] []).toArray
theorem ky:(Tryz.prog.info? 107).map (·.zero)=some (some vU):=by kernel_rfl
theorem Gq (s:Int)(p:Ξ):Tryz.prog.built 103 [(0,.int .i64 s),(1,.string p)]=some #[.int .i64 s,.string p]:=by kernel_rfl
theorem Gr (s:Int)(p c:Ξ):Tryz.prog.built 107 [(0,.agg #[.int .i64 s,.string p]),(1,.string c)]=some #[.int .i64 s,.string p,.string c]:=by kernel_rfl
theorem nG (r:List Γ)(w:Θ)(hr:r.length=128):
  Calls Tryz.prog 81 #[.agg (byteCells r).toArray] w λe w'=>e= .returned (.agg (bR (eB r) (cN r) (bu r)).toArray)/\aO [] w w':=by
 go_enter Tryz.func81,Tryz.ntmps81;go_wp2_with (with_reducible first|refine bC rfl ?_|refine ay rfl ?_);refine ai.go (fN rfl 138 _ rfl (.agg (byteCells r).toArray) rfl ?_);intro w1 b1 l1 f1 r1;go_wp2_with (with_reducible first|refine bC rfl ?_|refine ay rfl ?_);refine ai.go (bh rfl 107 rfl vU ky ?_);intro w2 b2 l2 f2 r2
 have q1:Row w2 b1 (byteCells r).toArray 138:=f2.row r1;have f12:=f1.trans f2;have l2w:w.heap.size<=b2:=by have:=f1.size;omega
 have hne:b1≠b2:=by have:=r1.lt;omega
 have c1:=tV q1 1 (by omega);have c2:=tV q1 2 (by omega);obtain⟨pl,hpl⟩:∃pl,min (eI r 1) 8=pl:=⟨_,rfl⟩
 obtain⟨cl,hcl⟩:∃cl,min (eI r 2) 96=cl:=⟨_,rfl⟩
 have hp8:pl<=8:=by omega
 have hc96:cl<=96:=by omega
 have HR:Hid (r.length=128):=hr;have ahE:=hpl;have hcl0:=hcl;have HP:Hid (min (eI r 1) 8=pl):=hpl;have HC:Hid (min (eI r 2) 96=cl):=hcl;have aiE:((eI r 1):Int)<=255:=by have:=qg r 1;omega
 have aiD:((eI r 2):Int)<=255:=by have:=qg r 2;omega
 generalize (eI r 1)=n1 at c1 hpl HP aiE;generalize (eI r 2)=n2 at c2 hcl HC aiD;clear hr r1 f1 f2;clear hpl hcl;have hC:Lets (λw':Θ=>Row w' b1 (byteCells r).toArray 138):=⟨λw o h=>(aO.alloc [] w o).row h,λw h=>h⟩
 by_cases h1:(n1:Int)<=8<;>by_cases h2:(n2:Int)<=96
 all_goals
  go_wp2_with fail;have hpl:=HP.out;have hcl:=HC.out;have hr:=HR.out;refine fI 12 rfl ?_;have fd:aO [] w2 w2.drew:=aO.drew _ _;have q1':=fd.row q1;have r2':=fd.row r2;have fw:=f12.trans fd;generalize w2.drew=w3 at q1' r2' fw
  refine bY 0 (some 15) rfl rfl (λ_ _ _ h=>h) rfl (v:= .pointer (some ⟨b1,0,none⟩)) (λ_=>by go_simp) ?_
  refine lT 1 _ hC q1' (some 16) rfl rfl (λ_ _ _ h=>h) rfl (v:= .int .u8 (eI r 0)) (λw' hw'=>by have:=tV hw' 0 (by omega);go_simp) ?_;have hb0:((eI r 0):Int)<=255:=by have:=qg r 0;omega
  refine bY 2 (some 17) rfl rfl (λ_ _ _ h=>h) rfl (v:= .int .i64 (eI r 0)) (λ_=>by go_simp;try exact IntWalk.i64_in _ (by omega)) ?_;simp only[Act.put,bm,bn,bk];refine bY 3 (some 18) rfl rfl (λ_ _ _ h=>h) rfl (λ_=>rfl) ?_
  refine bY 4 (some 19) rfl rfl (λ_ _ _ h=>h) rfl (v:= .slice (some ⟨b1,3,none⟩) pl 125) (λ_=>jZ 138 5 128 _ _ _ rfl Tryz.underlying138 (by kernel_rfl) b1 0 rfl 3 _ rfl rfl (by omega) (by omega) (by omega) (by omega) _ _ _ (by omega) (by omega) (by omega)) ?_
  refine lT 5 _ hC q1' (some 20) rfl rfl (λ_ _ _ h=>h) rfl (v:= .string (aB (cN r))) (λw' hw'=>xR 85 9 5 _ rfl Tryz.underlying85 Tryz.underlying5 Tryz.underlying9 b1 3 pl 125 rfl r _ hw' (cN r) ?_ ?_) ?_
  .unfold cN;rw[ahE]
  .unfold cN;rw[ae1,List.length_drop];omega
  simp only[Act.put,bm,bn,bk];refine bY 6 (some 21) rfl rfl (λ_ _ _ h=>h) rfl (v:= .agg #[.int .i64 (eI r 0),.string (aB (cN r))]) (λw'=>ij _ _ rfl _ (Gq _ _)) ?_;refine bY 7 (some 22) rfl rfl (λ_ _ _ h=>h) rfl (λ_=>rfl) ?_
  refine bY 8 (some 23) rfl rfl (λ_ _ _ h=>h) rfl (v:= .slice (some ⟨b1,11,none⟩) cl 117) (λ_=>jZ 138 5 128 _ _ _ rfl Tryz.underlying138 (by kernel_rfl) b1 0 rfl 11 _ rfl rfl (by omega) (by omega) (by omega) (by omega) _ _ _ (by omega) (by omega) (by omega)) ?_
  refine lT 9 _ hC q1' (some 24) rfl rfl (λ_ _ _ h=>h) rfl (v:= .string (aB (bu r))) (λw' hw'=>xR 85 9 5 _ rfl Tryz.underlying85 Tryz.underlying5 Tryz.underlying9 b1 11 cl 117 rfl r _ hw' (bu r) ?_ ?_) ?_
  .unfold bu;rw[hcl0]
  .unfold bu;rw[ae1,List.length_drop];omega
  simp only[Act.put,bm,bn,bk];refine bY 10 (some 25) rfl rfl (λ_ _ _ h=>h) rfl (v:= .agg (bR (eB r) (cN r) (bu r)).toArray) (λw'=>ij _ _ rfl _ (Gr _ _ _)) ?_
  refine Ii 11 (by omega) none rfl rfl (by kernel_rfl) rfl (w3.setRow b2 (bR (eB r) (cN r) (bu r)).toArray) ?_ ?_
  .have:=nU (P:=Tryz.prog) (w:=w3) 107 b2 0 (bR (eB r) (cN r) (bu r)).toArray 3 d8 rfl (by simp[bR,Value.oneCell']) _ _ r2' (by decide)
   rw[bG _ _ (by rfl)] at this;exact NJ _ _ _ rfl _ rfl _ rfl _ this
  refine lV ?_;have r2n:=r2'.setRow (bR (eB r) (cN r) (bu r)).toArray;have fn:aO [] w (w3.setRow b2 (bR (eB r) (cN r) (bu r)).toArray):=fw.trans (aO.setRow [b2] _ _ _ (by simp)) (by simpa using l2w);generalize w3.setRow b2 (bR (eB r) (cN r) (bu r)).toArray=w4 at r2n fn;simp only[Act.put];clear hC q1' r2' fw
  go_wp2_with fail;exact lH rfl b2 rfl rfl _ _ r2n jM d8 ⟨rfl,fn⟩
end
section
open Go.RowKit
section
variable {P:ω}{ops:Array Oper}{Q:Act->Prop}{C:Θ->Prop}{a:Act}{rest:List Oper}{o:Oper}
theorem aQ (hg:o.guard=none)(dst:Option Tmp)(hd:o.dst=dst)(v:Φ)(hr:∀w',C w'->(execOp a.eval o).run P w'= .ok (.value v) w')(h:wpQuiet P ops C Q rest (a.put dst v)):wpQuiet P ops C Q (o::rest) a:=by
 subst hd;unfold wpQuiet;rw[χ (by simp[Region.wanted,hg])];refine⟨v,λw' hw'=>?_,h⟩;unfold Oper.quietAt;rw[hr w' hw'];exact⟨rfl,rfl⟩
theorem jz (hg:o.guard=none)(dst:Option Tmp)(hd:o.dst=dst)(f:aa9)(args:Array Φ)(v:Φ)(hr:∀w',C w'->(execOp a.eval o).run P w'= .ok (.enter f args) w')
  (hc:∀w',C w'->Calls P f args w' λe w''=>e= .returned v/\C w'') (h:wpQuiet P ops C Q rest (a.put dst v)):wpQuiet P ops C Q (o::rest) a:=by
 subst hd;unfold wpQuiet;rw[χ (by simp[Region.wanted,hg])];refine⟨v,λw' hw'=>?_,h⟩;unfold Oper.quietAt;rw[hr w' hw'];exact⟨rfl,hc w' hw'⟩
theorem fE {id:Nat}{ops:Array Oper}{Q:Exit->Act->Θ->Prop}{w:Θ}(h:wpQuiet P ops (λw'=>aO [] w w') (λa'=>∀w',aO [] w w'->Q .normal a' w') ops.toList a)(hm:P.follows .mixedOrders=true:=by kernel_rfl)(hB:Region.lexB .any ops=true:=by kernel_rfl):(Code.region id ops true).wp P Q a w:=
 wp_region_quiet (C:=λw'=>aO [] w w') hm hB (aO.drew [] w) h
end
end
section
open Go.RowKit Go.Lib
theorem dh:(Tryz.prog.info? 103).map (·.size)=some 2:=by kernel_rfl
theorem ee:(Tryz.prog.underlying 103).map TypeDesc.isRow=some true:=by kernel_rfl
def cZ (s:Int)(p:Ξ):Array Φ:=#[.int .i64 s,.string p]
theorem D4 (s t:Int)(p q:Ξ)(w:Θ):(binOp .eql 103 (.agg #[.int .i64 s,.string p]) (.agg #[.int .i64 t,.string q])).run Tryz.prog w= .ok (.bool (s==t&&p==q)) w:=by
 go_simp;rw[beq_toListBytes]
 by_cases h1:s=t<;>by_cases h2:p.toList=q.toList<;>simp[h1,h2]
def named (x:DS)(s:Int)(p:Ξ)(i:Nat):Bool:=((eB (ci x i):Int)==s)&&aB (cN (ci x i))==p
def cK (x:DS)(s:Int)(p:Ξ):List Nat->Int
 |[]=>-1
 |i::r=>if named x s p i then i else cK x s p r
section
variable {P:ω}{w:Θ}{o:Oper}{ρ:aa8->Φ}
theorem DZ (t:η)(x:aa8)(f:Nat)(ho:o.op= .field t x f)(vx:Φ)(hx:ρ x=vx)(v:Φ)(h:(Instr.field t vx f).run P w= .ok v w):(execOp ρ o).run P w= .ok (.value v) w:=by
 simp only[execOp,ho,hx,Sem.run_bind,h,Result.andThen_ok];rfl
theorem tQ (op:BinOp)(t u:η)(x y:aa8)(ho:o.op= .binOp op t x y u)(vx vy:Φ)(hx:ρ x=vx)(hy:ρ y=vy)(v:Φ)(hg:(eqGuard op t x y vx vy).run P w= .ok () w)(h:(binOp op t vx vy).run P w= .ok v w):(execOp ρ o).run P w= .ok (.value v) w:=by
 simp only[execOp,ho,hx,hy,Sem.run_bind,hg,h,Result.andThen_ok];rfl
end
theorem FW (a b c:Φ)(w:Θ):(Instr.field 107 (.agg #[a,b,c]) 0).run Tryz.prog w= .ok (.agg #[a,b]) w:=by kernel_rfl
theorem zd (a b c:Φ)(w:Θ):(Instr.field 107 (.agg #[a,b,c]) 1).run Tryz.prog w= .ok c w:=by kernel_rfl
theorem xF (op:BinOp)(x y:aa8)(a b:Array Φ)(w:Θ):(eqGuard op 103 x y (.agg a) (.agg b)).run Tryz.prog w= .ok () w:=by
 cases op<;>kernel_rfl
theorem Ct (x:DS)(s:Int)(p:Ξ)(l:List Nat)(k:Nat)(hk:k<l.length)(h:named x s p l[k]=false):cK x s p (l.drop k)=cK x s p (l.drop (k+1)):=by
 rw[ae5 hk,cK,ζ (by simp[h])]
theorem IM (x:DS)(s:Int)(p:Ξ)(l:List Nat)(k:Nat)(hk:k<l.length)(h:named x s p l[k]=true):cK x s p (l.drop k)=l[k]:=by
 rw[ae5 hk,cK,χ h]
theorem jJ (x:DS)(n i:Nat)(h:i∈taken x n):i<aH n:=by
 simp only[taken,gz,af9,af3] at h;exact h.1
theorem eR (x:DS)(n:Nat):(taken x n).length<=54:=by
 have:=ou (x.read 0) (aH n);have:aH n<=54:=by unfold aH;omega
 unfold taken;omega
theorem np {w:Θ}{d bl n:Nat}{vw:Φ}{x:DS}(h:bv w d bl n vw x)(i:Nat)(hi:i<aH n):(ci x i).length=128:=by
 have:2*i+2<n:=by unfold aH at hi;have:=h.lo;omega
 simp[ci,xp h (1+2*i) (by omega),xp h (2+2*i) (by omega)]
theorem qP (d bl n:Nat)(vw:Φ)(x:DS)(s:Int)(p:Ξ)(w:Θ)(h:bv w d bl n vw x):
  Calls Tryz.prog 80 #[.pointer (some ⟨d,0,none⟩),.agg (cZ s p)] w λe w'=>e= .returned (.int .i64 (cK x s p (taken x n)))/\aO [] w w':=by
 go_enter Tryz.func80,Tryz.ntmps80;go_wp2_with (with_reducible first|refine bC rfl ?_);refine ai.go (fN rfl 103 _ rfl (.agg (cZ s p)) rfl ?_);intro w1 b3 l3 f1 r3;have h1:=h.new f1;go_wp2_with fail;refine(iK d bl n vw x w1 h1).mono ?_;rintro e w2 ⟨v,rfl,hv,f2⟩;have r3':=f2.row r3;have f12:=f1.trans f2;have h2:=h.new f12
 have h54:=eR x n;obtain⟨ad,cap,hv'⟩:=bM hv;subst hv';clear h1 f1 f2 r3;go_wp2_with fail;have HA:Hid (∀i∈taken x n,i<aH n):=λi hi=>jJ x n i hi
 generalize htk:taken x n=tk at*;have HT:Hid (taken x n=tk):=htk;clear htk
 go_loopw [10] (λc wr=>∃k:Nat,c= .int .i64 k/\k<=tk.length/\aO [] w2 wr/\Hid (cK x s p tk=cK x s p (tk.drop k))) (λc _=>tk.length-(intOf c).toNat)
 case atStart=>exact⟨0,rfl,by omega,aO.refl _ _,rfl⟩
 case round=>
  obtain⟨k,rfl,hk,fk,HS⟩:=hrel;have hd:=h2.new fk;have hvk:=fk.owns hv;have q3:=fk.row r3'
  by_cases hlt:k<tk.length
  .obtain⟨g,cur,rfl,hg,hle,_,hcs,htk⟩:=dL hvk
   have hi:tk[k]<aH n:=HA.out _ (af4 hlt);have hc:wr.cell? ⟨g,k,none⟩=some (.int .i64 (tk[k]:Nat)):=by
    rw[hg.cell,<-ah9];have:(cur.toList.take (tk.length*1))[k]? =(fh tk)[k]? :=by rw[htk]
    rw[ah8 (by omega)] at this;rw[this];simp[fh,hlt]
   have hrl:=np hd tk[k] hi;generalize hik:tk[k]=i at hi hc hrl;have HI:Hid (tk[k]=i):=hik;clear hik;clear hcs htk;go_wp2_with fail;refine fE ?_;refine aQ rfl (some 14) rfl _ (λ_ _=>rfl) ?_;refine aQ rfl (some 15) rfl _ (λ_ _=>rfl) ?_;simp only[Act.put,bm,bn,bk]
   refine jz rfl (some 16) rfl 82 #[.pointer (some ⟨d,0,none⟩),.int .i64 i] (.agg (byteCells (ci x i)).toArray) (λ_ _=>by go_simp) (λw' hw'=>?_) ?_
   .refine(kR d bl n vw x i w' (hd.new hw') hi).mono ?_
    rintro e w'' ⟨rfl,f⟩;exact⟨rfl,hw'.trans f⟩
   refine jz rfl (some 17) rfl 81 #[.agg (byteCells (ci x i)).toArray] (.agg (bR (eB (ci x i)) (cN (ci x i)) (bu (ci x i))).toArray) (λ_ _=>by go_simp) (λw' hw'=>?_) ?_
   .refine(nG (ci x i) w' hrl).mono ?_
    rintro e w'' ⟨rfl,f⟩;exact⟨rfl,hw'.trans f⟩
   simp only[Act.put,bm,bn,bk];refine aQ rfl (some 18) rfl (.agg (cZ (eB (ci x i)) (aB (cN (ci x i))))) (λw' _=>?_) ?_
   .exact DZ _ _ _ rfl _ rfl _ (FW _ _ _ _)
   refine aQ rfl (some 19) rfl (.agg (cZ s p)) (λw' hw'=>iW 103 _ rfl b3 0 rfl ee 2 dh _ _ (hw'.row q3) [.int .i64 s,.string p] rfl rfl) ?_;simp only[Act.put,bm,bn,bk];refine aQ rfl (some 20) rfl (.bool (named x s p i)) (λw' _=>?_) ?_
   .exact tQ _ _ _ _ _ rfl _ _ rfl rfl _ (xF _ _ _ _ _ _) (D4 _ _ _ _ _)
   simp only[Act.put,bm,bn,bk];intro w5 f5;have jT:=fk.trans f5;have po:=f12.trans jT
   by_cases hn:named x s p i=true
   .have HN:Hid (named x s p i=true):=hn
    rw[hn];clear hn hd hvk q3 hg hc fk f5;go_wp2_with fail;go_ret;refine⟨pQ ?_,po⟩;rw[show taken x n=tk from HT.out,HS.out];have:=HI.out;rw[IM _ _ _ _ _ hlt (by rw[this];exact HN.out),this]
   .have hn':named x s p i=false:=by simpa using hn
    have HN:Hid (named x s p i=false):=hn';rw[hn'];clear hn hn' hd hvk q3 hg hc fk f5;go_wp2_with fail
    go_roundw
    case rel=>
     refine⟨k+1,by go_num,by omega,jT,?_⟩;show _=_;have:=HI.out;rw[HS.out,Ct _ _ _ _ _ hlt (by rw[this];exact HN.out)]
    case measure=>simp[intOf];omega
  .have HK:Hid (k=tk.length):=(by omega:k=tk.length)
   go_wp2_with fail;go_ret;refine⟨pQ ?_,f12.trans fk⟩;rw[show taken x n=tk from HT.out,HS.out,HK.out,List.drop_length];rfl
def DS.content (x:DS)(n:Nat)(s:Int)(p:Ξ):Option (List Γ):=
 match cK x s p (taken x n) with
 |.ofNat i=>some (bu (ci x i))
 |.negSucc _=>none
theorem m7 (x:DS)(s:Int)(p:Ξ):∀(l:List Nat),cK x s p l=-1\/∃i∈l,cK x s p l=(i:Nat)/\named x s p i=true
 |[]=> .inl rfl
 |i::r=>by
  unfold cK
  by_cases h:named x s p i=true
  .exact .inr ⟨i,by simp,by simp[h],h⟩
  .rw[ζ h]
   rcases m7 x s p r with h'|⟨j,hj,h1,h2⟩
   .exact .inl h'
   .exact .inr ⟨j,by simp[hj],h1,h2⟩
theorem mS (d bl n:Nat)(vw:Φ)(x:DS)(s:Int)(p:Ξ)(w:Θ)(h:bv w d bl n vw x):
  Calls Tryz.prog 50 #[.pointer (some ⟨d,0,none⟩),.agg (cZ s p)] w λe w'=>
   e= .returned (.tuple #[.string (aB ((x.content n s p).getD [])),.bool (x.content n s p).isSome])/\aO [] w w':=by
 go_enter Tryz.func50,Tryz.ntmps50;go_wp2_with (with_reducible first|refine bC rfl ?_|refine ax 103 rfl ?_);refine ai.go (fN rfl 103 _ rfl (.agg (cZ s p)) rfl ?_);intro w1 b3 l3 f1 r3;have h1:=h.new f1;go_wp2_with (with_reducible first|refine bC rfl ?_|refine ax 103 rfl ?_)
 refine ai.go (bV rfl 103 _ rfl b3 0 rfl ee 2 dh _ _ r3 [.int .i64 s,.string p] rfl rfl ?_);go_wp2_with fail;refine(qP d bl n vw x s p w1 h1).mono ?_;rintro e w2 ⟨rfl,f2⟩;have h2:=h1.new f2;have fw:=f1.trans f2;clear h1 f1 f2 r3;rcases m7 x s p (taken x n) with hs|⟨i,hi,hs,_⟩
 .have hc:Hid (x.content n s p=none):=by show _=_;unfold DS.content;rw[hs];rfl
  rw[hs];clear hs;go_wp2_with fail
  go_ret2
  refine⟨?_,fw⟩;rw[hc.out];rfl
 .have hc:Hid (x.content n s p=some (bu (ci x i))):=by show _=_;unfold DS.content;rw[hs]
  have hlt:=jJ x n i hi;have hrl:=np h2 i hlt;rw[hs];clear hs hi;have hne:((i:Int)==-1)=false:=by rw[ae8];omega
  go_wp2_with fail;refine(kR d bl n vw x i w2 h2 hlt).mono ?_;rintro e w3 ⟨rfl,f3⟩;go_wp2_with fail;refine(nG (ci x i) w3 hrl).mono ?_;rintro e w4 ⟨rfl,f4⟩;have yB:=(fw.trans f3).trans f4;go_wp2_with (with_reducible first|refine EF rfl ?_);refine ai.go (bN rfl _ _ (DZ _ _ _ rfl _ rfl _ (zd _ _ _ _)) ?_);go_wp2_with fail
  go_ret2
  refine⟨?_,yB⟩;rw[hc.out];rfl
structure cH where
 set:Nat
 path:List Γ
 content:List Γ
def fileAt (x:DS)(i:Nat):cH:=⟨eB (ci x i),cN (ci x i),bu (ci x i)⟩
def aM (x:DS)(n:Nat):List cH:=(taken x n).map (fileAt x)
def ii (l:List cH):List Φ:=l.flatMap λf=>bR f.set f.path f.content
theorem Be (l:List cH):(ii l).length=l.length*3:=by
 induction l with
 |nil=>rfl
 |cons f r ih=>simp only[ii,List.flatMap_cons,af1,List.length_cons,bR] at ih⊢;rw[ih];simp;omega
theorem sI (a b:List cH):ii (a++b)=ii a++ii b:=by simp[ii]
theorem p8:Elem Tryz.prog 104 107 3 40:=⟨Tryz.underlying104,by kernel_rfl,by omega⟩
theorem OE {D:Θ->Prop}{d n:Nat}{x:DS}(R:O4 D d n x)(w:Θ)(h:D w):
  Calls Tryz.prog 51 #[.pointer (some ⟨d,0,none⟩)] w λe w'=>∃v,e= .returned v/\w'.ownsRow w.heap.size 107 3 v (aM x n).length (ii (aM x n))/\aO [] w w':=by
 go_enter Tryz.func51,Tryz.ntmps51;go_wp2_with fail;refine(qm R w h).mono ?_;rintro e w2 ⟨v,rfl,hv,f2⟩;have h2:=R.new h f2 (by simp);have h54:=eR x n;obtain⟨ad,cap,hv'⟩:=bM hv;subst hv';go_wp2_with fail;have HA:Hid (∀i∈taken x n,i<aH n):=λi hi=>jJ x n i hi
 generalize htk:taken x n=tk at*;have HT:Hid (taken x n=tk):=htk;clear htk;have hsz2:=f2.size
 go_loopw [3,9] (λu c wr=>∃k:Nat,c= .int .i64 k/\k<=tk.length/\aO [] w2 wr/\wr.ownsRow w2.heap.size 107 3 u k (ii ((tk.take k).map (fileAt x)))) (λ_ c _=>tk.length-(intOf c).toNat)
 case atStart=>exact⟨0,rfl,by omega,aO.refl _ _,World.ownsRow_nil _ _ _ _⟩
 case round=>
  obtain⟨k,rfl,hk,fk,ho⟩:=hrel;have hd:=R.new h2 fk (by simp);have hvk:=fk.owns hv
  by_cases hlt:k<tk.length
  .obtain⟨g,cur,rfl,hg,hle,_,hcs,htk⟩:=dL hvk
   have hi:tk[k]<aH n:=HA.out _ (af4 hlt);have hc:wr.cell? ⟨g,k,none⟩=some (.int .i64 (tk[k]:Nat)):=by
    rw[hg.cell,<-ah9];have:(cur.toList.take (tk.length*1))[k]? =(fh tk)[k]? :=by rw[htk]
    rw[ah8 (by omega)] at this;rw[this];simp[fh,hlt]
   have hrl:=R.WZ tk[k] hi;generalize hik:tk[k]=i at hi hc hrl;have HI:Hid (tk[k]=i):=hik;clear hik hcs htk;go_wp2_with fail;refine(qu R i wr hd hi).mono ?_;rintro e w3 ⟨rfl,f3⟩;go_wp2_with fail;refine(nG (ci x i) w3 hrl).mono ?_;rintro e w4 ⟨rfl,f4⟩;have XM:=f4.owns (f3.owns ho (by simp));have TF:=(fk.trans f3).trans f4
   clear ho fk hd hvk hg hc f3 f4;go_wp2_with (with_reducible first|refine bq rfl ?_|refine br rfl ?_);refine ai.go (fj rfl 104 107 3 40 p8 _ rfl (.agg (bR (eB (ci x i)) (cN (ci x i)) (bu (ci x i))).toArray) rfl rfl ?_);intro w5 b5 l5 f5 r5
   go_wp2_with (with_reducible first|refine bq rfl ?_|refine br rfl ?_);have y6:=f5.owns XM;have hbase:w2.heap.size<=w5.heap.size:=by have:=TF.size;have:=f5.size;omega
   refine ai.go (fK rfl 104 107 3 40 p8 _ _ rfl w2.heap.size u3 _ _ rfl y6 b5 1 1 (bR (eB (ci x i)) (cN (ci x i)) (bu (ci x i))) rfl _ _ r5 rfl rfl (by simp[bR,Value.oneCell']) (by omega) (by omega) (by omega) hbase ?_);intro g' cap' w6 XK f6 hat;have Bq:=(TF.trans f5).trans f6 (by intro j hj;right;simp at hj;exact(y6.lt j hj).1)
   clear XM y6 r5 f5 f6 hat l5 TF hbase;go_wp2_with fail
   go_roundw
   case rel=>
    refine⟨k+1,by go_num,by omega,Bq,?_⟩;rw[ac0 hlt,List.map_append,sI,show tk[k]=i from HI.out];simpa [ii,fileAt] using XK
   case measure=>simp[intOf];omega
  .have HK:Hid (k=tk.length):=(by omega:k=tk.length)
   go_wp2_with fail;go_ret;refine⟨_,rfl,?_,f2.trans fk⟩;have:=HK.out;subst this;have e:aM x n=(tk.take tk.length).map (fileAt x):=by unfold aM;rw[show taken x n=tk from HT.out,θ (φ _)]
   rw[e];obtain⟨o1,o2⟩:=ho;refine⟨by simpa using Be ((tk.take tk.length).map (fileAt x)),?_⟩;rcases o2 with⟨e1,e2⟩|⟨g,cap,cur,e1,e2,e3⟩
   .exact .inl ⟨e1,by simpa using e2⟩
   .exact .inr ⟨g,cap,cur,by simpa using e1,by omega,by simpa using e3⟩
theorem vT (d bl n:Nat)(vw:Φ)(x:DS)(w:Θ)(h:bv w d bl n vw x):
  Calls Tryz.prog 51 #[.pointer (some ⟨d,0,none⟩)] w λe w'=>∃v,e= .returned v/\w'.ownsRow w.heap.size 107 3 v (aM x n).length (ii (aM x n))/\aO [] w w':=OE (E7 h) w h
structure fR (w:Θ)(d bl n:Nat)(vw:Φ)(x:DS):Prop where
 row:∃f,w.heap[d]? =some (.cells (iC bl n vw x) 134 f)
 last:∃f,w.heap[bl]? =some (.cells (byteCells x.aJ).toArray 148 f)
 len:x.aJ.length=64*n
 lo:16<=n
 hi:n<=400
 nil:vw= .slice none 0 0
 none:x.waiting=[]
 vw:∃ad cap,vw= .slice ad x.waiting.length cap
theorem fR.d7 {w:Θ}{d bl n:Nat}{vw:Φ}{x:DS}(h:fR w d bl n vw x):∀p∈x.waiting,p.2.length=64:=by rw[h.none];simp
theorem fR.dlt {w:Θ}{d bl n:Nat}{vw:Φ}{x:DS}(h:fR w d bl n vw x):d<w.heap.size:=let⟨_,h⟩:=h.row;(Ψ.1 h).1
theorem fR.ZW {w:Θ}{d bl n:Nat}{vw:Φ}{x:DS}(h:fR w d bl n vw x):bl<w.heap.size:=let⟨_,h⟩:=h.last;(Ψ.1 h).1
theorem fR.new {w w':Θ}{S:List Nat}{d bl n:Nat}{vw:Φ}{x:DS}(h:fR w d bl n vw x)(f:aO S w w')(hS:∀k∈S,w.heap.size<=k:=by simp):fR w' d bl n vw x:=by
 have l1:=h.dlt;have l2:=h.ZW;obtain⟨f1,h1⟩:=h.row;obtain⟨f2,h2⟩:=h.last;exact⟨⟨f1,by rw[f.block d l1 λhd=>by have:=hS _ hd;omega];exact h1⟩,⟨f2,by rw[f.block bl l2 λhd=>by have:=hS _ hd;omega];exact h2⟩,h.len,h.lo,h.hi,h.nil,h.none,h.vw⟩
theorem x3 {w:Θ}{d bl n:Nat}{vw:Φ}{x:DS}(h:fR w d bl n vw x):
  w.cell? ⟨d,0,none⟩=some (.slice (some ⟨bl,0,none⟩) n n)/\w.cell? ⟨d,1,none⟩=some vw/\w.cell? ⟨d,2,none⟩=some (.int .i64 x.acts)/\w.cell? ⟨d,3,none⟩=some (.bool x.given)/\
  w.cell? ⟨d,4,none⟩=some (.int .i64 x.left)/\w.cell? ⟨d,5,none⟩=some (.int .i64 x.keep)/\w.cell? ⟨d,6,none⟩=some (.bool x.failed):=by
 obtain⟨f,h⟩:=h.row;refine⟨?_,?_,?_,?_,?_,?_,?_⟩<;>rw[cell_of_row w d _ _ _ f h]<;>rfl
section
variable {P:ω}{ops:Array Oper}{Q:Exit->Act->Θ->Prop}{o:Oper}{rest:List Oper}{a:Act}{w:Θ}
theorem KV (hg:o.guard=none)(t:η)(x:aa8)(ho:o.op= .load t x)(b off:Nat)(hx:a.eval x= .pointer (some ⟨b,off,none⟩))
  (hu:(P.underlying t).map TypeDesc.isRow=some true) (n:Nat) (hi:(P.info? t).map (·.size)=some n)
  (c:Array Φ) (u:η) (hr:∃f,w.heap[b]? =some (.cells c u f)) (vs:List Φ) (hv:(c.toList.drop off).take n=vs) (hl:vs.length=n)
  (h:wpList P ops Q rest (a.put o.dst (.agg vs.toArray)) w):wpList P ops Q (o::rest) a w:=by
 obtain⟨d,hu',hd⟩:=τ.1 hu;obtain⟨f,hr⟩:=hr;refine wpList_load_mid hg t x ho b off hx vs d (λj v hj=>?_) hu' hd (by rw[hi,hl]) h;rw[cell_of_row w b _ _ _ f hr];subst hv;rw[List.getElem?_take] at hj;split at hj
 .simpa [ag2] using hj
 .cases hj
end
theorem Qa (d bl n:Nat)(vw:Φ)(x:DS)(s:Int)(w:Θ)(h:fR w d bl n vw x)(hs:0<=s)(hn:s<n):
  Calls Tryz.prog 114 #[.pointer (some ⟨d,0,none⟩),.int .i64 s] w λe w'=>e= .returned (.agg (byteCells (x.read s)).toArray)/\aO [] w w':=by
 have dlt:=h.dlt;have ZW:=h.ZW;obtain⟨ad,cap,hvw⟩:=h.vw;have hfit:64*s.toNat+64<=x.aJ.length:=by rw[h.len];omega
 subst hvw;go_enter Tryz.func114,Tryz.ntmps114;go_wp2_with (with_reducible first|refine ay rfl ?_|refine ax 148 rfl ?_|refine ax 240 rfl ?_|refine ah 148 rfl ?_|refine ah 240 rfl ?_);refine ai.go (bh rfl 148 rfl eO dz ?_);intro w1 b4 l4 f1 r4;have h1:=h.new f1;obtain⟨c0,c1,-⟩:=x3 h1
 go_wp2_with (with_reducible first|refine ay rfl ?_|refine ax 148 rfl ?_|refine ax 240 rfl ?_|refine ah 148 rfl ?_|refine ah 240 rfl ?_);refine ai.go (KV rfl 148 _ rfl bl (s.toNat*64) rfl dr 64 bj _ _ h1.last (byteCells (seenIn x.aJ [] s)) ?_ ?_ ?_)
 .simp[seenIn,eH,eG,Nat.mul_comm]
 .rw[af];exact bi _ _ hfit _ (by simp)
 go_wp2_with (with_reducible first|refine ay rfl ?_|refine ax 148 rfl ?_|refine ax 240 rfl ?_|refine ah 148 rfl ?_|refine ah 240 rfl ?_);refine ai.go (bh rfl 148 rfl eO dz ?_);intro w2 b5 l5 f2 r5
 go_wp2_with (with_reducible first|refine ay rfl ?_|refine ax 148 rfl ?_|refine ax 240 rfl ?_|refine ah 148 rfl ?_|refine ah 240 rfl ?_);refine ai.go (bP rfl 148 _ _ rfl _ 0 rfl _ rfl 64 bj ?_ ?_ _ _ r5 ?_ ?_)
 .simp only[aa7,af];exact bi _ _ hfit _ (by simp)
 .exact byteCells_one _
 .decide
 intro w3 f3 r5;have E8:=f3.row (f2.row r4) (by have:=r4.lt;simp;omega);have f13:aO [] w w3:=(f1.trans f2).trans f3 (by simp;have:=f1.size;omega);rw[bG _ _ (by rw[af,bi _ _ hfit _ (by simp)];rfl)] at r5;have h3:=h.new f13;clear c0 c1 h1;obtain⟨c0,c1,-⟩:=x3 h3
 go_wp2_with (with_reducible first|refine ay rfl ?_|refine ax 148 rfl ?_|refine ax 240 rfl ?_|refine ah 148 rfl ?_|refine ah 240 rfl ?_);have hne:b4≠b5:=by have:=r4.lt;omega
 have l4':w.heap.size<=b5:=by have:=f1.size;omega
 go_loopw [20] (λi wr=>∃k:Nat,i= .int .i64 k/\k<=x.waiting.length/\aO [] w wr/\Row wr b4 eO.cells 148/\
  Row wr b5 (byteCells (seenIn x.aJ (x.waiting.take k) s)).toArray 148) (λi _=>x.waiting.length-(intOf i).toNat)
 case atStart=>exact⟨0,rfl,by omega,f13,E8,r5⟩
 case round=>
  obtain⟨k,rfl,hk,fk,q4,q5⟩:=hrel;clear c0 c1 h3 f13 E8;have eZ:x.waiting.length<=60:=by rw[h.none];simp
  have hlt:¬k<x.waiting.length:=by rw[h.none];simp
  have hk':k=x.waiting.length:=by omega
  have HK:Hid (k=x.waiting.length):=hk';clear hk';go_wp2_with (with_reducible first|refine ay rfl ?_|refine ax 148 rfl ?_|refine ax 240 rfl ?_|refine ah 148 rfl ?_|refine ah 240 rfl ?_);refine ai.go (bV rfl 148 _ rfl b5 0 rfl dr 64 bj _ _ q5 (byteCells (x.read s)) ?_ ?_ ?_)
  .simp only[List.drop_zero]
   rw[HK.out,θ (φ _),θ (by rw[af,bi _ _ hfit _ h.d7];omega)];rfl
  .rw[af];exact bi _ _ hfit _ h.d7
  go_wp2_with (with_reducible first|refine ay rfl ?_|refine ax 148 rfl ?_|refine ax 240 rfl ?_|refine ah 148 rfl ?_|refine ah 240 rfl ?_);refine ai.go (bP rfl 148 _ _ rfl _ 0 rfl _ rfl 64 bj ?_ ?_ _ _ q4 ?_ ?_)
  .simp only[aa7,af];exact bi _ _ hfit _ h.d7
  .exact byteCells_one _
  .decide
  intro w6 f6 q6;rw[bG _ _ (by simp only[af];rw[show(x.read s).length=64 from bi _ _ hfit _ h.d7];rfl)] at q6;have qZ:aO [] w w6:=fk.trans f6 (by simp;omega);go_wp2_with (with_reducible first|refine ay rfl ?_|refine ax 148 rfl ?_|refine ax 240 rfl ?_|refine ah 148 rfl ?_|refine ah 240 rfl ?_)
  exact lH rfl b4 rfl rfl _ _ q6 dr (by simp only[aa7,af];rw[show(x.read s).length=64 from bi _ _ hfit _ h.d7];exact bj) ⟨rfl,qZ⟩
theorem EW (d bl n:Nat)(vw:Φ)(x:DS)(w:Θ)(h:fR w d bl n vw x):
  Calls Tryz.prog 117 #[.pointer (some ⟨d,0,none⟩)] w λe w'=>e= .returned (.int .i64 n)/\w'=w:=by
 obtain⟨c0,c1,c2,c3,c4,c5,c6⟩:=x3 h;go_enter Tryz.func117,Tryz.ntmps117;go_wp2_with fail;go_ret;exact⟨rfl,rfl⟩
theorem Wb {w0:Θ}{d bl n:Nat}{vw:Φ}{x:DS}(h:fR w0 d bl n vw x):O4 (λw=>fR w d bl n vw x) d n x:=
 ⟨h.lo,h.hi,λj hj=>bi _ _ (by rw[h.len];simp;omega) _ h.d7,λh f hS=>h.new f hS,λs w h h0 h1=>Qa d bl n vw x s w h h0 h1,λw h=>EW d bl n vw x w h⟩
def bJ (w:Θ)(F:List Nat)(d n:Nat)(x:DS):Prop:=∃bl vw,bv w d bl n vw x/\F=d::bl::vw.ownBlock.toList
theorem bJ.xJ {w w':Θ}{F S:List Nat}{d n:Nat}{x:DS}(h:bJ w F d n x)(f:aO S w w')(hS:∀k∈S,k∉F):bJ w' F d n x:=by
 obtain⟨bl,vw,h,rfl⟩:=h;refine⟨bl,vw,h.xJ f (λe=>hS _ e (by simp)) (λe=>hS _ e (by simp)) (λk hk e=>hS k hk (by simp[e])),rfl⟩
theorem bJ.lt {w:Θ}{F:List Nat}{d n:Nat}{x:DS}(h:bJ w F d n x):∀k∈F,k<w.heap.size:=by
 obtain⟨bl,vw,h,rfl⟩:=h;intro k hk;simp only[ab8,Option.mem_toList] at hk;rcases hk with rfl|rfl|hk
 .exact h.row.lt
 .exact h.last.lt
 .exact L8 h.own hk
theorem bJ.new {w w':Θ}{F S:List Nat}{d n:Nat}{x:DS}(h:bJ w F d n x)(f:aO S w w')(hS:∀k∈S,w.heap.size<=k:=by simp):bJ w' F d n x:=
 h.xJ f λk hk hF=>by have:=h.lt k hF;have:=hS k hk;omega
structure DS.Fit (x:DS)(room:Nat):Prop where
 kb:0<=x.acts
 ka:x.acts+room<=1000000000
 j9:0<=x.left
 j8:x.left<=9223372036854775807
def DS.write (x:DS)(s:Int)(l:List Γ):DS:=if x.bp then {x.jc with waiting:=x.waiting++[(s,l)]} else x.stopped
def DS.flush (x:DS):DS:=if x.bp then {x.jc with aJ:=jp x.aJ x.waiting,waiting:=[]} else x.stopped
def cO (b:Bool):Φ:= .int .i64 (if b then 0 else 3)
theorem cannot {x:DS}(h:x.bp=false):x.failed=true\/(x.failed=false/\x.given=true/\x.left=0):=by
 unfold DS.bp at h;cases hf:x.failed<;>simp_all
def bZ (F F':List Nat)(w:Θ):Prop:=∀k∈F',k∈F\/w.heap.size<=k
theorem bZ.refl (F:List Nat)(w:Θ):bZ F F w:=λ_ h=> .inl h
theorem bZ.trans {F G H:List Nat}{w w':Θ}(h:bZ F G w)(k:bZ G H w')(hs:w.heap.size<=w'.heap.size:=by simp):bZ F H w:=λi hi=>by
 rcases k i hi with h1|h1
 .exact h i h1
 .exact .inr (by omega)
theorem ua {d bl n:Nat}{vw:Φ}{x:DS}{w w':Θ}(h:bv w d bl n vw x)(h':bv w' d bl n (.slice none 0 0) x.fall):∃F',bJ w' F' d n x.fall/\bZ (d::bl::vw.ownBlock.toList) F' w:=
 ⟨[d,bl],⟨bl,_,h',by simp[Value.ownBlock]⟩,λk hk=> .inl (by simp at hk;simp;rcases hk with rfl|rfl<;>simp)⟩
theorem kJ (F:List Nat)(d n:Nat)(x:DS)(s:Int)(l:List Γ)(w:Θ)(h:bJ w F d n x)(hx:x.Fit 1)(hl:l.length=64)(eZ:x.waiting.length<60)(hs:0<=s:=by omega)(hn:s<n:=by omega):
  Calls Tryz.prog 148 #[.pointer (some ⟨d,0,none⟩),.int .i64 s,.agg (byteCells l).toArray] w λe w'=>e= .returned (cO x.bp)/\∃F',bJ w' F' d n (x.write s l)/\aO F w w'/\bZ F F' w:=by
 obtain⟨bl,vw,h,rfl⟩:=h;cases hc:x.bp with
 |true=>
  refine(Is d bl n vw x.jc w s l hl hs hn (by simpa [DS.jc] using eZ) h.row.lt λw1 f1=>Dl d bl n vw x w1 (h.new f1) hc hx.j9 hx.j8 hx.kb (by have:=hx.ka;omega)).mono ?_;rintro e w' ⟨rfl,ZL,h',f,hv⟩
  refine⟨by simp[cO],d::bl::ZL.ownBlock.toList,⟨bl,ZL,by simpa [DS.write,hc,DS.jc] using h',rfl⟩,f.mono (λk hk=> .inl (by simp only[ab8] at hk⊢;rcases hk with hk|hk;exact .inl hk;exact .inr (.inr hk))),?_⟩;intro k hk;simp only[ab8,Option.mem_toList] at hk⊢;rcases hk with rfl|rfl|hk
  .exact .inl (.inl rfl)
  .exact .inl (.inr (.inl rfl))
  .rcases hv with hv|⟨j,hj,hlt⟩
   .exact .inl (.inr (.inr (by rw[<-hv];exact hk)))
   .rw[hj] at hk
    obtain rfl:j=k:=by simpa using hk
    exact .inr hlt
 |false=>
  rcases cannot hc with hf|⟨hf,hg,h0⟩
  .refine(BU d s l w (λw'=>bv w' d bl n vw x/\aO [] w w') λw1 f1=>?_).mono ?_
   .refine(xl d bl n vw x w1 (h.new f1) hf).mono ?_
    rintro e w' ⟨rfl,rfl⟩;exact⟨rfl,h.new f1,f1⟩
   .rintro e w' ⟨rfl,h',f⟩
    exact⟨by simp[cO],_,⟨bl,vw,by simpa [DS.write,hc,DS.stopped,hf] using h',rfl⟩,f.mono,bZ.refl _ _⟩
  .refine(BU d s l w (λw'=>bv w' d bl n (.slice none 0 0) x.fall/\aO [d,bl] w w') λw1 f1=>?_).mono ?_
   .refine(zW d bl n vw x w1 (h.new f1) hf hg h0).mono ?_
    rintro e w' ⟨rfl,h',f2⟩;exact⟨rfl,h',(f1.mono (by simp):aO [d,bl] w w1).trans f2⟩
   .rintro e w' ⟨rfl,h',f⟩
    obtain⟨F',o1,o2⟩:=ua h h';exact⟨by simp[cO],F',by simpa [DS.write,hc,DS.stopped,hf] using o1,f.mono,o2⟩
theorem lh (F:List Nat)(d n:Nat)(x:DS)(w:Θ)(h:bJ w F d n x)(hx:x.Fit 1):
  Calls Tryz.prog 149 #[.pointer (some ⟨d,0,none⟩)] w λe w'=>e= .returned (cO x.bp)/\∃F',bJ w' F' d n x.flush/\aO F w w'/\bZ F F' w:=by
 obtain⟨bl,vw,h,rfl⟩:=h;cases hc:x.bp with
 |true=>
  refine(JP d bl n vw x.jc w (Dl d bl n vw x w h hc hx.j9 hx.j8 hx.kb (by have:=hx.ka;omega))).mono ?_;rintro e w' ⟨rfl,h',f⟩;refine⟨by simp[cO],[d,bl],⟨bl,_,by simpa [DS.flush,hc,DS.jc] using h',by simp[Value.ownBlock]⟩,f.mono,?_⟩;intro k hk;simp at hk;rcases hk with rfl|rfl<;>simp
 |false=>
  rcases cannot hc with hf|⟨hf,hg,h0⟩
  .refine(DT d w (λw'=>w'=w) (xl d bl n vw x w h hf)).mono ?_
   rintro e w' ⟨rfl,rfl⟩;exact⟨by simp[cO],_,⟨bl,vw,by simpa [DS.flush,hc,DS.stopped,hf] using h,rfl⟩,aO.refl _ _,bZ.refl _ _⟩
  .refine(DT d w (λw'=>bv w' d bl n (.slice none 0 0) x.fall/\aO [d,bl] w w') (zW d bl n vw x w h hf hg h0)).mono ?_
   rintro e w' ⟨rfl,h',f⟩;obtain⟨F',o1,o2⟩:=ua h h';exact⟨by simp[cO],F',by simpa [DS.flush,hc,DS.stopped,hf] using o1,f.mono,o2⟩
end
end
end Go.Proofs.YtchcmhodnkgojaaGreat
