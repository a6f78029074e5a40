/- A part. -/
import Derived.Conc.QuitsD
import Derived.Conc.ClockLaws
import Derived.Conc.AtomicLaws2
import Derived.Test.YtchcmhodnkgojaaGreatPart5
import Derived.Test.YtchcmhodnkgojaaGreatRows
import Derived.WalkKit
import Derived.WalkSpells
import Derived.WalkLawsBesides
import Derived.Deep.MidRow
import Derived.Laws.CopyOwn
import Derived.Laws.Rows
import Derived.Lib.UnsafeStr
import Derived.Deep.RegionHeld3
import Derived.Deep.AppendLies
import Derived.Orders
import Derived.Deep.RegionHeld
import Derived.Laws.IdiomStrings
import Derived.Deep.Quiet
set_option linter.all false
set_option maxRecDepth 100000
set_option maxHeartbeats 8000000
open Go.Proofs.Tryz
namespace Go.Proofs.YtchcmhodnkgojaaGreat
open Value (ren)
open Region (wanted)
open Region (ready)
open MemOp (ofEvents)
open Sem (run_bind)
open List (range)
open List (replicate)
noncomputable section
variable {g g':Ω}{o oi:Oper}{args c:Array Θ}{b bl d fuel i n size:Nat}{e t ty u:θ}{v vw z:Θ}{w w' w0 wL:Φ}{P:aa1}{x y:ac4}{a:Act}{f2 fn:ac5}{pos:String}{S l rest:List Nat}{vs xs:List Θ}{H RO Z:Nat->Prop}{π:Nat->Nat}{E:ac5->Bool}{K R':Act->Φ->Prop}{Stop:(Nat->Prop)->Ω->Φ->Prop}{cs:List φ}{ops:Array Oper}{R2:Θ->Φ->Prop}{ps:Array (Nat×ac4)}{D:Φ->Prop}{r:List η}
section
open Go.Conc
def OW(
  P:aa1)(g:Ω):Bool:=
 match g.frame.mode with
 |.run=>
  match g.frame.todo with
  |.inRegion ops (i::_)::_=>
   match ops[i]? with
   |none=>false
   |some o=>
    if wanted o (yielded ops g.frame.tmps)then
     match o.op with
     |.move _|.assign _|.pick .. |.unOp .. |.extract .. |.fieldAddr .. |.field .. |.makeFunc .. |.nilCheck _|.defer _=>true
     |.binOp a _ x y _=>match a,g.frame.eval x,g.frame.eval y with
      |.eql,.nilIface,_|.neq,.nilIface,_=>true
      |_,.int ..,.int _ _=>true
      |_,_,_=>false
     |.convert _ _ x=>match g.frame.eval x with
      |.int _ _=>true
      |_=>false
     |.call {callee:=.value f,.. }=>
      match g.frame.eval f with
      |.func (.func f) .. =>(P.funcs[f]?).any (·.body.isSome)
      |_=>false
     |.call {callee:=.builtin .recover,.. }=>true
     |_=>false
    else true
  |.code (.region _ _ true)::_=>false
  |.code (.rangeFunc ..)::_=>false
  |.code _::_|.inRegion _ []::_|.inBlock _::_|.inLoop _::_|.inScope _::_=>true
  |[]=>true
  |_=>false
 |.returning=>
  match g.frame.defers with
  |{target:=.fn (.func f) _,.. }::_=>(P.funcs[f]?).any (·.body.isSome)
  |_::_=>false
  |[]=>!g.callers.isEmpty&&((P.funcs[g.frame.fn]?).any λfn=>fn.results.all λ|.tmp _=>true|_=>false)
 |.panicking _=>
  match g.frame.defers with
  |{target:=.fn (.func f) _,.. }::_=>(P.funcs[f]?).any (·.body.isSome)
  |_=>false
def AD(P:aa1)(main:Bool):Nat->Ω->(Nat->Φ)->Option (Ω×List Φ)
 |0,g,_=>some (g,[])
 |n+1,g,ws=>
  if OW P g then
   match g.status,stepG P main g (ws 0)with
   |.running,.go g' w' es=>if es.isEmpty then(match AD P main n g' (λi=>ws (i+1))with|some (x,l)=>some (x,w'::l)|none=>none)else none
   |_,_=>none
  else some (g,[])
def Dp(P:aa1)(main:Bool)(n:Nat)(g:Ω):Ω:=match AD P main n g (λ_=>default)with|some (x,_)=>x|none=>g
def cB(P:aa1)(main:Bool)(n:Nat)(g:Ω):Nat:=match AD P main n g (λ_=>default)with|some (_,l)=>l.length|none=>0
def ay(P:aa1)(main:Bool)(g g':Ω):Prop:=∃n k,∀a:Nat->Φ,AD P main n g a=some (g',(range k).map a)
def zk(k:Nat)(a:ϭ):(range (k+1)).map a=a 0::(range k).map (λi=>a (i+1)):=by
 rw[List.range_succ_eq_map];simp[List.map_map]
section
variable {S:Type}{P:aa1}{main:Bool}{C:Co S}{Stop:S->Ω->Φ->Prop}{s:S}{g g':Ω}{w:Φ}
def Idle(C:Co S):Prop:=∀s w,C.D s w w #[]/\C.up s w w=s
theorem lC(p:Idle C)(h:ay P main g g')(k:aJ P main C Stop s g' w):aJ P main C Stop s g w:=by
 obtain⟨n,m,h⟩:=h;induction n generalizing g w m with
 |zero=>
  have:=h λ_=>w
  simp only[AD,ag0,ai6]at this;rw[this.1];exact k
 |succ n r=>
  by_cases e:OW P g=true;refine aJ.step ?_ λw₁ hr=>?_
  have:=h λ_=>w
  simp only[AD,e,if_true]at this;cases hs:g.status<;>rw[hs]at this<;>first|rfl|cases this
  have h0:∀a:Nat->Φ,∃c,stepG P main g w₁=.go c w₁ #[]/\∃b,m=b+1/\AD P main n c a=some (g',(List.range b).map a):=λa=>by
   have:=h λi=>match i with|0=>w₁|i+1=>a i
   simp only[AD,e,if_true]at this;cases hs:g.status<;>rw[hs]at this<;>(try cases this;done)
   cases f:stepG P main g w₁<;>rw[f]at this<;>simp only at this<;>(try cases this;done)
   rename_i c w' es;split at this;rename_i j;have j:es=#[]:=by simpa using j
   subst j;split at this;rename_i x l q;simp only[ag0,ai6]at this;obtain⟨rfl,d⟩:=this;cases m with|zero=>simp at d|succ b=>rw[zk]at d;simp only[List.cons.injEq]at d;obtain⟨rfl,rfl⟩:=d;exact⟨c,rfl,b,rfl,q⟩
   cases this;cases this
  obtain⟨c,e1,b,e2,_⟩:=h0 λ_=>w
  refine⟨c,w₁,#[],e1,(p s w₁).1,?_⟩;rw[(p s w₁).2];refine r (m:=b) (k.rely hr) λa=>?_
  obtain⟨v,o,m2,u,t⟩:=h0 a;rw[e1]at o;cases o;obtain rfl:m2=b:=ϖ;exact t;have:=h λ_=>w
  simp only[AD,e,if_false,ag0,ai6,ab6]at this;rw[this.1];exact k
def ay.of(n:Nat)(h:∀a:Nat->Φ,AD P main n g a=some (Dp P main n g,(range (cB P main n g)).map a)):ay P main g (Dp P main n g):=⟨n,_,h⟩
end
def DH(g:Ω):Option Oper:=
 match g.status,g.dying,g.offers,g.frame.mode,g.frame.roundOf,g.frame.todo with
 |.running,none,none,.run,none,.inRegion ops (i::_)::_=>
  match ops[i]? with
  |some o=>if wanted o (yielded ops g.frame.tmps)&&g.frame.kind !=.early then some o else none
  |none=>none
 |_,_,_,_,_,_=>none
def resume(g:Ω)(v:Θ):Ω:={g with frame:=g.frame.finish v}
theorem xp(h:DH g=some o):∃(b:φ)(a:Act)(ops:Ϝ)(i:Nat)(rest:ϓ)(kk:ϕ)(cs:Ϙ),
  g=G (b.at a (.inRegion ops (i::rest)::kk)) cs/\ops[i]?=some o/\Region.wanted o (yielded ops a.tmps)=true/\b.kind≠.early/\b.fn=g.frame.fn/\a.eval=g.frame.eval/\∀v,resume g v=G (b.at (a.put o.dst v) (.inRegion ops rest::kk)) cs:=by
 obtain⟨⟨fn,tmps,todo,defers,mode,kind,rd⟩,callers,status,dying,offers⟩:=g;unfold DH at h;simp only at h;split at h;rename_i ops i rest kk;split at h;rename_i o' ho;split at h;rename_i hw;simp only[ag0]at h;subst h;simp only[χ,bne_iff_ne,ne_eq]at hw;refine⟨{(default:φ)with fn:=fn,kind:=kind},⟨tmps,defers⟩,ops,i,rest,kk,callers,rfl,ho,hw.1,hw.2,rfl,?_,λv=>?_⟩;funext x;cases x<;>rfl
 have:=Frame.finish_at {(default:φ)with fn:=fn,kind:=kind} ⟨tmps,defers⟩ ops i rest kk v;rw[ho]at this;show G (Frame.finish _ v) _=_;exact congrArg (λf=>G f callers) this;cases h;cases h;cases h
def aN(g:Ω):Option (ac5×Array Θ):=
 (DH g).bind λo=>match o.op with
  |.call {callee:=.value (.func f),args,.. }=>some (f,args.map g.frame.eval)
  |_=>none
def dC{f:ac5}(h:aN g=some (f,args)):∃(b:φ)(a:Act)(ops:Ϝ)(i:Nat)(rest:ϓ)(d:ϕ)(cs:Ϙ)(o:Oper)(e:Array ac4)(c:ϫ),
  g=G (b.at a (.inRegion ops (i::rest)::d)) cs/\ops[i]?=some o/\wanted o (yielded ops a.tmps)=true/\b.kind≠.early/\o.op=.call {callee:=.value (.func f),args:=e,argTypes:=c}/\e.map a.eval=args/\∀v,resume g v=G (b.at (a.put o.dst v) (.inRegion ops rest::d)) cs:=by
 unfold aN at h;have⟨o,k,h⟩:=ϒ7.1 h;have⟨b,a,ops,i,rest,d,cs,e1,e2,l,n,q,p,m⟩:=xp k;split at h;rename_i f' e c j;simp only[ag0,ai6]at h;obtain⟨rfl,rfl⟩:=h;exact⟨b,a,ops,i,rest,d,cs,o,e,c,e1,e2,l,n,j,by rw[p],m⟩;cases h
structure Ext (P:aa1)(f:ac5)(fn:Func):Prop where
 at_:P.funcs[f]?=some fn
 name:(fn.name== "runtime.NumGoroutine")=false
 body:fn.body.isNone=true
 next:Extern.findNext fn=none
section
variable {P:aa1}{main:Bool}{g:Ω}{f:ac5}{fn:Func}{args:Array Θ}{w:Φ}
def kb(X:Ext P f fn)(m:Mark)(j:Extern.find fn=some λ_=>do mark m;pure Extern.Race.none_)(h:aN g=some (f,args))(hm:∀g,m≠.extern g:=by simp):
  stepG P main g w=.go (resume g (.tuple #[])) w #[⟨.mark m,false,true⟩]:=by
 obtain⟨b,a,ops,i,rest,p,cs,o,q,d,rfl,h2,c,k,l,n,e⟩:=dC h;rw[e];exact stepG_mark0 m hm h2 c k l X.at_ X.name X.body X.next j
def ir(X:Ext P f fn)(c:Addr->Mark)(l:Extern.find fn=some (Extern.Race.marked c)){ad:Addr}(h:aN g=some (f,#[.pointer (some ad)]))(hm:∀ad g,c ad≠.extern g:=by simp):
  stepG P main g w=.go (resume g (.tuple #[])) w #[⟨.mark (c ad),false,true⟩]:=by
 obtain⟨b,a,ops,i,rest,p,cs,o,q,e,rfl,h2,d,m,n,j,k⟩:=dC h;rw[k];exact stepG_markAt c hm h2 d m n X.at_ X.name X.body X.next l (by rw[j];rfl)
def Oc(X:Ext P f fn)(p:Extern.find fn=some Extern.Sync.semacquire){ad:Addr}{n:Int}{u:Θ}(h:aN g=some (f,#[.pointer (some ad),u,v]))(d:w.cell? ad=some (.int .u32 n))(k:n≠0)(m:w.frozen? ad=false):
  stepG P main g w=.go (resume g (.tuple #[])) (w.setCell ad (.int .u32 (n-1))) (semEvents ad):=by
 obtain⟨b,a,ops,i,rest,s,cs,o,t,e,rfl,h2,c,q,r,j,l⟩:=dC h;rw[l];exact stepG_semacquire h2 c q r X.at_ X.name X.body X.next p (by rw[j];rfl) d k m
def K1(X:Ext P f fn)(k:Extern.find fn=some Extern.Sync.semacquire){ad:Addr}{u:Θ}(h:aN g=some (f,#[.pointer (some ad),u,v]))(d:w.cell? ad=some (.int .u32 0)):
  stepG P main g w=.go {g with status:=.blocked} w #[]:=by
 obtain⟨b,a,ops,i,rest,m,cs,o,p,e,rfl,h2,c,q,l,j,n⟩:=dC h;exact stepG_semacquire_wait h2 c l X.at_ X.name X.body X.next k (by rw[j];rfl) d
def Ez(X:Ext P f fn)(m:Extern.find fn=some Extern.Sync.semrelease){ad:Addr}{n:Int}{u:Θ}(h:aN g=some (f,#[.pointer (some ad),u,v]))(d:w.cell? ad=some (.int .u32 n))(l:w.frozen? ad=false):
  stepG P main g w=.go (resume g (.tuple #[])) (w.setCell ad (.int .u32 (IntKind.u32.wrap (n+1)))) (semEvents ad):=by
 obtain⟨b,a,ops,i,rest,r,cs,o,s,e,rfl,h2,c,p,q,j,k⟩:=dC h;rw[k];exact stepG_semrelease h2 c p q X.at_ X.name X.body X.next m (by rw[j];rfl) d l
def Em(X:Ext P f fn)(h:aN g=some (f,args)):mayWake P g=true:=by
 obtain⟨b,a,ops,i,rest,j,cs,o,p,e,rfl,h2,l,q,k,m,n⟩:=dC h;have c:fn.body=none:=by simpa using X.body
 have d:(b.at a (.inRegion ops (i::rest)::j)).eval (.func f)=.func (.func f) #[] #[]:=rfl;simp[mayWake,G,Frame.at,h2,k]at d⊢;simp[d,X.at_,c]
def BD(X:Ext P f fn)(k:Extern.find fn=some Extern.OsHooks.nano)(c:fn.norace=true)(h:aN g=some (f,args)):
  stepG P main g w=.go (resume g (.int .i64 ((w.os.mono+w.tick:Nat):Int))) w.later #[]:=by
 obtain⟨b,a,ops,i,rest,p,cs,o,q,e,rfl,h2,d,l,m,n,j⟩:=dC h;rw[j];exact stepG_nanotime h2 d l m X.at_ X.name X.body X.next k c
def uf{e:Array Θ->Sem Θ}(X:Ext P f fn)(p:Extern.find fn=some e)(h:aN g=some (f,args)){c:Ϛ}(d:(e args).run P w=.ok v w')(j:(e args).events P w #[⟨.mark (.extern f),false,true⟩]=#[⟨.mark (.extern f),false,true⟩]++c)(hs:∀x∈c,x.sync=true/\∀g,x.loc≠.mark (.extern g)):stepG P main g w=.go (resume g v) w' c:=by
 obtain⟨b,a,ops,i,rest,s,cs,o,t,m,rfl,h2,l,q,r,k,n⟩:=dC h;rw[n];exact stepG_entry h2 l q r X.at_ X.name X.body X.next p (by rw[k];exact d) (by rw[k];exact j) hs
def BC(X:Ext P f fn)(v:Θ)(a:Extern.find fn=some λ_=>pure v)(h:aN g=some (f,args)):stepG P main g w=.go (resume g v) w #[]:=
 uf X a h ϛ ϛ ϛ
def CN(X:Ext P f fn)(m:Extern.find fn=some Extern.Sync.canSpin){k:IntKind}{n:Int}(h:aN g=some (f,#[.int k n]))(p:4<=n):stepG P main g w=.go (resume g (.bool false)) w #[]:=by
 obtain⟨b,a,ops,i,rest,r,cs,o,s,e,rfl,h2,d,c,q,j,l⟩:=dC h;rw[l];exact stepG_canSpin_no h2 d c q X.at_ X.name X.body X.next m j p
def KZ(X:Ext P f fn)(m:Extern.find fn=some Extern.Sync.canSpin){k:IntKind}{n:Int}(h:aN g=some (f,#[.int k n]))(p:n<4):stepG P main g w=.go (resume g (.bool w.spins)) w.asked #[]:=by
 obtain⟨b,a,ops,i,rest,r,cs,o,s,e,rfl,h2,d,c,q,j,l⟩:=dC h;rw[l];exact stepG_canSpin_ask h2 d c q X.at_ X.name X.body X.next m j p
def pi(X:Ext P f fn)(k:IntKind)(c:Extern.find fn=some (Extern.Atomic.casT (.int k))){ad:Addr}{v n:Int}(h:aN g=some (f,#[.pointer (some ad),.int k v,.int k n]))(b:w.cell? ad=some (.int k v))(a:w.frozen? ad=false):
  stepG P main g w=.go (resume g (.bool true)) (w.setCell ad (.int k n)) #[⟨.cell ad,false,true⟩,⟨.cell ad,true,true⟩]:=
 uf X c h (by rw[casT_eq];exact run_cas_hit_entry b a) (by rw[casT_eq,events_cas_hit_entry b a];rfl) (sync_rw ad)
def nX(X:Ext P f fn)(k:IntKind)(e:Extern.find fn=some (Extern.Atomic.casT (.int k))){ad:Addr}{v b n:Int}(h:aN g=some (f,#[.pointer (some ad),.int k b,.int k n]))(d:w.cell? ad=some (.int k v))(c:w.frozen? ad=false)(a:¬v=b):
  stepG P main g w=.go (resume g (.bool false)) w #[⟨.cell ad,false,true⟩]:=
 uf X e h (by rw[casT_eq];exact run_cas_miss_entry d c a) (by rw[casT_eq,events_cas_miss_entry d c a];rfl) (sync_r ad)
def ug(X:Ext P f fn)(k:IntKind)(c:Extern.find fn=some (Extern.Atomic.update (Op.intArith .add) k true)){ad:Addr}{v d:Int}(h:aN g=some (f,#[.pointer (some ad),.int k d]))(b:w.cell? ad=some (.int k v))(a:w.frozen? ad=false):
  stepG P main g w=.go (resume g (.int k (k.wrap (v+d)))) (w.setCell ad (.int k (k.wrap (v+d)))) #[⟨.cell ad,false,true⟩,⟨.cell ad,true,true⟩]:=
 uf X c h (run_add_entry b a) (by rw[events_add_entry b a];rfl) (sync_rw ad)
def tu(X:Ext P f fn)(k:IntKind)(p:Extern.find fn=some (Extern.Atomic.loadT (.int k))){ad:Addr}{v:Int}(h:aN g=some (f,#[.pointer (some ad)]))(j:w.cell? ad=some (.int k v)):
  stepG P main g w=.go (resume g (.int k v)) w #[⟨.cell ad,false,true⟩]:=by
 obtain⟨b,a,ops,i,rest,t,cs,o,c,m,rfl,h2,e,r,s,d,n⟩:=dC h;have q:c.size=1:=by have:=congrArg Array.size d;simpa using this
 obtain⟨x,rfl⟩:∃x,c=#[x]:=by
  have⟨l⟩:=c;obtain _|⟨x,_|⟨y,l⟩⟩:=l<;>simp at q
  exact⟨x,rfl⟩
 rw[n];exact stepG_load_atomic h2 e r s X.at_ X.name X.body X.next k p (by simpa using d) j
def Ew(X:Ext P f fn)(r:Extern.find fn=some Extern.Atomic.storeT){k:IntKind}{ad:Addr}{v:Int}{u:Θ}(h:aN g=some (f,#[.pointer (some ad),.int k v]))(m:w.cell? ad=some u)(q:w.frozen? ad=false):
  stepG P main g w=.go (resume g (.tuple #[])) (w.setCell ad (.int k v)) #[⟨.cell ad,true,true⟩]:=by
 obtain⟨b,a,ops,i,rest,B,cs,o,d,n,rfl,h2,j,t,A,e,p⟩:=dC h;have s:d.size=2:=by have:=congrArg Array.size e;simpa using this
 obtain⟨x,y,rfl⟩:∃x y,d=#[x,y]:=by
  have⟨l⟩:=d;obtain _|⟨x,_|⟨y,_|⟨z,l⟩⟩⟩:=l<;>simp at s
  exact⟨x,y,rfl⟩
 have c:a.eval x=.pointer (some ad)/\a.eval y=.int k v:=by simpa using e
 rw[p];exact stepG_store_atomic h2 j t A X.at_ X.name X.body X.next r c.1 c.2 m q
end
def jj(g:Ω):Option (ac5×Array Θ):=
 match g.status,g.dying,g.offers,g.frame.mode,g.frame.roundOf,g.frame.defers with
 |.running,none,none,.returning,none,{target:=.fn (.func f) c,args:=args}::_=>if c.isEmpty then some (f,args)else none
 |_,_,_,_,_,_=>none
def dK(g:Ω):Ω:={g with frame:={g.frame with defers:=g.frame.defers.tail}}
theorem vu{f:ac5}(h:jj g=some (f,args)):∃(b:φ)(a:Act)(todo:ϕ)(ds:List Deferred)(cs:Ϙ),
  g=G {b.at a todo with mode:=.returning} cs/\a.defers=dcall f args::ds/\dK g=G {b.at ⟨a.tmps,ds⟩ todo with mode:=.returning} cs:=by
 obtain⟨⟨fn,tmps,todo,defers,mode,kind,rd⟩,callers,status,dying,offers⟩:=g;unfold jj at h;simp only at h;split at h;rename_i f' c args' ds;split at h;rename_i hc;obtain rfl:c=#[]:=by simpa using hc
 simp only[ag0,ai6]at h;obtain⟨rfl,rfl⟩:=h;exact⟨{(default:φ)with fn:=fn,kind:=kind},⟨tmps,_⟩,todo,ds,callers,rfl,rfl,rfl⟩;cases h;cases h
theorem kd{main:Bool}{f:ac5}{fn:Func}(X:Ext P f fn)(m:Mark)(hm:∀g,m≠.extern g)(he:Extern.find fn=some λ_=>do mark m;pure Extern.Race.none_)(h:jj g=some (f,#[])):
  stepG P main g w=.go (dK g) w #[⟨.mark m,false,true⟩]:=by
 obtain⟨b,a,todo,ds,cs,rfl,h2,h3⟩:=vu h;rw[h3];exact stepG_unwind_entry (v:=.tuple #[]) h2 X.at_ X.name X.body X.next he (by simp[Extern.Race.none_]) ϛ (by intro x hx;simp at hx;subst hx;exact⟨rfl,λg h=>hm g (by cases h;rfl)⟩)
inductive m6 where
 |load (t:θ) (a:Θ)
 |store (t:θ) (a x:Θ)
 |box (t:θ) (x:Θ)
 |alloc (t:θ)
 |conv (s d:θ) (x:Θ)
 |lookup (t:θ) (m k:Θ) (ok:Bool)
 |mapUpdate (t:θ) (m k x:Θ)
 |range (t:θ) (x:Θ)
 |next (it:Θ) (str:Bool) (ty:θ)
 |entry (it:Θ)
 |makeMap (t:θ)
 |build (t:θ) (parts:Array (Nat×Θ))
 |bin (op:BinOp) (t:θ) (x y:Θ)
 |indexAddr (t:θ) (x i:Θ)
def m6.sem:m6->Sem Next
 |.load t a=>do pure (.value (<-Instr.loadAt t a))
 |.store t a x=>do Instr.storeAt t a x;pure .skip
 |.box t x=>do pure (.value (<-Instr.box t x))
 |.alloc t=>do pure (.value (<-Instr.alloc t true (.tuple #[])))
 |.conv s d x=>do pure (.value (<-convert s d x))
 |.lookup t m k e=>do pure (.value (<-Instr.lookup t m k e))
 |.mapUpdate t m k x=>do Instr.mapUpdate t m k x;pure .skip
 |.range t x=>do pure (.value (<-Instr.range t x))
 |.next it str ty=>do pure (.value (<-Instr.next it str ty))
 |.entry it=>do pure (.value (<-Instr.entry it))
 |.makeMap t=>do pure (.value (<-Instr.makeMap t none))
 |.build t b=>do pure (.value (<-Instr.build t b))
 |.bin c t x y=>do pure (.value (<-(do eqGuard c t (.tmp 0) (.tmp 0) x y;binOp c t x y)))
 |.indexAddr t x i=>do pure (.value (<-Instr.indexAt t x i))
def B4:ac4->Bool
 |.tmp _=>true
 |_=>false
def bm(g:Ω):Option m6:=
 (DH g).bind λo=>match o.op with
  |.load t a=>some (.load t (g.frame.eval a))
  |.store t a x=>some (.store t (g.frame.eval a) (g.frame.eval x))
  |.box t x=>some (.box t (g.frame.eval x))
  |.alloc t=>some (.alloc t)
  |.convert s d x=>some (.conv s d (g.frame.eval x))
  |.lookup t m k b=>some (.lookup t (g.frame.eval m) (g.frame.eval k) b)
  |.mapUpdate t m k x=>some (.mapUpdate t (g.frame.eval m) (g.frame.eval k) (g.frame.eval x))
  |.range t x=>some (.range t (g.frame.eval x))
  |.next it str=>some (.next (g.frame.eval it) str o.type)
  |.entry it=>some (.entry (g.frame.eval it))
  |.makeMap t none=>some (.makeMap t)
  |.build t ps=>some (.build t (ps.map λ(i,x)=>(i,g.frame.eval x)))
  |.binOp c t x y _=>if B4 x&&B4 y then some (.bin c t (g.frame.eval x) (g.frame.eval y))else none
  |.indexAddr t x i=>some (.indexAddr t (g.frame.eval x) (g.frame.eval i))
  |_=>none
def Ki(c:BinOp)(t:θ)(x y:ac4)(d:B4 x=true)(e:B4 y=true)(a b:Θ):eqGuard c t x y a b=eqGuard c t (.tmp 0) (.tmp 0) a b:=by
 cases x<;>simp[B4]at d;cases y<;>simp[B4]at e;rfl
def oZ{v:m6}(h:bm g=some v):∃(b:φ)(a:Act)(ops:Ϝ)(i:Nat)(rest:ϓ)(d:ϕ)(cs:Ϙ)(o:Oper),
  g=G (b.at a (.inRegion ops (i::rest)::d)) cs/\ops[i]?=some o/\wanted o (yielded ops a.tmps)=true/\b.kind≠.early/\b.fn=g.frame.fn/\execOp a.eval o=v.sem/\∀v,resume g v=G (b.at (a.put o.dst v) (.inRegion ops rest::d)) cs:=by
 unfold bm at h;have⟨o,f,h⟩:=ϒ7.1 h;have⟨b,a,ops,i,rest,d,cs,e1,e2,j,l,n,m,k⟩:=xp f;refine⟨b,a,ops,i,rest,d,cs,o,e1,e2,j,l,n,?_,k⟩;rw[m];unfold execOp;split at h<;>first|(cases h;done)|(rename_i e;rw[e])
 case h_13=>
  split at h;rename_i c;simp only[χ]at c;simp only[ag0]at h;subst h;simp only[m6.sem];rw[Ki _ _ _ _ c.1 c.2];cases h
 all_goals first|(simp only[ag0]at h;subst h;rfl)|cases h
section
variable {P:aa1}{main:Bool}{g:Ω}{v:m6}{w w':Φ}
def ph(h:bm g=some v){x:Θ}(hr:v.sem.run P w=.ok (.value x) w'):∃es,stepG P main g w=.go (resume g x) w' es/\∀e∈es,e∈v.sem.events P w #[]:=by
 obtain⟨b,a,ops,i,rest,l,cs,o,rfl,h2,d,k,m,c,f⟩:=oZ h;refine⟨listed P b.fn a o w,?_,?_⟩;rw[f];exact stepG_value h2 d k (by rw[c];exact hr);intro e j;have:=mem_listed j
 rwa [c]at this
def step_skip(h:bm g=some v)(hr:v.sem.run P w=.ok .skip w'):∃es,stepG P main g w=.go (resume g ϗ) w' es/\∀e∈es,e∈v.sem.events P w #[]:=by
 obtain⟨b,a,ops,i,rest,l,cs,o,rfl,h2,d,k,m,c,f⟩:=oZ h;refine⟨listed P b.fn a o w,?_,?_⟩;rw[f];exact stepG_none h2 d k (by rw[c];exact hr);intro e j;have:=mem_listed j
 rwa [c]at this
end
def rl(u:Ϡ):Nat->Nat->List Θ->List Θ
 |_,0,r=>r
 |i,k+1,r=>u i::rl u (i+1) k r
def Ve(u:Ϡ):∀n i,rl u i n []=(List.range' i n).map u
 |0,_=>rfl
 |n+1,i=>by rw[List.range'_succ,ϴ,<-Ve u n (i+1)];rfl
def slots(a:ϐ)(h:a.size=n):a=(rl (λi=>a.getD i ϗ) 0 n []).toArray:=by
 rw[Ve,<-List.range_eq_range'];apply Array.ext;simp[h];intro i h1 h2;simp[ag1,h1]
end
section
open Go.Conc
open Go.ConcN (sumTo sumTo_upd)
def m9:Co (Nat->Prop) where
 R:=λ_ w w₁=>AtRel w w₁
 D:=λown w w' es=>lX own (λ_=>False) w w' es
 up:=λown w w' b=>own b\/(w.heap.size<=b/\b<w'.heap.size)
 refl:=λ_ w=>atRel_refl w
 trans:=λ_ a b c h k=>atRel_trans a b c h k
def zM:R5 m9 (λs=>s) (λ_=>False):=
 ⟨λs w w₁ h=>by obtain⟨d,rfl⟩:=h;exact⟨ε _,rfl,λ_ _ _=>rfl⟩,λs w w' es h=>h,λs w w' b=>Iff.rfl⟩
def Sp(Shun:ϧ):Co Unit where
 R:=λ_ w w₁=>AtRel w w₁
 D:=λ_ w w' es=>w.heap.size<=w'.heap.size/\w'.os=w.os/\(∀e∈es,EvL Shun w'.heap.size e)/\∀e∈es,∀a,e.loc≠.mark (.release a)
 up:=λ_ _ _=>()
 refl:=λ_ w=>atRel_refl w
 trans:=λ_ a b c h k=>atRel_trans a b c h k
def agb(Shun:ϧ):Idle (Sp Shun):=λ_ w=>⟨⟨ε _,rfl,ϛ,ϛ⟩,rfl⟩
def Ids(n:Nat)(t:Trace):Prop:=∀a∈t,a.g<n
def Nr(t t':Trace):Prop:=∀b∈t',b∈t\/∀a,b.act≠.mark (.release a)
def Nr.refl(t:Trace):Nr t t:=λ_ h=>.inl h
def Nr.trans{t u v:Trace}(h:Nr t u)(k:Nr u v):Nr t v:=λa b=>(k a b).elim (h a) .inr
def xM{e:Event}{a:Addr}(h:MemAct.ofEvent e=.mark (.release a)):e.loc=.mark (.release a):=by
 have⟨l,x,y⟩:=e;cases l<;>cases x<;>cases y<;>simp_all [MemAct.ofEvent]
def Nr.own(t:Trace){g:Nat}{es:Ϛ}(h:∀e∈es,∀a,e.loc≠.mark (.release a)):Nr t (t++ofEvents g fn pos es):=λd b=>by
 obtain b|b:=ai1.1 b;exact .inl b;obtain⟨e,c,rfl⟩:=Go.Conc.mem_ofEvents b;exact .inr λa x=>h e c a (xM x)
def Nr.mute(t:Trace){g:Nat}{fn:ac5}{pos:String}{es:Ϛ}(h:∀e∈es,e.mute=true):Nr t (t++ofEvents g fn pos es):=Nr.own t λe b a x=>by
 have:=h e b;have⟨l,u,v⟩:=e;simp only at x;subst x;simp[Event.mute]at this
def Ids.own{t:Trace}(h:Ids n t){g:Nat}(hg:g<n){es:Ϛ}:Ids n (t++ofEvents g fn pos es):=λb a=>by
 obtain a|a:=ai1.1 a;exact h b a;obtain⟨e,c,rfl⟩:=Go.Conc.mem_ofEvents a;exact hg
structure Apart (Shun:Loc->Prop)(own:Nat->Prop)(w:Φ):Prop where
 off:∀b,own b->∀l,gz.nT b l->¬Shun l
 lt:∀b,own b->b<w.heap.size
 low:∀l b,Shun l->gz.nT b l->b<w.heap.size
 cell:∀l,Shun l->∃a:Addr,l=.cell a
section
variable {Shun:Loc->Prop}{own:Nat->Prop}{w w':Φ}{es:Array Event}
def Apart.step(h:Apart Shun own w)(hs:w.heap.size<=w'.heap.size):Apart Shun (m9.up own w w') w':=
 ⟨λb d l a c=>d.elim (λx=>h.off b x l a c) λx=>by have:=h.low l b c a;omega,λb d=>d.elim (λx=>ω (h.lt b x) hs) (·.2),λl b c a=>ω (h.low l b c a) hs,h.cell⟩
def Apart.at(h:Apart Shun own w)(d:Nat):Apart Shun own (w.at d):=⟨h.off,h.lt,h.low,h.cell⟩
def Vl(h:lX own (λ_=>False) w w' es)(n:Apart Shun own w):∀e∈es,EvL Shun w'.heap.size e:=by
 intro e p;have c:=n.step h.size;obtain⟨b,a,hloc⟩|⟨m,h1,h2⟩:=h.ev e p;have f:gz.nT b e.loc:=hloc;have⟨e1,e2,l⟩:=gz.qS f;have d:m9.up own w w' b:=by obtain a|a|a:=a;exact .inl a;exact .inr a;exact a.1.elim
 refine⟨λx g j=>?_,λhm=>e1 .disable (gz.eg hm),λhm=>e1 .enable (gz.eg hm),e2 _ (c.lt b d)⟩;have⟨q,_⟩:=l x g;rw[q]at j;exact absurd j (c.off b d _ f);have⟨m1,m2,k,r,o⟩:=gz.uQ h2;have i:=gz.eg h1;refine⟨λx g=>?_,?_,?_,by rw[i];exact o _⟩;rw[i,m1]at g;cases g;rw[h1];simpa using m2;rw[h1];simpa using k
def ZX(h:lX own (λ_=>False) w w' es):∀e∈es,∀a,e.loc≠.mark (.release a):=by
 intro e c a x;obtain⟨b,_,⟨a',h1,_⟩|h1⟩|⟨m,h1,h2⟩:=h.ev e c;rw[x]at h1;cases h1;rw[x]at h1;cases h1;rw[x]at h1;cases h1;exact h2.elim
theorem yd{P:aa1}{Stop:(Nat->Prop)->Ω->Φ->Prop}{g:Ω}(h:aJ P true m9 Stop own g w)(a:Apart Shun own w):
  aJ P true (Sp Shun) (λ_ g w=>∃s,Stop s g w/\Apart Shun s w) () g w:=by
 obtain⟨r,h⟩:=h;induction r generalizing own g w with
 |zero=>exact .stop λw₁ hr=>⟨own,h w₁ hr,by obtain⟨d,rfl⟩:=hr;exact a.at d⟩
 |mk f c=>
  obtain h|⟨hs,h⟩:=h;exact .stop λw₁ hr=>⟨own,h w₁ hr,by obtain⟨d,rfl⟩:=hr;exact a.at d⟩
  refine aJ.step hs λw₁ hr=>?_
  obtain⟨g',w',es,h1,h2,b⟩:=h w₁ hr;obtain⟨d,rfl⟩:=hr;exact⟨g',w',es,h1,⟨h2.size,h2.os,Vl h2 (a.at d),ZX h2⟩,c (w.at d) ((a.at d).step h2.size) b⟩
end
structure Zero (P:aa1)(Shun:Loc->Prop)(M:an4)(t:Trace)(g:Ω)(w:Φ):Prop where
 ex:∃(gs:Array Ω) (sl:Option (Nat×Nat)) (q:Nat->Nat),M=crowd gs w sl/\gs[0]?=some g/\Leavers P t gs q/\Ids gs.size t
 past:Past Shun w.heap.size t
section
variable {P:aa1}{Shun:Loc->Prop}{Stop:Unit->Ω->Φ->Prop}
def KT:∀(r:Rk) (n:Nat) (b:ϯ) (a:Ω) (w:Φ) (sl:Option (Nat×Nat)) (t:Trace) (q:ϙ),sumTo b.size q<n->b[0]?=some a->Leavers P t b q->Ids b.size t->
  Past Shun w.heap.size t->iW P true (Sp Shun) Stop r () a w->
  ∃(N:Nat) (c:ϯ) (a':Ω) (w':Φ) (s:Option (Nat×Nat)) (t':Trace) (V:ϙ),
   runNT P N (crowd b w sl) t=(.next (crowd c w' s),t')/\c[0]?=some a'/\Stop () a' w'/\Leavers P t' c V/\Past Shun w'.heap.size t'/\w'.os=w.os/\Ids c.size t'/\Nr t t':=by
 intro r;induction r with
 |zero=>intro n b a w sl t q _ h0 F X W hG;exact⟨0,b,a,w,sl,t,q,rfl,h0,hG w (atRel_refl w),F,W,rfl,X,Nr.refl t⟩
 |mk f am=>
  intro n;induction n with
  |zero=>intro b a w sl t q hM;omega
  |succ n ih=>
   intro b a w sl t q hM h0 F X W hG;obtain I|⟨o,v⟩:=hG;exact⟨0,b,a,w,sl,t,q,rfl,h0,I w (atRel_refl w),F,W,rfl,X,Nr.refl t⟩;have aa:∀g∈b,awake g:=by
    intro g hg;obtain⟨i,D,rfl⟩:=am9.1 hg;obtain rfl|z:=ϕ3 i;have:b[0]=a:=by simpa[τ D] using h0
    rw[this];exact awake_of (.inl o);exact awake_of ((F.old i _ z (τ D)).status.elim .inl λx=>.inr (.inr x))
   have⟨i,g,d,s,D,hg,Y⟩:=crowd_pick (P:=P) (w:=w) (sl:=sl) aa ⟨0,a,h0,o⟩;obtain rfl|z:=ϕ3 i;obtain rfl:g=a:=by rw[h0]at D;exact(ag2 D).symm
   have⟨a',w',es,ao,hd,aq⟩:=v (w.at d) ⟨d,rfl⟩;have l:=runT_crowd_go (P:=P) (sl:=s) (i:=0) D (show stepG P (0==0) g (w.at d)=_ from ao);have E:((b.map (woken P g a' w')).setIfInBounds 0 a').size=b.size:=ϛ;have p:0<b.size:=(Ψ.1 h0).1;have⟨h,ac,an,al⟩:=hd;have h:w.heap.size<=w'.heap.size:=h;have⟨N,c,M,K,u,t',V,hr,Q,hS,H,S,T,J,U⟩:=am (w.at d) (sumTo ((b.map (woken P g a' w')).setIfInBounds 0 a').size q+1) ((b.map (woken P g a' w')).setIfInBounds 0 a') a' w' s (t++ofEvents 0 g.frame.fn g.frame.place es) q (Nat.lt_succ_self _) (by simp[p])
    ⟨λj x A R=>by
     have O:0≠j:=ϖ;rw[ζ O,ag8]at R;obtain⟨y,hy,rfl⟩:=ψ.1 R;have G:=F.old j y A hy;rw[woken_quitsD G,Deaf_other t ϖ _ λop m=>by obtain⟨e,_,rfl⟩:=Go.Conc.mem_ofEvents m;rfl];exact G,λj A=>by
     rw[Deaf_other t (g':=0) (by simp at A;omega) _ λop m=>by obtain⟨e,_,rfl⟩:=Go.Conc.mem_ofEvents m;rfl];exact F.above j (by simpa using A)⟩
    (by rw[E];exact X.own p) ((W.mono h).own an) aq
   exact⟨N+1,c,M,K,u,t',V,by simp only[runNT,Y,l];exact hr,Q,hS,H,S,T.trans ac,J,(Nr.own t al).trans U⟩;have G:=F.old i g z D;have ag:(i==0)=false:=by simp;omega
   have p:i<b.size:=(Ψ.1 D).1;cases L:q i with
   |zero=>rw[L]at G;rw[G.1]at hg;cases hg
   |succ k=>
    rw[L]at G;obtain⟨hf,_⟩|⟨_,g',es,hm,hstp,hq'⟩:=G;rw[hf]at hg;cases hg;have l:=runT_crowd_go (P:=P) (sl:=s) (i:=i) D (by rw[ag];exact hstp (w.at d));have E:((b.map (woken P g g' (w.at d))).setIfInBounds i g').size=b.size:=ϛ;have ar:sumTo b.size (Go.ConcN.upd q i k)+(k+1)=sumTo b.size q+k:=by have:=sumTo_upd q k id p;simpa[L] using this
    have⟨N,c,M,K,u,t',V,hr,Q,hS,H,S,T,J,U⟩:=ih ((b.map (woken P g g' (w.at d))).setIfInBounds i g') a (w.at d) s (t++ofEvents i g.frame.fn g.frame.place es) (Go.ConcN.upd q i k) (by rw[E];omega)
     (by have O:i≠0:=ϖ;rw[ζ O,ag8,h0];simp[woken_run o])
     ⟨λj x A R=>by
      by_cases B:i=j;subst B;rw[ac1 (by simpa using p)]at R;obtain rfl:=ag2 R;rw[Go.ConcN.upd_same,Deaf_own];exact hq';rw[ζ B,ag8]at R;obtain⟨y,hy,rfl⟩:=ψ.1 R;have Z:=F.old j y A hy;rw[woken_quitsD Z,Go.ConcN.upd_ne q k (Ne.symm B),Deaf_other t B _ λop m=>by obtain⟨e,_,rfl⟩:=Go.Conc.mem_ofEvents m;rfl];exact Z,λj A=>by
      rw[Deaf_other t (g':=i) (by simp at A;omega) _ λop m=>by obtain⟨e,_,rfl⟩:=Go.Conc.mem_ofEvents m;rfl];exact F.above j (by simpa using A)⟩
     (by rw[E];exact X.own p) (W.mute ϖ hm) (iW.rely (C:=Sp Shun) (r:=.mk f) (.inr ⟨o,v⟩) ⟨d,rfl⟩)
    exact⟨N+1,c,M,K,u,t',V,by simp only[runNT,Y,l];exact hr,Q,hS,H,S,T,J,(Nr.mute t hm).trans U⟩
def mN{M:an4}{t:Trace}(c:Zero P Shun M t g w)(h:aJ P true (Sp Shun) Stop () g w):
  ∃(N:Nat)(d:an4)(t':Trace)(g':Ω)(w':Φ),runNT P N M t=(.next d,t')/\Zero P Shun d t' g' w'/\Stop () g' w'/\w'.os=w.os/\Nr t t':=by
 have⟨r,h⟩:=h;obtain⟨k,sl,q,rfl,h0,n,m⟩:=c.ex;have⟨N,a,a',w',b,t',f,h1,h2,e,o,p,i,l,j⟩:=KT r _ k g w sl t q (Nat.lt_succ_self _) h0 n m c.past h;exact⟨N,_,t',a',w',h1,⟨⟨a,b,f,rfl,h2,o,l⟩,p⟩,e,i,j⟩
end
end
section
open Go.RowKit
def rS{k:IntKind}{a b:Int}(h:a=b):Ending.returned (.int k a)=.returned (.int k b):=by rw[h]
def af(p:Prop):Prop:=p
def af.go{p:Prop}(h:p):af p:=h
def Row(w:Φ)(b:Nat)(c:ϐ)(t:θ):Prop:=w.heap[b]?=some (.cells c t (0,0))
structure aG (S:List Nat)(w w':Φ):Prop where
 os:w'.os=w.os
 tape:w'.tape=w.tape
 output:w'.output=w.output
 size:w.heap.size<=w'.heap.size
 block:∀k,k<w.heap.size->k∉S->w'.heap[k]?=w.heap[k]?
def aG.refl(S:ϓ)(w:Φ):aG S w w:=⟨rfl,rfl,rfl,ε _,λ_ _ _=>rfl⟩
def aG.mono{T:ϓ}(h:aG S w w')(hs:∀k∈S,k∈T\/w.heap.size<=k:=by simp):aG T w w':=
 ⟨h.os,h.tape,h.output,h.size,λk hk a=>h.block k hk λb=>(hs k b).elim a ϖ⟩
def aG.trans{S T:ϓ}{a b c:Φ}(h:aG S a b)(k:aG T b c)(f:∀i∈T,i∈S\/a.heap.size<=i:=by simp):aG S a c:=
 ⟨k.os.trans h.os,k.tape.trans h.tape,k.output.trans h.output,ac3 h.size k.size,
  λi d e=>(k.block i (ω d h.size) λx=>(f i x).elim e ϖ).trans (h.block i d e)⟩
def aG.alloc(S:ϓ)(w:Φ)(o:Obj):aG S w (w.alloc o):=⟨rfl,rfl,rfl,ϛ,λk hk _=>Below.heap_alloc w o k hk⟩
def aG.drew(S:ϓ)(w:Φ):aG S w w.drew:=⟨rfl,rfl,rfl,ε _,λ_ _ _=>rfl⟩
def aG.drewN(S:ϓ)(w:Φ)(n:Nat):aG S w (w.drewN n):=by
 refine⟨?_,?_,?_,?_,?_⟩<;>simp[World.drewN]
def aG.setRow(S:ϓ)(w:Φ)(b:Nat)(c:ϐ)(a:b∈S:=by simp):aG S w (w.setRow b c):=
 ⟨rfl,rfl,rfl,ϛ,λk _ hk=>setRow_other w b k c λe=>hk (e▸a)⟩
def aG.setCell(S:ϓ)(w:Φ)(a:Addr)(v:Θ)(b:a.block∈S:=by simp):aG S w (w.setCell a v):=
 ⟨rfl,rfl,rfl,ϛ,λk _ hk=>heap_setCell_other w a k v λe=>hk (e▸b)⟩
def aG.row(h:aG S w w')(hr:Row w b c t)(a:b∉S:=by simp):Row w' b c t:=by
 unfold Row at*;rw[h.block b (Ψ.1 hr).1 a];exact hr
def aG.of_below(h:Below w.heap.size w w'):aG [] w w':=⟨h.os,h.tape,h.output,h.size,λk hk _=>h.block k hk⟩
def aG.owns(h:aG S w w'){base:Nat}(c:w.ownsRow base e size v n xs)(d:∀k∈S,v.ownBlock≠some k:=by simp):
  w'.ownsRow base e size v n xs:=by
 refine⟨c.1,?_⟩;obtain f|⟨g,cap,b,rfl,a,hg,r⟩:=c.2;exact .inl f;exact .inr ⟨g,cap,b,rfl,a,by rw[h.block g (Ψ.1 hg).1 λhs=>d g hs rfl];exact hg,r⟩
def aG.grown{row:ϡ}(h:w.grownBy w' row):aG row.toList w w':=
 ⟨h.os,h.tape,h.output,h.size,λk hk a=>h.block k hk λe=>a (by simp[<-e])⟩
def Row.lt(h:Row w b c t):b<w.heap.size:=(Ψ.1 h).1
def Row.cell{w:Φ}{b:Nat}{c:ϐ}{t:θ}(h:Row w b c t)(j:Nat):w.cell? ⟨b,j,none⟩=c[j]?:=cell_of_row w b j c t (0,0) h
def Row.val(h:Row w b c t)(i:Nat)(v:Θ)(e:c[i]?=some v:=by exact rfl):w.cell? ⟨b,i,none⟩=some v:=by rw[h.cell];exact e
def Row.thaw(h:Row w b c t)(j:Nat):w.frozen? ⟨b,j,none⟩=false:=frozen_of_row w b j c t h
def Row.new(w:Φ)(c:ϐ)(t:θ):Row (w.alloc (.cells c t)) w.heap.size c t:=heap_alloc_new w _
def Row.setCell{w:Φ}{b:Nat}{c:ϐ}{t:θ}(h:Row w b c t)(i:Nat)(v:Θ):Row (w.setCell ⟨b,i,none⟩ v) b (c.setIfInBounds i v) t:=
 heap_setCell_same w b i c t v h
def Row.setRow{w:Φ}{b:Nat}{c:ϐ}{t:θ}(h:Row w b c t)(d:ϐ):Row (w.setRow b d) b d t:=setRow_heap w b c d t (0,0) h
def Row.drew{w:Φ}{b:Nat}{c:ϐ}{t:θ}(h:Row w b c t):Row w.drew b c t:=h
def over(c:ϐ)(o:Nat)(vs:ϝ):Array Θ:=(c.toList.take o++vs++c.toList.drop (o+vs.length)).toArray
def bV(c:ϐ)(vs:ϝ)(h:c.size=vs.length):over c 0 vs=vs.toArray:=by
 simp[over,<-h]
def pA{α:Type}{l xs:List α}{m:Nat}(h:l.take m=xs)(i j:Nat)(hk:i+j<=m:=by omega):(l.drop i).take j=(xs.drop i).take j:=by
 subst h;rw[List.drop_take,ϕ7];congr 1;omega
def aD(l:ϝ)(i:Nat)(a:Θ):l.toArray.setIfInBounds i a=(l.set i a).toArray:=ϓ9 l i a
def aE(x:Θ)(xs:ϝ)(i:Nat)(a:Θ):(x::xs).set (i+1) a=x::xs.set i a:=rfl
def aC(x:Θ)(xs:ϝ)(a:Θ):(x::xs).set 0 a=a::xs:=rfl
def puts:(∀(a:Act)(d:Tmp)(v:Θ),a.put (some d) v={a with tmps:=a.tmps.setIfInBounds d v})/\(∀(a:Act)(v:Θ),a.put none v=a)/\(∀(l:ϝ)(i:Nat)(a:Θ),l.toArray.setIfInBounds i a=(l.set i a).toArray)/\
  (∀(x:Θ)(xs:ϝ)(i:Nat)(a:Θ),(x::xs).set (i+1) a=x::xs.set i a)/\∀(x:Θ)(xs:ϝ)(a:Θ),(x::xs).set 0 a=a::xs:=⟨λ_ _ _=>rfl,λ_ _=>rfl,aD,aE,aC⟩
def aY{base:Nat}(h:w.ownsRow base e size v n xs):∃ad cap,v=.slice ad n cap:=by
 obtain⟨rfl,rfl⟩|⟨g,cap,_,rfl,_⟩:=h.2;exact⟨_,_,rfl⟩;exact⟨_,_,rfl⟩
def cO{base:Nat}{ad:Ϣ}{cap:Nat}(h:w.ownsRow base e size (.slice ad n cap) n xs)(b:0<n:=by omega):
  ∃g a,ad=some ⟨g,0,none⟩/\Row w g a e/\n<=cap/\cap<=maxLen/\a.size=cap*size/\a.toList.take (n*size)=xs:=by
 obtain⟨hv,rfl⟩|⟨g,cap',a,hv,_,hg,r⟩:=h.2;omega;simp only[Value.slice.injEq]at hv;obtain⟨rfl,_,rfl⟩:=hv;exact⟨g,a,rfl,hg,r⟩
section
variable {P:aa1}{ops:Array Oper}{Q:Exit->Act->Φ->Prop}{a:Act}{w:Φ}{rest:List Oper}{o:Oper}
def au(_:o.op=.alloc t)(h:af (wpList P ops Q (o::rest) a w)):wpList P ops Q (o::rest) a w:=h
def bv(_:o.op=.box t x)(h:af (wpList P ops Q (o::rest) a w)):wpList P ops Q (o::rest) a w:=h
def ax(t:θ)(_:o.op=.load t x)(h:af (wpList P ops Q (o::rest) a w)):wpList P ops Q (o::rest) a w:=h
def ah(t:θ)(_:o.op=.store t x y)(h:af (wpList P ops Q (o::rest) a w)):wpList P ops Q (o::rest) a w:=h
def Hg{f:Nat}(_:o.op=.field t x f)(h:af (wpList P ops Q (o::rest) a w)):wpList P ops Q (o::rest) a w:=h
def ft(t:θ){b:BinOp}(_:o.op=.binOp b t x y u)(h:af (wpList P ops Q (o::rest) a w)):wpList P ops Q (o::rest) a w:=h
def gP(_:o.op=.convert t u x)(h:af (wpList P ops Q (o::rest) a w)):wpList P ops Q (o::rest) a w:=h
def bX(hg:o.guard=none)(v:Θ)(w1:Φ)(hr:(execOp a.eval o).run P w=.ok (.value v) w1)(h:wpList P ops Q rest (a.put o.dst v) w1):wpList P ops Q (o::rest) a w:=
 wpList_plain hg λK b=>by unfold Oper.wp;rw[hr];exact b _ _ h
def Cw(hg:o.guard=none)(w1:Φ)(hr:(execOp a.eval o).run P w=.ok .skip w1)(h:wpList P ops Q rest (a.put o.dst ϗ) w1):wpList P ops Q (o::rest) a w:=
 wpList_plain hg λK b=>by unfold Oper.wp;rw[hr];exact b _ _ h
def br(hg:o.guard=none)(t:θ)(f:o.op=.alloc t)(z:Θ)(e:(P.info? t).map (·.zero)=some (some z))(h:∀(w1:Φ)(b:Nat),w.heap.size<=b->aG [] w w1->Row w1 b z.cells t->wpList P ops Q rest (a.put o.dst (.pointer (some ⟨b,0,none⟩))) w1):wpList P ops Q (o::rest) a w:=by
 refine bX hg _ (w.alloc (.cells z.cells t)) ?_ (h _ _ (ε _) (aG.alloc ..) (Row.new ..));cases c:P.info? t with
 |none=>simp[c]at e
 |some i=>
  have d:i.zero=some z:=by simpa[c] using e
  simp[execOp,f,Instr.alloc,zeroValue,typeInfo,c,d,newVar,newRow,run_bind]
def eZ(hg:o.guard=none)(t:θ)(x:ac4)(d:o.op=.box t x)(v:Θ)(c:a.eval x=v)(h:∀(w1:Φ)(b:Nat),w.heap.size<=b->aG [] w w1->Row w1 b v.cells t->wpList P ops Q rest (a.put o.dst (.pointer (some ⟨b,0,none⟩))) w1):wpList P ops Q (o::rest) a w:=by
 refine bX hg _ (w.alloc (.cells v.cells t)) ?_ (h _ _ (ε _) (aG.alloc ..) (Row.new ..));simp[execOp,d,c,Instr.box,newVar,newRow]
def bT(hg:o.guard=none)(t:θ)(x:ac4)(k:o.op=.load t x)(b off:Nat)(l:a.eval x=.pointer (some ⟨b,off,none⟩))(g:(P.underlying t).map TypeDesc.isRow=some true)(n:Nat)(i:(P.info? t).map (·.size)=some n)(c:ϐ)(u:θ)(hr:Row w b c u)(vs:ϝ)(hv:(c.toList.drop off).take n=vs)(m:vs.length=n)(h:wpList P ops Q rest (a.put o.dst (.agg vs.toArray)) w):wpList P ops Q (o::rest) a w:=by
 have⟨d,f,hd⟩:=ψ.1 g;refine wpList_load_mid hg t x k b off l vs d (λj v e=>?_) f hd (by rw[i,m]) h;rw[hr.cell];subst hv;rw[ai9]at e;split at e;simpa[aj1] using e;cases e
def lB(t:θ)(b off:Nat)(cells:ϐ)(n:Nat)(e:(P.info? t).map (·.size)=some n)(f:cells.size=n)(h1:∀v∈cells.toList,v.oneCell'=true)(c:ϐ)(u:θ)(hr:Row w b c u)(a:off+n<=c.size):
  (Instr.storeAt t (.pointer (some ⟨b,off,none⟩)) (.agg cells)).run P w=.ok () (w.setRow b (over c off cells.toList)):=by
 subst f;have:=run_storeCells_at P b off u cells.toList 0 c w hr (by simpa using a) h1;cases d:P.info? t with
 |none=>simp[d]at e
 |some i=>
  have hs:i.size=cells.size:=by simpa[d] using e
  simp only[ϔ9]at this;simp[Instr.storeAt,Instr.sureAddr,storeVar,sizeOf,typeInfo,d,Value.cells,hs,this,over,run_bind]
def cu(hg:o.guard=none)(t:θ)(x y:ac4)(g:o.op=.store t x y)(b off:Nat)(j:a.eval x=.pointer (some ⟨b,off,none⟩))(cells:ϐ)(e:a.eval y=.agg cells)(n:Nat)(f:(P.info? t).map (·.size)=some n)(i:cells.size=n)(h1:∀v∈cells.toList,v.oneCell'=true)(c:ϐ)(u:θ)(hr:Row w b c u)(d:off+n<=c.size)(h:∀w1:Φ,aG [b] w w1->Row w1 b (over c off cells.toList) u->wpList P ops Q rest (a.put o.dst ϗ) w1):wpList P ops Q (o::rest) a w:=by
 refine Cw hg (w.setRow b (over c off cells.toList)) ?_ (h _ (aG.setRow ..) (hr.setRow _));have:=lB (P:=P) t b off cells n f i h1 c u hr d;simp[execOp,g,j,e,this]
def aas{o2:Oper}(t:θ)(p:(P.info? t).map (·.zero)=some (some z))(cells:ϐ)(k:(P.info? t).map (·.size)=some n)(h:∀(w1:Φ)(b:Nat),w.heap.size<=b->aG [] w w1->Row w1 b cells t->wpList P ops Q rest ((a.put o.dst (.pointer (some ⟨b,0,none⟩))).put o2.dst ϗ) w1)(hg:o.guard=none:=by exact rfl)(c:o2.guard=none:=by exact rfl)(l:o.op=.alloc t:=by exact rfl)(d:o2.op=.store t x y:=by exact rfl)(m:∀b,(a.put o.dst (.pointer (some ⟨b,0,none⟩))).eval x=.pointer (some ⟨b,0,none⟩):=by exactλ_=>rfl)(j:∀b,(a.put o.dst (.pointer (some ⟨b,0,none⟩))).eval y=.agg cells:=by exactλ_=>rfl)(g:cells.size=n:=by exact rfl)(h1:∀v∈cells.toList,v.oneCell'=true:=by simp[Value.oneCell'])(e:z.cells.size=n:=by decide):wpList P ops Q (o::o2::rest) a w:=
 br hg t l z p λw1 b i f r=>cu c t x y d b 0 (m b) cells (j b) n k g h1 _ t r ϖ λq f2 r2=>
  h q b i (f.trans f2 (by simpa using i)) (by rw[bV _ _ (by rw[aj6,e,g]),Array.toArray_toList]at r2;exact r2)
def nB{fn:Func}{R:Ϭ}{tp:Tmp}(hf:fn.results=#[.cell tp ty])(b:Nat)(g:a.tmps.getD tp ϗ=.pointer (some ⟨b,0,none⟩))(hd:a.defers=[])(c:ϐ)(u:θ)(hr:Row w b c u)(j:(P.underlying ty).map TypeDesc.isRow=some true)(i:(P.info? ty).map (·.size)=some c.size)(h:R (.returned (.agg c)) w):bodyPost P fn R .ret a w:=by
 have⟨d,e,f⟩:=ψ.1 j;exact bodyPost_ret (results_cell_row hf a.tmps w b u c (0,0) d g hr e (by revert f e;cases d<;>intro x y<;>first|rfl|cases y) i) hd h
end
end
section
open Go.Conc
def Pq(P:aa1)(S E:Ϥ)(str:Bool)(f:ac5):Bool:=match P.funcs[f]? with
 |some fn=>!(fn.name== "runtime.NumGoroutine")&&(match fn.body with
  |some c=>zw P S E str c
  |none=>false)
 |none=>false
def FE {P:aa1}{S E:Ϥ}{str:Bool}{f:ac5}(h:Pq P S E str f=true):∃fn c,P.funcs[f]? =some fn/\(fn.name== "runtime.NumGoroutine")=false/\fn.body=some c/\zw P S E str c=true:=by
 unfold Pq at h;cases hf:P.funcs[f]? with
 |none=>simp[hf]at h
 |some fn=>
  rw[hf]at h;simp only[χ,ϑ6]at h;have⟨h1,h2⟩:=h;cases a:fn.body with
  |none=>rw[a]at h2;cases h2
  |some c=>rw[a]at h2;exact⟨fn,c,rfl,h1,a,h2⟩
def zU:(decide (prog.globals.size<=1))=true:=ϰ
def KC:prog.cellsOf 1000000=0:=ϰ
def S1(f:ac5):Bool:=[166,51,83,82,81,114,115,116,117].contains f
def aeM:([166,51,83,82,81,114,115,116,117].all (Pq prog S1 (λ_=>false) false))=true:=ϰ
def aep:Stat prog S1 (λ_=>false) false where
 lS:=of_decide_eq_true zU
 ww:=KC
 body:=λf hf=>by
  have h:f∈[166,51,83,82,81,114,115,116,117]:=by simpa[S1] using hf
  exact FE (ae7.1 aeM f h)
 ext:=λf hf=>by cases hf
def l0:List Nat:=[14,15,16,18,19,20,21,22,23,24,25,26,27,29,32,33,35,36,37,38,39,40,41,42,43,44,45,46,47,48,49,50,51,52,53,54,56,57,58,59,60,61,62,63,64,65,66,67,69,70,71,72,73,74,75,76,77,78,79,80,81,82,83,84,85,86,87,92,93,94,95,96,97,98,99,100,101,102,103,104,105,106,107,108,109,110,111,112,113,114,115,116,117,118,119,120,121,122,123,124,125,126,127,128,129,136,137,138,139,140,141,142,143,144,145,146,147,148,149,150,151,152,153,154,155,156,157,158,159,160,166,179,180,181,182,183,184,185,186,187,188,189,190,191,192,206,207,209,210,91]
def S0(f:ac5):Bool:=l0.contains f
def E0(f:ac5):Bool:=[161,205,208,211].contains f
def Zn:l0.all (Pq prog S0 E0 true)=true:=ϰ
def aeN(f:ac5)(hf:f∈l0):Pq prog S0 E0 true f=true:=ae7.1 Zn f hf
def Bb:Extern.find Tryz.f161=some Extern.AbiNoEscape.same:=ϰ
def z6:Extern.find Tryz.f205=some Extern.BytealgIndexByte.indexByte:=ϰ
def find_index:Extern.find Tryz.f208=some Extern.BytealgIndex.index:=ϰ
def xS:Extern.find Tryz.f211=some (Extern.BytealgMakeNoZero.makeNoZero Tryz.f211.params Tryz.f211.resultTypes):=ϰ
def AZ:(Extern.findNext Tryz.f161).isNone=true:=ϰ
def zx:(Extern.findNext Tryz.f205).isNone=true:=ϰ
def Iq:(Extern.findNext Tryz.f208).isNone=true:=ϰ
def xN:(Extern.findNext Tryz.f211).isNone=true:=ϰ
def A0:(Tryz.f161.name== "runtime.NumGoroutine")=false:=ϰ
def zy:(Tryz.f205.name== "runtime.NumGoroutine")=false:=ϰ
def Iu:(Tryz.f208.name== "runtime.NumGoroutine")=false:=ϰ
def xO:(Tryz.f211.name== "runtime.NumGoroutine")=false:=ϰ
def Bm:Tryz.f161.body.isNone=true:=ϰ
def An:Tryz.f205.body.isNone=true:=ϰ
def Jo:Tryz.f208.body.isNone=true:=ϰ
def xU:Tryz.f211.body.isNone=true:=ϰ
def EC:Stat prog S0 E0 true where
 lS:=of_decide_eq_true zU
 ww:=KC
 body:=λf hf=>FE (aeN f (by simpa[S0] using hf))
 ext:=λf hf π b h0 N V args=>by
  have a:f=161\/f=205\/f=208\/f=211:=by simpa[E0] using hf
  obtain rfl|rfl|rfl|rfl:=a;exact pn func161 A0 Bm (ϑ3.1 AZ) Bb (CV args);exact pn func205 zy An (ϑ3.1 zx) z6 (AT args);exact pn func208 Iu Jo (ϑ3.1 Iq) find_index (CX h0 (of_decide_eq_true zU) args);exact pn func211 xO xU (ϑ3.1 xN) xS (yO _ _ args)
theorem qT{P:aa1}{Stop:(Nat->Prop)->Ω->Φ->Prop}(K:ϒ){own:ϒ}{g:Ω}{w:Φ}(h:aJ P true m9 Stop own g w)(c:∀q,K q->q<w.heap.size/\¬own q):
  aJ P true m9 (λs g w'=>Stop s g w'/\(∀q,K q->¬s q/\w'.heap[q]?=w.heap[q]?)/\w'.output=w.output) own g w:=by
 obtain⟨r,h⟩:=h
 suffices key:∀w0:Φ,(∀q,K q->w.heap[q]?=w0.heap[q]?)->w.output=w0.output->aJ P true m9 (λs g w'=>Stop s g w'/\(∀q,K q->¬s q/\w'.heap[q]?=w0.heap[q]?)/\w'.output=w0.output) own g w from key w (λ_ _=>rfl) rfl
 induction r generalizing own g w with
 |zero=>exactλw0 i e=>.stop λw₁ hr=>⟨h w₁ hr,λq a=>⟨(c q a).2,by obtain⟨d,rfl⟩:=hr;exact i q a⟩,by obtain⟨d,rfl⟩:=hr;exact e⟩
 |mk f l=>
  intro w0 i e;obtain h|⟨hs,h⟩:=h;exact .stop λw₁ hr=>⟨h w₁ hr,λq a=>⟨(c q a).2,by obtain⟨d,rfl⟩:=hr;exact i q a⟩,by obtain⟨d,rfl⟩:=hr;exact e⟩
  refine aJ.step hs λw₁ hr=>?_
  obtain⟨g',w',es,h1,h2,k⟩:=h w₁ hr;obtain⟨d,rfl⟩:=hr;have b:lX own (λ_=>False) (w.at d) w' es:=h2;exact⟨g',w',es,h1,h2,l (w.at d) (λq a=>⟨ω (c q a).1 b.size,λj=>j.elim (c q a).2 λx=>by have m:=(c q a).1;have n:w.heap.size<=q:=x.1;omega⟩) k w0 (λq a=>(b.keep q (c q a).1 (c q a).2).trans (i q a)) (b.output.trans e)⟩
def Link.less{O:ϒ}(h:Link H Z O RO π wL w)(K:ϒ)(c:∀b,iT H wL b->¬K (π b)):Link H Z (λb=>O b/\¬K b) RO π wL w:=
 ⟨h.inj,h.zero,h.lt,h.lw,h.wr,λb hv a=>⟨h.own b hv a,c b hv⟩,h.ro⟩
def Apart.union{Shun:ϧ}{own:ϒ}(h:Apart Shun own w)(K:ϒ)(d:∀q,K q->q<w.heap.size/\∀l,gz.nT q l->¬Shun l):Apart Shun (λb=>own b\/K b) w:=
 ⟨λb a l c=>a.elim (λx=>h.off b x l c) λx=>(d b x).2 l c,λb a=>a.elim (h.lt b) λx=>(d b x).1,h.low,h.cell⟩
def Apart.part{Shun:ϧ}{own own':ϒ}(h:Apart Shun own w)(hs:∀b,own' b->own b):Apart Shun own' w:=
 ⟨λb a=>h.off b (hs b a),λb a=>h.lt b (hs b a),h.low,h.cell⟩
def Link.wider{O a:ϒ}(h:Link H Z O RO π wL w)(d:∀b,O b->a b):Link H Z a RO π wL w:=⟨h.inj,h.zero,h.lt,h.lw,h.wr,λb c e=>d _ (h.own b c e),h.ro⟩
def FD{S:Ϥ}{str:Bool}(h:og P S E str o=true):fS (sl []) P S E str o=true:=by simp[fS,sl,h]
def uJ(a:Act)(d:Ϟ)(v:Θ):(bF π a []).put d (ren π v)=bF π (a.put d v) []:=kI a [] d v λ_ _=>by simp[sl]
def MN(a:Act)(b:pX x=true):(bF π a []).eval x=ren π (a.eval x):=mX a [] b (by cases x<;>rfl)
namespace aB
abbrev PP:aa1:=Tryz.prog
abbrev no:Nat->Prop:=λ_=>False
structure Env where
 Ok:an4->Trace->Prop
 back:∀N M t M' t',runNT PP N M t=(.next M',t')->Ok M' t'->Ok M t
 os:Os
 H:Nat->Prop
 K:Nat->Option Obj
 out:Array (Nat×Ξ)
def KF(K:Nat->Option Obj)(Shun:ϧ)(own:ϒ)(w:Φ):Prop:=∀q o,K q=some o->¬own q/\w.heap[q]?=some o/\∀l,gz.nT q l->¬Shun l
def Osl(E:Env)(w:Φ):Prop:=ConcM.OsLater E.os w.os/\w.output=E.out
structure G5 (E:Env)(π:Nat->Nat)(wL:Φ)(M:an4)(t:Trace)(g:Ω):Prop where
 ex:∃(Shun:Loc->Prop) (own:Nat->Prop) (w:Φ),Zero PP Shun M t g w/\Link E.H no own no π wL w/\Apart Shun own w/\Osl E w/\KF E.K Shun own w
abbrev VA (H:Nat->Prop)(wL:Φ)(c:Array Θ):Prop:=∀v∈c,VV (iT H wL) v
section
variable {H Z O RO:Nat->Prop}{π:Nat->Nat}{wL w:Φ}
def _root_.Go.Proofs.YtchcmhodnkgojaaGreat.Link.az(h:Link H Z O RO π wL w)(t:eH)(d:Nat):Link H Z O RO π (az wL t d) w:=⟨h.inj,h.zero,h.lt,h.lw.az t d,h.wr,h.own,h.ro⟩
def _root_.Go.Proofs.YtchcmhodnkgojaaGreat.Link.Ep{t:eH}(h:Link H Z O RO π (az wL t d) w):Link H Z O RO π wL w:=⟨h.inj,h.zero,h.lt,h.lw.az wL.tape wL.drawn,h.wr,h.own,h.ro⟩
def _root_.Go.Proofs.YtchcmhodnkgojaaGreat.Link.at(h:Link H Z O RO π wL w)(d:Nat):Link H Z O RO π wL (w.at d):=
 ⟨h.inj,h.zero,h.lt,h.lw,⟨h.wr.inj,rfl,rfl,h.wr.lt,h.wr.ok,h.wr.hid,h.wr.qj,h.wr.low,h.wr.ic⟩,h.own,h.ro⟩
end
def G5.az{E:Env}{π:ϙ}{wL:Φ}{M:an4}{tr:Trace}{g:Ω}(t:eH)(d:Nat):G5 E π (az wL t d) M tr g↔G5 E π wL M tr g:=
 ⟨λ⟨D,o,w,h1,h2,a⟩=>⟨D,o,w,h1,h2.Ep,a⟩,λ⟨D,o,w,h1,h2,a⟩=>⟨D,o,w,h1,h2.az t d,a⟩⟩
def Dm(own:ϒ)(w:Φ):lX own no w w #[]:=⟨ε _,λ_ _ _=>rfl,rfl,rfl,rfl,ϛ⟩
def JB(s:ϒ)(w:Φ):m9.up s w w=s:=funext λb=>propext ⟨λh=>h.elim id λh=>ϖ,.inl⟩
def oK{dg:ϙ}(ha:VA H wL a.tmps)(h:∀b,b<wL.heap.size->dg b=π b)(D:nj):bF π a D=bF dg a D:=by
 unfold bF;rw[mJ λv hv r x=>(h r (ha v hv r x).1).symm]
def VA.grow{a:Φ}(h:VA H wL c)(hs:wL.heap.size<=a.heap.size):VA H a c:=λv hv=>(h v hv).weak λ_ b=>⟨ω b.1 hs,b.2⟩
section
variable (Ok:Env)
def CI(f:ac5)(t:ϕ)(R:ϥ)(a:Act)(wL:Φ):Prop:=
 ∀(CS:Ϙ)(π:ϙ)(M:an4)(tr:Trace),G5 Ok π wL M tr (G ((base f).at (bF π a []) t) CS)->VA Ok.H wL a.tmps->a.defers=[]->
  (∀(a':Act)(c:Φ)(dg:ϙ)(e:an4)(g:Trace)(todo:ϕ),(∃t d,R a' (az c t d))->G5 Ok dg c e g (G {(base f).at (bF dg a' []) todo with mode:=.returning} CS)->
   VA Ok.H c a'.tmps->a'.defers=[]->(∀b,b<wL.heap.size->dg b=π b)->wL.heap.size<=c.heap.size->Ok.Ok e g)->Ok.Ok M tr
def CC(f:ac5)(args:ϐ)(R:Ϫ)(wL:Φ):Prop:=
 ∀(c:φ)(CS:Ϙ)(π:ϙ)(M:an4)(tr:Trace),G5 Ok π wL M tr (G (Frame.enter PP f (args.map (ren π)) .normal) (c::CS))->VA Ok.H wL args->
  (∀(v:Θ)(a:Φ)(dg:ϙ)(e:an4)(g:Trace),(∃t d,R v (az a t d))->G5 Ok dg a e g (G (c.finish (ren dg v)) CS)->VV (iT Ok.H a) v->
   (∀b,b<wL.heap.size->dg b=π b)->wL.heap.size<=a.heap.size->Ok.Ok e g)->Ok.Ok M tr
end
section
variable {Ok:Env}{f:ac5}{k t:List Item}{R:Act->Φ->Prop}{a:Act}{wL:Φ}
def pO(t':eH)(d:Nat):CI Ok f t R a (az wL t' d)↔CI Ok f t R a wL:=
 ⟨λh CS π M tr b=>h CS π M tr ((G5.az t' d).2 b),λh CS π M tr b=>h CS π M tr ((G5.az t' d).1 b)⟩
def CI.mono(h:CI Ok f t R a wL)(hr:∀a w,R a w->R' a w):CI Ok f t R' a wL:=λCS π M tr b ha hd hk=>
 h CS π M tr b ha hd λa' c dg g i todo ⟨t,d,e⟩=>hk a' c dg g i todo ⟨t,d,hr _ _ e⟩
def CC.mono{R R':Ϫ}(h:CC Ok f args R wL)(hr:∀v w,R v w->R' v w):CC Ok f args R' wL:=λc CS π M tr a ha hk=>
 h c CS π M tr a ha λv b dg g i ⟨t,d,e⟩=>hk v b dg g i ⟨t,d,hr _ _ e⟩
def mb{M:an4}{tr:Trace}(k:G5 Ok π wL M tr g)(h:∀(own:ϒ)(w:Φ),Link Ok.H no own no π wL w->aJ PP true m9 Stop own g w)(hk:∀(Shun:ϧ)(s:ϒ)(g':Ω)(w':Φ)(f:an4)(j:Trace),Zero PP Shun f j g' w'->Stop s g' w'->Apart Shun s w'/\Osl Ok w'/\KF Ok.K Shun s w'->Ok.Ok f j):Ok.Ok M tr:=by
 have⟨D,o,w,h1,h2,l,i,d⟩:=k;obtain⟨N,f,t',g',w',e1,e2,⟨s',⟨m,c,e⟩,n⟩,p,_⟩:=mN h1 (yd (qT (λq=>∃o,Ok.K q=some o) (h o w h2) λq ⟨a,b⟩=>⟨(Ψ.1 (d q a b).2.1).1,(d q a b).1⟩) l);exact Ok.back _ _ _ _ _ e1 (hk _ _ _ _ _ _ e2 m ⟨n,⟨by rw[p];exact i.1,e.trans i.2⟩,λq a b=>⟨(c q ⟨a,b⟩).1,(c q ⟨a,b⟩).2.trans (d q a b).2.1,(d q a b).2.2⟩⟩)
def iC{M:an4}{tr:Trace}{fr:φ}(f:G5 Ok π wL M tr (G fr cs))(hs:∀w,stepG PP true (G fr cs) w=.go g' w)(hk:∀(a:an4)(b:Trace),G5 Ok π wL a b g'->Ok.Ok a b):Ok.Ok M tr:=by
 refine mb (Stop:=λs g w=>g=g'/\Link Ok.H no s no π wL w) f (λown w c=>?_) λDead s g w a b h ⟨e,c⟩ hd=>hk a b ⟨Dead,s,w,e▸h,c,hd⟩
 refine aJ.silent rfl hs (λw₁ _=>Dm ..) (λw₁=>JB ..) (.stop λw₁ ⟨d,e⟩=>⟨rfl,?_⟩);rw[e];exact c.at d
def pP{t':ϕ}(hs:∀(b:Act)(CS:Ϙ)(w:Φ),(∀x,a.eval x=.bool true->b.eval x=.bool true)->(∀x,a.eval x=.bool false->b.eval x=.bool false)->stepG PP true (G ((base f).at b t) CS) w=.go (G ((base f).at b t') CS) w)(h:CI Ok f t' R a wL):CI Ok f t R a wL:=λCS π M tr e ha hd hk=>by
 have ev:∀(x:ac4)(t:Bool),a.eval x=.bool t->(bF π a []).eval x=.bool t:=λx t c=>by
  cases x with
  |tmp i=>show(a.tmps.map (ren π)).getD i undef=_;rw[kZ,show a.tmps.getD i undef=_ from c];simp
  |const v=>exact c
  |global g=>cases c
  |func f=>cases c
 exact iC e (hs _ _ · (λx=>ev x true) λx=>ev x false) λj k d=>h CS π j k d ha hd hk
def dI{x y:Code}(h:CI Ok f (.code x::.code y::k) R a wL):CI Ok f (.code (.seq x y)::k) R a wL:=pP (λ_ _ _ _ _=>stepG_seq) h
def Rn{id:Nat}{c:Code}(h:CI Ok f (.code c::.inBlock id::k) R a wL):CI Ok f (.code (.block id c)::k) R a wL:=pP (λ_ _ _ _ _=>stepG_block) h
def Je{id:Nat}(h:CI Ok f k R a wL):CI Ok f (.inBlock id::k) R a wL:=pP (λ_ _ _ _ _=>stepG_inBlock) h
def Vz(h:CI Ok f k R a wL):CI Ok f (.code .skip::k) R a wL:=pP (λ_ _ _ _ _=>stepG_skip) h
def kN{x:ac4}{p q:Code}{b:Bool}(c:a.eval x=.bool b)(h:CI Ok f (.code (if b then p else q)::k) R a wL):CI Ok f (.code (.cond x p q)::k) R a wL:=by
 refine pP (λd CS w h1 h2=>?_) h;cases b with|true=>exact stepG_cond (h1 x c)|false=>exact stepG_cond (h2 x c)
def ep{id:Nat}(h:CI Ok f (.inRegion ops (range ops.size)::k) R a wL):CI Ok f (.code (.region id ops false)::k) R a wL:=pP (λ_ _ _ _ _=>stepG_region) h
def cT(h:CI Ok f k R a wL):CI Ok f (.inRegion ops []::k) R a wL:=pP (λ_ _ _ _ _=>stepG_region_end) h
def DY(h:R a wL):CI Ok f (.code .ret::k) R a wL:=λCS π M tr c ha hd hk=>
 iC c (λw=>stepG_ret') λd e b=>hk a wL π d e _ ⟨wL.tape,wL.drawn,h⟩ b ha hd (λ_ _=>rfl) (ε _)
def after(Ok:Env)(b:ϡ)(f:ac5)(k:ϕ)(R:ϥ):Exit->Act->Φ->Prop
 |.normal,a,w=>CI Ok f k R a w
 |.exit id,a,w=>b=some id/\∃k',exitTo id k=some k'/\CI Ok f k' R a w
 |.ret,a,w=>∃t d,R a (az w t d)
 |_,_,_=>False
def LK{b:ϡ}:QOk b (after Ok b f k R) where
 tape:=λe a w t d=>by
  cases e with|normal=>exact pO t d|exit id=>exact and_congr Iff.rfl (exists_congr λk'=>and_congr Iff.rfl (pO t d))|ret=>exact Iff.rfl|_=>exact Iff.rfl
 out:=λe a w h=>by
  cases e with|normal=>exact .inl rfl|ret=>exact .inr (.inl rfl)|exit id=>exact .inr (.inr ⟨id,rfl,h.1⟩)|_=>exact h.elim
def KB{t0:ϕ}(C:ϡ)(h0:∃fn,PP.funcs[f]?=some fn)(JU:∀it∈t0,Dr PP S0 E0 true it=true)(K:∀id,C=some id->∃y,exitTo id k=some y)(n:∀t d,WpT PP t0 (after Ok C f k R) a (az wL t d)):CI Ok f (t0++k) R a wL:=λCS π M tr F ha hd hk=>by
 refine mb F (λown w m=>PR EC (λ_ _ h=>h) h0 zM LK (B:=base f) (D0:=[]) (CS:=CS) (kT:=k) rfl (by simp[base]) K JU m ha hd n) ?_;rintro Dead s g w o u E⟨e,a',x,dg,q,m,j,l,hg,i,c⟩hs;have go:∀k',g=G ((base f).at (bF dg a' []) k') CS->CI Ok f k' R a' x->Ok.Ok o u:=λk' e h=>
  h CS dg o u ⟨Dead,s,w,e▸E,m,hs⟩ l j λI L H J N todo r p v d P z=>hk I L H J N todo r p v d (λb D=>(P b (ω D c)).trans (i b D)) (ac3 c z)
 cases e with
 |normal=>exact go k hg q
 |exit id=>have⟨_,k',h1,h2⟩:=q;have⟨y,A,O⟩:=hg;rw[h1]at A;cases A;exact go k' O h2
 |ret=>obtain⟨todo,rfl⟩:=hg;exact hk a' x dg o u todo q ⟨Dead,s,w,E,m,hs⟩ l j i c
 |_=>exact q.elim
def cU{c:Code}(g:ϡ)(h0:∃fn,PP.funcs[f]?=some fn)(I:ϣ)(h:∀w t d,I w->I (az w t d))(i:I wL)(e:∀w,I w->w.heap.size=wL.heap.size->c.wp PP (after Ok g f k R) a w)(JU:zw PP S0 E0 true c=true:=by kernel_rfl)(j:∀id,g=some id->∃y,exitTo id k=some y:=by simp):CI Ok f (.code c::k) R a wL:=
 KB (t0:=[.code c]) g h0 (λit b=>by simp at b;subst b;exact JU) j λt d=>e _ (h _ t d i) rfl
def VB(g:ϡ)(h0:∃fn,PP.funcs[f]?=some fn)(JU:Dr PP S0 E0 true (.inRegion ops l)=true)(j:∀id,g=some id->∃y,exitTo id k=some y)(I:ϣ)(h:∀w t d,I w->I (az w t d))(i:I wL)(e:∀w,I w->w.heap.size=wL.heap.size->wpOps PP ops (after Ok g f k R) l a w):CI Ok f (.inRegion ops l::k) R a wL:=
 KB (t0:=[.inRegion ops l]) g h0 (λit c=>by simp at c;subst c;exact JU) j λt d b k cs=>wp_ops l a _ (e _ (h _ t d i) rfl) b k cs
def Xk{ops:Ϝ}{i:Nat}{rest:ϓ}{o:Oper}(L:ops[i]?=some o)(xo:og PP S0 E0 true o=true)(hg:o.guard=none)(h:∀t d,uponE o a (λa' w'=>CI Ok f (.inRegion ops rest::k) R a' w') (λ_ _ _=>False) ((execOp a.eval o).run PP (az wL t d))):CI Ok f (.inRegion ops (i::rest)::k) R a wL:=λCS π M tr V ha hd hk=>by
 have B:∀c:Array Θ,wanted o (yielded ops c)=true:=λc=>by simp[wanted,hg]
 have A:(base f).kind≠.early:=by simp[base]
 refine mb (Stop:=λs g w=>∃a' j dg,CI Ok f (.inRegion ops rest::k) R a' j/\g=G ((base f).at (bF dg a' []) (.inRegion ops rest::k)) CS/\Link Ok.H no s no dg j w/\VA Ok.H j a'.tmps/\a'.defers=[]/\(∀b,b<wL.heap.size->dg b=π b)/\wL.heap.size<=j.heap.size) V (λown w F=>?_) ?_;refine aJ.step rfl λw₁ X=>?_
 have⟨W,r2,r3⟩:=zM.rel own w w₁ X;have⟨dg,l,N,m⟩:=F.rely W r2 r3;have I:LW Ok.H no (az wL w₁.tape w₁.drawn):=l.lw.az ..;have C:bF π a []=bF dg a []:=oK ha (λb n=>(N b n).symm) [];have h1:=h w₁.tape w₁.drawn;have q:=fun {x j} (hr:(execOp a.eval o).run PP (az wL w₁.tape w₁.drawn)=.ok x j)=>pT EC l.inj l.zero (λ_ _ h=>h) I l.wr [] ha (FD xo) hr λi _=>m i
 cases hr:(execOp a.eval o).run PP (az wL w₁.tape w₁.drawn)with
 |halt hh u=>rw[hr]at h1;exact h1.elim
 |ok nx u=>
  rw[hr]at h1;have⟨l1,l2,x',w',e1,e2,T,e4,e5,Q⟩:=q hr;have⟨O,o2⟩:=l.uN (λi _=>m i) l1 l2 T e4 λe he=>e5 e (mem_listed (fn:=(base f).fn) he);have D:∀v:Θ,CI Ok f (.inRegion ops rest::k) R (a.put o.dst v) u->VV (iT Ok.H u) v->aJ PP true m9 (λs g w=>∃a' j dg,CI Ok f (.inRegion ops rest::k) R a' j/\g=G ((base f).at (bF dg a' []) (.inRegion ops rest::k)) CS/\Link Ok.H no s no dg j w/\VA Ok.H j a'.tmps/\a'.defers=[]/\(∀b,b<wL.heap.size->dg b=π b)/\wL.heap.size<=j.heap.size)
    (m9.up own w₁ w') (G ((base f).at (bF dg (a.put o.dst v) []) (.inRegion ops rest::k)) CS) w':=λv J hv=>
   .stop λK ⟨d,e⟩=>⟨_,u,dg,J,rfl,by rw[e];exact(o2 _ λb=>Iff.rfl).at d,mE (VA.grow ha l2) hv,(put_defers ..).trans hd,λb n=>(N b n).symm,l2⟩
  cases nx with
  |value v=>cases e2;refine⟨_,w',_,by rw[C];exact stepG_value L (B _) A e1,O,?_⟩;rw[uJ];exact D v h1 Q
  |skip=>
   cases e2;refine⟨_,w',_,by rw[C];exact stepG_none L (B _) A e1,O,?_⟩;have e:(bF dg a []).put o.dst undef=bF dg (a.put o.dst undef) []:=by
    have:=uJ (π:=dg) a o.dst undef
    rwa [show ren dg undef=undef by simp[undef]]at this
   rw[e];exact D undef h1 kQ
  |_=>exact h1.elim
 rintro Dead s g w Z nm P⟨a',j,dg,J,rfl,F,H,E,m,y⟩hs;exact J CS dg Z nm ⟨Dead,s,w,P,F,hs⟩ H E λa2 Y S U KW todo r p v d g2 z=>hk a2 Y S U KW todo r p v d (λb n=>(g2 b (ω n y)).trans (m b n)) (ac3 y z)
def VC{xs:Array ac4}(D:ops[i]?=some o)(hg:o.guard=none)(l:xs.all pX=true)(j:∀(b:Act)(w:Φ),(execOp b.eval o).runT PP w #[]=(.ok (.enter f2 (xs.map b.eval)) w,#[]))(s:CC Ok f2 (xs.map a.eval) R2 wL)(h:∀v w',R2 v w'->wL.heap.size<=w'.heap.size->CI Ok f (.inRegion ops rest::k) R (a.put o.dst v) w'):CI Ok f (.inRegion ops (i::rest)::k) R a wL:=λCS π M tr F ha hd hk=>by
 have u:∀c:Array Θ,wanted o (yielded ops c)=true:=λc=>by simp[wanted,hg]
 have C:(base f).kind≠.early:=by simp[base]
 have B:xs.map (bF π a []).eval=(xs.map a.eval).map (ren π):=by rw[ϕ1];exact al0 λx y=>MN a (ae8.1 l x y)
 have hr:∀w,(execOp (bF π a []).eval o).run PP w=.ok (.enter f2 ((xs.map a.eval).map (ren π))) w:=λw=>by rw[<-Sem.runT_fst PP _ w #[],j,B]
 have A:∀w,listed PP (base f).fn (bF π a []) o w=#[]:=λw=>by unfold listed;rw[show(execOp (bF π a []).eval o).events PP w #[]=#[]from congrArg Prod.snd (j _ w)];simp[seen]
 refine iC F (λw=>by rw[stepG_enter D (u _) C (hr w),A]) λQ T q=>?_
 refine s _ CS π Q T q (λv hv=>?_) λv G dg P I ⟨t,d,N⟩ m hv n g=>?_
 obtain⟨x,y,rfl⟩:=ϕ2.1 hv;exact pL ha (ae8.1 l x y);have H:CI Ok f (.inRegion ops rest::k) R (a.put o.dst v) G:=(pO t d).1 (h v _ N g);have e:((base f).at (bF π a []) (.inRegion ops (i::rest)::k)).finish (ren dg v)=(base f).at (bF dg (a.put o.dst v) []) (.inRegion ops rest::k):=by rw[Frame.finish_at,D,ϔ5,oK ha n,uJ]
 rw[e]at m;exact H CS dg P I m (mE (VA.grow ha g) hv) ((put_defers ..).trans hd) λK O J L S todo r p v d U z=>hk K O J L S todo r p v d (λb E=>(U b (ω E g)).trans (n b E)) (ac3 g z)
def ah0(fn:Func)(R2:Ϫ)(a:Act)(w:Φ):Prop:=∃v,(results fn a.tmps).run PP w=.ok v w/\R2 v w
def C9(h:LW H Z w){fn:Func}{t:eH}(hr:(results fn c).run PP (az w t d)=.ok v (az w t d))(t2:eH)(d2:Nat):
  (results fn c).run PP (az w t2 d2)=.ok v (az w t2 d2):=by
 have l:=nq (P:=PP) (π:=id) (N:=λb=>H b\/Z b) (V:=iT H w) fn c;have f:(results fn c).runT PP (az w t d) #[]=(.ok v (az w t d),(results fn c).events PP (az w t d) #[]):=by rw[Sem.runT_eq,hr]
 have⟨k,a,g⟩:=l.Hw h.BS (λb j=>h.low b j) f;have e:d=d+k:=congrArg World.drawn a;obtain rfl:k=0:=ϖ;have:=g t2 d2 λi m=>ϖ
 rw[<-Sem.runT_fst PP _ _ #[],this];rfl
def jZ{fn:Func}{D:Code}(hf:PP.funcs[f]?=some fn)(l:fn.body=some D)(h:CI Ok f [.code D] (ah0 fn R2) {tmps:=args++Array.replicate (fn.ntmps-args.size) undef,defers:=[]} wL):CC Ok f args R2 wL:=λc CS π M tr q ha hk=>by
 rw[enter_at _ hf l]at q;have T:bF π {tmps:=args++Array.replicate (fn.ntmps-args.size) undef,defers:=[]} []={tmps:=args.map (ren π)++Array.replicate (fn.ntmps-(args.map (ren π)).size) undef,defers:=[]}:=by simp[bF,zu,undef]
 rw[<-T]at q;refine h (c::CS) π M tr q (λv hv=>?_) rfl λa' m dg U V todo ⟨t,d,v,hr,J⟩ y o Q z n=>?_
 obtain hv|hv:=ai1.1 hv;exact ha v hv;rw[(ϔ7.1 hv).2];exact kQ;refine mb (Stop:=λs g w=>∃j,g=G (c.finish (ren j v)) CS/\Link Ok.H no s no j m w/\VV (iT Ok.H m) v/\∀b,b<m.heap.size->j b=dg b) y (λown w A=>?_) ?_;refine aJ.step rfl λw₁ F=>?_
 have⟨E,r2,r3⟩:=zM.rel own w w₁ F;have⟨j,k,C,p⟩:=A.rely E r2 r3;have r:LW Ok.H no (az m w₁.tape w₁.drawn):=k.lw.az ..;have u:=C9 k.lw hr w₁.tape w₁.drawn;have⟨l1,l2,w',e1,H,L,S,O⟩:=pS EC k.inj r k.wr o fn u λi _=>p i
 have⟨P,o2⟩:=k.uN (λi _=>p i) l1 l2 H L (es:=seen PP f ((results fn (a'.tmps.map (ren j))).events PP w₁ #[])) λe R=>S e (by simpa using mem_seen (by simpa using R));have x:=DL hf (main:=true) (b:=base f) (a:=bF j a' []) (todo:=todo) (cr:=c) (G8:=CS) (w:=w₁) rfl rfl rfl;rw[show(bF j a' []).tmps=a'.tmps.map (ren j)from rfl,e1]at x;simp only[GStep.after]at x;refine⟨_,w',_,by rw[oK o (λb l=>(C b l).symm) []];exact x,(show lX own no w₁ w' _ by simpa using P),.stop λB ⟨d2,e⟩=>⟨j,rfl,?_,O,λb l=>(C b l).symm⟩⟩;rw[e];exact((o2 _ λb=>Iff.rfl).Ep).at d2;rintro Dead s g w I N K⟨j,rfl,A,hv,p⟩hs;exact hk v m j I N ⟨t,d,J⟩ ⟨Dead,s,w,K,A,hs⟩ hv (λb l=>(p b (ω l n)).trans (z b l)) n
end
def RZ(Post:Ϫ)(M:an4)(t:Trace):Prop:=∃N a o w' t',runNT PP (N+1) M t=(.ended o w',t')/\runN PP N M=.next a/\step PP a=.ended o w'/\Go.Conc.Good PP Post a o w' t'
def Lv(Post:Ϫ)(N:Nat)(M:an4)(t:Trace)(b:an4)(t':Trace)(h:runNT PP N M t=(.next b,t'))(k:RZ Post b t'):RZ Post M t:=by
 have⟨n,a,o,w',t2,h1,h2,d,c⟩:=k;refine⟨N+n,a,o,w',t2,?_,?_,d,c⟩;rw[Nat.add_assoc,runNT_add,h];exact h1;rw[runN_add,show runN PP N M=.next b by rw[<-runNT_fst PP N M t,h]];exact h2
def Xi(Post:Ϫ)(W:Φ)(H:ϒ)(K:Nat->Option Obj):Env:=⟨RZ Post,Lv Post,W.os,H,K,W.output⟩
end aB
end
section
open Go.RowKit Go.Lib
structure DS where
 bg:List η
 waiting:List (Int×List η)
 acts:Int
 given:Bool
 left:Int
 keep:Int
 failed:Bool
def eD(p:Int×List η):List Θ:=.int .i64 p.1::byteCells p.2
def lH(l:List (Int×List η)):List Θ:=l.flatMap eD
def jt(bl n:Nat)(vw:Θ)(x:DS):Array Θ:=
 #[.slice (some ⟨bl,0,none⟩) n n,vw,.int .i64 x.acts,.bool x.given,.int .i64 x.left,.int .i64 x.keep,.bool x.failed]
def jX{x:DS}(h:Row w d (jt bl n vw x) t):
  w.cell? ⟨d,0,none⟩=some (.slice (some ⟨bl,0,none⟩) n n)/\w.cell? ⟨d,1,none⟩=some vw/\w.cell? ⟨d,2,none⟩=some (.int .i64 x.acts)/\w.cell? ⟨d,3,none⟩=some (.bool x.given)/\
  w.cell? ⟨d,4,none⟩=some (.int .i64 x.left)/\w.cell? ⟨d,5,none⟩=some (.int .i64 x.keep)/\w.cell? ⟨d,6,none⟩=some (.bool x.failed):=by
 refine⟨?_,?_,?_,?_,?_,?_,?_⟩<;>rw[h.cell]<;>rfl
structure bM (w:Φ)(d bl n:Nat)(vw:Θ)(x:DS):Prop where
 row:Row w d (jt bl n vw x) 134
 last:Row w bl (byteCells x.bg).toArray 148
 len:x.bg.length=64*n
 own:w.ownsRow 0 240 65 vw x.waiting.length (lH x.waiting)
 eO:∀p∈x.waiting,p.2.length=64
 within:∀p∈x.waiting,0<=p.1/\p.1<n
 lo:16<=n
 hi:n<=400
 few:x.waiting.length<=60
 ne:d≠bl
 ne1:vw.ownBlock≠some d
 Dv:vw.ownBlock≠some bl
 nil:x.waiting=[]->vw=.slice none 0 0
def bM.ky{x:DS}(h:bM w d bl n vw x)(f:aG S w w')(h1:d∉S)(h2:bl∉S)(a:∀k∈S,vw.ownBlock≠some k):bM w' d bl n vw x:=
 {h with row:=f.row h.row h1,last:=f.row h.last h2,own:=f.owns h.own a}
def Ph{base:Nat}(h:w.ownsRow base e size v n xs){k:Nat}(hk:v.ownBlock=some k):k<w.heap.size:=(h.lt k hk).2
def bM.new{w w':Φ}{S:ϓ}{d bl n:Nat}{vw:Θ}{x:DS}(h:bM w d bl n vw x)(f:aG S w w')(a:∀k∈S,w.heap.size<=k:=by simp):bM w' d bl n vw x:=by
 have l1:=h.row.lt;have l2:=h.last.lt;exact h.ky f (λhs=>by have:=a _ hs;omega) (λhs=>by have:=a _ hs;omega) (λk hk e=>by have:=a _ hk;have:=Ph h.own e;omega)
def bM.reset{x y:DS}(h:bM w d bl n vw x)(f:aG [d] w w')(hr:Row w' d (jt bl n vw y) 134)(h1:y.bg=x.bg)(h2:y.waiting=x.waiting):bM w' d bl n vw y:=by
 have a:=f.row h.last (by simpa usingλe=>h.ne e.symm);have b:=f.owns h.own (by simpa using h.ne1);exact{row:=hr,last:=by rw[h1];exact a,len:=by rw[h1];exact h.len,own:=by rw[h2];exact b,eO:=by rw[h2];exact h.eO,within:=by rw[h2];exact h.within,lo:=h.lo,hi:=h.hi,few:=by rw[h2];exact h.few,ne:=h.ne,ne1:=h.ne1,Dv:=h.Dv,nil:=by rw[h2];exact h.nil}
def seenIn(c:ϑ)(a:List (Int×List η))(s:Int):List η:=
 a.foldl (λb p=>if p.1=s then p.2 else b) ((c.drop (64*s.toNat)).take 64)
def DS.read(x:DS)(s:Int):List η:=seenIn x.bg x.waiting s
def ae(l:ϑ):(byteCells l).length=l.length:=by simp[byteCells]
def fA(l:ϑ)(n:Nat):(byteCells l).take n=byteCells (l.take n):=by simp[byteCells,List.map_take]
def fB(l:ϑ)(n:Nat):(byteCells l).drop n=byteCells (l.drop n):=by simp[byteCells,List.map_drop]
def byteCells_append(l m:ϑ):byteCells (l++m)=byteCells l++byteCells m:=by simp[byteCells]
def byteCells_one(l:ϑ):∀v∈byteCells l,v.oneCell'=true:=by
 intro v hv;simp only[byteCells,ac9]at hv;obtain⟨b,_,rfl⟩:=hv;rfl
def cH(p:Int×List η)(h:p.2.length=64):(eD p).length=65:=by simp[eD,byteCells,h]
def t9:∀(l:List (Int×List η)),(∀p∈l,p.2.length=64)->∀k,(lH l).drop (k*65)=lH (l.drop k)
 |_,_,0=>ϛ
 |[],_,k+1=>by simp[lH]
 |p::r,h,k+1=>by have:=t9 r (λq a=>h q (by simp[a])) k;simp only[lH,ϐ6,List.drop_succ_cons]at this⊢;rw[ϔ6,cH p (h p ϛ),List.drop_eq_nil_of_le (by rw[cH p (h p ϛ)];omega)];simpa[Nat.add_mul] using this
def tj(l:List (Int×List η))(h:∀p∈l,p.2.length=64)(k:Nat)(hk:k<l.length):((lH l).drop (k*65)).take 65=eD l[k]:=by
 rw[t9 l h k,ac7 hk];simp only[lH,ϐ6];rw[ϵ (by rw[cH _ (h _ (ag5 hk))];omega),ν (by rw[cH _ (h _ (ag5 hk))];omega)]
def wT(a:ϑ)(l:List (Int×List η))(s:Int)(k:Nat)(hk:k<l.length):
  seenIn a (l.take (k+1)) s=if l[k].1=s then l[k].2 else seenIn a (l.take k) s:=by
 unfold seenIn;rw[ac0 hk,ϑ9];rfl
def xl(s:Int):∀(l:List (Int×List η)) (b:ϑ),b.length=64->(∀p∈l,p.2.length=64)->(l.foldl (λb p=>if p.1=s then p.2 else b) b).length=64
 |[],_,hb,_=>hb
 |p::r,b,hb,h=>by
  refine xl s r _ ?_ λq a=>h q (by simp[a])
  dsimp only;split;exact h p ϛ;exact hb
def bH(a:ϑ)(s:Int)(h0:64*s.toNat+64<=a.length)(l:List (Int×List η))(h:∀p∈l,p.2.length=64):(seenIn a l s).length=64:=
 xl s l _ (by simp;omega) h
def bI:(prog.info? 148).map (·.size)=some 64:=ϰ
def jq:(prog.info? 240).map (·.size)=some 65:=ϰ
def fI:Θ:=.agg (byteCells (replicate 64 0)).toArray
def lp:Θ:=.agg (eD (0,replicate 64 0)).toArray
def ed:(prog.info? 148).map (·.zero)=some (some fI):=ϰ
def mh:(prog.info? 240).map (·.zero)=some (some lp):=ϰ
def vQ:(prog.underlying 240).map TypeDesc.isRow=some true:=ϰ
def dX:(prog.underlying 148).map TypeDesc.isRow=some true:=ϰ
def uF(d bl n:Nat)(vw:Θ)(x:DS)(s:Int)(w:Φ)(h:bM w d bl n vw x)(hs:0<=s)(hn:s<n):
  Calls prog 114 #[.pointer (some ⟨d,0,none⟩),.int .i64 s] w λe w'=>e=.returned (.agg (byteCells (x.read s)).toArray)/\aG [] w w':=by
 have dlt:=h.row.lt;have llt:=h.last.lt;have⟨ad,cap,N⟩:=aY h.own;have a:64*s.toNat+64<=x.bg.length:=by rw[h.len];omega
 subst N;go_enter func114,ntmps114;go_wp2_with (with_reducible refine au rfl ?_);refine br rfl 148 rfl fI ed ?_;intro w1 r l4 f1 r4;have h1:=h.new f1;obtain⟨c0,c1,-⟩:=jX h1.row;go_wp2_with (with_reducible refine ax 148 rfl ?_);refine bT rfl 148 _ rfl bl (s.toNat*64) rfl dX 64 bI _ _ h1.last (byteCells (seenIn x.bg [] s)) ?_ ?_ ?_;simp[seenIn,fB,fA,Nat.mul_comm];rw[ae];exact bH _ _ a _ ϛ;go_wp2_with (with_reducible refine au rfl ?_);refine br rfl 148 rfl fI ed ?_;intro w2 u l5 f2 r5;go_wp2_with (with_reducible refine ah 148 rfl ?_);refine cu rfl 148 _ _ rfl _ 0 rfl _ rfl 64 bI ?_ ?_ _ _ r5 ?_ ?_;simp only[ab9,ae];exact bH _ _ a _ ϛ;exact byteCells_one _;decide;intro w3 P r5;have T:=P.row (f2.row r4) (by have:=r4.lt;simp;omega);have f:aG [] w w3:=(f1.trans f2).trans P (by simp;have:=f1.size;omega);rw[bV _ _ (by rw[ae,bH _ _ a _ ϛ];rfl)]at r5;have S:=h.new f;clear c0 c1 h1;obtain⟨c0,c1,-⟩:=jX S.row;go_wp2_with (with_reducible first|refine au rfl ?_|refine ax 148 rfl ?_|refine ax 240 rfl ?_|refine ah 148 rfl ?_|refine ah 240 rfl ?_);have E:r≠u:=by have:=r4.lt;omega
 have ac:w.heap.size<=u:=by have:=f1.size;omega
 go_loopw [20] (λi wr=>∃k:Nat,i=.int .i64 k/\k<=x.waiting.length/\aG [] w wr/\Row wr r fI.cells 148/\
  Row wr u (byteCells (seenIn x.bg (x.waiting.take k) s)).toArray 148) λi _=>x.waiting.length-(intOf i).toNat
 case atStart=>exact⟨0,rfl,ϖ,f,T,r5⟩
 case round=>
  obtain⟨k,rfl,hk,t,z,J⟩:=hrel;clear c0 c1 S f T;have Q:=h.new t;have fX:=h.few;by_cases c:k<x.waiting.length
  .obtain⟨g,F,rfl,hg,Z,_,K,m⟩:=cO Q.own;have b:=h.eO _ (ag5 c);have q:((F.toList.drop (k*65)).take 65)=eD x.waiting[k]:=by
    rw[pA m _ _,tj x.waiting h.eO k c]
   clear K m;go_wp2_with (with_reducible refine ax 240 rfl ?_);refine bT rfl 240 _ rfl g (k*65) rfl vQ 65 jq _ _ hg _ q (cH _ b) ?_;clear q;go_wp2_with (with_reducible refine au rfl ?_);refine br rfl 240 rfl lp mh ?_;intro w4 O G U Y;go_wp2_with (with_reducible refine ah 240 rfl ?_);refine cu rfl 240 _ _ rfl _ 0 rfl _ rfl 65 jq ?_ ?_ _ _ Y ?_ ?_;simp only[ab9];exact cH _ b;intro v hv;simp only[eD,ac2]at hv;obtain rfl|hv:=hv;rfl;exact byteCells_one _ v hv;decide;intro V W D;rw[bV _ _ (by rw[cH _ b];rfl)]at D;clear Y;have ag:wr.heap.size<=O:=G;have I:aG [] wr V:=U.trans W (by simpa using G);have H:=I.row z;have X:=I.row J;have R:=t.trans I;have c0:=D.val 0 (.int .i64 x.waiting[k].1);clear z J t Q U W G;have aa:r<V.heap.size:=H.lt;by_cases j:x.waiting[k].1=s
   .have hb:(x.waiting[k].1==s)=true:=by simp[j]
    have C:Hid (x.waiting[k].1=s):=j;clear j;go_wp2_with (with_reducible refine ax 148 rfl ?_);refine bT rfl 148 _ rfl O 1 rfl dX 64 bI _ _ D (byteCells x.waiting[k].2) ?_ (by rw[ae,b]) ?_;simp[eD];rw[ν];rw[ae,b];omega;go_wp2_with (with_reducible refine ah 148 rfl ?_);refine cu rfl 148 _ _ rfl _ 0 rfl _ rfl 64 bI ?_ ?_ _ _ X ?_ ?_;simp only[ab9,ae,b];exact byteCells_one _;simp only[ab9,ae];rw[bH _ _ a _ λp L=>h.eO p (ϔ2 L)];omega;intro M y o;rw[bV _ _ (by simp only[ab9,ae];rw[bH _ _ a _ λp L=>h.eO p (ϔ2 L),b])]at o;have B:=y.row H (by simp;exact E);have A:aG [] w M:=R.trans y (by simp;omega);go_wp2_with (with_reducible first|refine au rfl ?_|refine ax 148 rfl ?_|refine ax 240 rfl ?_|refine ah 148 rfl ?_|refine ah 240 rfl ?_)
    go_roundw
    case rel=>
     refine⟨k+1,by go_num,ϖ,A,B,?_⟩;rw[wT _ _ _ _ c,κ C.out];exact o
    case measure=>simp[intOf];omega
   .have hb:(x.waiting[k].1==s)=false:=by simp[j]
    have C:Hid (¬x.waiting[k].1=s):=j;clear j;go_wp2_with (with_reducible first|refine au rfl ?_|refine ax 148 rfl ?_|refine ax 240 rfl ?_|refine ah 148 rfl ?_|refine ah 240 rfl ?_)
    go_roundw
    case rel=>
     refine⟨k+1,by go_num,ϖ,R,H,?_⟩;rw[wT _ _ _ _ c,Γ C.out];exact X
    case measure=>simp[intOf];omega
  .have l:k=x.waiting.length:=ϖ;have HK:Hid (k=x.waiting.length):=l;clear l;go_wp2_with (with_reducible refine ax 148 rfl ?_);refine bT rfl 148 _ rfl u 0 rfl dX 64 bI _ _ J (byteCells (x.read s)) ?_ ?_ ?_;simp only[ϳ];rw[HK.out,ν (ε _),ν (by rw[ae,bH _ _ a _ h.eO];omega)];rfl;rw[ae];exact bH _ _ a _ h.eO;go_wp2_with (with_reducible refine ah 148 rfl ?_);refine cu rfl 148 _ _ rfl _ 0 rfl _ rfl 64 bI ?_ ?_ _ _ z ?_ ?_;simp only[ab9,ae];exact bH _ _ a _ h.eO;exact byteCells_one _;decide;intro M y o;rw[bV _ _ (by simp only[ae];rw[show(x.read s).length=64 from bH _ _ a _ h.eO];rfl)]at o;have A:aG [] w M:=t.trans y (by simp;omega);go_wp2_with (with_reducible first|refine au rfl ?_|refine ax 148 rfl ?_|refine ax 240 rfl ?_|refine ah 148 rfl ?_|refine ah 240 rfl ?_);exact nB rfl r rfl rfl _ _ o dX (by simp only[ab9,ae];rw[show(x.read s).length=64 from bH _ _ a _ h.eO];exact bI) ⟨rfl,A⟩
def ux{off:Nat}(hr:Row w b c u)(d:off+vs.length<=c.size)(h1:∀v∈vs,v.oneCell'=true):
  w.setCells b off vs=w.setRow b (over c off vs):=by
 have f:=run_storeCells_cells (P:=prog) b off vs 0 w (λj e=>by rw[hr.cell];simp;omega) (λj e=>hr.thaw _) h1;have a:=run_storeCells_at prog b off u vs 0 c w hr (by simpa using d) h1;rw[f]at a;simpa[over] using a
def ci(a:ϑ)(p:Int×List η):List η:=a.take (64*p.1.toNat)++p.2++a.drop (64*p.1.toNat+64)
def iP(a:ϑ)(p:Int×List η)(h:p.2.length=64)(hf:64*p.1.toNat+64<=a.length):(ci a p).length=a.length:=by
 simp[ci,h];omega
def qP(a:ϑ)(p:Int×List η)(h:p.2.length=64):over (byteCells a).toArray (p.1.toNat*64) (byteCells p.2)=(byteCells (ci a p)).toArray:=by
 simp[over,ci,byteCells_append,fA,fB,ae,h,Nat.mul_comm]
def kq(a:ϑ)(l:List (Int×List η)):List η:=l.foldl ci a
def Fw(a:ϑ)(l:List (Int×List η))(k:Nat)(hk:k<l.length):kq a (l.take (k+1))=ci (kq a (l.take k)) l[k]:=by
 unfold kq;rw[ac0 hk,ϑ9];rfl
def sY(n:Nat):∀(l:List (Int×List η)) (a:ϑ),a.length=64*n->(∀p∈l,p.2.length=64)->(∀p∈l,0<=p.1/\p.1<n)->(kq a l).length=64*n
 |[],a,h,_,_=>h
 |p::r,a,h,h1,h2=>by have c:=h2 p ϛ;exact sY n r (ci a p) (by rw[iP _ _ (h1 p ϛ) ϖ];exact h) (λq b=>h1 q (by simp[b])) λq b=>h2 q (by simp[b])
def tn:prog.underlying 148=some (.array 64 5):=ϰ
def MH(d bl n:Nat)(vw:Θ)(x:DS)(w:Φ)(hm:Calls prog 187 #[.pointer (some ⟨d,0,none⟩)] w λe w'=>e=.returned (.bool true)/\bM w' d bl n vw x/\aG [d] w w'):
  Calls prog 149 #[.pointer (some ⟨d,0,none⟩)] w λe w'=>e=.returned (.int .i64 0)/\bM w' d bl n (.slice none 0 0) {x with bg:=kq x.bg x.waiting,waiting:=[]}/\aG [d,bl] w w':=by
 go_enter func149,ntmps149;go_wp2_with fail;refine hm.mono ?_;clear hm;rintro e w1⟨rfl,h1,f1⟩;have h:=h1;have dlt:=h.row.lt;have llt:=h.last.lt;have⟨ad,cap,E⟩:=aY h.own;subst E;obtain⟨c0,c1,-⟩:=jX h1.row;go_wp2_with fail;have M:=h.len
 go_loopw [13] (λi wr=>∃k:Nat,i=.int .i64 k/\k<=x.waiting.length/\aG [d,bl] w wr/\bM wr d bl n (.slice ad x.waiting.length cap) {x with bg:=kq x.bg (x.waiting.take k)}) λi _=>x.waiting.length-(intOf i).toNat
 case atStart=>exact⟨0,rfl,ϖ,f1.mono,by simpa[kq] using h1⟩
 case round=>
  obtain⟨k,rfl,hk,C,b⟩:=hrel;clear c0 c1 h1;have fX:=h.few;by_cases m:k<x.waiting.length
  .obtain⟨g,u,rfl,hg,T,_,B,q⟩:=cO (n:=x.waiting.length) b.own;have a:=h.eO _ (ag5 m);have z:=h.within _ (ag5 m);have r:((u.toList.drop (k*65)).take 65)=eD x.waiting[k]:=by
    rw[pA q _ _,tj x.waiting h.eO k m]
   clear B q;go_wp2_with (with_reducible refine ax 240 rfl ?_);refine bT rfl 240 _ rfl g (k*65) rfl vQ 65 jq _ _ hg _ r (cH _ a) ?_;clear r;go_wp2_with (with_reducible refine au rfl ?_);refine br rfl 240 rfl lp mh ?_;intro Z o y I L;go_wp2_with (with_reducible refine ah 240 rfl ?_);refine cu rfl 240 _ _ rfl _ 0 rfl _ rfl 65 jq ?_ ?_ _ _ L ?_ ?_;simp only[ab9];exact cH _ a;intro v hv;simp only[eD,ac2]at hv;obtain rfl|hv:=hv;rfl;exact byteCells_one _ v hv;decide;intro f K t;rw[bV _ _ (by rw[cH _ a];rfl)]at t;clear L;have Y:wr.heap.size<=o:=y;have H:aG [] wr f:=I.trans K (by simpa using y);have c:=b.new H;have G:=C.trans H;obtain⟨c0,c1,-⟩:=jX c.row;have N:=t.val 0 (.int .i64 x.waiting[k].1);have P:bl≠o:=by have:=b.last.lt;omega
   have V:d≠o:=by have:=b.row.lt;omega
   clear C b I K y;go_wp2_with fail;have l:(kq x.bg (x.waiting.take k)).length=64*n:=sY n _ _ h.len (λp D=>h.eO p (ϔ2 D)) λp D=>h.within p (ϔ2 D);have W:f.rangeAt o 1 (byteCells x.waiting[k].2):=λj v hv=>by rw[t.cell];simpa[eD,Nat.add_comm] using hv
   have O:f.there bl (x.waiting[k].1.toNat*64) 64:=λj hj=>by rw[c.last.cell,c.last.thaw];simp[ae,l];omega
   have S:(prog.info? 148).map (·.size)=some (byteCells x.waiting[k].2).length:=by rw[ae,a];exact bI
   have gl:(byteCells x.waiting[k].2).length=64:=by rw[ae,a]
   have go:=byteCells_one x.waiting[k].2;have Q:=tn;have⟨U,X⟩:=z;have R:=h.ne
   go_region_held3 (λw'=>w'.cell? ⟨d,0,none⟩=some (.slice (some ⟨bl,0,none⟩) n n)/\w'.cell? ⟨o,0,none⟩=some (.int .i64 x.waiting[k].1)/\w'.rangeAt o 1 (byteCells x.waiting[k].2)/\w'.there bl (x.waiting[k].1.toNat*64) 64) ((go_split_ands;(try simp only[World.rangeAt_drew,World.there_drew,World.cell?_drew]at*);(repeat' constructor)<;>first|assumption|(rw[World.cell?_setCells_out _ _ _ _ _ (by intro e;simp only at e;omega)];assumption)|(apply World.there_setCells;assumption)|(refine World.rangeAt_setCells_apart (by assumption) _ _ _ ϖ))) (fail)
   have s:bM (f.drew.setCells bl (x.waiting[k].1.toNat*64) (byteCells x.waiting[k].2)) d bl n (.slice (some ⟨g,0,none⟩) x.waiting.length cap) {x with bg:=kq x.bg (x.waiting.take (k+1))}/\
     aG [d,bl] w (f.drew.setCells bl (x.waiting[k].1.toNat*64) (byteCells x.waiting[k].2)):=by
    rw[ux (w:=f.drew) c.last (by simp[ae,l,a];omega) go,qP _ _ a,Fw _ _ _ m];have A:aG [bl] f (f.drew.setRow bl (byteCells (ci (kq x.bg (x.waiting.take k)) x.waiting[k])).toArray):=(aG.drew [bl] f).trans (aG.setRow [bl] _ _ _ ϛ);refine⟨{c with row:=A.row c.row (by simpa using c.ne),last:=c.last.setRow (w:=f.drew) _,len:=?_,own:=A.owns c.own (by simpa using c.Dv)},G.trans A⟩;rw[iP _ _ a (by rw[l];omega)];exact l
   have⟨s,J⟩:=s;clear W O c G t S gl go Q c0 c1 N;generalize f.drew.setCells bl (x.waiting[k].1.toNat*64) (byteCells x.waiting[k].2)=w6 at s J⊢;go_wp2
   go_roundw
   case rel=>exact⟨k+1,by go_num,ϖ,J,s⟩
   case measure=>simp[intOf];omega
  .have HK:Hid (k=x.waiting.length):=(by omega:k=x.waiting.length)
   have F:Hid (List.take k x.waiting=x.waiting):=by show _=_;rw[HK.out,ν (ε _)]
   obtain⟨c0,c1,-⟩:=jX b.row;have hf:=b.row.thaw;go_wp2;go_ret;rw[F.out]at b;have fs:aG [d] wr (wr.setCell ⟨d,1,none⟩ (.slice none 0 0)):=aG.setCell ..;refine⟨rfl,{row:=b.row.setCell 1 _,last:=fs.row b.last (by simpa usingλe=>b.ne e.symm),len:=b.len,own:=World.ownsRow_nil ..,eO:=ϛ,within:=ϛ,lo:=h.lo,hi:=h.hi,few:=ϛ,ne:=h.ne,ne1:=by simp[Value.ownBlock],Dv:=by simp[Value.ownBlock],nil:=λ_=>rfl},C.trans fs⟩
def Gq(d:Nat)(w:Φ)(R:ϣ)(hm:Calls prog 187 #[.pointer (some ⟨d,0,none⟩)] w λe w'=>e=.returned (.bool false)/\R w'):
  Calls prog 149 #[.pointer (some ⟨d,0,none⟩)] w λe w'=>e=.returned (.int .i64 3)/\R w':=by
 go_enter func149,ntmps149;go_wp2_with fail;refine hm.mono ?_;rintro e w1⟨rfl,h1⟩;go_wp2;go_ret;exact⟨rfl,h1⟩
def nG(keep:Int)(k:Nat):Bool:=bits BinOp.and .i64 (keep/2^k) 1==1
def iD(keep:Int)(a:ϑ)(l:List (Int×List η)):Nat->List η
 |0=>a
 |k+1=>match l[k]? with
  |some p=>if nG keep k then ci (iD keep a l k) p else iD keep a l k
  |none=>iD keep a l k
def IF(keep:Int)(a:ϑ)(l:List (Int×List η))(k:Nat)(hk:k<l.length)(h:nG keep k=true):iD keep a l (k+1)=ci (iD keep a l k) l[k]:=by simp[iD,hk,h]
def Ml(keep:Int)(a:ϑ)(l:List (Int×List η))(k:Nat)(h:nG keep k=false):iD keep a l (k+1)=iD keep a l k:=by
 simp only[iD];split<;>simp[h]
def ot(keep:Int)(n:Nat)(b:ϑ)(l:List (Int×List η))(h:b.length=64*n)(h1:∀p∈l,p.2.length=64)(h2:∀p∈l,0<=p.1/\p.1<n):∀k,(iD keep b l k).length=64*n
 |0=>h
 |k+1=>by have a:=ot keep n b l h h1 h2 k;simp only[iD];split;rename_i p c;have hm:=aj0 c;have:=h2 p hm;split;rw[iP _ _ (h1 p hm) ϖ];exact a;exact a;exact a
def Qy(d bl n:Nat)(vw:Θ)(x:DS)(w:Φ)(h:bM w d bl n vw x):
  Calls prog 210 #[.pointer (some ⟨d,0,none⟩)] w λe w'=>e=.returned (.tuple #[])/\bM w' d bl n (.slice none 0 0) {x with bg:=iD x.keep x.bg x.waiting x.waiting.length,waiting:=[],failed:=true}/\aG [d,bl] w w':=by
 have dlt:=h.row.lt;have llt:=h.last.lt;have⟨ad,cap,G⟩:=aY h.own;subst G;obtain⟨c0,c1,-⟩:=jX h.row;go_enter func210,ntmps210;go_wp2_with fail;have M:=h.len
 go_loopw [9] (λi wr=>∃k:Nat,i=.int .i64 k/\k<=x.waiting.length/\aG [d,bl] w wr/\bM wr d bl n (.slice ad x.waiting.length cap) {x with bg:=iD x.keep x.bg x.waiting k}) λi _=>x.waiting.length-(intOf i).toNat
 case atStart=>exact⟨0,rfl,ϖ,aG.refl ..,h⟩
 case round=>
  obtain⟨k,rfl,hk,F,l⟩:=hrel;clear c0 c1;have fX:=h.few;by_cases o:k<x.waiting.length
  .obtain⟨g,z,rfl,hg,V,_,E,q⟩:=cO (n:=x.waiting.length) l.own;have a:=h.eO _ (ag5 o);have C:=h.within _ (ag5 o);have r:((z.toList.drop (k*65)).take 65)=eD x.waiting[k]:=by
    rw[pA q _ _,tj x.waiting h.eO k o]
   clear E q;go_wp2_with (with_reducible refine ax 240 rfl ?_);refine bT rfl 240 _ rfl g (k*65) rfl vQ 65 jq _ _ hg _ r (cH _ a) ?_;clear r;go_wp2_with (with_reducible refine au rfl ?_);refine br rfl 240 rfl lp mh ?_;intro w4 p B J N;go_wp2_with (with_reducible refine ah 240 rfl ?_);refine cu rfl 240 _ _ rfl _ 0 rfl _ rfl 65 jq ?_ ?_ _ _ N ?_ ?_;simp only[ab9];exact cH _ a;intro v hv;simp only[eD,ac2]at hv;obtain rfl|hv:=hv;rfl;exact byteCells_one _ v hv;decide;intro f L t;rw[bV _ _ (by rw[cH _ a];rfl)]at t;clear N;have aa:wr.heap.size<=p:=B;have I:aG [] wr f:=J.trans L (by simpa using B);have b:=l.new I;have A:=F.trans I;have⟨c0,c1,c2,c3,c4,c5,T⟩:=jX b.row;have O:=t.val 0 (.int .i64 x.waiting[k].1);have Q:bl≠p:=by have:=l.last.lt;omega
   have X:d≠p:=by have:=l.row.lt;omega
   clear F l J L B;by_cases y:nG x.keep k=true
   .have u:Hid (nG x.keep k=true):=y;unfold nG at y;go_wp2_with fail;have m:(iD x.keep x.bg x.waiting k).length=64*n:=ot _ n _ _ h.len h.eO h.within k;have Y:f.rangeAt p 1 (byteCells x.waiting[k].2):=λj v hv=>by rw[t.cell];simpa[eD,Nat.add_comm] using hv
    have P:f.there bl (x.waiting[k].1.toNat*64) 64:=λj hj=>by rw[b.last.cell,b.last.thaw];simp[ae,m];omega
    have U:(prog.info? 148).map (·.size)=some (byteCells x.waiting[k].2).length:=by rw[ae,a];exact bI
    have gl:(byteCells x.waiting[k].2).length=64:=by rw[ae,a]
    have go:=byteCells_one x.waiting[k].2;have R:=tn;have⟨W,Z⟩:=C;have S:=h.ne
    go_region_held3 (λw'=>w'.cell? ⟨d,0,none⟩=some (.slice (some ⟨bl,0,none⟩) n n)/\w'.cell? ⟨p,0,none⟩=some (.int .i64 x.waiting[k].1)/\w'.rangeAt p 1 (byteCells x.waiting[k].2)/\w'.there bl (x.waiting[k].1.toNat*64) 64) ((go_split_ands;(try simp only[World.rangeAt_drew,World.there_drew,World.cell?_drew]at*);(repeat' constructor)<;>first|assumption|(rw[World.cell?_setCells_out _ _ _ _ _ (by intro e;simp only at e;omega)];assumption)|(apply World.there_setCells;assumption)|(refine World.rangeAt_setCells_apart (by assumption) _ _ _ ϖ))) (fail)
    have s:bM (f.drew.setCells bl (x.waiting[k].1.toNat*64) (byteCells x.waiting[k].2)) d bl n (.slice (some ⟨g,0,none⟩) x.waiting.length cap) {x with bg:=iD x.keep x.bg x.waiting (k+1)}/\
      aG [d,bl] w (f.drew.setCells bl (x.waiting[k].1.toNat*64) (byteCells x.waiting[k].2)):=by
     rw[ux (w:=f.drew) b.last (by simp[ae,m,a];omega) go,qP _ _ a,IF _ _ _ _ o u.out];have D:aG [bl] f (f.drew.setRow bl (byteCells (ci (iD x.keep x.bg x.waiting k) x.waiting[k])).toArray):=(aG.drew [bl] f).trans (aG.setRow [bl] _ _ _ ϛ);refine⟨{b with row:=D.row b.row (by simpa using b.ne),last:=b.last.setRow (w:=f.drew) _,len:=?_,own:=D.owns b.own (by simpa using b.Dv)},A.trans D⟩;rw[iP _ _ a (by rw[m];omega)];exact m
    have⟨s,K⟩:=s;clear Y P b A t U gl go R c0 c1 O;generalize f.drew.setCells bl (x.waiting[k].1.toNat*64) (byteCells x.waiting[k].2)=w6 at s K⊢;go_wp2
    go_roundw
    case rel=>exact⟨k+1,by go_num,ϖ,K,s⟩
    case measure=>simp[intOf];omega
   .have u:Hid (nG x.keep k=false):=(by simpa using y:nG x.keep k=false)
    have ac:(bits BinOp.and .i64 (x.keep/2^k) 1==1)=false:=u.out;clear y;go_wp2
    go_roundw
    case rel=>exact⟨k+1,by go_num,ϖ,A,by rw[Ml _ _ _ _ u.out];exact b⟩
    case measure=>simp[intOf];omega
  .have HK:Hid (k=x.waiting.length):=(by omega:k=x.waiting.length)
   have⟨c0,c1,c2,c3,c4,c5,T⟩:=jX l.row;have hf:=l.row.thaw;have c:=l.last;rw[HK.out]at c;have H:=ot x.keep n _ _ h.len h.eO h.within x.waiting.length;go_wp2_with fail
   go_end0
   have fs:aG [d] wr ((wr.setCell ⟨d,1,none⟩ (.slice none 0 0)).setCell ⟨d,6,none⟩ (.bool true)):=(aG.setCell [d] _ _ _ ϛ).trans (aG.setCell [d] _ _ _ ϛ);refine⟨rfl,{row:=(l.row.setCell 1 _).setCell 6 _,last:=fs.row c (by simpa usingλe=>l.ne e.symm),len:=H,own:=World.ownsRow_nil ..,eO:=ϛ,within:=ϛ,lo:=h.lo,hi:=h.hi,few:=ϛ,ne:=h.ne,ne1:=by simp[Value.ownBlock],Dv:=by simp[Value.ownBlock],nil:=λ_=>rfl},F.trans fs⟩
def DS.fall(x:DS):DS:={x with bg:=iD x.keep x.bg x.waiting x.waiting.length,waiting:=[],failed:=true}
def DS.lG(x:DS):DS:={x with left:=if x.given then x.left-1 else x.left,acts:=x.acts+1}
def DS.bL(x:DS):Bool:=!x.failed&&!(x.given&&x.left==0)
def DS.stopped(x:DS):DS:=if x.failed then x else x.fall
def zz(d bl n:Nat)(vw:Θ)(x:DS)(w:Φ)(h:bM w d bl n vw x)(hf:x.failed=true):
  Calls prog 187 #[.pointer (some ⟨d,0,none⟩)] w λe w'=>e=.returned (.bool false)/\w'=w:=by
 have⟨c0,c1,c2,c,f,b,a⟩:=jX h.row;rw[hf]at a;clear hf;go_enter func187,ntmps187;go_wp2;go_ret;exact⟨rfl,rfl⟩
def BU(d bl n:Nat)(vw:Θ)(x:DS)(w:Φ)(h:bM w d bl n vw x)(hf:x.failed=false)(hg:x.given=true)(a:x.left=0):
  Calls prog 187 #[.pointer (some ⟨d,0,none⟩)] w λe w'=>e=.returned (.bool false)/\bM w' d bl n (.slice none 0 0) x.fall/\aG [d,bl] w w':=by
 have⟨c0,c1,c2,f,c,g,b⟩:=jX h.row;rw[hf]at b;rw[hg]at f;rw[a]at c;clear hf hg a;go_enter func187,ntmps187;go_wp2_with fail;refine(Qy d bl n vw x _ h).mono ?_;rintro e w1⟨rfl,h1,f1⟩;go_wp2;go_ret;exact⟨rfl,h1,f1⟩
def FJ(d bl n:Nat)(vw:Θ)(x:DS)(w:Φ)(h:bM w d bl n vw x)(b:x.bL=true)(r:0<=x.left)(m:x.left<=9223372036854775807)(ha:0<=x.acts)(g:x.acts<1000000000):
  Calls prog 187 #[.pointer (some ⟨d,0,none⟩)] w λe w'=>e=.returned (.bool true)/\bM w' d bl n vw x.lG/\aG [d] w w':=by
 have⟨c0,c1,c2,f,q,p,i⟩:=jX h.row;have j:=h.row.thaw;have o:=h.ne;have hf:x.failed=false:=by simp[DS.bL]at b;exact b.1
 rw[hf]at i;by_cases hg:x.given=true
 .have k:(x.left==0)=false:=by simp[DS.bL,hg]at b;simpa using b.2
  have l:x.left≠0:=by simpa using k
  rw[hg]at f;have c:Hid (x.given=true):=hg;clear hg hf b;go_enter func187,ntmps187;go_wp2;go_ret;have fs:aG [d] w ((w.setCell ⟨d,4,none⟩ (.int .i64 (x.left-1))).setCell ⟨d,2,none⟩ (.int .i64 (x.acts+1))):=(aG.setCell [d] _ _ _ ϛ).trans (aG.setCell [d] _ _ _ ϛ);refine⟨rfl,h.reset fs ?_ rfl rfl,fs⟩;have:=(h.row.setCell 4 (.int .i64 (x.left-1))).setCell 2 (.int .i64 (x.acts+1));simpa[jt,DS.lG,c.out] using this
 .have a:x.given=false:=by simpa using hg
  rw[a]at f;have c:Hid (x.given=false):=a;clear hg hf b a;go_enter func187,ntmps187;go_wp2;go_ret;have fs:aG [d] w (w.setCell ⟨d,2,none⟩ (.int .i64 (x.acts+1))):=aG.setCell [d] _ _ _ ϛ;refine⟨rfl,h.reset fs ?_ rfl rfl,fs⟩;have:=h.row.setCell 2 (.int .i64 (x.acts+1));simpa[jt,DS.lG,c.out] using this
end
section
open Go.RowKit
def LR(c:ϐ)(o:Nat)(v:Θ)(r:ϝ)(h:o+r.length+1<=c.size):over (c.setIfInBounds o v) (o+1) r=over c o (v::r):=by
 unfold over;congr 1;have:=list_seg_step c.toList o v r (by simpa[Nat.add_assoc] using h);simp only[Array.toList_setIfInBounds];rw[this];simp
def Cd:∀(l:ϝ)(k off:Nat)(cells:ϐ),off+k+l.length<=cells.size->
  (l.zipIdx k).foldl (λcs (x:Θ×Nat)=>cs.setIfInBounds (off+x.2) x.1) cells=over cells (off+k) l
 |[],k,off,cells,_=>by simp[over]
 |v::r,k,off,cells,h=>by simp only[List.zipIdx_cons,Ϲ];simp only[ϲ]at h;rw[Cd r (k+1) off _ (by simp;omega),<-Nat.add_assoc,LR _ _ _ _ ϖ]
def wn(a:Nat->Option (Nat×Nat))(cells:ϐ)(i:Nat)(v:Θ)(rest:List (Nat×Θ))(off size:Nat)(b:a i=some (off,size))(hs:v.cells.size=size)(hf:off+size<=cells.size):
  Instr.fill a cells ((i,v)::rest)=Instr.fill a (over cells off v.cells.toList) rest:=by
 subst hs;have d:v.cells.zipIdx.foldl (λcs (x:Θ×Nat)=>cs.setIfInBounds (off+x.2) x.1) cells=over cells off v.cells.toList:=by rw[<-Array.foldl_toList,Array.toList_zipIdx];exact Cd v.cells.toList 0 off cells (by simpa using hf)
 simp only[Instr.fill,b];rw[Γ (by simp;omega)];exact congrArg (λc=>Instr.fill a c rest) d
section
variable {P:aa1}{w:Φ}{o:Oper}{ρ:ac4->Θ}
def jd(t:θ)(ps:Array (Nat×ac4))(b:o.op=.build t ps)(cells:ϐ)(a:P.built t (ps.toList.map λx=>(x.1,ρ x.2))=some cells):(execOp ρ o).run P w=.ok (.value (.agg cells)) w:=by
 have:=run_build (P:=P) w t (ps.map λx=>(x.1,ρ x.2)) cells (by simpa using a);simp only[execOp,b,run_bind];rw[this];rfl
def jV(t:θ)(x:ac4)(h:o.op=.load t x)(b off:Nat)(i:ρ x=.pointer (some ⟨b,off,none⟩))(f:(P.underlying t).map TypeDesc.isRow=some true)(n:Nat)(g:(P.info? t).map (·.size)=some n)(c:ϐ)(u:θ)(hr:Row w b c u)(vs:ϝ)(hv:(c.toList.drop off).take n=vs)(k:vs.length=n):(execOp ρ o).run P w=.ok (.value (.agg vs.toArray)) w:=by
 have⟨d,e,hd⟩:=ψ.1 f;have:=run_loadAt_mid (P:=P) w b off t vs d (λj v a=>by rw[hr.cell];subst hv;rw[ai9]at a;split at a;simpa[aj1] using a;cases a) e hd (by rw[g,k])
 simp only[execOp,h,i,run_bind];rw[this];rfl
def wo(t e:θ)(x:ac4)(d:o.op=.buildSlice t 1 #[(0,x)])(b:P.underlying t=some (.slice e))(i:TypeInfo)(z v:Θ)(c:P.info? e=some i)(g:i.zero=some z)(h0:0<i.size)(W4:i.size<=1000)(f:ρ x=v)(hv:v.cells.size=i.size):(execOp ρ o).run P w=.ok (.value (.slice (some ⟨w.heap.size,0,none⟩) 1 1)) (w.alloc (.cells v.cells e)):=by
 have hf:Instr.fill (λj=>some (j*i.size,i.size)) ((Array.range (1*i.size)).map (z.cells[·%z.cells.size]!)) [(0,v)]=some v.cells:=by rw[wn _ _ 0 v [] 0 i.size ϛ hv ϛ];simp only[Instr.fill];rw[bV _ _ (by simp[hv])]
 have h1:¬i.size>2^24:=ϖ;have h2:¬i.size=0:=ϖ;have h:zeroValue e=(do match(<-typeInfo e).zero with|some v=>pure v|none=>unsupported (.resourceLimit "a value of more than 2^22 cells")):=rfl;simp only[Nat.one_mul] at hf;simp[execOp,d,f,Instr.buildSlice,run_underlying b,sizeOf,typeInfo,c,h1,h2,zeroValue,g,hf,newRow]
def Kv(d s:ac4)(l m e:θ)(r:o.op=.call {callee:=.builtin .copy,args:=#[d,s],argTypes:=#[l,m]})(p:P.underlying l=some (.slice e))(hs:(P.info? e).map (·.size)=some 1)(g off c h:Nat)(hd:ρ d=.slice (some ⟨g,off,none⟩) c h)(b o2 a i:Nat)(z:ρ s=.slice (some ⟨b,o2,none⟩) a i)(f:ϐ)(t:θ)(hg:Row w g f t)(n:ϐ)(u:θ)(y:Row w b n u)(cs:ϝ)(q:(n.toList.drop o2).take (Nat.min a c)=cs)(x:cs.length=Nat.min a c)(k:off+cs.length<=f.size)(h1:∀v∈cs,v.oneCell'=true):
  (execOp ρ o).run P w=.ok (.value (goInt cs.length)) (w.setRow g (over f off cs)):=by
 have:=run_copy_row (P:=P) w l m o.type e g off c h ⟨b,o2,none⟩ a i f t cs p hs hg x (λj v hv=>by rw[Addr.add_mid,y.cell];subst q;rw[ai9]at hv;split at hv;simpa[aj1] using hv;cases hv) k h1
 simp only[execOp,r,resolve,invoke,builtin,run_bind,Sem.run_pure,Result.andThen_ok,ϐ8,ϴ,ϓ7,hd,z,this];rfl
def nN(d s:ac4)(m p c:θ)(r:o.op=.call {callee:=.builtin .copy,args:=#[d,s],argTypes:=#[m,p]})(q:P.underlying m=some (.slice c))(g off a h:Nat)(hd:ρ d=.slice (some ⟨g,off,none⟩) a h)(str:Ξ)(u:ρ s=.string str)(f:ϐ)(t:θ)(hg:Row w g f t)(l:off+Nat.min str.size a<=f.size)(hs:(P.info? c).map (·.size)=some 1:=by kernel_rfl):
  (execOp ρ o).run P w=.ok (.value (goInt (Nat.min str.size a))) (w.setRow g (over f off (Lib.byteCells (str.data.toList.take a)))):=by
 have k:str.data.toList.length=str.size:=by rw[aj6];rfl
 have x:(Lib.byteCells (str.data.toList.take a)).length=Nat.min str.size a:=by simp only[Lib.byteCells,af2,ac8,k];exact Nat.min_comm ..
 have h1:∀v∈Lib.byteCells (str.data.toList.take a),v.oneCell'=true:=by intro v hv;simp only[Lib.byteCells,ac9]at hv;obtain⟨b,_,rfl⟩:=hv;rfl
 have j:=run_storeCells_at P g off t (Lib.byteCells (str.data.toList.take a)) 0 f w hg (by rw[x];simpa using l) h1;have e:Lib.byteCells (str.data.toList.take a)=(str.data.toList.map λb=>Value.int .u8 b.toNat).take (Nat.min str.size a):=by
  have:str.data.toList.take (Nat.min str.size a)=str.data.toList.take a:=by rw[<-k,show Nat.min str.data.toList.length a=min a str.data.toList.length from Nat.min_comm _ _,<-List.take_take,ν (ε _)]
  rw[<-List.map_take,this];rfl
 rw[e]at j⊢;have:(Builtin.copy_ #[m,p] o.type #[.slice (some ⟨g,off,none⟩) a h,.string str]).run P w=.ok (goInt (Nat.min str.size a)) (w.setRow g (over f off ((str.data.toList.map λb=>Value.int .u8 b.toNat).take (Nat.min str.size a)))):=by
  cases n:P.info? c with|none=>simp[n]at hs|some i=>simp only[ϔ9]at j;simp[Builtin.copy_,run_underlying q,Builtin.lenOf,Builtin.firstCells,sizeOf,typeInfo,n,j,over]
 simp only[execOp,r,resolve,invoke,builtin,run_bind,Sem.run_pure,Result.andThen_ok,ϐ8,ϴ,ϓ7,hd,u,this]
def oy(t e:θ)(n:Nat)(x l:ac4)(g:o.op=.slice t x (some l) none none)(c:P.underlying t=some (.array n e))(hs:(P.info? e).map (·.size)=some 1)(b off:Nat)(h:ρ x=.pointer (some ⟨b,off,none⟩))(k:Int)(j:ρ l=.int .i64 k)(h0:0<=k)(hk:k<n)(q r:Nat)(e1:off+k.toNat=q)(e2:n-k.toNat=r):(execOp ρ o).run P w=.ok (.value (.slice (some ⟨b,q,none⟩) r r)) w:=by
 subst e1;subst e2;cases a:P.info? e with
 |none=>simp[a]at hs
 |some i=>
  have f:i.size=1:=by simpa[a] using hs
  have h2:k<=n:=ϖ;have d:¬n=k.toNat:=ϖ;simp[execOp,g,h,j,Instr.sliceAt,run_underlying c,Instr.sureAddr,Instr.sliceBounds,Instr.sliceBound,asIntOf,h0,h2,d,sizeOf,typeInfo,a,f,Addr.add_mid]
def lE(t e:θ)(n:Nat)(x l m:ac4)(s:o.op=.slice t x (some l) (some m) none)(f:P.underlying t=some (.array n e))(hs:(P.info? e).map (·.size)=some 1)(b off:Nat)(v:ρ x=.pointer (some ⟨b,off,none⟩))(k j:Int)(y:ρ l=.int .i64 k)(hm:ρ m=.int .i64 j)(h0:0<=k)(hk:k<n)(h:k<=j)(d:j<=n)(q r c:Nat)(e1:off+k.toNat=q)(e2:j.toNat-k.toNat=r)(u:n-k.toNat=c):
  (execOp ρ o).run P w=.ok (.value (.slice (some ⟨b,q,none⟩) r c)) w:=by
 subst e1;subst e2;subst u;cases a:P.info? e with
 |none=>simp[a]at hs
 |some i=>
  have p:i.size=1:=by simpa[a] using hs
  have h1:0<=j:=ϖ;have h2:k<=(j.toNat:Int):=ϖ;have g:¬n=k.toNat:=ϖ;have z:k<=max j 0:=ϖ;simp[execOp,s,v,y,hm,Instr.sliceAt,run_underlying f,Instr.sureAddr,Instr.sliceBounds,Instr.sliceBound,asIntOf,h0,h1,d,z,g,sizeOf,typeInfo,a,p,Addr.add_mid]
structure Elem (P:aa1)(t e:θ)(size bytes:Nat):Prop where
 slice:P.underlying t=some (.slice e)
 info:(P.info? e).map (λi=>(i.size,i.bytes,i.zero.map (·.cells.size)))=some (size,bytes,some size)
 pos:0<size
def Elem.open{t e:θ}{size a:Nat}(E:Elem P t e size a):∃i z,P.info? e=some i/\i.zero=some z/\i.size=size/\i.bytes=a/\z.cells.size=size:=by
 have h:=E.info;cases d:P.info? e with
 |none=>rw[d]at h;cases h
 |some i=>
  rw[d]at h;simp only[ι,ag0,ai6]at h;have⟨h1,h2,b⟩:=h;cases c:i.zero with
  |none=>rw[c]at b;cases b
  |some z=>rw[c]at b;exact⟨i,z,rfl,c,h1,h2,by simpa using b⟩
end
section
variable {P:aa1}{ops:Array Oper}{Q:Exit->Act->Φ->Prop}{a:Act}{w:Φ}{rest:List Oper}{o:Oper}
def aM{s:ac4}(_:o.op=.call {callee:=.builtin .append,args:=#[s,x],argTypes:=#[t,u]})(h:af (wpList P ops Q (o::rest) a w)):wpList P ops Q (o::rest) a w:=h
def aQ(_:o.op=.buildSlice t n ps)(h:af (wpList P ops Q (o::rest) a w)):wpList P ops Q (o::rest) a w:=h
def dj(hg:o.guard=none)(t e:θ)(size c:Nat)(E:Elem P t e size c)(x:ac4)(f:o.op=.buildSlice t 1 #[(0,x)])(v:Θ)(g:a.eval x=v)(hv:v.cells.size=size)(h:∀(w1:Φ)(b:Nat),w.heap.size<=b->aG [] w w1->Row w1 b v.cells e->wpList P ops Q rest (a.put o.dst (.slice (some ⟨b,0,none⟩) 1 1)) w1)(W4:size<=1000:=by omega):wpList P ops Q (o::rest) a w:=by
 have⟨i,z,d,j,hs,l,k⟩:=E.open;have h0:=E.pos;exact bX hg _ _ (wo t e x f E.slice i z v d j ϖ ϖ g ϖ) (h _ _ (ε _) (aG.alloc ..) (Row.new ..))
def iL(t e:θ)(size f:Nat)(E:Elem P t e size f)(s x:ac4)(D:o.op=.call {callee:=.builtin .append,args:=#[s,x],argTypes:=#[t,t]})(base:Nat)(v:Θ)(n:Nat)(xs:ϝ)(hs:a.eval s=v)(q:w.ownsRow base e size v n xs)(b m c:Nat)(d:ϝ)(H:a.eval x=.slice (some ⟨b,0,none⟩) m c)(r:ϐ)(u:θ)(hr:Row w b r u)(F:r.toList.take (m*size)=d)(L:d.length=m*size)(h1:∀v∈d,v.oneCell'=true)(hm:0<m)(l:n+m<=1048576)(k:f<=1048576)(p:base<=w.heap.size)(h:∀g cap w',w'.ownsRow base e size (.slice (some ⟨g,0,none⟩) (n+m) cap) (n+m) (xs++d)->aG v.ownBlock.toList w w'->(v.ownBlock=some g\/w.heap.size<=g)->K (a.put o.dst (.slice (some ⟨g,0,none⟩) (n+m) cap)) w'):o.wp P a w K Q:=by
 have⟨i,z,C,I,A,G,B⟩:=E.open;refine wp_append_lies w s x t D base e i z size f E.slice C I A G B E.pos v n xs hs q ⟨b,0,none⟩ m c d H L (λj u y=>?_) h1 hm (by simp[maxLen];omega) ?_ p w.heap.size rfl λg cap w' J o2 o3 _=>h g cap w' J (aG.grown o2) (o3.imp id ϖ);rw[Addr.add_mid,hr.cell];subst F;rw[ai9]at y;split at y;simpa using y;cases y;exact ac3 (Nat.mul_le_mul l k) (by decide)
def dG(hg:o.guard=none)(t e:θ)(size f:Nat)(E:Elem P t e size f)(s x:ac4)(q:o.op=.call {callee:=.builtin .append,args:=#[s,x],argTypes:=#[t,t]})(base:Nat)(v:Θ)(n:Nat)(xs:ϝ)(hs:a.eval s=v)(p:w.ownsRow base e size v n xs)(b m c:Nat)(d:ϝ)(y:a.eval x=.slice (some ⟨b,0,none⟩) m c)(k:ϐ)(u:θ)(hr:Row w b k u)(r:k.toList.take (m*size)=d)(A:d.length=m*size)(h1:∀v∈d,v.oneCell'=true)(hm:0<m)(j:n+m<=1048576)(i:f<=1048576)(l:base<=w.heap.size)(h:∀g cap w',w'.ownsRow base e size (.slice (some ⟨g,0,none⟩) (n+m) cap) (n+m) (xs++d)->aG v.ownBlock.toList w w'->(v.ownBlock=some g\/w.heap.size<=g)->wpList P ops Q rest (a.put o.dst (.slice (some ⟨g,0,none⟩) (n+m) cap)) w'):wpList P ops Q (o::rest) a w:=
 wpList_plain hg λ_ B=>iL t e size f E s x q base v n xs hs p b m c d y k u hr r A h1 hm j i l λg cap w' z o2 o3=>B _ _ (h g cap w' z o2 o3)
end
def ez(P:aa1)(C:ϣ)(o:Oper):Prop:=∀ρ w,C w->match(execOp ρ o).run P w with
 |.ok (.value _) w'=>C w'
 |.ok .skip w'=>C w'
 |.ok _ _=>False
 |.halt _ _=>True
def Gives(P:aa1)(C:ϣ)(e:Sem Next)(v:Θ):Prop:=∀w,C w->match e.run P w with
 |.ok (.value u) w'=>u=v/\w'=w
 |.ok (.enter f args) w'=>w'=w/\Calls P f args w λe x=>e=.returned v/\x=w
 |_=>False
section
variable {P:aa1}{ops:Array Oper}{Q:Exit->Act->Φ->Prop}{md:Region.Mode}{C:Φ->Prop}
def Gives.wp{o:Oper}{a:Act}{v:Θ}{w:Φ}{K:ϥ}(h:Gives P C (execOp a.eval o) v)(d:C w)(b:K (a.put o.dst v) w):o.wp P a w K Q:=by
 have:=h w d;unfold Oper.wp;cases hr:(execOp a.eval o).run P w with
 |ok n w'=>
  rw[hr]at this;cases n<;>simp only[Oper.upon]at this⊢
  case value u=>obtain⟨rfl,rfl⟩:=this;exact b
  case enter f args=>
   obtain⟨rfl,c⟩:=this;refine c.mono ?_;rintro e x⟨rfl,rfl⟩;exact b
 |halt x w'=>rw[hr]at this;exact this.elim
def Gives.val{e:Sem Next}(h:∀w,C w->e.run P w=.ok (.value v) w):Gives P C e v:=λw a=>by
 rw[h w a];exact⟨rfl,rfl⟩
def Ns{i:Nat}{oi:Oper}{v:Θ}(N:ops[i]?=some oi)(q:∀(j:Nat) (o:Oper) cs b,ops[j]?=some o->o.op≠.select cs b)(U:∀c a w,Q (.panic c) (a.put oi.dst v) w->Q (.panic c) a w):
  ∀(fuel:Nat)(d:Ϯ)(a:Act)(w:Φ),
   (∀j g,ops[j]?=some g->j≠i->d.getD j true=false->(∀e∈g.after,Region.binds md e=true->e.on≠i)->oi.apart ops g=true/\ez P C g)->
   i∈ready md ops d->wanted oi (yielded ops a.tmps)=true->Gives P C (execOp a.eval oi) v->C w->
   wpAny P md ops Q fuel (d.setIfInBounds i true) (a.put oi.dst v) w->wpAny P md ops Q (fuel+1) d a w:=by
 intro fuel;induction fuel with
 |zero=>intro d a w _ hr J I F H;refine⟨λh=>(by rw[h]at hr;cases hr),λj G=>?_⟩;by_cases f:j=i;subst f;unfold wpOp;simp only[N,J,if_true];exact .inl (I.wp F H);have:=ready_mono G f;rw[H.1]at this;cases this
 |succ fuel X=>
  intro d a w l hr J I F H;refine⟨λh=>(by rw[h]at hr;cases hr),λj G=>?_⟩;by_cases f:j=i;subst f;unfold wpOp;simp only[N,J,if_true];exact .inl (I.wp F H)
  .have h1:=H.2 j (ready_mono G f);have⟨p,g,t,A⟩:=mem_ready.1 G;have B:∀e∈g.after,Region.binds md e=true->e.on≠i:=λe Y W L=>by
    have h1:=A e Y W;have h0:=(mem_ready.1 hr).1;rw[L]at h1;obtain O|O:=am0 i d.size;simp[O]at h0 h1;rw[h0]at h1;cases h1;simp[Array.getElem?_eq_none O]at h1
   have⟨K,y⟩:=l j g t f p B;have⟨s1,s2,T⟩:=Oper.apart_spec K;have m:∀k ok,ops[k]?=some ok->k≠i->(d.setIfInBounds j true).getD k true=false->
     (∀e∈ok.after,Region.binds md e=true->e.on≠i)->oi.apart ops ok=true/\ez P C ok:=λk ok hk R D S=>by
    refine l k ok hk R ?_ S;by_cases E:j=k;subst E;exact p;rw[getD_set_ne true E]at D;exact D
   have next:∀(u:Θ)(w':Φ),C w'->wpAny P md ops Q fuel ((d.setIfInBounds i true).setIfInBounds j true) ((a.put oi.dst v).put g.dst u) w'->
     wpAny P md ops Q (fuel+1) (d.setIfInBounds j true) (a.put g.dst u) w':=λu w' M V=>by
    refine X _ _ w' m (ready_mono hr (Ne.symm f)) ?_ ?_ M ?_;rw[wanted_put oi a g.dst u T];exact J;rw[execOp_put oi (λcs b=>q i oi cs b N) a g.dst u T];exact I;rw[Array.setIfInBounds_comm _ _ f,<-Act.put_comm a v u s2];exact V
   have z:=execOp_put g (λcs b=>q j g cs b t) a oi.dst v s1;unfold wpOp at h1⊢;simp only[t]at h1⊢;rw[wanted_put g a oi.dst v s1]at h1;split
   .rename_i s;simp only[s,if_true]at h1;obtain h1|⟨h1,h2⟩:=h1
    .refine .inl ?_;unfold Oper.wp at h1⊢;rw[z]at h1;have hk:=y a.eval w F;generalize (execOp a.eval g).run P w=r at h1 hk⊢;cases r with
     |ok n w'=>
      cases n<;>simp only[Oper.upon]at h1 hk⊢
      case value u=>exact next u w' hk h1
      case skip=>exact next ϗ w' hk h1
     |halt x w'=>
      cases x<;>simp only[Oper.upon]at h1⊢
      case panic u=>exact U _ _ _ h1
    exact .inr ⟨by unfold Oper.asks at h1⊢;rw[z]at h1;exact h1,h2⟩
   .rename_i s;simp only[s]at h1;exact next ϗ w F h1
def others(md:Region.Mode)(ops:Ϝ)(a:Ϯ)(i:Nat):List Oper:=
 (range ops.size).filterMap λj=>if j==i||a.getD j true then none else match ops[j]? with
  |some b=>if b.after.any (λe=>Region.binds md e&&e.on==i)then none else some b
  |none=>none
def Au{b:Ϯ}(C:ϣ)(p:ops[i]?=some oi)(hs:Region.noSelect ops=true)(hf:Region.free md ops b i=true)(hr:(ready md ops b).contains i=true)(r:∀c a w,Q (.panic c) (a.put oi.dst v) w->Q (.panic c) a w)(hg:oi.guard=none)(u:C w)(s:Gives P C (execOp a.eval oi) v)(n:Ϩ)(t:others md ops b i=n)(hk:∀o∈n,ez P C o)(h:wpAny P md ops Q fuel (b.setIfInBounds i true) (a.put oi.dst v) w):wpAny P md ops Q (fuel+1) b a w:=by
 refine Ns (C:=C) p (Region.noSelect_spec hs) r fuel b a w (λj q l f g k=>⟨Region.free_spec p hf j q l f g k,hk q ?_⟩) (by simpa using hr) (by simp[wanted,hg]) s u h;rw[<-t];unfold others;rw[ϓ5];refine⟨j,ah9.2 (Ψ.1 l).1,?_⟩;rw[Γ (by simp only[ak7,ai5,g,or_false,ab6];exact f)];simp only[l];rw[Γ];intro d;have⟨e,x,m⟩:=Array.any_eq_true'.1 d;simp only[χ,ai5]at m;exact k e x m.1 m.2
def yp{b:Ϯ}(hr:ready md ops b=[i])(d:ops[i]?=some oi)(hg:oi.guard=none)(h:∀K:Act->Φ->Prop,(∀a w,wpAny P md ops Q fuel (b.setIfInBounds i true) a w->K a w)->oi.wp P a w K Q):wpAny P md ops Q (fuel+1) b a w:=
 wpAny_all hr ϛ λj c=>by
  obtain rfl:j=i:=by simpa using c
  unfold wpOp;simp only[d];rw[κ (by simp[wanted,hg])];exact .inl (h _ λ_ _ x=>x)
def D9{b:Ϯ}(hr:ready md ops b=[i])(d:ops[i]?=some oi)(hg:oi.guard=none)(v:Θ)(w1:Φ)(c:(execOp a.eval oi).run P w=.ok (.value v) w1)(h:wpAny P md ops Q fuel (b.setIfInBounds i true) (a.put oi.dst v) w1):wpAny P md ops Q (fuel+1) b a w:=
 yp hr d hg λK e=>by unfold Oper.wp;rw[c];exact e _ _ h
def G4{b:Ϯ}(hr:ready md ops b=[i])(d:ops[i]?=some oi)(hg:oi.guard=none)(w1:Φ)(c:(execOp a.eval oi).run P w=.ok .skip w1)(h:wpAny P md ops Q fuel (b.setIfInBounds i true) (a.put oi.dst ϗ) w1):wpAny P md ops Q (fuel+1) b a w:=
 yp hr d hg λK e=>by unfold Oper.wp;rw[c];exact e _ _ h
end
structure Lets (C:Φ->Prop):Prop where
 alloc:∀w o,C w->C (w.alloc o)
 drew:∀w,C w->C w.drew
def aF{α:Type}(P:aa1)(C:ϣ)(e:Sem α):Prop:=∀w,C w->match e.run P w with
 |.ok _ w'=>C w'
 |.halt _ _=>True
section
variable {P:aa1}{C:Φ->Prop}{α β:Type}
def aF.pure(a:α):aF P C (Pure.pure a:Sem α):=λ_ h=>h
def aF.halt(x:Halt):aF P C (Sem.halt x:Sem α):=λ_ _=>trivial
def aF.stuck(x:String):aF P C (stuck x:Sem α):=λ_ _=>trivial
def aF.bind{e:Sem α}{f:α->Sem β}(h:aF P C e)(k:∀a,aF P C (f a)):aF P C (e>>=f):=λw b=>by
 have:=h w b;rw[run_bind];cases hr:e.run P w with|ok a w'=>rw[hr]at this;exact k a w' this|halt x w'=>trivial
def aF.map{e:Sem α}{f:α->β}(h:aF P C e):aF P C (Functor.map f e):=λw b=>by
 have:=h w b;rw[Sem.run_map];cases hr:e.run P w with|ok a w'=>rw[hr]at this;exact this|halt x w'=>trivial
def aF.typeInfo(t:θ):aF P C (typeInfo t):=λw a=>by
 simp only[Go.typeInfo,run_bind,run_program,Result.andThen_ok];cases P.info? t with|none=>trivial|some i=>exact a
def aF.underlying(t:θ):aF P C (underlying t):=λw a=>by
 simp only[Go.underlying,run_bind,run_program,Result.andThen_ok];cases P.underlying t with|none=>trivial|some i=>exact a
def aF.sizeOf(t:θ):aF P C (sizeOf t):=(aF.typeInfo t).bind λ_=>aF.pure _
def aF.zeroValue(t:θ):aF P C (zeroValue t):=(aF.typeInfo t).bind λi=>by
 cases i.zero with|none=>exactλ_ _=>trivial|some v=>exact aF.pure _
def aF.isAgg(t:θ):aF P C (isAgg t):=(aF.underlying t).bind λd=>by
 cases d<;>exact aF.pure _
def aF.load(a:Addr):aF P C (load a):=λw b=>by
 unfold Go.load;simp only[Sem.run];cases w.cell? a with
 |some v=>exact b
 |none=>
  simp only;cases w.farLoad P a (Mode.plain==Mode.atomic)with|ok r=>exact b|error h=>trivial
def aF.loadCellsFrom(a:Addr):∀(n i:Nat)(acc:ϐ),aF P C (loadCellsFrom a i n acc)
 |0,_,_=>aF.pure _
 |n+1,i,_=>(aF.load _).bind λ_=>aF.loadCellsFrom a n (i+1) _
def aF.loadVar(t:θ)(a:Addr):aF P C (loadVar t a):=(aF.isAgg t).bind λb=>by
 cases b with|true=>exact(aF.sizeOf t).bind λn=>(aF.loadCellsFrom a n 0 #[]).bind λ_=>aF.pure _|false=>exact aF.load a
def aF.sureAddr(v:Θ):aF P C (Instr.sureAddr v):=by
 unfold Instr.sureAddr;split;exact aF.pure _;exact aF.stuck _
def aF.loadAt(t:θ)(v:Θ):aF P C (Instr.loadAt t v):=(aF.sureAddr v).bind λa=>aF.loadVar t a
def aF.newRow(b:Lets C)(t:θ)(cs:ϐ):aF P C (newRow t cs):=λw a=>by
 simp only[Go.newRow,run_bind,run_newObj_alloc,Result.andThen_ok];exact b.alloc w _ a
def aF.mapM{f:α->Sem β}(h:∀a,aF P C (f a)):∀(l:List α),aF P C (l.mapM f)
 |[]=>by simp only[List.mapM_nil];exact aF.pure _
 |a::r=>by simp only[List.mapM_cons];exact(h a).bind λ_=>(aF.mapM h r).bind λ_=>aF.pure _
def aF.afM{f:α->Sem β}(h:∀a,aF P C (f a))(l:Array α):aF P C (l.mapM f):=by
 rw[ϔ3];exact aF.map (aF.mapM h _)
def aF.build(t:θ)(a:Array (Nat×Θ)):aF P C (Instr.build t a):=by
 refine(aF.zeroValue t).bind λz=>(aF.underlying t).bind λd=>?_
 cases d<;>try exact aF.stuck _
 case array n e=>
  refine(aF.sizeOf e).bind λs=>?_
  split;exact aF.pure _;exact aF.stuck _
 case struct fs=>
  have c:aF P C (fs.mapM λf=>(do Pure.pure (f.offset,<-Go.sizeOf f.type):Sem (Nat×Nat))):=aF.afM (λf=>(aF.sizeOf f.type).bind λ_=>aF.pure _) fs;refine aF.bind c λb=>?_
  split;exact aF.pure _;exact aF.stuck _
def aF.buildSlice(f:Lets C)(t:θ)(n:Nat)(b:Array (Nat×Θ)):aF P C (Instr.buildSlice t n b):=by
 refine(aF.underlying t).bind λd=>?_
 cases d<;>try exact aF.stuck _
 case slice e=>
  refine(aF.sizeOf e).bind λs=>?_
  have c:∀zero:Array Θ,aF P C (match Instr.fill (λi=>some (i*s,s)) ((Array.range (n*s)).map (zero[·%zero.size]!)) b.toList with
    |some cells=>(do Pure.pure (Value.slice (some (<-Go.newRow e cells)) n n):Sem Θ)
    |_=>Go.stuck "buildSlice: a part of the wrong size"):=λzero=>by
   split;exact(aF.newRow f _ _).bind λ_=>aF.pure _
   exact aF.stuck _
  dsimp only;split;exact λ_ _=>trivial
  split;exact(aF.pure _).bind λz=>c z
  exact(aF.zeroValue e).bind λv=>(aF.pure v.cells).bind λz=>c z
def iK{α:Type}(P:aa1)(e:Sem α):Prop:=∀w v w',e.run P w≠.ok v w'
def iK.keeps{e:Sem α}(h:iK P e):aF P C e:=λw _=>by
 cases hr:e.run P w with|ok a w'=>exact absurd hr (h w a w')|halt x w'=>trivial
def iK.halt(x:Halt):iK P (Sem.halt x:Sem α):=λ_ _ _ h=>by cases h
def iK.bind{e:Sem α}{f:α->Sem β}(h:∀a,iK P (f a)):iK P (e>>=f):=λw v w' hr=>by
 rw[run_bind]at hr;cases b:e.run P w with
 |ok a w1=>rw[b]at hr;exact h a w1 v w' hr
 |halt x w1=>rw[b]at hr;cases hr
def iK.runtimePanic(x:RuntimeError):iK P (runtimePanic x:Sem α):=by
 refine iK.bind λp=>?_
 cases x<;>first|exact iK.halt _|exact iK.bind λ_=>iK.bind λ_=>iK.halt _
def iK.boundsPanic(k:IntKind)(x y:Int)(c:BoundsCode):iK P (boundsPanic k x y c:Sem α):=by
 have h:∀s,iK P (Go.runtimePanic (.bounds (IntKind.i64.wrap x) y s c):Sem α):=λs=>iK.runtimePanic _
 unfold Go.boundsPanic;unfold Go.runtimePanic at h⊢;dsimp only;split;exact iK.bind h;exact iK.bind h
def aF.asIntOf(v:Θ):aF P C (asIntOf v):=by
 unfold Go.asIntOf;split<;>first|exact aF.pure _|exact aF.halt _
def aF.sliceBound(v:Θ)(y:Nat)(c:BoundsCode):aF P C (Instr.sliceBound v y c):=by
 refine(aF.asIntOf v).bind λx=>?_
 dsimp only;split;exact aF.pure _;exact(iK.boundsPanic _ _ _ _).keeps
def aF.sliceBounds(b:Bool)(l c:Nat)(x y z:ϱ):aF P C (Instr.sliceBounds b l c x y z):=by
 unfold Instr.sliceBounds;dsimp only
 (repeat' first|exact aF.pure _|exact aF.sliceBound _ _ _|exact aF.stuck _|(refine aF.bind ?_ λ_=>?_)|split)
def aF.asAddr(v:Θ):aF P C (asAddr v):=by
 unfold Go.asAddr
 (repeat' first|exact aF.pure _|exact aF.stuck _|exact aF.halt _|exact(iK.runtimePanic _).keeps|split)
def aF.XW(t:θ)(v:Θ)(x y z:ϱ):aF P C (Instr.slice t v x y z):=by
 refine(aF.underlying t).bind λd=>?_
 (repeat' first|exact aF.pure _|exact aF.stuck _|exact aF.asAddr _|exact aF.sliceBounds _ _ _ _ _ _|exact aF.sizeOf _|exact aF.underlying _|(refine aF.bind ?_ λ_=>?_)|split)
def aF.sliceAt(t:θ)(v:Θ)(x y z:ϱ):aF P C (Instr.sliceAt t v x y z):=by
 refine(aF.underlying t).bind λd=>?_
 (repeat' first|exact aF.pure _|exact aF.XW _ _ _ _ _|exact aF.stuck _|exact aF.sureAddr _|exact aF.sliceBounds _ _ _ _ _ _|exact aF.sizeOf _|(refine aF.bind ?_ λ_=>?_)|split)
def aF.indexAt(t:θ)(x i:Θ):aF P C (Instr.indexAt t x i):=by
 refine(aF.asIntOf i).bind λk=>?_
 refine(aF.underlying t).bind λd=>?_
 (repeat' first|exact aF.pure _|exact aF.stuck _|exact aF.halt _|exact aF.sureAddr _|exact(iK.boundsPanic _ _ _ _).keeps|exact aF.sizeOf _|exact aF.underlying _|(refine aF.bind ?_ λ_=>?_)|split|(dsimp only;split))
def ez.mI{o:Oper}(s:(ac4->Θ)->Sem Θ)(b:∀ρ,execOp ρ o=(do pure (Next.value (<-s ρ))))(h:∀ρ,aF P C (s ρ)):ez P C o:=λρ w c=>by
 have:=h ρ w c;rw[b,run_bind];cases hr:(s ρ).run P w with|ok a w'=>rw[hr]at this;exact this|halt x w'=>trivial
def ez.load{o:Oper}{t:θ}{x:ac4}(a:o.op=.load t x):ez P C o:=.mI (λρ=>Instr.loadAt t (ρ x)) (λρ=>by simp only[execOp,a]) λ_=>aF.loadAt _ _
def ez.build{o:Oper}{t:θ}{ps:Array (Nat×ac4)}(a:o.op=.build t ps):ez P C o:=.mI (λρ=>Instr.build t (ps.map λ(i,x)=>(i,ρ x))) (λρ=>by simp only[execOp,a]) λ_=>aF.build _ _
def ez.buildSlice(b:Lets C){o:Oper}{t:θ}{n:Nat}{ps:Array (Nat×ac4)}(a:o.op=.buildSlice t n ps):ez P C o:=.mI (λρ=>Instr.buildSlice t n (ps.map λ(i,x)=>(i,ρ x))) (λρ=>by simp only[execOp,a]) λ_=>aF.buildSlice b _ _ _
def ez.indexAddr{o:Oper}{t:θ}{x i:ac4}(a:o.op=.indexAddr t x i):ez P C o:=.mI (λρ=>Instr.indexAt t (ρ x) (ρ i)) (λρ=>by simp only[execOp,a]) λ_=>aF.indexAt _ _ _
def ez.slice{o:Oper}{t:θ}{x:ac4}{l h m:Option ac4}(a:o.op=.slice t x l h m):ez P C o:=.mI (λρ=>Instr.sliceAt t (ρ x) (l.map ρ) (h.map ρ) (m.map ρ)) (λρ=>by simp only[execOp,a]) λ_=>aF.sliceAt _ _ _ _ _
def Plain(P:aa1)(src a:θ):Bool:=match P.underlying src,P.underlying a with
 |some (.slice e),some .string=>match P.underlying e with|some (.int .u8)=>true|_=>false
 |some (.int _),some (.int _)=>true
 |_,_=>false
def aF.Qr{γ:Type}{f:γ->β->Sem (ForInStep β)}(h:∀a s,aF P C (f a s)):∀(l:List γ)(s:β),aF P C (forIn l s f)
 |[],s=>by rw[List.forIn_nil];exact aF.pure _
 |a::r,s=>by
  rw[List.forIn_cons];refine(h a s).bind λx=>?_
  cases x with|done b=>exact aF.pure _|yield b=>exact aF.Qr h r b
def aF.bytesToString(x:Θ):aF P C (Conv.bytesToString x):=by
 unfold Conv.bytesToString;split;exact aF.pure _;refine aF.bind (aF.loadCellsFrom _ _ _ _) λcs=>?_
 refine aF.bind ?_ λ_=>aF.pure _
 rw[<-Array.forIn_toList];refine aF.Qr (λa s=>?_) _ _;split;exact aF.pure _;exact(aF.stuck _).bind λ_=>aF.pure _
 exact aF.stuck _
def aF.choose(c:Lets C)(q:Question):aF P C (choose q):=λw b=>by
 unfold Go.choose;simp only[Sem.run];by_cases a:q.forced=true;simp only[a,if_true];exact b;simp only[a];exact c.drew w b
def aF.floatToInt(a:Lets C)(k:FloatKind)(b:Nat)(d:IntKind):aF P C (Conv.floatToInt k b d):=by
 unfold Conv.floatToInt;dsimp only;split;split;exact aF.pure _;exact(aF.choose a _).bind λ_=>aF.pure _
 exact(aF.choose a _).bind λ_=>aF.pure _
def ez.convert(i:Lets C){o:Oper}{src a:θ}{x:ac4}(b:Plain P src a=true)(g:o.op=.convert src a x):ez P C o:=by
 refine .mI (λρ=>Go.convert src a (ρ x)) (λρ=>by simp only[execOp,g]) λρ=>?_;intro w c;unfold Plain at b;split at b;rename_i e h1 h2;split at b;rename_i h;simp only[Go.convert,run_bind,run_underlying h1,run_underlying h2,Result.andThen_ok];have d:=aF.bytesToString (P:=P) (C:=C) (ρ x) w c;cases f:ρ x<;>rw[f]at d<;>first|exact c|(simp only[run_bind,run_underlying h,Result.andThen_ok];exact d)
 cases b
 .rename_i j k2 h1 h2;simp only[Go.convert,run_bind,run_underlying h1,run_underlying h2,Result.andThen_ok];cases f:ρ x<;>first|exact c|exact trivial|exact aF.floatToInt i _ _ _ w c|skip
  case pointer ad=>cases ad<;>exact trivial
 cases b
def ez.move{o:Oper}{x:ac4}(a:o.op=.move x\/o.op=.assign x):ez P C o:=λρ w b=>by
 obtain a|a:=a<;>simp only[execOp,a]<;>exact b
def yF(P:aa1)(o:Oper):Bool:=match o.op with
 |.load .. |.build .. |.buildSlice .. |.move _|.assign _|.indexAddr .. |.slice .. =>true
 |.convert src a _=>Plain P src a
 |_=>false
def ez.yF(b:Lets C){o:Oper}(h:yF P o=true):ez P C o:=by
 cases a:o.op<;>simp only[Go.Proofs.YtchcmhodnkgojaaGreat.yF,a]at h<;>first|(cases h;done)|exact ez.load a|exact ez.build a|exact ez.buildSlice b a|exact ez.move (.inl a)|exact ez.move (.inr a)|exact ez.indexAddr a|exact ez.slice a|exact ez.convert b h a
end
section
variable {P:aa1}{ops:Array Oper}{Q:Exit->Act->Φ->Prop}{md:Region.Mode}
def G3{b:Ϯ}(C:ϣ)(e:Lets C)(k:C w)(g:ops[i]?=some oi)(hs:Region.noSelect ops=true)(hf:Region.free md ops b i=true)(hr:(ready md ops b).contains i=true)(d:∀c a w,Q (.panic c) (a.put oi.dst v) w->Q (.panic c) a w)(hg:oi.guard=none)(hk:(others md ops b i).all (yF P)=true)(j:∀w,C w->(execOp a.eval oi).run P w=.ok (.value v) w)(h:wpAny P md ops Q fuel (b.setIfInBounds i true) (a.put oi.dst v) w):wpAny P md ops Q (fuel+1) b a w:=
 Au C g hs hf hr d hg k (Gives.val j) _ rfl (λo f=>ez.yF e (ae7.1 hk o f)) h
def Av{b:Ϯ}(e:ops[i]?=some oi)(hs:Region.noSelect ops=true)(hf:Region.free md ops b i=true)(hr:(ready md ops b).contains i=true)(d:∀c a w,Q (.panic c) (a.put oi.dst v) w->Q (.panic c) a w)(hg:oi.guard=none)(f:∀w,(execOp a.eval oi).run P w=.ok (.value v) w)(h:wpAny P md ops Q fuel (b.setIfInBounds i true) (a.put oi.dst v) w):wpAny P md ops Q (fuel+1) b a w:=
 wpAny_take e hs hf hr d (.inl ⟨by simp[wanted,hg],f⟩) h
def upto(n k:Nat):Array Bool:=((range n).map λj=>decide (j<k)).toArray
def oD(n k:Nat)(c:k<n):(upto n k).setIfInBounds k true=upto n (k+1):=by
 apply an5;intro i;simp only[upto,Array.getElem?_setIfInBounds,ab9,af2,ϐ7,List.getElem?_toArray,List.getElem?_map];by_cases b:k=i;subst b;simp[c];simp only[b,if_false];obtain a|a:=am0 i n;simp only[List.getElem?_range a,ι,ag0,decide_eq_decide];omega;simp[a]
def At(P:aa1)(ops:Ϝ)(Q:ϔ)(n k:Nat)(a:Act)(w:Φ):Prop:=wpAny P .any ops Q (n-k) (upto n k) a w
def ej{id:Nat}(n:Nat)(c:ops.size=n)(h:At P ops Q n 0 a w.drew)(hm:P.follows .mixedOrders=true:=by kernel_rfl):(Code.region id ops true).wp P Q a w:=by
 refine wp_region_any hm ?_;rw[c];have e:Array.replicate n false=upto n 0:=by apply an5;intro i;obtain b|b:=am0 i n;simp[upto,b];simp[upto,b]
 rw[e];exact h
def At.step{n k:Nat}{a:Act}{w:Φ}(hk:k<n)(h:wpAny P .any ops Q ((n-(k+1))+1) (upto n k) a w):At P ops Q n k a w:=by
 unfold At;rw[show n-k=(n-(k+1))+1 by omega];exact h
def cE(k:Nat)(b:Ϟ)(e:ops[k]?=some oi)(hd:oi.dst=b)(d:∀c a w,Q (.panic c) (a.put oi.dst v) w->Q (.panic c) a w)(hg:oi.guard=none)(f:∀w,(execOp a.eval oi).run P w=.ok (.value v) w)(h:At P ops Q n (k+1) (a.put b v) w)(hk:k<n:=by omega)(hs:Region.noSelect ops=true:=by kernel_rfl)(hf:Region.free .any ops (upto n k) k=true:=by kernel_rfl)(hr:(ready .any ops (upto n k)).contains k=true:=by kernel_rfl):At P ops Q n k a w:=
 .step hk (Av e hs hf hr d hg f (by rw[oD n k hk,hd];exact h))
def nO(k:Nat)(C:ϣ)(j:Lets C)(i:C w)(b:Ϟ)(f:ops[k]?=some oi)(hd:oi.dst=b)(d:∀c a w,Q (.panic c) (a.put oi.dst v) w->Q (.panic c) a w)(hg:oi.guard=none)(e:∀w,C w->(execOp a.eval oi).run P w=.ok (.value v) w)(h:At P ops Q n (k+1) (a.put b v) w)(hk:k<n:=by omega)(hs:Region.noSelect ops=true:=by kernel_rfl)(hf:Region.free .any ops (upto n k) k=true:=by kernel_rfl)(hr:(ready .any ops (upto n k)).contains k=true:=by kernel_rfl)(g:(others .any ops (upto n k) k).all (yF P)=true:=by kernel_rfl):At P ops Q n k a w:=
 .step hk (G3 C j i f hs hf hr d hg g e (by rw[oD n k hk,hd];exact h))
def V1(k:Nat)(C:ϣ)(r:Lets C)(q:C w)(hk:k<n)(b:Ϟ)(i:ops[k]?=some oi)(hd:oi.dst=b)(hs:Region.noSelect ops=true)(hf:Region.free .any ops (upto n k) k=true)(hr:(ready .any ops (upto n k)).contains k=true)(hg:oi.guard=none)(m:(others .any ops (upto n k) k).all (yF P)=true)(f:ac5)(args:ϐ)(v:Θ)(d:∀c a w,Q (.panic c) (a.put oi.dst v) w->Q (.panic c) a w)(l:∀w,(execOp a.eval oi).run P w=.ok (.enter f args) w)(g:∀w,C w->Calls P f args w λe x=>e=.returned v/\x=w)(h:At P ops Q n (k+1) (a.put b v) w):At P ops Q n k a w:=
 .step hk (Au C i hs hf hr d hg q (λw p=>by rw[l w];exact⟨rfl,g w p⟩) _ rfl (λo j=>ez.yF r (ae7.1 m o j)) (by rw[oD n k hk,hd];exact h))
def at_one(k:Nat)(hk:k<n)(b:ops[k]?=some oi)(hr:ready .any ops (upto n k)=[k])(hg:oi.guard=none)(h:∀K:Act->Φ->Prop,(∀a w,At P ops Q n (k+1) a w->K a w)->oi.wp P a w K Q):At P ops Q n k a w:=
 .step hk (yp hr b hg λK c=>h K λa w x=>c a w (by rw[oD n k hk];exact x))
def tV(k:Nat)(b:Ϟ)(d:ops[k]?=some oi)(hd:oi.dst=b)(hg:oi.guard=none)(v:Θ)(w1:Φ)(c:(execOp a.eval oi).run P w=.ok (.value v) w1)(h:At P ops Q n (k+1) (a.put b v) w1)(hk:k<n:=by omega)(hr:ready .any ops (upto n k)=[k]:=by kernel_rfl):At P ops Q n k a w:=
 .step hk (D9 hr d hg v w1 c (by rw[oD n k hk,hd];exact h))
def KE(k:Nat)(hk:k<n)(b:Ϟ)(d:ops[k]?=some oi)(hd:oi.dst=b)(hr:ready .any ops (upto n k)=[k])(hg:oi.guard=none)(w1:Φ)(c:(execOp a.eval oi).run P w=.ok .skip w1)(h:At P ops Q n (k+1) (a.put b ϗ) w1):At P ops Q n k a w:=
 .step hk (G4 hr d hg w1 c (by rw[oD n k hk,hd];exact h))
def nQ(h:Q .normal a w)(hr:ready .any ops (upto n n)=[]:=by kernel_rfl):At P ops Q n n a w:=wpAny_done hr h _
end
end
section
open Go.RowKit Go.Lib
def wP:lp.cells.size=65:=by simp[lp,Value.cells,eD,ae]
def GU(s:Int)(l:ϑ)(h:l.length=64):prog.built 240 [(0,.int .i64 s),(1,.agg (byteCells l).toArray)]=some (eD (s,l)).toArray:=by
 have b:∃it,prog.info? 240=some it/\it.zero=some lp:=by
  have:=mh;cases c:prog.info? 240 with
  |none=>rw[c]at this;cases this
  |some it=>rw[c]at this;exact⟨it,rfl,by simpa using this⟩
 have⟨it,b,d⟩:=b;have a:∃fs,prog.underlying 240=some (.struct fs)/\fs.toList.mapM (λf=>(prog.info? f.type).map λi=>(f.offset,i.size))=some [(0,1),(1,64)]:=⟨_,underlying240,ϰ⟩
 have⟨fs,e,a⟩:=a;unfold Program.built;simp only[b,e,d,a];have e1:over lp.cells 0 [Value.int .i64 s]=(Value.int .i64 s::byteCells (replicate 64 0)).toArray:=by simp[over,lp,Value.cells,eD]
 rw[wn _ _ 0 _ _ 0 1 rfl rfl (by rw[wP];omega)];rw[show(Value.int IntKind.i64 s).cells.toList=[Value.int .i64 s]from rfl,e1];rw[wn _ _ 1 _ _ 1 64 rfl (by simp[Value.cells,ae,h]) (by simp only[ab9,ϲ,ae,ak6];omega)];simp only[Instr.fill];congr 1;simp[over,eD,ae,h,Value.cells]
def KP(d bl n:Nat)(vw:Θ)(x:DS)(w:Φ)(s:Int)(l:ϑ)(z:l.length=64)(hs:0<=s)(hn:s<n)(fX:x.waiting.length<60)(al:d<w.heap.size)(hm:∀w1,aG [] w w1->Calls prog 187 #[.pointer (some ⟨d,0,none⟩)] w1 λe w'=>e=.returned (.bool true)/\bM w' d bl n vw x/\aG [d] w1 w'):
  Calls prog 148 #[.pointer (some ⟨d,0,none⟩),.int .i64 s,.agg (byteCells l).toArray] w λe w'=>e=.returned (.int .i64 0)/\
   ∃y,bM w' d bl n y {x with waiting:=x.waiting++[(s,l)]}/\aG (d::vw.ownBlock.toList) w w'/\(y.ownBlock=vw.ownBlock\/∃k,y.ownBlock=some k/\w.heap.size<=k):=by
 go_enter func148,ntmps148;go_wp2_with (with_reducible refine bv rfl ?_);refine eZ rfl 148 _ rfl (.agg (byteCells l).toArray) rfl ?_;intro w1 J l5 f1 r5;go_wp2_with fail;refine(hm w1 f1).mono ?_;clear hm;rintro e D⟨rfl,h2,f2⟩;have E:=f2.row r5 (by simp;omega);have hf:=h2.row.thaw;have G:Row D.drew J (byteCells l).toArray 148:=E;have c:bM D.drew d bl n vw x:=h2.ky (aG.drew [] _) ϛ ϛ ϛ;go_wp2_with fail;refine ej 13 rfl ?_;have V:aG [] D D.drew:=aG.drew [] _;generalize D.drew=m at G c V;obtain⟨c0,c1,-⟩:=jX c.row;refine cE 0 (some 10) rfl rfl (λ_ _ _ h=>h) rfl (λ_=>rfl) ?_;refine cE 1 (some 11) rfl rfl (λ_ _ _ h=>h) rfl (λ_=>rfl) ?_;refine cE 2 (some 12) rfl rfl (λ_ _ _ h=>h) rfl (λ_=>rfl) ?_;refine cE 3 (some 13) rfl rfl (λ_ _ _ h=>h) rfl (v:=.pointer (some ⟨d,1,none⟩)) (λ_=>by go_simp) ?_;simp only[puts];have hC:Lets (λw':Φ=>w'.cell? ⟨d,1,none⟩=some vw/\w'.rangeAt J 0 (byteCells l)):=⟨λw o h=>⟨by rw[World.cell?_alloc_some _ _ _ (by rw[h.1];rfl)];exact h.1,World.rangeAt_alloc h.2 o⟩,λw h=>h⟩
 have C:m.cell? ⟨d,1,none⟩=some vw/\m.rangeAt J 0 (byteCells l):=⟨c1,λj v hv=>by rw[G.cell];simpa using hv⟩
 refine nO 4 _ hC C (some 14) rfl rfl (λ_ _ _ h=>h) rfl (v:=vw) (λw' N=>by have:=N.1;go_simp) ?_;refine cE 5 (some 15) rfl rfl (λ_ _ _ h=>h) rfl (λ_=>rfl) ?_;clear hC C;refine tV 6 (some 16) rfl rfl rfl _ m (jV 148 _ rfl J 0 rfl dX 64 bI _ _ G (byteCells l) ?_ (by rw[ae,z])) ?_;simp only[ϳ];rw[ν (by rw[ae,z];omega)];refine cE 7 (some 17) rfl rfl (λ_ _ _ h=>h) rfl (v:=.agg (eD (s,l)).toArray) (λw'=>?_) ?_;exact jd _ _ rfl _ (GU s l z);simp only[puts];obtain⟨i,hi,W,A,O⟩:∃i,prog.info? 240=some i/\i.zero=some lp/\i.size=65/\i.bytes=72:=by
  have I:=mh;have a2:=jq;have a3:(prog.info? 240).map (·.bytes)=some 72:=ϰ;cases Z:prog.info? 240 with
  |none=>rw[Z]at I;cases I
  |some it=>rw[Z]at I a2 a3;exact⟨it,rfl,by simpa using I,by simpa using a2,by simpa using a3⟩
 refine tV 8 (some 18) rfl rfl rfl _ _ (wo 130 240 _ rfl underlying130 i lp (.agg (eD (s,l)).toArray) hi W ϖ ϖ rfl ?_) ?_;simp only[Value.cells,ab9,A];exact cH _ z;have f:=c.new (w':=m.alloc (.cells (Value.agg (eD (s,l)).toArray).cells 240)) (aG.alloc [] _ _) ϛ;have U:Row (m.alloc (.cells (Value.agg (eD (s,l)).toArray).cells 240)) m.heap.size (eD (s,l)).toArray 240:=Row.new ..;have R:aG [] m (m.alloc (.cells (Value.agg (eD (s,l)).toArray).cells 240)):=aG.alloc ..;generalize m.alloc (.cells (Value.agg (eD (s,l)).toArray).cells 240)=F at f U R;refine at_one 9 ϖ rfl ϰ rfl λK hK=>?_;refine wp_append_lies F (.tmp 14) (.tmp 18) 130 rfl 0 240 i lp 65 72 underlying130 hi W A O wP ϖ vw x.waiting.length (lH x.waiting) rfl f.own ⟨m.heap.size,0,none⟩ 1 1 (eD (s,l)) rfl (by rw[cH _ z]) ?_ ?_ ϖ (by simp[maxLen];omega) ϖ (ϕ6 _) F.heap.size rfl ?_;intro j u hu;rw[Addr.add_mid,U.cell];simpa using hu;intro v hv;simp only[eD,ac2]at hv;obtain rfl|hv:=hv;rfl;exact byteCells_one _ v hv;intro g cap M r Q a ac;refine hK _ _ ?_;clear hK;simp only[puts];have S:=aG.grown Q;have t:=f.own;have ag:=c.row.lt;have Y:=c.last.lt;have aa:=R.size;have H:=S.row f.row (by simpa using f.ne1);have X:=S.row f.last (by simpa using f.Dv);have gd:d≠g:=by obtain a|rfl:=a;intro e;exact f.ne1 (by rw[a,e]);omega
 have gb:bl≠g:=by obtain a|rfl:=a;intro e;exact f.Dv (by rw[a,e]);omega
 refine cE 10 (some 20) rfl rfl (λ_ _ _ h=>h) rfl (λ_=>rfl) ?_;refine cE 11 (some 21) rfl rfl (λ_ _ _ h=>h) rfl (v:=.pointer (some ⟨d,1,none⟩)) (λ_=>by go_simp) ?_;simp only[Act.put];refine KE 12 ϖ none rfl rfl ϰ rfl (M.setCell ⟨d,1,none⟩ (.slice (some ⟨g,0,none⟩) (x.waiting.length+1) cap)) ?_ ?_
 .have:=H.thaw 1;have:=(jX H).2.1;go_simp
 refine nQ ?_;simp only[Act.put];have L:aG [d] M (M.setCell ⟨d,1,none⟩ (.slice (some ⟨g,0,none⟩) (x.waiting.length+1) cap)):=aG.setCell ..;have P:=H.setCell 1 (.slice (some ⟨g,0,none⟩) (x.waiting.length+1) cap);have T:=L.row X (by simpa usingλe=>f.ne e.symm);have b:=L.owns r (by simpa[Value.ownBlock] using gd.symm);generalize M.setCell ⟨d,1,none⟩ (.slice (some ⟨g,0,none⟩) (x.waiting.length+1) cap)=w6 at L P T b;have B:bM w6 d bl n (.slice (some ⟨g,0,none⟩) (x.waiting.length+1) cap) {x with waiting:=x.waiting++[(s,l)]}:=by refine{row:=P,last:=T,len:=c.len,own:=?_,eO:=?_,within:=?_,lo:=c.lo,hi:=c.hi,few:=by simp;omega,ne:=c.ne,ne1:=by simpa[Value.ownBlock] using gd.symm,Dv:=by simpa[Value.ownBlock] using gb.symm,nil:=by simp};simpa[lH] using b;intro p q;simp only[ag4,ξ]at q;obtain q|rfl:=q;exact c.eO p q;exact z;intro p q;simp only[ag4,ξ]at q;obtain q|rfl:=q;exact c.within p q;exact⟨hs,hn⟩
 clear c0 c1 hf H X r t P T b G U E r5;go_wp2;go_ret;have g0:aG [d] w F:=((((f1.mono ϛ:aG [d] w w1).trans f2).trans V).trans R)
 have g1:aG (d::vw.ownBlock.toList) w F:=g0.mono;refine⟨rfl,_,B,(g1.trans S (by intro i hi;left;simp[hi])).trans L,?_⟩;obtain a|rfl:=a;exact .inl (by rw[a];rfl);exact .inr ⟨_,rfl,by have:=g1.size;omega⟩
def Ej(d:Nat)(s:Int)(l:ϑ)(w:Φ)(R:ϣ)(hm:∀w1,aG [] w w1->Calls prog 187 #[.pointer (some ⟨d,0,none⟩)] w1 λe w'=>e=.returned (.bool false)/\R w'):
  Calls prog 148 #[.pointer (some ⟨d,0,none⟩),.int .i64 s,.agg (byteCells l).toArray] w λe w'=>e=.returned (.int .i64 3)/\R w':=by
 go_enter func148,ntmps148;go_wp2_with (with_reducible refine bv rfl ?_);refine eZ rfl 148 _ rfl (.agg (byteCells l).toArray) rfl ?_;intro w1 a b f1 r5;go_wp2_with fail;refine(hm w1 f1).mono ?_;rintro e c⟨rfl,h1⟩;go_wp2;go_ret;exact⟨rfl,h1⟩
def RU(d bl n:Nat)(vw:Θ)(x:DS)(w:Φ)(h:bM w d bl n vw x):
  Calls prog 45 #[.pointer (some ⟨d,0,none⟩)] w λe w'=>e=.returned (.int .i64 x.acts)/\w'=w:=by
 have⟨c0,c1,c2,c,f,a,b⟩:=jX h.row;go_enter func45,ntmps45;go_wp2;go_ret;exact⟨rfl,rfl⟩
def I3(d bl n:Nat)(vw:Θ)(x:DS)(w:Φ)(h:bM w d bl n vw x):
  Calls prog 79 #[.pointer (some ⟨d,0,none⟩)] w λe w'=>e=.returned (.bool x.failed)/\w'=w:=by
 have⟨c0,c1,c2,c,f,a,b⟩:=jX h.row;go_enter func79,ntmps79;go_wp2;go_ret;exact⟨rfl,rfl⟩
def nz(d bl n:Nat)(vw:Θ)(x:DS)(w:Φ)(h:bM w d bl n vw x):
  Calls prog 117 #[.pointer (some ⟨d,0,none⟩)] w λe w'=>e=.returned (.int .i64 n)/\w'=w:=by
 have⟨c0,c1,c2,c,f,a,b⟩:=jX h.row;go_enter func117,ntmps117;go_wp2;go_ret;exact⟨rfl,rfl⟩
def aH(n:Nat):Nat:=min ((n-1)/2) 54
def dP(a:ϑ)(i:Nat):η:=a.getD (10+i) 0
def jF(a:ϑ)(k:Nat):List Nat:=(range k).filter λi=>dP a i==1
def taken(x:DS)(n:Nat):List Nat:=jF (x.read 0) (aH n)
def gh(l:ϓ):List Θ:=l.map λ(i:Nat)=>Value.int .i64 i
def nZ(n:Nat)(h:16<=n)(h2:n<=400)(w:Φ):
  Calls prog 116 #[.int .i64 n] w λe w'=>e=.returned (.int .i64 (aH n))/\w'=w:=by
 go_enter func116,ntmps116;by_cases a:((n:Int)-1)/2<=54
 all_goals
  go_wp2;go_ret;refine⟨rS ?_,rfl⟩;unfold aH;omega
def p7(i:Nat)(h:i<200)(w:Φ):
  Calls prog 115 #[.int .i64 i] w λe w'=>e=.returned (.int .i64 (1+2*i:Nat))/\w'=w:=by
 go_enter func115,ntmps115;go_wp2;go_ret;exact⟨rS ϖ,rfl⟩
def ua(a:ϑ)(k:Nat):jF a (k+1)=jF a k++if dP a k==1 then[k]else[]:=by
 simp[jF,List.range_succ,ϕ4,List.filter_cons]
def Iy(a:ϑ)(i:Nat):(((dP a i).toNat:Int)==1)=(dP a i==1):=by
 rw[am4];simp[<-UInt8.toNat_inj];omega
def zJ(a b:ϓ):gh (a++b)=gh a++gh b:=by simp[gh]
def qm(a:ϑ)(k:Nat):(jF a k).length<=k:=by
 have:=ϐ2 (λi=>dP a i==1) (range k);simpa[jF] using this
def GA:Elem prog 64 3 1 8:=⟨underlying64,ϰ,ϖ⟩
structure Sl (D:Φ->Prop)(d n:Nat)(x:DS):Prop where
 lo:16<=n
 hi:n<=400
 len:∀j:Nat,j<n->(x.read j).length=64
 new:∀{w w':Φ}{S:List Nat},D w->aG S w w'->(∀k∈S,w.heap.size<=k)->D w'
 read:∀(s:Int) (w:Φ),D w->0<=s->s<n->Calls Tryz.prog 114 #[.pointer (some ⟨d,0,none⟩),.int .i64 s] w λe w'=>e=.returned (.agg (byteCells (x.read s)).toArray)/\aG [] w w'
 SW:∀w:Φ,D w->Calls Tryz.prog 117 #[.pointer (some ⟨d,0,none⟩)] w λe w'=>e=.returned (.int .i64 n)/\w'=w
def Ii{x:DS}(h:bM w0 d bl n vw x):Sl (λw=>bM w d bl n vw x) d n x:=
 ⟨h.lo,h.hi,λj b=>bH _ _ (by rw[h.len];simp;omega) _ h.eO,λh f a=>h.new f a,λs w h h0 h1=>uF d bl n vw x s w h h0 h1,λw h=>nz d bl n vw x w h⟩
def sJ{x:DS}(R:Sl D d n x)(w:Φ)(h:D w):
  Calls prog 83 #[.pointer (some ⟨d,0,none⟩)] w λe w'=>∃v,e=.returned v/\w'.ownsRow w.heap.size 3 1 v (taken x n).length (gh (taken x n))/\aG [] w w':=by
 have C:=R.lo;have s:=R.hi;have q:(x.read 0).length=64:=R.len 0 ϖ;go_enter func83,ntmps83;go_wp2_with fail;refine(R.read 0 w h ϖ ϖ).mono ?_;rintro e w1⟨rfl,f1⟩;go_wp2_with (with_reducible refine au rfl ?_);refine br rfl 148 rfl fI ed ?_;intro X p V f2 r4;go_wp2_with (with_reducible refine ah 148 rfl ?_);refine cu rfl 148 _ _ rfl _ 0 rfl _ rfl 64 bI ?_ ?_ _ _ r4 ?_ ?_;simp only[ab9,ae];exact q;exact byteCells_one _;decide;intro I J t;rw[bV _ _ (by rw[ae,q];rfl)]at t;have j:aG [] w I:=(f1.trans f2).trans J (by simp;have:=f1.size;omega);have F:=R.new h j ϛ;clear r4 J f2;go_wp2_with fail;refine(R.SW I F).mono ?_;rintro e M⟨rfl,rfl⟩;go_wp2_with fail;refine(nZ n C s _).mono ?_;rintro e M⟨rfl,rfl⟩;go_wp2_with fail;have O:aH n<=54:=by unfold aH;omega
 have S:w.heap.size<=p:=by have:=f1.size;omega
 go_loopw [3,11] (λv i wr=>∃k:Nat,i=.int .i64 k/\k<=aH n/\aG [] w wr/\Row wr p (byteCells (x.read 0)).toArray 148/\
  wr.ownsRow w.heap.size 3 1 v (jF (x.read 0) k).length (gh (jF (x.read 0) k))/\v.ownBlock≠some p) λ_ i _=>aH n-(intOf i).toNat
 case atStart=>exact⟨0,rfl,ϖ,j,t,World.ownsRow_nil ..,by simp[Value.ownBlock]⟩
 case round=>
  obtain⟨k,rfl,hk,o,m,r,A⟩:=hrel;clear F j t f1;by_cases U:k<aH n
  .have L:wr.cell? ⟨p,10+k,none⟩=some (.int .u8 (dP (x.read 0) k).toNat):=by
    rw[m.cell];simp[byteCells,dP,al8];rw[al3 ϖ];exact⟨_,rfl,rfl⟩
   have HR:Hid ((x.read 0).length=64):=q;clear q;have b:=Iy (x.read 0) k;by_cases hm:(dP (x.read 0) k==1)=true
   .have Q:(((dP (x.read 0) k).toNat:Int)==1)=true:=by rw[b];exact hm
    have z:Hid ((dP (x.read 0) k==1)=true):=hm;clear hm b;go_wp2_with (with_reducible refine aQ rfl ?_);refine dj rfl 64 3 1 8 GA _ rfl (.int .i64 k) rfl rfl ?_;intro W T K l r5;go_wp2_with (with_reducible first|refine aQ rfl ?_|refine aM rfl ?_);have c:=l.owns r;refine dG rfl 64 3 1 8 GA _ _ rfl w.heap.size u3 _ _ rfl c T 1 1 [.int .i64 k] rfl _ _ r5 rfl rfl (by simp[Value.oneCell']) ϖ ?_ ϖ ?_ ?_;have:=qm (x.read 0) k;omega;have:=o.size;have:=l.size;omega;intro g cap N B E a;have G:=o.trans l;have y:g≠p:=by obtain a|a:=a;intro e;exact A (by rw[a,e]);have:=m.lt;have:=l.size;omega
    have u:=E.row (l.row m) (by simpa usingλe=>A e);have P:aG [] w N:=G.trans E (by intro i H;right;simp at H;exact(c.lt i H).1);clear m r o L c r5 l E G a K;go_wp2
    go_roundw
    case rel=>
     refine⟨k+1,by go_num,ϖ,P,u,?_,by simpa[Value.ownBlock] using y⟩;rw[ua,z.out];simpa[zJ,gh] using B
    case measure=>simp[intOf];omega
   .have f:(dP (x.read 0) k==1)=false:=by simpa using hm
    have Q:(((dP (x.read 0) k).toNat:Int)==1)=false:=by rw[b];exact f
    have z:Hid ((dP (x.read 0) k==1)=false):=f;clear hm f b;go_wp2
    go_roundw
    case rel=>
     refine⟨k+1,by go_num,ϖ,o,m,?_,A⟩;rw[ua,z.out];simpa using r
    case measure=>simp[intOf];omega
  .have HK:Hid (k=aH n):=(by omega:k=aH n)
   go_wp2;go_ret;have hk:=HK.out;subst hk;exact⟨_,rfl,r,o⟩
def jG(d bl n:Nat)(vw:Θ)(x:DS)(w:Φ)(h:bM w d bl n vw x):
  Calls prog 83 #[.pointer (some ⟨d,0,none⟩)] w λe w'=>∃v,e=.returned v/\w'.ownsRow w.heap.size 3 1 v (taken x n).length (gh (taken x n))/\aG [] w w':=sJ (Ii h) w h
def fV:(prog.info? 138).map (·.size)=some 128:=ϰ
def ko:(prog.underlying 138).map TypeDesc.isRow=some true:=ϰ
def oX:Θ:=.agg (byteCells (replicate 128 0)).toArray
def kO:(prog.info? 138).map (·.zero)=some (some oX):=ϰ
def DS.sec(x:DS)(j:Nat):List η:=x.read j
def aiD(d bl n:Nat)(vw:Θ)(x:DS)(j:Nat)(s:Int)(hs:s=j)(w:Φ)(h:bM w d bl n vw x)(a:j<n):
  Calls prog 114 #[.pointer (some ⟨d,0,none⟩),.int .i64 s] w λe w'=>e=.returned (.agg (byteCells (x.sec j)).toArray)/\aG [] w w':=by
 subst hs;exact uF d bl n vw x j w h ϖ ϖ
def zE{x:DS}(h:bM w d bl n vw x)(j:Nat)(a:j<n):(x.sec j).length=64:=bH _ _ (by rw[h.len];omega) _ h.eO
def cN(x:DS)(i:Nat):List η:=x.sec (1+2*i)++x.sec (2+2*i)
def sO(x:DS)(i:Nat):Nat->List η
 |0=>replicate 128 0
 |1=>x.sec (1+2*i)++replicate 64 0
 |_=>cN x i
def Io(x:DS)(i k:Nat)(hk:k<2)(h1:(x.sec (1+2*i)).length=64)(h2:(x.sec (2+2*i)).length=64):over (byteCells (sO x i k)).toArray (k*64) (byteCells (x.sec (1+2*i+k)))=(byteCells (sO x i (k+1))).toArray:=by
 have e:1+2*i+1=2+2*i:=ϖ;rcases(by omega:k=0\/k=1)with rfl|rfl;simp[over,sO,byteCells,h1];simp[over,sO,cN,byteCells,h1,h2,e]
def uY(x:DS)(i k:Nat)(h1:(x.sec (1+2*i)).length=64)(h2:(x.sec (2+2*i)).length=64):(sO x i k).length=128:=by
 unfold sO;split<;>simp[cN,h1,h2]
def Sl.sec{D:ϣ}{d n:Nat}{x:DS}(R:Sl D d n x)(j:Nat)(s:Int)(hs:s=j)(w:Φ)(h:D w)(a:j<n):
  Calls prog 114 #[.pointer (some ⟨d,0,none⟩),.int .i64 s] w λe w'=>e=.returned (.agg (byteCells (x.sec j)).toArray)/\aG [] w w':=by
 subst hs;exact R.read j w h ϖ ϖ
def sP{x:DS}(R:Sl D d n x)(i:Nat)(w:Φ)(h:D w)(S:i<aH n):
  Calls prog 82 #[.pointer (some ⟨d,0,none⟩),.int .i64 i] w λe w'=>e=.returned (.agg (byteCells (cN x i)).toArray)/\aG [] w w':=by
 have ag:=R.lo;have aa:=R.hi;have al:2*i+2<n:=by unfold aH at S;omega
 have am:i<54:=by unfold aH at S;omega
 have f:∀j:Nat,j<n->Hid ((x.sec j).length=64):=λj Y=>R.len j Y
 go_enter func82,ntmps82;go_wp2_with (with_reducible refine au rfl ?_);refine br rfl 138 rfl oX kO ?_;intro w1 C l4 f1 r4;go_wp2_with (with_reducible refine au rfl ?_);refine br rfl 138 rfl oX kO ?_;intro w2 l Z f2 r5;have U:=f2.row r4;have u:=f1.trans f2;have J:w.heap.size<=C:=l4;have M:w.heap.size<=l:=by have:=f1.size;omega
 have H:C≠l:=by have:=r4.lt;omega
 clear f1 f2 r4 Z;go_wp2_with fail
 go_loopw [8] (λc wr=>∃k:Nat,c=.int .i64 k/\k<=2/\aG [] w wr/\Row wr C oX.cells 138/\Row wr l (byteCells (sO x i k)).toArray 138) λc _=>2-(intOf c).toNat
 case atStart=>exact⟨0,rfl,ϖ,u,U,r5⟩
 case round=>
  obtain⟨k,rfl,hk,B,r,p⟩:=hrel;clear u U r5;by_cases O:k<2
  .have h0:=R.new h B ϛ;go_wp2_with fail;refine(p7 i ϖ wr).mono ?_;rintro e T⟨rfl,rfl⟩;go_wp2_with fail;have b:=f (1+2*i+k) ϖ;refine(R.sec (1+2*i+k) _ ϖ T h0 ϖ).mono ?_;rintro e w4⟨rfl,A⟩;go_wp2_with (with_reducible refine au rfl ?_);refine br rfl 148 rfl fI ed ?_;intro w5 F l7 Q V;go_wp2_with (with_reducible refine ah 148 rfl ?_);refine cu rfl 148 _ _ rfl _ 0 rfl _ rfl 64 bI ?_ ?_ _ _ V ?_ ?_;simp only[ab9,ae];exact b.out;exact byteCells_one _;decide;intro s E G;rw[bV _ _ (by rw[ae,b.out];rfl)]at G;have q:aG [] T s:=(A.trans Q).trans E (by simp;have:=A.size;omega);have z:=q.row r;have y:=q.row p;have X:=B.trans q;have ac:l≠F:=by have:=p.lt;have:=A.size;omega
   clear r p B q A Q E V l7 h0;go_wp2_with fail;refine ej 5 rfl ?_;have t:aG [] s s.drew:=aG.drew ..;have r:=t.row z;have p:=t.row y;have L:=t.row G;have N:=X.trans t;generalize s.drew=K at r p L N;clear z y G X t;refine cE 0 (some 17) rfl rfl (λ_ _ _ h=>h) rfl (λ_=>rfl) ?_;refine cE 1 (some 18) rfl rfl (λ_ _ _ h=>h) rfl (v:=.int .i64 (k*64)) (λ_=>by go_simp;exact IntWalk.i64_in _ ϖ) ?_;simp only[puts];refine cE 2 (some 19) rfl rfl (λ_ _ _ h=>h) rfl (v:=.slice (some ⟨l,k*64,none⟩) (128-k*64) (128-k*64)) (λ_=>?_) ?_;exact oy 138 5 128 _ _ rfl underlying138 ϰ l 0 rfl (k*64) rfl ϖ ϖ _ _ ϖ ϖ;refine cE 3 (some 20) rfl rfl (λ_ _ _ h=>h) rfl (v:=.slice (some ⟨F,0,none⟩) 64 64) (λ_=>by go_simp) ?_;simp only[puts];have g:=(f (1+2*i) ϖ).out;have m:=(f (2+2*i) ϖ).out;have o:Nat.min 64 (128-k*64)=64:=ϒ1 ϖ;refine tV 4 (some 21) rfl rfl rfl _ _ (Kv _ _ _ _ 5 rfl underlying85 ϰ l (k*64) _ _ rfl F 0 64 64 rfl _ _ p _ _ L (byteCells (x.sec (1+2*i+k))) ?_ ?_ ?_ (byteCells_one _)) ?_;rw[o];simp only[ϳ];rw[ν (by rw[ae,b.out];omega)];rw[o,ae,b.out];simp only[ab9,ae];rw[uY x i k g m,b.out];omega;rw[Io x i k O g m];refine nQ ?_;have y:=p.setRow (byteCells (sO x i (k+1))).toArray;have I:aG [l] K (K.setRow l (byteCells (sO x i (k+1))).toArray):=aG.setRow ..;have z:=I.row r (by simpa using H);have W:aG [] w _:=N.trans I (by simpa using M);generalize K.setRow l (byteCells (sO x i (k+1))).toArray=w8 at y z W;simp only[puts];clear g m o r p L N I b;go_wp2
   go_roundw
   case rel=>exact⟨k+1,by go_num,ϖ,W,z,y⟩
   case measure=>simp[intOf];omega
  .have HK:Hid (k=2):=(by omega:k=2)
   have g:=(f (1+2*i) ϖ)
   have m:=(f (2+2*i) ϖ)
   have a:Hid ((cN x i).length=128):=by show _=_;have:=uY x i 2 g.out m.out;exact this
   go_wp2_with (with_reducible refine ax 138 rfl ?_);refine bT rfl 138 _ rfl l 0 rfl ko 128 fV _ _ p (byteCells (cN x i)) ?_ ?_ ?_;simp only[ϳ];rw[HK.out];exact ν (by rw[ae];exact al2 a.out);rw[ae];exact a.out;go_wp2_with (with_reducible refine ah 138 rfl ?_);refine cu rfl 138 _ _ rfl _ 0 rfl _ rfl 128 fV ?_ ?_ _ _ r ?_ ?_;simp only[ab9,ae];exact a.out;exact byteCells_one _;decide;intro s E P;rw[bV _ _ (by simp only[ae];rw[a.out];rfl)]at P;have sb:aG [] w s:=B.trans E (by simpa using J);go_wp2;exact nB rfl C rfl rfl _ _ P ko (by simp only[ab9,ae];rw[a.out];exact fV) ⟨rfl,sb⟩
def mC(d bl n:Nat)(vw:Θ)(x:DS)(i:Nat)(w:Φ)(h:bM w d bl n vw x)(a:i<aH n):
  Calls prog 82 #[.pointer (some ⟨d,0,none⟩),.int .i64 i] w λe w'=>e=.returned (.agg (byteCells (cN x i)).toArray)/\aG [] w w':=sP (Ii h) i w h a
def Sl.aag{x:DS}(R:Sl D d n x)(i:Nat)(a:i<aH n):(cN x i).length=128:=by
 have:2*i+2<n:=by unfold aH at a;have:=R.lo;omega
 have h1:(x.sec (1+2*i)).length=64:=R.len _ ϖ;have h2:(x.sec (2+2*i)).length=64:=R.len _ ϖ;simp[cN,h1,h2]
def aj(l:ϑ):Ξ:=⟨l.toArray⟩
def fC(r:ϑ)(i:Nat):Nat:=(r.getD i 0).toNat
def sw(r:ϑ)(i:Nat):fC r i<256:=(r.getD i 0).toNat_lt
def fJ(r:ϑ):Nat:=(fC r 0)
def dA(r:ϑ):List η:=(r.drop 3).take (min (fC r 1) 8)
def bQ(r:ϑ):List η:=(r.drop 11).take (min (fC r 2) 96)
def cA(s:Int)(p c:ϑ):List Θ:=[.int .i64 s,.string (aj p),.string (aj c)]
def wF(h:Row w b (byteCells r).toArray t)(j:Nat)(a:j<r.length):w.cell? ⟨b,j,none⟩=some (.int .u8 (fC r j)):=by
 rw[h.cell];simp[byteCells,fC,al8,a]
section
variable {P:aa1}{w:Φ}{o:Oper}{ρ:ac4->Θ}
def z7(src a e:θ)(x:ac4)(g:o.op=.convert src a x)(hs:P.underlying src=some (.slice e))(k:P.underlying e=some (.int .u8))(hd:P.underlying a=some .string)(b off n c:Nat)(i:ρ x=.slice (some ⟨b,off,none⟩) n c)(r:ϑ)(t:θ)(hr:Row w b (byteCells r).toArray t)(l:ϑ)(m:(r.drop off).take n=l)(h:l.length=n):
  (execOp ρ o).run P w=.ok (.value (.string (aj l))) w:=by
 have d:∀j v,((byteCells r).drop off|>.take n)[j]?=some v->w.cell? ⟨b,off+j,none⟩=some v:=λj v hv=>by rw[hr.cell];rw[ai9]at hv;split at hv;simpa[aj1] using hv;cases hv
 rw[fB,fA,m]at d;subst h;have:=run_convert_bytes_back (P:=P) w src a e ⟨b,off,none⟩ c l hs k hd (λj f=>by rw[Addr.add_mid];exact d j _ (by simp[byteCells,f]))
 simp only[execOp,g,i,run_bind,this];rfl
end
section
variable {P:aa1}{w:Φ}{o:Oper}{ρ:ac4->Θ}
def QV(t:θ)(x y:ac4)(d:o.op=.store t x y)(a:Θ)(c:ρ x=a)(b:Θ)(e:ρ y=b)(w1:Φ)(h:(Instr.storeAt t a b).run P w=.ok () w1):(execOp ρ o).run P w=.ok .skip w1:=by
 simp only[execOp,d,c,e,run_bind,h,Result.andThen_ok];rfl
end
def eS:(prog.info? 107).map (·.size)=some 3:=ϰ
def kV:(prog.underlying 107).map TypeDesc.isRow=some true:=ϰ
def yw:Θ:=.agg (cA 0 [] []).toArray
def lY:(prog.info? 107).map (·.zero)=some (some yw):=ϰ
def Jk(s:Int)(p:Ξ):prog.built 103 [(0,.int .i64 s),(1,.string p)]=some #[.int .i64 s,.string p]:=ϰ
def Jl(s:Int)(p c:Ξ):prog.built 107 [(0,.agg #[.int .i64 s,.string p]),(1,.string c)]=some #[.int .i64 s,.string p,.string c]:=ϰ
def pM(r:ϑ)(w:Φ)(hr:r.length=128):
  Calls prog 81 #[.agg (byteCells r).toArray] w λe w'=>e=.returned (.agg (cA (fJ r) (dA r) (bQ r)).toArray)/\aG [] w w':=by
 go_enter func81,ntmps81;go_wp2_with (with_reducible refine bv rfl ?_);refine eZ rfl 138 _ rfl (.agg (byteCells r).toArray) rfl ?_;intro w1 b1 l1 f1 q;go_wp2_with (with_reducible refine au rfl ?_);refine br rfl 107 rfl yw lY ?_;intro l b2 l2 f2 r2;have q1:Row l b1 (byteCells r).toArray 138:=f2.row q;have u:=f1.trans f2;have t:w.heap.size<=b2:=by have:=f1.size;omega
 have B:b1≠b2:=by have:=q.lt;omega
 have c1:=wF q1 1 ϖ;have c2:=wF q1 2 ϖ;obtain⟨pl,d⟩:∃pl,min (fC r 1) 8=pl:=⟨_,rfl⟩
 obtain⟨cl,b⟩:∃cl,min (fC r 2) 96=cl:=⟨_,rfl⟩
 have D:pl<=8:=ϖ;have z:cl<=96:=ϖ;have HR:Hid (r.length=128):=hr;have m:=d;have i:=b;have A:Hid (min (fC r 1) 8=pl):=d;have y:Hid (min (fC r 2) 96=cl):=b;have p:((fC r 1):Int)<=255:=by have:=sw r 1;omega
 have s:((fC r 2):Int)<=255:=by have:=sw r 2;omega
 generalize (fC r 1)=n1 at c1 d A p;generalize (fC r 2)=C at c2 b y s;clear hr q f1 f2;clear d b;have k:Lets (λw':Φ=>Row w' b1 (byteCells r).toArray 138):=⟨λw o h=>(aG.alloc [] w o).row h,λw h=>h⟩
 by_cases h1:(n1:Int)<=8<;>by_cases h2:(C:Int)<=96
 all_goals
  go_wp2_with fail;have d:=A.out;have b:=y.out;have hr:=HR.out;refine ej 12 rfl ?_;have n:aG [] l l.drew:=aG.drew ..;have c:=n.row q1;have f:=n.row r2;have x:=u.trans n;generalize l.drew=j at c f x;refine cE 0 (some 15) rfl rfl (λ_ _ _ h=>h) rfl (v:=.pointer (some ⟨b1,0,none⟩)) (λ_=>by go_simp) ?_;refine nO 1 _ k c (some 16) rfl rfl (λ_ _ _ h=>h) rfl (v:=.int .u8 (fC r 0)) (λw' a=>by have:=wF a 0 ϖ;go_simp) ?_;have E:((fC r 0):Int)<=255:=by have:=sw r 0;omega
  refine cE 2 (some 17) rfl rfl (λ_ _ _ h=>h) rfl (v:=.int .i64 (fC r 0)) (λ_=>by go_simp;try exact IntWalk.i64_in _ ϖ) ?_;simp only[puts];refine cE 3 (some 18) rfl rfl (λ_ _ _ h=>h) rfl (λ_=>rfl) ?_;refine cE 4 (some 19) rfl rfl (λ_ _ _ h=>h) rfl (v:=.slice (some ⟨b1,3,none⟩) pl 125) (λ_=>lE 138 5 128 _ _ _ rfl underlying138 ϰ b1 0 rfl 3 _ rfl rfl ϖ ϖ ϖ ϖ _ _ _ ϖ ϖ ϖ) ?_;refine nO 5 _ k c (some 20) rfl rfl (λ_ _ _ h=>h) rfl (v:=.string (aj (dA r))) (λw' a=>z7 85 9 5 _ rfl underlying85 underlying5 underlying9 b1 3 pl 125 rfl r _ a (dA r) ?_ ?_) ?_;unfold dA;rw[m];unfold dA;rw[ac8,am1];omega;simp only[puts];refine cE 6 (some 21) rfl rfl (λ_ _ _ h=>h) rfl (v:=.agg #[.int .i64 (fC r 0),.string (aj (dA r))]) (λw'=>jd _ _ rfl _ (Jk ..)) ?_;refine cE 7 (some 22) rfl rfl (λ_ _ _ h=>h) rfl (λ_=>rfl) ?_;refine cE 8 (some 23) rfl rfl (λ_ _ _ h=>h) rfl (v:=.slice (some ⟨b1,11,none⟩) cl 117) (λ_=>lE 138 5 128 _ _ _ rfl underlying138 ϰ b1 0 rfl 11 _ rfl rfl ϖ ϖ ϖ ϖ _ _ _ ϖ ϖ ϖ) ?_;refine nO 9 _ k c (some 24) rfl rfl (λ_ _ _ h=>h) rfl (v:=.string (aj (bQ r))) (λw' a=>z7 85 9 5 _ rfl underlying85 underlying5 underlying9 b1 11 cl 117 rfl r _ a (bQ r) ?_ ?_) ?_;unfold bQ;rw[i];unfold bQ;rw[ac8,am1];omega;simp only[puts];refine cE 10 (some 25) rfl rfl (λ_ _ _ h=>h) rfl (v:=.agg (cA (fJ r) (dA r) (bQ r)).toArray) (λw'=>jd _ _ rfl _ (Jl ..)) ?_;refine KE 11 ϖ none rfl rfl ϰ rfl (j.setRow b2 (cA (fJ r) (dA r) (bQ r)).toArray) ?_ ?_;have:=lB (P:=prog) (w:=j) 107 b2 0 (cA (fJ r) (dA r) (bQ r)).toArray 3 eS rfl (by simp[cA,Value.oneCell']) _ _ f (by decide);rw[bV _ _ (by rfl)]at this;exact QV _ _ _ rfl _ rfl _ rfl _ this;refine nQ ?_;have g:=f.setRow (cA (fJ r) (dA r) (bQ r)).toArray;have fn:aG [] w (j.setRow b2 (cA (fJ r) (dA r) (bQ r)).toArray):=x.trans (aG.setRow [b2] _ _ _ ϛ) (by simpa using t);generalize j.setRow b2 (cA (fJ r) (dA r) (bQ r)).toArray=F at g fn;simp only[Act.put];clear k c f x
  go_wp2;exact nB rfl b2 rfl rfl _ _ g kV eS ⟨rfl,fn⟩
end
section
open Go.RowKit
section
variable {P:aa1}{ops:Array Oper}{Q:Act->Prop}{C:Φ->Prop}{a:Act}{rest:List Oper}{o:Oper}
def bW(hg:o.guard=none)(b:Ϟ)(hd:o.dst=b)(v:Θ)(hr:∀w',C w'->(execOp a.eval o).run P w'=.ok (.value v) w')(h:wpQuiet P ops C Q rest (a.put b v)):wpQuiet P ops C Q (o::rest) a:=by
 subst hd;unfold wpQuiet;rw[κ (by simp[wanted,hg])];refine⟨v,λw' c=>?_,h⟩;unfold Oper.quietAt;rw[hr w' c];exact⟨rfl,rfl⟩
def mg(hg:o.guard=none)(c:Ϟ)(hd:o.dst=c)(f:ac5)(args:ϐ)(v:Θ)(hr:∀w',C w'->(execOp a.eval o).run P w'=.ok (.enter f args) w')(g:∀w',C w'->Calls P f args w' λe d=>e=.returned v/\C d)(h:wpQuiet P ops C Q rest (a.put c v)):wpQuiet P ops C Q (o::rest) a:=by
 subst hd;unfold wpQuiet;rw[κ (by simp[wanted,hg])];refine⟨v,λw' b=>?_,h⟩;unfold Oper.quietAt;rw[hr w' b];exact⟨rfl,g w' b⟩
def kF{id:Nat}{Q:ϔ}(h:wpQuiet P ops (λw'=>aG [] w w') (λa'=>∀w',aG [] w w'->Q .normal a' w') ops.toList a)(hm:P.follows .mixedOrders=true:=by kernel_rfl)(b:Region.lexB .any ops=true:=by kernel_rfl):(Code.region id ops true).wp P Q a w:=
 wp_region_quiet (C:=λw'=>aG [] w w') hm b (aG.drew [] w) h
end
end
section
open Go.RowKit Go.Lib
def dN:(prog.info? 103).map (·.size)=some 2:=ϰ
def eW:(prog.underlying 103).map TypeDesc.isRow=some true:=ϰ
def dJ(s:Int)(p:Ξ):Array Θ:=#[.int .i64 s,.string p]
def Gx(s t:Int)(p q:Ξ)(w:Φ):(binOp .eql 103 (.agg #[.int .i64 s,.string p]) (.agg #[.int .i64 t,.string q])).run prog w=.ok (.bool (s==t&&p==q)) w:=by
 go_simp;rw[beq_toListBytes];by_cases h1:s=t<;>by_cases h2:p.toList=q.toList<;>simp[h1,h2]
def named(x:DS)(s:Int)(p:Ξ)(i:Nat):Bool:=((fJ (cN x i):Int)==s)&&aj (dA (cN x i))==p
def dl(x:DS)(s:Int)(p:Ξ):List Nat->Int
 |[]=>-1
 |i::r=>if named x s p i then i else dl x s p r
section
variable {P:aa1}{w:Φ}{o:Oper}{ρ:ac4->Θ}
def Gv(t:θ)(x:ac4)(f:Nat)(c:o.op=.field t x f)(a:Θ)(b:ρ x=a)(v:Θ)(h:(Instr.field t a f).run P w=.ok v w):(execOp ρ o).run P w=.ok (.value v) w:=by
 simp only[execOp,c,b,run_bind,h,Result.andThen_ok];rfl
def wu(c:BinOp)(t u:θ)(x y:ac4)(e:o.op=.binOp c t x y u)(a b:Θ)(d:ρ x=a)(f:ρ y=b)(v:Θ)(hg:(eqGuard c t x y a b).run P w=.ok () w)(h:(binOp c t a b).run P w=.ok v w):(execOp ρ o).run P w=.ok (.value v) w:=by
 simp only[execOp,e,d,f,run_bind,hg,h,Result.andThen_ok];rfl
end
def I2(a b c:Θ)(w:Φ):(Instr.field 107 (.agg #[a,b,c]) 0).run prog w=.ok (.agg #[a,b]) w:=ϰ
def Bc(a b c:Θ)(w:Φ):(Instr.field 107 (.agg #[a,b,c]) 1).run prog w=.ok c w:=ϰ
def zT(c:BinOp)(x y:ac4)(a b:ϐ)(w:Φ):(eqGuard c 103 x y (.agg a) (.agg b)).run prog w=.ok () w:=by
 cases c<;>kernel_rfl
def EG(x:DS)(s:Int)(p:Ξ)(l:ϓ)(k:Nat)(hk:k<l.length)(h:named x s p l[k]=false):dl x s p (l.drop k)=dl x s p (l.drop (k+1)):=by
 rw[ac7 hk,dl,Γ (by simp[h])]
def La(x:DS)(s:Int)(p:Ξ)(l:ϓ)(k:Nat)(hk:k<l.length)(h:named x s p l[k]=true):dl x s p (l.drop k)=l[k]:=by
 rw[ac7 hk,dl,κ h]
def oE(x:DS)(n i:Nat)(h:i∈taken x n):i<aH n:=by
 simp only[taken,jF,ai3,ah9]at h;exact h.1
def fM(x:DS)(n:Nat):(taken x n).length<=54:=by
 have:=qm (x.read 0) (aH n);have:aH n<=54:=by unfold aH;omega
 unfold taken;omega
def pC{x:DS}(h:bM w d bl n vw x)(i:Nat)(a:i<aH n):(cN x i).length=128:=by
 have:2*i+2<n:=by unfold aH at a;have:=h.lo;omega
 simp[cN,zE h (1+2*i) ϖ,zE h (2+2*i) ϖ]
def tA(d bl n:Nat)(vw:Θ)(x:DS)(s:Int)(p:Ξ)(w:Φ)(h:bM w d bl n vw x):
  Calls prog 80 #[.pointer (some ⟨d,0,none⟩),.agg (dJ s p)] w λe w'=>e=.returned (.int .i64 (dl x s p (taken x n)))/\aG [] w w':=by
 go_enter func80,ntmps80;go_wp2_with (with_reducible refine bv rfl ?_);refine eZ rfl 103 _ rfl (.agg (dJ s p)) rfl ?_;intro w1 P U f1 r3;have h1:=h.new f1;go_wp2_with fail;refine(jG d bl n vw x w1 h1).mono ?_;rintro e R⟨v,rfl,hv,f2⟩;have I:=f2.row r3;have o:=f1.trans f2;have h2:=h.new o;have O:=fM x n;have⟨ad,cap,J⟩:=aY hv;subst J;clear h1 f1 f2 r3;go_wp2_with fail;have Q:Hid (∀i∈taken x n,i<aH n):=λi t=>oE x n i t
 generalize j:taken x n=a at*;have K:Hid (taken x n=a):=j;clear j
 go_loopw [10] (λc wr=>∃k:Nat,c=.int .i64 k/\k<=a.length/\aG [] R wr/\Hid (dl x s p a=dl x s p (a.drop k))) λc _=>a.length-(intOf c).toNat
 case atStart=>exact⟨0,rfl,ϖ,aG.refl ..,rfl⟩
 case round=>
  obtain⟨k,rfl,hk,q,C⟩:=hrel;have hd:=h2.new q;have m:=q.owns hv;have H:=q.row I;by_cases l:k<a.length
  .obtain⟨g,F,rfl,hg,N,_,G,j⟩:=cO m;have t:a[k]<aH n:=Q.out _ (ag5 l);have A:wr.cell? ⟨g,k,none⟩=some (.int .i64 (a[k]:Nat)):=by
    rw[hg.cell,<-ai8];have:(F.toList.take (a.length*1))[k]?=(gh a)[k]?:=by rw[j]
    rw[ak2 ϖ]at this;rw[this];simp[gh,l]
   have u:=pC hd a[k] t;generalize z:a[k]=i at t A u;have M:Hid (a[k]=i):=z;clear z;clear G j;go_wp2_with fail;refine kF ?_;refine bW rfl (some 14) rfl _ (λ_ _=>rfl) ?_;refine bW rfl (some 15) rfl _ (λ_ _=>rfl) ?_;simp only[puts];refine mg rfl (some 16) rfl 82 #[.pointer (some ⟨d,0,none⟩),.int .i64 i] (.agg (byteCells (cN x i)).toArray) (λ_ _=>by go_simp) (λw' b=>?_) ?_;refine(mC d bl n vw x i w' (hd.new b) t).mono ?_;rintro e D⟨rfl,f⟩;exact⟨rfl,b.trans f⟩;refine mg rfl (some 17) rfl 81 #[.agg (byteCells (cN x i)).toArray] (.agg (cA (fJ (cN x i)) (dA (cN x i)) (bQ (cN x i))).toArray) (λ_ _=>by go_simp) (λw' b=>?_) ?_;refine(pM (cN x i) w' u).mono ?_;rintro e D⟨rfl,f⟩;exact⟨rfl,b.trans f⟩;simp only[puts];refine bW rfl (some 18) rfl (.agg (dJ (fJ (cN x i)) (aj (dA (cN x i))))) (λw' _=>?_) ?_;exact Gv _ _ _ rfl _ rfl _ (I2 ..);refine bW rfl (some 19) rfl (.agg (dJ s p)) (λw' b=>jV 103 _ rfl P 0 rfl eW 2 dN _ _ (b.row H) [.int .i64 s,.string p] rfl rfl) ?_;simp only[puts];refine bW rfl (some 20) rfl (.bool (named x s p i)) (λw' _=>?_) ?_;exact wu _ _ _ _ _ rfl _ _ rfl rfl _ (zT ..) (Gx ..);simp only[puts];intro T E;have L:=q.trans E;have S:=o.trans L;by_cases y:named x s p i=true
   .have B:Hid (named x s p i=true):=y;rw[y];clear y hd m H hg A q E;go_wp2;go_ret;refine⟨rS ?_,S⟩;rw[show taken x n=a from K.out,C.out];have:=M.out;rw[La _ _ _ _ _ l (by rw[this];exact B.out),this]
   .have r:named x s p i=false:=by simpa using y
    have B:Hid (named x s p i=false):=r;rw[r];clear y r hd m H hg A q E;go_wp2
    go_roundw
    case rel=>
     refine⟨k+1,by go_num,ϖ,L,?_⟩;show _=_;have:=M.out;rw[C.out,EG _ _ _ _ _ l (by rw[this];exact B.out)]
    case measure=>simp[intOf];omega
  .have HK:Hid (k=a.length):=(by omega:k=a.length)
   go_wp2;go_ret;refine⟨rS ?_,o.trans q⟩;rw[show taken x n=a from K.out,C.out,HK.out,List.drop_length];rfl
def DS.content(x:DS)(n:Nat)(s:Int)(p:Ξ):Option (List η):=
 match dl x s p (taken x n)with
 |.ofNat i=>some (bQ (cN x i))
 |.negSucc _=>none
def pj(x:DS)(s:Int)(p:Ξ):∀(l:ϓ),dl x s p l=-1\/∃i∈l,dl x s p l=(i:Nat)/\named x s p i=true
 |[]=>.inl rfl
 |i::r=>by unfold dl;by_cases h:named x s p i=true;exact .inr ⟨i,ϛ,by simp[h],h⟩;rw[Γ h];obtain b|⟨j,a,h1,h2⟩:=pj x s p r;exact .inl b;exact .inr ⟨j,by simp[a],h1,h2⟩
def qW(d bl n:Nat)(vw:Θ)(x:DS)(s:Int)(p:Ξ)(w:Φ)(h:bM w d bl n vw x):
  Calls prog 50 #[.pointer (some ⟨d,0,none⟩),.agg (dJ s p)] w λe w'=>
   e=.returned (.tuple #[.string (aj ((x.content n s p).getD [])),.bool (x.content n s p).isSome])/\aG [] w w':=by
 go_enter func50,ntmps50;go_wp2_with (with_reducible refine bv rfl ?_);refine eZ rfl 103 _ rfl (.agg (dJ s p)) rfl ?_;intro w1 r u f1 r3;have h1:=h.new f1;go_wp2_with (with_reducible refine ax 103 rfl ?_);refine bT rfl 103 _ rfl r 0 rfl eW 2 dN _ _ r3 [.int .i64 s,.string p] rfl rfl ?_;go_wp2_with fail;refine(tA d bl n vw x s p w1 h1).mono ?_;rintro e q⟨rfl,f2⟩;have h2:=h1.new f2;have g:=f1.trans f2;clear h1 f1 f2 r3;obtain hs|⟨i,f,hs,_⟩:=pj x s p (taken x n)
 .have b:Hid (x.content n s p=none):=by show _=_;unfold DS.content;rw[hs];rfl
  rw[hs];clear hs;go_wp2
  go_ret2
  refine⟨?_,g⟩;rw[b.out];rfl
 .have b:Hid (x.content n s p=some (bQ (cN x i))):=by show _=_;unfold DS.content;rw[hs]
  have a:=oE x n i f;have c:=pC h2 i a;rw[hs];clear hs f;have m:((i:Int)==-1)=false:=by rw[ae9];omega
  go_wp2_with fail;refine(mC d bl n vw x i q h2 a).mono ?_;rintro e l⟨rfl,o⟩;go_wp2_with fail;refine(pM (cN x i) l c).mono ?_;rintro e t⟨rfl,k⟩;have j:=(g.trans o).trans k;go_wp2_with (with_reducible refine Hg rfl ?_);refine bX rfl _ _ (Gv _ _ _ rfl _ rfl _ (Bc ..)) ?_;go_wp2
  go_ret2
  refine⟨?_,j⟩;rw[b.out];rfl
structure dk where
 set:Nat
 path:List η
 content:List η
def fileAt(x:DS)(i:Nat):dk:=⟨fJ (cN x i),dA (cN x i),bQ (cN x i)⟩
def aS(x:DS)(n:Nat):List dk:=(taken x n).map (fileAt x)
def jc(l:List dk):List Θ:=l.flatMap λf=>cA f.set f.path f.content
def DA(l:List dk):(jc l).length=l.length*3:=by
 induction l with|nil=>rfl|cons f r a=>simp only[jc,ϐ6,af0,ϲ,cA]at a⊢;rw[a];simp;omega
def vi(a b:List dk):jc (a++b)=jc a++jc b:=by simp[jc]
def sj:Elem prog 104 107 3 40:=⟨underlying104,ϰ,ϖ⟩
def RM{x:DS}(R:Sl D d n x)(w:Φ)(h:D w):
  Calls prog 51 #[.pointer (some ⟨d,0,none⟩)] w λe w'=>∃v,e=.returned v/\w'.ownsRow w.heap.size 107 3 v (aS x n).length (jc (aS x n))/\aG [] w w':=by
 go_enter func51,ntmps51;go_wp2_with fail;refine(sJ R w h).mono ?_;rintro e z⟨v,rfl,hv,f2⟩;have h2:=R.new h f2 ϛ;have T:=fM x n;have⟨ad,cap,H⟩:=aY hv;subst H;go_wp2_with fail;have Y:Hid (∀i∈taken x n,i<aH n):=λi o=>oE x n i o
 generalize f:taken x n=a at*;have P:Hid (taken x n=a):=f;clear f;have M:=f2.size
 go_loopw [3,9] (λu c wr=>∃k:Nat,c=.int .i64 k/\k<=a.length/\aG [] z wr/\wr.ownsRow z.heap.size 107 3 u k (jc ((a.take k).map (fileAt x)))) λ_ c _=>a.length-(intOf c).toNat
 case atStart=>exact⟨0,rfl,ϖ,aG.refl ..,World.ownsRow_nil ..⟩
 case round=>
  obtain⟨k,rfl,hk,q,A⟩:=hrel;have hd:=R.new h2 q ϛ;have p:=q.owns hv;by_cases m:k<a.length
  .obtain⟨g,l,rfl,hg,S,_,C,f⟩:=cO p;have o:a[k]<aH n:=Y.out _ (ag5 m);have K:wr.cell? ⟨g,k,none⟩=some (.int .i64 (a[k]:Nat)):=by
    rw[hg.cell,<-ai8];have:(l.toList.take (a.length*1))[k]?=(gh a)[k]?:=by rw[f]
    rw[ak2 ϖ]at this;rw[this];simp[gh,m]
   have r:=R.aag a[k] o;generalize t:a[k]=i at o K r;have V:Hid (a[k]=i):=t;clear t C f;go_wp2_with fail;refine(sP R i wr hd o).mono ?_;rintro e W⟨rfl,F⟩;go_wp2_with fail;refine(pM (cN x i) W r).mono ?_;rintro e w4⟨rfl,I⟩;have s:=I.owns (F.owns A ϛ);have G:=(q.trans F).trans I;clear A q hd p hg K F I;go_wp2_with (with_reducible refine aQ rfl ?_);refine dj rfl 104 107 3 40 sj _ rfl (.agg (cA (fJ (cN x i)) (dA (cN x i)) (bQ (cN x i))).toArray) rfl rfl ?_;intro U Z Q y r5;go_wp2_with (with_reducible first|refine aQ rfl ?_|refine aM rfl ?_);have E:=y.owns s;have b:z.heap.size<=U.heap.size:=by have:=G.size;have:=y.size;omega
   refine dG rfl 104 107 3 40 sj _ _ rfl z.heap.size u3 _ _ rfl E Z 1 1 (cA (fJ (cN x i)) (dA (cN x i)) (bQ (cN x i))) rfl _ _ r5 rfl rfl (by simp[cA,Value.oneCell']) ϖ ϖ ϖ b ?_;intro g' L w6 O N B;have X:=(G.trans y).trans N (by intro j J;right;simp at J;exact(E.lt j J).1);clear s E r5 y N B Q G b;go_wp2
   go_roundw
   case rel=>
    refine⟨k+1,by go_num,ϖ,X,?_⟩;rw[ac0 m,ϒ2,vi,show a[k]=i from V.out];simpa[jc,fileAt] using O
   case measure=>simp[intOf];omega
  .have HK:Hid (k=a.length):=(by omega:k=a.length)
   go_wp2;go_ret;refine⟨_,rfl,?_,f2.trans q⟩;have:=HK.out;subst this;have e:aS x n=(a.take a.length).map (fileAt x):=by unfold aS;rw[show taken x n=a from P.out,ν (ε _)]
   rw[e];have⟨o1,o2⟩:=A;refine⟨by simpa using DA ((a.take a.length).map (fileAt x)),?_⟩;obtain⟨e1,e2⟩|⟨g,cap,l,e1,e2,e3⟩:=o2;exact .inl ⟨e1,by simpa using e2⟩;exact .inr ⟨g,cap,l,by simpa using e1,ϖ,by simpa using e3⟩
def yq(d bl n:Nat)(vw:Θ)(x:DS)(w:Φ)(h:bM w d bl n vw x):
  Calls prog 51 #[.pointer (some ⟨d,0,none⟩)] w λe w'=>∃v,e=.returned v/\w'.ownsRow w.heap.size 107 3 v (aS x n).length (jc (aS x n))/\aG [] w w':=RM (Ii h) w h
structure ig (w:Φ)(d bl n:Nat)(vw:Θ)(x:DS):Prop where
 row:∃f,w.heap[d]?=some (.cells (jt bl n vw x) 134 f)
 last:∃f,w.heap[bl]?=some (.cells (byteCells x.bg).toArray 148 f)
 len:x.bg.length=64*n
 lo:16<=n
 hi:n<=400
 nil:vw=.slice none 0 0
 none:x.waiting=[]
 vw:∃ad cap,vw=.slice ad x.waiting.length cap
def ig.eO{x:DS}(h:ig w d bl n vw x):∀p∈x.waiting,p.2.length=64:=by rw[h.none];simp
def ig.dlt{x:DS}(h:ig w d bl n vw x):d<w.heap.size:=let⟨_,h⟩:=h.row;(Ψ.1 h).1
def ig.llt{x:DS}(h:ig w d bl n vw x):bl<w.heap.size:=let⟨_,h⟩:=h.last;(Ψ.1 h).1
def ig.new{w w':Φ}{S:ϓ}{d bl n:Nat}{vw:Θ}{x:DS}(h:ig w d bl n vw x)(f:aG S w w')(a:∀k∈S,w.heap.size<=k:=by simp):ig w' d bl n vw x:=by
 have l1:=h.dlt;have l2:=h.llt;have⟨f1,h1⟩:=h.row;have⟨f2,h2⟩:=h.last;exact⟨⟨f1,by rw[f.block d l1 λhd=>by have:=a _ hd;omega];exact h1⟩,⟨f2,by rw[f.block bl l2 λhd=>by have:=a _ hd;omega];exact h2⟩,h.len,h.lo,h.hi,h.nil,h.none,h.vw⟩
def Ae{x:DS}(h:ig w d bl n vw x):
  w.cell? ⟨d,0,none⟩=some (.slice (some ⟨bl,0,none⟩) n n)/\w.cell? ⟨d,1,none⟩=some vw/\w.cell? ⟨d,2,none⟩=some (.int .i64 x.acts)/\w.cell? ⟨d,3,none⟩=some (.bool x.given)/\
  w.cell? ⟨d,4,none⟩=some (.int .i64 x.left)/\w.cell? ⟨d,5,none⟩=some (.int .i64 x.keep)/\w.cell? ⟨d,6,none⟩=some (.bool x.failed):=by
 have⟨f,h⟩:=h.row;refine⟨?_,?_,?_,?_,?_,?_,?_⟩<;>rw[cell_of_row w d _ _ _ f h]<;>rfl
section
variable {P:aa1}{ops:Array Oper}{Q:Exit->Act->Φ->Prop}{o:Oper}{rest:List Oper}{a:Act}{w:Φ}
def NV(hg:o.guard=none)(t:θ)(x:ac4)(l:o.op=.load t x)(b off:Nat)(m:a.eval x=.pointer (some ⟨b,off,none⟩))(i:(P.underlying t).map TypeDesc.isRow=some true)(n:Nat)(k:(P.info? t).map (·.size)=some n)(c:ϐ)(u:θ)(hr:∃f,w.heap[b]?=some (.cells c u f))(vs:ϝ)(hv:(c.toList.drop off).take n=vs)(p:vs.length=n)(h:wpList P ops Q rest (a.put o.dst (.agg vs.toArray)) w):wpList P ops Q (o::rest) a w:=by
 have⟨d,g,hd⟩:=ψ.1 i;have⟨f,hr⟩:=hr;refine wpList_load_mid hg t x l b off m vs d (λj v e=>?_) g hd (by rw[k,p]) h;rw[cell_of_row w b _ _ _ f hr];subst hv;rw[ai9]at e;split at e;simpa[aj1] using e;cases e
end
def Ts(d bl n:Nat)(vw:Θ)(x:DS)(s:Int)(w:Φ)(h:ig w d bl n vw x)(hs:0<=s)(F:s<n):
  Calls prog 114 #[.pointer (some ⟨d,0,none⟩),.int .i64 s] w λe w'=>e=.returned (.agg (byteCells (x.read s)).toArray)/\aG [] w w':=by
 have dlt:=h.dlt;have llt:=h.llt;have⟨ad,cap,g⟩:=h.vw;have a:64*s.toNat+64<=x.bg.length:=by rw[h.len];omega
 subst g;go_enter func114,ntmps114;go_wp2_with (with_reducible refine au rfl ?_);refine br rfl 148 rfl fI ed ?_;intro w1 j E f1 r4;have h1:=h.new f1;obtain⟨c0,c1,-⟩:=Ae h1;go_wp2_with (with_reducible first|refine au rfl ?_|refine ax 148 rfl ?_|refine ax 240 rfl ?_|refine ah 148 rfl ?_|refine ah 240 rfl ?_);refine NV rfl 148 _ rfl bl (s.toNat*64) rfl dX 64 bI _ _ h1.last (byteCells (seenIn x.bg [] s)) ?_ ?_ ?_;simp[seenIn,fB,fA,Nat.mul_comm];rw[ae];exact bH _ _ a _ ϛ;go_wp2_with (with_reducible refine au rfl ?_);refine br rfl 148 rfl fI ed ?_;intro H f D f2 r5;go_wp2_with (with_reducible refine ah 148 rfl ?_);refine cu rfl 148 _ _ rfl _ 0 rfl _ rfl 64 bI ?_ ?_ _ _ r5 ?_ ?_;simp only[ab9,ae];exact bH _ _ a _ ϛ;exact byteCells_one _;decide;intro v p r5;have o:=p.row (f2.row r4) (by have:=r4.lt;simp;omega);have b:aG [] w v:=(f1.trans f2).trans p (by simp;have:=f1.size;omega);rw[bV _ _ (by rw[ae,bH _ _ a _ ϛ];rfl)]at r5;have l:=h.new b;clear c0 c1 h1;obtain⟨c0,c1,-⟩:=Ae l;go_wp2_with (with_reducible first|refine au rfl ?_|refine ax 148 rfl ?_|refine ax 240 rfl ?_|refine ah 148 rfl ?_|refine ah 240 rfl ?_);have z:j≠f:=by have:=r4.lt;omega
 have A:w.heap.size<=f:=by have:=f1.size;omega
 go_loopw [20] (λi wr=>∃k:Nat,i=.int .i64 k/\k<=x.waiting.length/\aG [] w wr/\Row wr j fI.cells 148/\
  Row wr f (byteCells (seenIn x.bg (x.waiting.take k) s)).toArray 148) λi _=>x.waiting.length-(intOf i).toNat
 case atStart=>exact⟨0,rfl,ϖ,b,o,r5⟩
 case round=>
  obtain⟨k,rfl,hk,y,q,u⟩:=hrel;clear c0 c1 l b o;have G:x.waiting.length<=60:=by rw[h.none];simp
  have B:¬k<x.waiting.length:=by rw[h.none];simp
  have c:k=x.waiting.length:=ϖ;have HK:Hid (k=x.waiting.length):=c;clear c;go_wp2_with (with_reducible refine ax 148 rfl ?_);refine bT rfl 148 _ rfl f 0 rfl dX 64 bI _ _ u (byteCells (x.read s)) ?_ ?_ ?_;simp only[ϳ];rw[HK.out,ν (ε _),ν (by rw[ae,bH _ _ a _ h.eO];omega)];rfl;rw[ae];exact bH _ _ a _ h.eO;go_wp2_with (with_reducible refine ah 148 rfl ?_);refine cu rfl 148 _ _ rfl _ 0 rfl _ rfl 64 bI ?_ ?_ _ _ q ?_ ?_;simp only[ab9,ae];exact bH _ _ a _ h.eO;exact byteCells_one _;decide;intro t C m;rw[bV _ _ (by simp only[ae];rw[show(x.read s).length=64 from bH _ _ a _ h.eO];rfl)]at m;have r:aG [] w t:=y.trans C (by simp;omega);go_wp2_with (with_reducible first|refine au rfl ?_|refine ax 148 rfl ?_|refine ax 240 rfl ?_|refine ah 148 rfl ?_|refine ah 240 rfl ?_);exact nB rfl j rfl rfl _ _ m dX (by simp only[ab9,ae];rw[show(x.read s).length=64 from bH _ _ a _ h.eO];exact bI) ⟨rfl,r⟩
def Hy(d bl n:Nat)(vw:Θ)(x:DS)(w:Φ)(h:ig w d bl n vw x):
  Calls prog 117 #[.pointer (some ⟨d,0,none⟩)] w λe w'=>e=.returned (.int .i64 n)/\w'=w:=by
 have⟨c0,c1,c2,c,f,a,b⟩:=Ae h;go_enter func117,ntmps117;go_wp2;go_ret;exact⟨rfl,rfl⟩
def Zt{x:DS}(h:ig w0 d bl n vw x):Sl (λw=>ig w d bl n vw x) d n x:=
 ⟨h.lo,h.hi,λj b=>bH _ _ (by rw[h.len];simp;omega) _ h.eO,λh f a=>h.new f a,λs w h h0 h1=>Ts d bl n vw x s w h h0 h1,λw h=>Hy d bl n vw x w h⟩
def ce(w:Φ)(F:ϓ)(d n:Nat)(x:DS):Prop:=∃bl vw,bM w d bl n vw x/\F=d::bl::vw.ownBlock.toList
def ce.ky{w w':Φ}{F S:ϓ}{d n:Nat}{x:DS}(h:ce w F d n x)(f:aG S w w')(a:∀k∈S,k∉F):ce w' F d n x:=by
 obtain⟨bl,vw,h,rfl⟩:=h;refine⟨bl,vw,h.ky f (λe=>a _ e ϛ) (λe=>a _ e ϛ) λk hk e=>a k hk (by simp[e]),rfl⟩
def ce.lt{w:Φ}{F:ϓ}{d n:Nat}{x:DS}(h:ce w F d n x):∀k∈F,k<w.heap.size:=by
 obtain⟨bl,vw,h,rfl⟩:=h;intro k hk;simp only[ac2,Option.mem_toList]at hk;obtain rfl|rfl|hk:=hk;exact h.row.lt;exact h.last.lt;exact Ph h.own hk
def ce.new{w w':Φ}{F S:ϓ}{d n:Nat}{x:DS}(h:ce w F d n x)(f:aG S w w')(b:∀k∈S,w.heap.size<=k:=by simp):ce w' F d n x:=
 h.ky f λk hk a=>by have:=h.lt k a;have:=b k hk;omega
structure DS.Fit (x:DS)(room:Nat):Prop where
 mZ:0<=x.acts
 mY:x.acts+room<=1000000000
 mM:0<=x.left
 mL:x.left<=9223372036854775807
def DS.write(x:DS)(s:Int)(l:ϑ):DS:=if x.bL then{x.lG with waiting:=x.waiting++[(s,l)]} else x.stopped
def DS.flush(x:DS):DS:=if x.bL then{x.lG with bg:=kq x.bg x.waiting,waiting:=[]} else x.stopped
def du(b:Bool):Θ:=.int .i64 (if b then 0 else 3)
def cannot{x:DS}(h:x.bL=false):x.failed=true\/(x.failed=false/\x.given=true/\x.left=0):=by
 unfold DS.bL at h;cases hf:x.failed<;>simp_all
def dw(F a:ϓ)(w:Φ):Prop:=∀k∈a,k∈F\/w.heap.size<=k
def dw.refl(F:ϓ)(w:Φ):dw F F w:=λ_ h=>.inl h
def dw.trans{F G H:ϓ}(h:dw F G w)(k:dw G H w')(hs:w.heap.size<=w'.heap.size:=by simp):dw F H w:=λi a=>by
 obtain h1|h1:=k i a;exact h i h1;exact .inr ϖ
def wN{x:DS}(h:bM w d bl n vw x)(b:bM w' d bl n (.slice none 0 0) x.fall):∃a,ce w' a d n x.fall/\dw (d::bl::vw.ownBlock.toList) a w:=
 ⟨[d,bl],⟨bl,_,b,by simp[Value.ownBlock]⟩,λk hk=>.inl (by simp at hk;simp;obtain rfl|rfl:=hk<;>simp)⟩
def mi(F:ϓ)(d n:Nat)(x:DS)(s:Int)(l:ϑ)(w:Φ)(h:ce w F d n x)(i:x.Fit 1)(t:l.length=64)(q:x.waiting.length<60)(hs:0<=s:=by omega)(p:s<n:=by omega):
  Calls prog 148 #[.pointer (some ⟨d,0,none⟩),.int .i64 s,.agg (byteCells l).toArray] w λe w'=>e=.returned (du x.bL)/\∃g,ce w' g d n (x.write s l)/\aG F w w'/\dw F g w:=by
 obtain⟨bl,vw,h,rfl⟩:=h;cases b:x.bL with
 |true=>
  refine(KP d bl n vw x.lG w s l t hs p (by simpa[DS.lG] using q) h.row.lt λw1 f1=>FJ d bl n vw x w1 (h.new f1) b i.mM i.mL i.mZ (by have:=i.mY;omega)).mono ?_;rintro e w'⟨rfl,c,a,f,hv⟩;refine⟨by simp[du],d::bl::c.ownBlock.toList,⟨bl,c,by simpa[DS.write,b,DS.lG] using a,rfl⟩,f.mono λk hk=>.inl (by simp only[ac2]at hk⊢;obtain hk|hk:=hk;exact .inl hk;exact .inr (.inr hk)),?_⟩;intro k hk;simp only[ac2,Option.mem_toList]at hk⊢;obtain rfl|rfl|hk:=hk;exact .inl (.inl rfl);exact .inl (.inr (.inl rfl));obtain hv|⟨j,o,m⟩:=hv;exact .inl (.inr (.inr (by rw[<-hv];exact hk)));rw[o]at hk;obtain rfl:j=k:=by simpa using hk
  exact .inr m
 |false=>obtain hf|⟨hf,hg,h0⟩:=cannot b;refine(Ej d s l w (λw'=>bM w' d bl n vw x/\aG [] w w') λw1 f1=>?_).mono ?_;refine(zz d bl n vw x w1 (h.new f1) hf).mono ?_;rintro e w'⟨rfl,rfl⟩;exact⟨rfl,h.new f1,f1⟩;rintro e w'⟨rfl,a,f⟩;exact⟨by simp[du],_,⟨bl,vw,by simpa[DS.write,b,DS.stopped,hf] using a,rfl⟩,f.mono,dw.refl _ _⟩;refine(Ej d s l w (λw'=>bM w' d bl n (.slice none 0 0) x.fall/\aG [d,bl] w w') λw1 f1=>?_).mono ?_;refine(BU d bl n vw x w1 (h.new f1) hf hg h0).mono ?_;rintro e w'⟨rfl,a,f2⟩;exact⟨rfl,a,(f1.mono ϛ:aG [d,bl] w w1).trans f2⟩;rintro e w'⟨rfl,a,f⟩;have⟨g,r,o2⟩:=wN h a;exact⟨by simp[du],g,by simpa[DS.write,b,DS.stopped,hf] using r,f.mono,o2⟩
def mV(F:ϓ)(d n:Nat)(x:DS)(w:Φ)(h:ce w F d n x)(c:x.Fit 1):
  Calls prog 149 #[.pointer (some ⟨d,0,none⟩)] w λe w'=>e=.returned (du x.bL)/\∃b,ce w' b d n x.flush/\aG F w w'/\dw F b w:=by
 obtain⟨bl,vw,h,rfl⟩:=h;cases a:x.bL with
 |true=>refine(MH d bl n vw x.lG w (FJ d bl n vw x w h a c.mM c.mL c.mZ (by have:=c.mY;omega))).mono ?_;rintro e w'⟨rfl,g,f⟩;refine⟨by simp[du],[d,bl],⟨bl,_,by simpa[DS.flush,a,DS.lG] using g,by simp[Value.ownBlock]⟩,f.mono,?_⟩;intro k hk;simp at hk;obtain rfl|rfl:=hk<;>simp
 |false=>obtain hf|⟨hf,hg,h0⟩:=cannot a;refine(Gq d w (λw'=>w'=w) (zz d bl n vw x w h hf)).mono ?_;rintro e w'⟨rfl,rfl⟩;exact⟨by simp[du],_,⟨bl,vw,by simpa[DS.flush,a,DS.stopped,hf] using h,rfl⟩,aG.refl _ _,dw.refl _ _⟩;refine(Gq d w (λw'=>bM w' d bl n (.slice none 0 0) x.fall/\aG [d,bl] w w') (BU d bl n vw x w h hf hg h0)).mono ?_;rintro e w'⟨rfl,g,f⟩;have⟨b,i,o2⟩:=wN h g;exact⟨by simp[du],b,by simpa[DS.flush,a,DS.stopped,hf] using i,f.mono,o2⟩
end
end
end Go.Proofs.YtchcmhodnkgojaaGreat
