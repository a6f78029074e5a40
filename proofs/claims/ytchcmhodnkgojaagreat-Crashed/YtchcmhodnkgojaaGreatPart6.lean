/- On the way to the last text; put together and shortened by program. -/
import Derived.Conc.QuitsD
import Derived.Conc.ClockLaws
import Derived.Conc.AtomicLaws2
import Derived.Test.YtchcmhodnkgojaaGreatPart5
import Derived.Test.YtchcmhodnkgojaaGreatRows
import Derived.WalkKit
import Derived.WalkSpells
import Derived.WalkLawsBesides
import Derived.Deep.MidRow
import Derived.Laws.CopyOwn
import Derived.Laws.Rows
import Derived.Lib.UnsafeStr
import Derived.Deep.RegionHeld3
import Derived.Deep.AppendLies
import Derived.Orders
import Derived.Deep.RegionHeld
import Derived.Laws.IdiomStrings
import Derived.Deep.Quiet
set_option linter.all false
set_option maxRecDepth 100000
set_option maxHeartbeats 8000000
open Go.Proofs.Tryz
namespace Go.Proofs.YtchcmhodnkgojaaGreat
open Value (ren)
open Region (wanted)
open Region (ready)
open MemOp (ofEvents)
open Sem (run_bind)
open List (range)
open List (replicate)
noncomputable section
section
open Go.Conc
def O8 (
  P:ω)(g:Θ):Bool:=
 match g.frame.mode with
 |.run=>
  match g.frame.todo with
  |.inRegion ops (i::_)::_=>
   match ops[i]? with
   |none=>false
   |some o=>
    if wanted o (yielded ops g.frame.tmps) then
     match o.op with
     |.move _|.assign _|.pick .. |.unOp .. |.extract .. |.fieldAddr .. |.field .. |.makeFunc .. |.nilCheck _|.defer _=>true
     |.binOp a _ x y _=>match a,g.frame.eval x,g.frame.eval y with
      |.eql,.nilIface,_|.neq,.nilIface,_=>true
      |_,.int ..,.int _ _=>true
      |_,_,_=>false
     |.convert _ _ x=>match g.frame.eval x with
      |.int _ _=>true
      |_=>false
     |.call {callee:= .value f,.. }=>
      match g.frame.eval f with
      |.func (.func f) .. =>(P.funcs[f]?).any (·.body.isSome)
      |_=>false
     |.call {callee:= .builtin .recover,.. }=>true
     |_=>false
    else true
  |.code (.region _ _ true)::_=>false
  |.code (.rangeFunc ..)::_=>false
  |.code _::_|.inRegion _ []::_|.inBlock _::_|.inLoop _::_|.inScope _::_=>true
  |[]=>true
  |_=>false
 |.returning=>
  match g.frame.defers with
  |{target:= .fn (.func f) _,.. }::_=>(P.funcs[f]?).any (·.body.isSome)
  |_::_=>false
  |[]=>!g.callers.isEmpty&&((P.funcs[g.frame.fn]?).any λfn=>fn.results.all λ|.tmp _=>true|_=>false)
 |.panicking _=>
  match g.frame.defers with
  |{target:= .fn (.func f) _,.. }::_=>(P.funcs[f]?).any (·.body.isSome)
  |_=>false
def AO (P:ω)(main:Bool):Nat->Θ->(Nat->Ω)->Option (Θ×List Ω)
 |0,g,_=>some (g,[])
 |n+1,g,ws=>
  if O8 P g then
   match g.status,stepG P main g (ws 0) with
   |.running,.go g' w' es=>if es.isEmpty then(match AO P main n g' (λi=>ws (i+1)) with|some (x,l)=>some (x,w'::l)|none=>none) else none
   |_,_=>none
  else some (g,[])
def Dw (P:ω)(main:Bool)(n:Nat)(g:Θ):Θ:=match AO P main n g (λ_=>default) with|some (x,_)=>x|none=>g
def cj (P:ω)(main:Bool)(n:Nat)(g:Θ):Nat:=match AO P main n g (λ_=>default) with|some (_,l)=>l.length|none=>0
def az (P:ω)(main:Bool)(g g':Θ):Prop:=∃n k,∀a:Nat->Ω,AO P main n g a=some (g',(range k).map a)
def zq (k:Nat)(a:Ϭ):(range (k+1)).map a=a 0::(range k).map (λi=>a (i+1)):=by
 rw[List.range_succ_eq_map];simp[List.map_map]
section
variable {S:Type}{P:ω}{main:Bool}{C:Co S}{Stop:S->Θ->Ω->Prop}{s:S}{g g':Θ}{w:Ω}
def Idle (C:Co S):Prop:=∀s w,C.D s w w #[]/\C.up s w w=s
theorem ls (q:Idle C)(h:az P main g g')(k:aG P main C Stop s g' w):aG P main C Stop s g w:=by
 obtain⟨n,m,h⟩:=h
 induction n generalizing g w m with
 |zero=>
  have:=h λ_=>w
  simp only[AO,af5,ai1] at this;rw[this.1];exact k
 |succ n u=>
  by_cases e:O8 P g=true
  .refine aG.step ?_ λw₁ hr=>?_
   .have:=h λ_=>w
    simp only[AO,e,if_true] at this;cases j:g.status<;>rw[j] at this<;>first|rfl|cases this
   .have h0:∀a:Nat->Ω,∃c,stepG P main g w₁= .go c w₁ #[]/\∃b,m=b+1/\AO P main n c a=some (g',(List.range b).map a):=λa=>by
     have:=h λi=>match i with|0=>w₁|i+1=>a i
     simp only[AO,e,if_true] at this;cases j:g.status<;>rw[j] at this<;>(try cases this;done)
     cases f:stepG P main g w₁<;>rw[f] at this<;>simp only at this<;>(try cases this;done)
     rename_i c w' es;split at this
     .rename_i o
      have o:es=#[]:=by simpa using o
      subst o;split at this
      .rename_i x l t
       simp only[af5,ai1] at this;obtain⟨rfl,d⟩:=this;cases m with
       |zero=>simp at d
       |succ b=>
        rw[zq] at d;simp only[List.cons.injEq] at d;obtain⟨rfl,rfl⟩:=d;exact⟨c,rfl,b,rfl,t⟩
      .cases this
     .cases this
    obtain⟨c,e1,b,e2,_⟩:=h0 λ_=>w
    refine⟨c,w₁,#[],e1,(q s w₁).1,?_⟩;rw[(q s w₁).2];refine u (m:=b) (k.rely hr) λa=>?_
    obtain⟨v,p,m2,y,r⟩:=h0 a;rw[e1] at p;cases p;obtain rfl:m2=b:=ϖ
    exact r
  .have:=h λ_=>w
   simp only[AO,e,if_false,af5,ai1,ν] at this;rw[this.1];exact k
def az.of (n:Nat)(h:∀a:Nat->Ω,AO P main n g a=some (Dw P main n g,(range (cj P main n g)).map a)):az P main g (Dw P main n g):=⟨n,_,h⟩
end
def DN (g:Θ):Option Oper:=
 match g.status,g.dying,g.offers,g.frame.mode,g.frame.roundOf,g.frame.todo with
 |.running,none,none,.run,none,.inRegion ops (i::_)::_=>
  match ops[i]? with
  |some o=>if wanted o (yielded ops g.frame.tmps)&&g.frame.kind != .early then some o else none
  |none=>none
 |_,_,_,_,_,_=>none
def resume (g:Θ)(v:Φ):Θ:={g with frame:=g.frame.finish v}
theorem xD {g:Θ}{o:Oper}(h:DN g=some o):∃(b:κ)(a:Act)(ops:Ϙ)(i:Nat)(rest:ϑ)(kk:ϕ)(cs:ϙ),
  g=G (b.at a (.inRegion ops (i::rest)::kk)) cs/\ops[i]? =some o/\Region.wanted o (yielded ops a.tmps)=true/\b.kind≠.early/\b.fn=g.frame.fn/\a.eval=g.frame.eval/\∀v,resume g v=G (b.at (a.put o.dst v) (.inRegion ops rest::kk)) cs:=by
 obtain⟨⟨fn,tmps,todo,defers,mode,kind,rd⟩,callers,status,dying,offers⟩:=g;unfold DN at h;simp only at h;split at h
 .rename_i ops i rest kk
  split at h
  .rename_i o' ho
   split at h
   .rename_i hw
    simp only[af5] at h;subst h;simp only[ε,bne_iff_ne,ne_eq] at hw;refine⟨{(default:κ) with fn:=fn,kind:=kind},⟨tmps,defers⟩,ops,i,rest,kk,callers,rfl,ho,hw.1,hw.2,rfl,?_,λv=>?_⟩
    .funext x;cases x<;>rfl
    .have:=Frame.finish_at {(default:κ) with fn:=fn,kind:=kind} ⟨tmps,defers⟩ ops i rest kk v
     rw[ho] at this;show G (Frame.finish _ v) _=_;exact congrArg (λf=>G f callers) this
   .cases h
  .cases h
 .cases h
def aJ (g:Θ):Option (ac0×Array Φ):=
 (DN g).bind λo=>match o.op with
  |.call {callee:= .value (.func f),args,.. }=>some (f,args.map g.frame.eval)
  |_=>none
def du {g:Θ}{f:ac0}{args:ϐ}(h:aJ g=some (f,args)):∃(b:κ)(a:Act)(ops:Ϙ)(i:Nat)(rest:ϑ)(e:ϕ)(cs:ϙ)(o:Oper)(d:Array ab7)(c:ϫ),
  g=G (b.at a (.inRegion ops (i::rest)::e)) cs/\ops[i]? =some o/\wanted o (yielded ops a.tmps)=true/\b.kind≠.early/\o.op= .call {callee:= .value (.func f),args:=d,argTypes:=c}/\d.map a.eval=args/\∀v,resume g v=G (b.at (a.put o.dst v) (.inRegion ops rest::e)) cs:=by
 unfold aJ at h;have⟨o,n,h⟩:=ϔ1.1 h;have⟨b,a,ops,i,rest,e,cs,e1,e2,k,l,q,m,p⟩:=xD n;split at h
 .rename_i f' d c j
  simp only[af5,ai1] at h;obtain⟨rfl,rfl⟩:=h;exact⟨b,a,ops,i,rest,e,cs,o,d,c,e1,e2,k,l,j,by rw[m],p⟩
 .cases h
structure Ext (P:ω)(f:ac0)(fn:Func):Prop where
 at_:P.funcs[f]? =some fn
 name:(fn.name== "runtime.NumGoroutine")=false
 body:fn.body.isNone=true
 next:Extern.findNext fn=none
section
variable {P:ω}{main:Bool}{g:Θ}{f:ac0}{fn:Func}{args:Array Φ}{w:Ω}
def kq (X:Ext P f fn)(m:Mark)(l:Extern.find fn=some (λ_=>do mark m;pure Extern.Race.none_))(h:aJ g=some (f,args))(hm:∀g,m≠.extern g:=by simp):
  stepG P main g w= .go (resume g (.tuple #[])) w #[⟨.mark m,false,true⟩]:=by
 obtain⟨b,a,ops,i,rest,p,cs,o,n,c,rfl,h2,k,e,j,q,d⟩:=du h;rw[d];exact stepG_mark0 m hm h2 k e j X.at_ X.name X.body X.next l
def iJ (X:Ext P f fn)(c:Addr->Mark)(m:Extern.find fn=some (Extern.Race.marked c)){ad:Addr}(h:aJ g=some (f,#[.pointer (some ad)]))(hm:∀ad g,c ad≠.extern g:=by simp):
  stepG P main g w= .go (resume g (.tuple #[])) w #[⟨.mark (c ad),false,true⟩]:=by
 obtain⟨b,a,ops,i,rest,q,cs,o,p,d,rfl,h2,l,j,k,n,e⟩:=du h;rw[e];exact stepG_markAt c hm h2 l j k X.at_ X.name X.body X.next m (by rw[n];rfl)
def Oq (X:Ext P f fn)(q:Extern.find fn=some Extern.Sync.semacquire){ad:Addr}{n:Int}{u v:Φ}(h:aJ g=some (f,#[.pointer (some ad),u,v]))(c:w.cell? ad=some (.int .u32 n))(l:n≠0)(j:w.frozen? ad=false):
  stepG P main g w= .go (resume g (.tuple #[])) (w.setCell ad (.int .u32 (n-1))) (semEvents ad):=by
 obtain⟨b,a,ops,i,rest,t,cs,o,s,d,rfl,h2,p,k,m,r,e⟩:=du h;rw[e];exact stepG_semacquire h2 p k m X.at_ X.name X.body X.next q (by rw[r];rfl) c l j
def Lj (X:Ext P f fn)(k:Extern.find fn=some Extern.Sync.semacquire){ad:Addr}{u v:Φ}(h:aJ g=some (f,#[.pointer (some ad),u,v]))(c:w.cell? ad=some (.int .u32 0)):
  stepG P main g w= .go {g with status:= .blocked} w #[]:=by
 obtain⟨b,a,ops,i,rest,q,cs,o,p,d,rfl,h2,j,n,e,l,m⟩:=du h;exact stepG_semacquire_wait h2 j e X.at_ X.name X.body X.next k (by rw[l];rfl) c
def EH (X:Ext P f fn)(p:Extern.find fn=some Extern.Sync.semrelease){ad:Addr}{n:Int}{u v:Φ}(h:aJ g=some (f,#[.pointer (some ad),u,v]))(c:w.cell? ad=some (.int .u32 n))(j:w.frozen? ad=false):
  stepG P main g w= .go (resume g (.tuple #[])) (w.setCell ad (.int .u32 (IntKind.u32.wrap (n+1)))) (semEvents ad):=by
 obtain⟨b,a,ops,i,rest,s,cs,o,r,d,rfl,h2,m,k,l,q,e⟩:=du h;rw[e];exact stepG_semrelease h2 m k l X.at_ X.name X.body X.next p (by rw[q];rfl) c j
def Er (X:Ext P f fn)(h:aJ g=some (f,args)):mayWake P g=true:=by
 obtain⟨b,a,ops,i,rest,k,cs,o,p,e,rfl,h2,n,m,j,q,l⟩:=du h;have c:fn.body=none:=by simpa using X.body
 have d:(b.at a (.inRegion ops (i::rest)::k)).eval (.func f)= .func (.func f) #[] #[]:=rfl;simp[mayWake,G,Frame.at,h2,j] at d⊢;simp[d,X.at_,c]
def BP (X:Ext P f fn)(m:Extern.find fn=some Extern.OsHooks.nano)(c:fn.norace=true)(h:aJ g=some (f,args)):
  stepG P main g w= .go (resume g (.int .i64 ((w.os.mono+w.tick:Nat):Int))) w.later #[]:=by
 obtain⟨b,a,ops,i,rest,p,cs,o,n,d,rfl,h2,l,j,k,q,e⟩:=du h;rw[e];exact stepG_nanotime h2 l j k X.at_ X.name X.body X.next m c
def tT {e:Array Φ->Sem Φ}(X:Ext P f fn)(s:Extern.find fn=some e)(h:aJ g=some (f,args)){v:Φ}{w':Ω}{c:Ϝ}(d:(e args).run P w= .ok v w')(j:(e args).events P w #[⟨.mark (.extern f),false,true⟩]=#[⟨.mark (.extern f),false,true⟩]++c)(r:∀x∈c,x.sync=true/\∀g,x.loc≠.mark (.extern g)):stepG P main g w= .go (resume g v) w' c:=by
 obtain⟨b,a,ops,i,rest,u,cs,o,t,l,rfl,h2,q,n,p,k,m⟩:=du h;rw[m];exact stepG_entry h2 q n p X.at_ X.name X.body X.next s (by rw[k];exact d) (by rw[k];exact j) r
def BO (X:Ext P f fn)(v:Φ)(a:Extern.find fn=some (λ_=>pure v))(h:aJ g=some (f,args)):stepG P main g w= .go (resume g v) w #[]:=
 tT X a h ϛ ϛ ϛ
def C0 (X:Ext P f fn)(p:Extern.find fn=some Extern.Sync.canSpin){k:IntKind}{n:Int}(h:aJ g=some (f,#[.int k n]))(j:4<=n):stepG P main g w= .go (resume g (.bool false)) w #[]:=by
 obtain⟨b,a,ops,i,rest,s,cs,o,r,d,rfl,h2,m,c,l,q,e⟩:=du h;rw[e];exact stepG_canSpin_no h2 m c l X.at_ X.name X.body X.next p q j
def Li (X:Ext P f fn)(p:Extern.find fn=some Extern.Sync.canSpin){k:IntKind}{n:Int}(h:aJ g=some (f,#[.int k n]))(j:n<4):stepG P main g w= .go (resume g (.bool w.spins)) w.asked #[]:=by
 obtain⟨b,a,ops,i,rest,s,cs,o,r,d,rfl,h2,m,c,l,q,e⟩:=du h;rw[e];exact stepG_canSpin_ask h2 m c l X.at_ X.name X.body X.next p q j
def oK (X:Ext P f fn)(k:IntKind)(c:Extern.find fn=some (Extern.Atomic.casT (.int k))){ad:Addr}{v n:Int}(h:aJ g=some (f,#[.pointer (some ad),.int k v,.int k n]))(b:w.cell? ad=some (.int k v))(a:w.frozen? ad=false):
  stepG P main g w= .go (resume g (.bool true)) (w.setCell ad (.int k n)) #[⟨.cell ad,false,true⟩,⟨.cell ad,true,true⟩]:=
 tT X c h (by rw[casT_eq];exact run_cas_hit_entry b a) (by rw[casT_eq,events_cas_hit_entry b a];rfl) (sync_rw ad)
def nz (X:Ext P f fn)(k:IntKind)(e:Extern.find fn=some (Extern.Atomic.casT (.int k))){ad:Addr}{v a n:Int}(h:aJ g=some (f,#[.pointer (some ad),.int k a,.int k n]))(d:w.cell? ad=some (.int k v))(c:w.frozen? ad=false)(b:¬v=a):
  stepG P main g w= .go (resume g (.bool false)) w #[⟨.cell ad,false,true⟩]:=
 tT X e h (by rw[casT_eq];exact run_cas_miss_entry d c b) (by rw[casT_eq,events_cas_miss_entry d c b];rfl) (sync_r ad)
def tU (X:Ext P f fn)(k:IntKind)(c:Extern.find fn=some (Extern.Atomic.update (Op.intArith .add) k true)){ad:Addr}{v d:Int}(h:aJ g=some (f,#[.pointer (some ad),.int k d]))(b:w.cell? ad=some (.int k v))(a:w.frozen? ad=false):
  stepG P main g w= .go (resume g (.int k (k.wrap (v+d)))) (w.setCell ad (.int k (k.wrap (v+d)))) #[⟨.cell ad,false,true⟩,⟨.cell ad,true,true⟩]:=
 tT X c h (run_add_entry b a) (by rw[events_add_entry b a];rfl) (sync_rw ad)
def s9 (X:Ext P f fn)(k:IntKind)(s:Extern.find fn=some (Extern.Atomic.loadT (.int k))){ad:Addr}{v:Int}(h:aJ g=some (f,#[.pointer (some ad)]))(e:w.cell? ad=some (.int k v)):
  stepG P main g w= .go (resume g (.int k v)) w #[⟨.cell ad,false,true⟩]:=by
 obtain⟨b,a,ops,i,rest,t,cs,o,c,j,rfl,h2,r,n,q,d,m⟩:=du h;have p:c.size=1:=by have:=congrArg Array.size d;simpa using this
 obtain⟨x,rfl⟩:∃x,c=#[x]:=by
  have⟨l⟩:=c;rcases l with _|⟨x,_|⟨y,l⟩⟩<;>simp at p
  exact⟨x,rfl⟩
 rw[m];exact stepG_load_atomic h2 r n q X.at_ X.name X.body X.next k s (by simpa using d) e
def EE (X:Ext P f fn)(A:Extern.find fn=some Extern.Atomic.storeT){k:IntKind}{ad:Addr}{v:Int}{u:Φ}(h:aJ g=some (f,#[.pointer (some ad),.int k v]))(j:w.cell? ad=some u)(p:w.frozen? ad=false):
  stepG P main g w= .go (resume g (.tuple #[])) (w.setCell ad (.int k v)) #[⟨.cell ad,true,true⟩]:=by
 obtain⟨b,a,ops,i,rest,B,cs,o,d,m,rfl,h2,t,q,s,e,n⟩:=du h;have r:d.size=2:=by have:=congrArg Array.size e;simpa using this
 obtain⟨x,y,rfl⟩:∃x y,d=#[x,y]:=by
  have⟨l⟩:=d;rcases l with _|⟨x,_|⟨y,_|⟨z,l⟩⟩⟩<;>simp at r
  exact⟨x,y,rfl⟩
 have c:a.eval x= .pointer (some ad)/\a.eval y= .int k v:=by simpa using e
 rw[n];exact stepG_store_atomic h2 t q s X.at_ X.name X.body X.next A c.1 c.2 j p
end
def jx (g:Θ):Option (ac0×Array Φ):=
 match g.status,g.dying,g.offers,g.frame.mode,g.frame.roundOf,g.frame.defers with
 |.running,none,none,.returning,none,{target:= .fn (.func f) c,args:=args}::_=>if c.isEmpty then some (f,args) else none
 |_,_,_,_,_,_=>none
def dJ (g:Θ):Θ:={g with frame:={g.frame with defers:=g.frame.defers.tail}}
theorem ve {g:Θ}{f:ac0}{args:ϐ}(h:jx g=some (f,args)):∃(b:κ)(a:Act)(todo:ϕ)(ds:List Deferred)(cs:ϙ),
  g=G {b.at a todo with mode:= .returning} cs/\a.defers=dcall f args::ds/\dJ g=G {b.at ⟨a.tmps,ds⟩ todo with mode:= .returning} cs:=by
 obtain⟨⟨fn,tmps,todo,defers,mode,kind,rd⟩,callers,status,dying,offers⟩:=g;unfold jx at h;simp only at h;split at h
 .rename_i f' c args' ds
  split at h
  .rename_i hc
   obtain rfl:c=#[]:=by simpa using hc
   simp only[af5,ai1] at h;obtain⟨rfl,rfl⟩:=h;exact⟨{(default:κ) with fn:=fn,kind:=kind},⟨tmps,_⟩,todo,ds,callers,rfl,rfl,rfl⟩
  .cases h
 .cases h
theorem kr {P:ω}{main:Bool}{g:Θ}{f:ac0}{fn:Func}{w:Ω}(X:Ext P f fn)(m:Mark)(hm:∀g,m≠.extern g)(he:Extern.find fn=some (λ_=>do mark m;pure Extern.Race.none_))(h:jx g=some (f,#[])):
  stepG P main g w= .go (dJ g) w #[⟨.mark m,false,true⟩]:=by
 obtain⟨b,a,todo,ds,cs,rfl,h2,h3⟩:=ve h;rw[h3];exact stepG_unwind_entry (v:= .tuple #[]) h2 X.at_ X.name X.body X.next he (by simp[Extern.Race.none_]) ϛ (by
  intro x hx;simp at hx;subst hx;exact⟨rfl,λg h=>hm g (by cases h;rfl)⟩)
inductive lE where
 |load (t:η) (a:Φ)
 |store (t:η) (a x:Φ)
 |box (t:η) (x:Φ)
 |alloc (t:η)
 |conv (s d:η) (x:Φ)
 |lookup (t:η) (m k:Φ) (ok:Bool)
 |mapUpdate (t:η) (m k x:Φ)
 |range (t:η) (x:Φ)
 |next (it:Φ) (str:Bool) (ty:η)
 |entry (it:Φ)
 |makeMap (t:η)
 |build (t:η) (parts:Array (Nat×Φ))
 |bin (op:BinOp) (t:η) (x y:Φ)
 |indexAddr (t:η) (x i:Φ)
def lE.sem:lE->Sem Next
 |.load t a=>do pure (.value (<-Instr.loadAt t a))
 |.store t a x=>do Instr.storeAt t a x;pure .skip
 |.box t x=>do pure (.value (<-Instr.box t x))
 |.alloc t=>do pure (.value (<-Instr.alloc t true (.tuple #[])))
 |.conv s d x=>do pure (.value (<-convert s d x))
 |.lookup t m k ok=>do pure (.value (<-Instr.lookup t m k ok))
 |.mapUpdate t m k x=>do Instr.mapUpdate t m k x;pure .skip
 |.range t x=>do pure (.value (<-Instr.range t x))
 |.next it str ty=>do pure (.value (<-Instr.next it str ty))
 |.entry it=>do pure (.value (<-Instr.entry it))
 |.makeMap t=>do pure (.value (<-Instr.makeMap t none))
 |.build t b=>do pure (.value (<-Instr.build t b))
 |.bin c t x y=>do pure (.value (<-(do eqGuard c t (.tmp 0) (.tmp 0) x y;binOp c t x y)))
 |.indexAddr t x i=>do pure (.value (<-Instr.indexAt t x i))
def Cu:ab7->Bool
 |.tmp _=>true
 |_=>false
def aY (g:Θ):Option lE:=
 (DN g).bind λo=>match o.op with
  |.load t a=>some (.load t (g.frame.eval a))
  |.store t a x=>some (.store t (g.frame.eval a) (g.frame.eval x))
  |.box t x=>some (.box t (g.frame.eval x))
  |.alloc t=>some (.alloc t)
  |.convert s d x=>some (.conv s d (g.frame.eval x))
  |.lookup t m k ok=>some (.lookup t (g.frame.eval m) (g.frame.eval k) ok)
  |.mapUpdate t m k x=>some (.mapUpdate t (g.frame.eval m) (g.frame.eval k) (g.frame.eval x))
  |.range t x=>some (.range t (g.frame.eval x))
  |.next it str=>some (.next (g.frame.eval it) str o.type)
  |.entry it=>some (.entry (g.frame.eval it))
  |.makeMap t none=>some (.makeMap t)
  |.build t c=>some (.build t (c.map λ(i,x)=>(i,g.frame.eval x)))
  |.binOp b t x y _=>if Cu x&&Cu y then some (.bin b t (g.frame.eval x) (g.frame.eval y)) else none
  |.indexAddr t x i=>some (.indexAddr t (g.frame.eval x) (g.frame.eval i))
  |_=>none
def qR (c:BinOp)(t:η)(x y:ab7)(e:Cu x=true)(d:Cu y=true)(a b:Φ):eqGuard c t x y a b=eqGuard c t (.tmp 0) (.tmp 0) a b:=by
 cases x<;>simp[Cu] at e;cases y<;>simp[Cu] at d;rfl
def oH {g:Θ}{v:lE}(h:aY g=some v):∃(b:κ)(a:Act)(ops:Ϙ)(i:Nat)(rest:ϑ)(d:ϕ)(cs:ϙ)(o:Oper),
  g=G (b.at a (.inRegion ops (i::rest)::d)) cs/\ops[i]? =some o/\wanted o (yielded ops a.tmps)=true/\b.kind≠.early/\b.fn=g.frame.fn/\execOp a.eval o=v.sem/\∀v,resume g v=G (b.at (a.put o.dst v) (.inRegion ops rest::d)) cs:=by
 unfold aY at h;have⟨o,m,h⟩:=ϔ1.1 h;have⟨b,a,ops,i,rest,d,cs,e1,e2,f,j,k,l,n⟩:=xD m;refine⟨b,a,ops,i,rest,d,cs,o,e1,e2,f,j,k,?_,n⟩;rw[l];unfold execOp;split at h<;>first|(cases h;done)|(rename_i e;rw[e])
 case h_13=>
  split at h
  .rename_i c
   simp only[ε] at c;simp only[af5] at h;subst h;simp only[lE.sem];rw[qR _ _ _ _ c.1 c.2]
  .cases h
 all_goals first|(simp only[af5] at h;subst h;rfl)|cases h
section
variable {P:ω}{main:Bool}{g:Θ}{v:lE}{w w':Ω}
def oJ (h:aY g=some v){x:Φ}(hr:v.sem.run P w= .ok (.value x) w'):∃es,stepG P main g w= .go (resume g x) w' es/\∀e∈es,e∈v.sem.events P w #[]:=by
 obtain⟨b,a,ops,i,rest,m,cs,o,rfl,h2,j,f,l,c,d⟩:=oH h;refine⟨listed P b.fn a o w,?_,?_⟩
 .rw[d];exact stepG_value h2 j f (by rw[c];exact hr)
 .intro e k
  have:=mem_listed k
  rwa [c] at this
def step_skip (h:aY g=some v)(hr:v.sem.run P w= .ok .skip w'):∃es,stepG P main g w= .go (resume g ϗ) w' es/\∀e∈es,e∈v.sem.events P w #[]:=by
 obtain⟨b,a,ops,i,rest,m,cs,o,rfl,h2,j,f,l,c,d⟩:=oH h;refine⟨listed P b.fn a o w,?_,?_⟩
 .rw[d];exact stepG_none h2 j f (by rw[c];exact hr)
 .intro e k
  have:=mem_listed k
  rwa [c] at this
end
end
section
open Go.Conc
open Go.ConcN (sumTo sumTo_upd)
def mL:Co (Nat->Prop) where
 R:=λ_ w w₁=>AtRel w w₁
 D:=λown w w' es=>lO own (λ_=>False) w w' es
 up:=λown w w' b=>own b\/(w.heap.size<=b/\b<w'.heap.size)
 refl:=λ_ w=>atRel_refl w
 trans:=λ_ a b c h k=>atRel_trans a b c h k
def zU:RP mL (λs=>s) (λ_=>False):=
 ⟨λs w w₁ h=>by obtain⟨d,rfl⟩:=h;exact⟨ι _,rfl,λ_ _ _=>rfl⟩,λs w w' es h=>h,λs w w' b=>Iff.rfl⟩
def Se (Shun:ϩ):Co Unit where
 R:=λ_ w w₁=>AtRel w w₁
 D:=λ_ w w' es=>w.heap.size<=w'.heap.size/\w'.os=w.os/\(∀e∈es,EvL Shun w'.heap.size e)/\∀e∈es,∀a,e.loc≠.mark (.release a)
 up:=λ_ _ _=>()
 refl:=λ_ w=>atRel_refl w
 trans:=λ_ a b c h k=>atRel_trans a b c h k
def af7 (Shun:ϩ):Idle (Se Shun):=λ_ w=>⟨⟨ι _,rfl,ϛ,ϛ⟩,rfl⟩
def Ids (n:Nat)(t:Trace):Prop:=∀a∈t,a.g<n
def Nr (t t':Trace):Prop:=∀b∈t',b∈t\/∀a,b.act≠.mark (.release a)
def Nr.refl (t:Trace):Nr t t:=λ_ h=> .inl h
def Nr.trans {t u v:Trace}(h:Nr t u)(k:Nr u v):Nr t v:=λa b=>(k a b).elim (h a) .inr
def xY {e:Event}{a:Addr}(h:MemAct.ofEvent e= .mark (.release a)):e.loc= .mark (.release a):=by
 have⟨l,x,y⟩:=e;cases l<;>cases x<;>cases y<;>simp_all [MemAct.ofEvent]
def Nr.own (t:Trace){g:Nat}{fn:ac0}{pos:String}{es:Ϝ}(h:∀e∈es,∀a,e.loc≠.mark (.release a)):Nr t (t++ofEvents g fn pos es):=λd b=>by
 rcases ai4.1 b with b|b
 .exact .inl b
 .obtain⟨e,c,rfl⟩:=Go.Conc.mem_ofEvents b
  exact .inr λa x=>h e c a (xY x)
def Nr.mute (t:Trace){g:Nat}{fn:ac0}{pos:String}{es:Ϝ}(h:∀e∈es,e.mute=true):Nr t (t++ofEvents g fn pos es):=Nr.own t λe b a x=>by
 have:=h e b;have⟨l,u,v⟩:=e;simp only at x;subst x;simp[Event.mute] at this
def Ids.own {n:Nat}{t:Trace}(h:Ids n t){g:Nat}(hg:g<n){fn:ac0}{pos:String}{es:Ϝ}:Ids n (t++ofEvents g fn pos es):=λb a=>by
 rcases ai4.1 a with a|a
 .exact h b a
 .obtain⟨e,c,rfl⟩:=Go.Conc.mem_ofEvents a
  exact hg
structure Apart (Shun:Loc->Prop)(own:Nat->Prop)(w:Ω):Prop where
 off:∀b,own b->∀l,aI.mP b l->¬Shun l
 lt:∀b,own b->b<w.heap.size
 low:∀l b,Shun l->aI.mP b l->b<w.heap.size
 cell:∀l,Shun l->∃a:Addr,l= .cell a
section
variable {Shun:Loc->Prop}{own:Nat->Prop}{w w':Ω}{es:Array Event}
def Apart.step (h:Apart Shun own w)(e:w.heap.size<=w'.heap.size):Apart Shun (mL.up own w w') w':=
 ⟨λb d l a c=>d.elim (λx=>h.off b x l a c) λx=>by have:=h.low l b c a;omega,λb d=>d.elim (λx=>ψ (h.lt b x) e) (·.2),λl b c a=>ψ (h.low l b c a) e,h.cell⟩
def Apart.at (h:Apart Shun own w)(d:Nat):Apart Shun own (w.at d):=⟨h.off,h.lt,h.low,h.cell⟩
def U6 (h:lO own (λ_=>False) w w' es)(p:Apart Shun own w):∀e∈es,EvL Shun w'.heap.size e:=by
 intro e q;have d:=p.step h.size;rcases h.ev e q with⟨b,a,hloc⟩|⟨m,h1,h2⟩
 .have c:aI.mP b e.loc:=hloc
  have⟨e1,e2,l⟩:=aI.qI c;have f:mL.up own w w' b:=by
   rcases a with a|a|a
   .exact .inl a
   .exact .inr a
   .exact a.1.elim
  refine⟨λx g j=>?_,λhm=>e1 .disable (aI.ed hm),λhm=>e1 .enable (aI.ed hm),e2 _ (d.lt b f)⟩;have⟨o,_⟩:=l x g;rw[o] at j;exact absurd j (d.off b f _ c)
 .have⟨m1,m2,k,r,n⟩:=aI.uy h2
  have i:=aI.ed h1;refine⟨λx g=>?_,?_,?_,by rw[i];exact n _⟩
  .rw[i,m1] at g;cases g
  .rw[h1];simpa using m2
  .rw[h1];simpa using k
def Zv (h:lO own (λ_=>False) w w' es):∀e∈es,∀a,e.loc≠.mark (.release a):=by
 intro e c a x;rcases h.ev e c with⟨b,_,⟨a',h1,_⟩|h1⟩|⟨m,h1,h2⟩
 .rw[x] at h1;cases h1
 .rw[x] at h1;cases h1
 .rw[x] at h1;cases h1;exact h2.elim
theorem yq {P:ω}{Stop:(Nat->Prop)->Θ->Ω->Prop}{g:Θ}(h:aG P true mL Stop own g w)(a:Apart Shun own w):
  aG P true (Se Shun) (λ_ g w=>∃s,Stop s g w/\Apart Shun s w) () g w:=by
 obtain⟨r,h⟩:=h
 induction r generalizing own g w with
 |zero=>exact .stop λw₁ hr=>⟨own,h w₁ hr,by obtain⟨d,rfl⟩:=hr;exact a.at d⟩
 |mk f c=>
  rcases h with h|⟨e,h⟩
  .exact .stop λw₁ hr=>⟨own,h w₁ hr,by obtain⟨d,rfl⟩:=hr;exact a.at d⟩
  .refine aG.step e λw₁ hr=>?_
   obtain⟨g',w',es,h1,h2,b⟩:=h w₁ hr;obtain⟨d,rfl⟩:=hr;exact⟨g',w',es,h1,⟨h2.size,h2.os,U6 h2 (a.at d),Zv h2⟩,c (w.at d) ((a.at d).step h2.size) b⟩
end
structure Zero (P:ω)(Shun:Loc->Prop)(M:Machine)(t:Trace)(g:Θ)(w:Ω):Prop where
 ex:∃(gs:Array Θ) (sl:Option (Nat×Nat)) (q:Nat->Nat),M=crowd gs w sl/\gs[0]? =some g/\Leavers P t gs q/\Ids gs.size t
 past:Past Shun w.heap.size t
section
variable {P:ω}{Shun:Loc->Prop}{Stop:Unit->Θ->Ω->Prop}
def Lb:∀(r:Rk) (n:Nat) (b:Ϯ) (a:Θ) (w:Ω) (sl:Option (Nat×Nat)) (t:Trace) (q:Ϛ),sumTo b.size q<n->b[0]? =some a->Leavers P t b q->Ids b.size t->
  Past Shun w.heap.size t->jj P true (Se Shun) Stop r () a w->
  ∃(N:Nat) (c:Ϯ) (a':Θ) (w':Ω) (s:Option (Nat×Nat)) (t':Trace) (W:Ϛ),
   runNT P N (crowd b w sl) t=(.next (crowd c w' s),t')/\c[0]? =some a'/\Stop () a' w'/\Leavers P t' c W/\Past Shun w'.heap.size t'/\w'.os=w.os/\Ids c.size t'/\Nr t t':=by
 intro r
 induction r with
 |zero=>
  intro n b a w sl t q _ h0 E Y Z hG;exact⟨0,b,a,w,sl,t,q,rfl,h0,hG w (atRel_refl w),E,Z,rfl,Y,Nr.refl t⟩
 |mk f am=>
  intro n
  induction n with
  |zero=>intro b a w sl t q hM;omega
  |succ n ih=>
   intro b a w sl t q hM h0 E Y Z hG;rcases hG with U|⟨o,v⟩
   .exact⟨0,b,a,w,sl,t,q,rfl,h0,U w (atRel_refl w),E,Z,rfl,Y,Nr.refl t⟩
   have ak:∀g∈b,awake g:=by
    intro g hg;obtain⟨i,F,rfl⟩:=ϑ6.1 hg;rcases Ϙ5 i with rfl|z
    .have:b[0]=a:=by simpa [τ F] using h0
     rw[this];exact awake_of (.inl o)
    .exact awake_of ((E.old i _ z (τ F)).status.elim .inl λx=> .inr (.inr x))
   have⟨i,g,d,s,F,hg,X⟩:=crowd_pick (P:=P) (w:=w) (sl:=sl) ak ⟨0,a,h0,o⟩;rcases Ϙ5 i with rfl|z
   .obtain rfl:g=a:=by rw[h0] at F;exact(ac2 F).symm
    have⟨a',w',es,ag,hd,ae⟩:=v (w.at d) ⟨d,rfl⟩;have h:=runT_crowd_go (P:=P) (sl:=s) (i:=0) F (show stepG P (0==0) g (w.at d)=_ from ag);have A:((b.map (woken P g a' w')).setIfInBounds 0 a').size=b.size:=ϛ
    have p:0<b.size:=(Ψ.1 h0).1;have⟨m,ab,ac,ad⟩:=hd;have m:w.heap.size<=w'.heap.size:=m
    have⟨N,c,H,S,u,t',W,hr,R,hS,M,I,J,K,O⟩:=am (w.at d) (sumTo ((b.map (woken P g a' w')).setIfInBounds 0 a').size q+1) ((b.map (woken P g a' w')).setIfInBounds 0 a') a' w' s (t++ofEvents 0 g.frame.fn g.frame.place es) q (Nat.lt_succ_self _) (by simp[p])
     ⟨λj x D T=>by
      have Q:0≠j:=ϖ
      rw[ab1 Q,ai0] at T;obtain⟨y,hy,rfl⟩:=χ.1 T;have G:=E.old j y D hy;rw[woken_quitsD G,Deaf_other t ϖ _ (λop l=>by obtain⟨e,_,rfl⟩:=Go.Conc.mem_ofEvents l;rfl)];exact G,λj D=>by
      rw[Deaf_other t (g':=0) (by simp at D;omega) _ (λop l=>by obtain⟨e,_,rfl⟩:=Go.Conc.mem_ofEvents l;rfl)];exact E.above j (by simpa using D)⟩
     (by rw[A];exact Y.own p) ((Z.mono m).own ac) ae
    exact⟨N+1,c,H,S,u,t',W,by simp only[runNT,X,h];exact hr,R,hS,M,I,J.trans ab,K,(Nr.own t ad).trans O⟩
   ·
    have G:=E.old i g z F;have aa:(i==0)=false:=by simp;omega
    have p:i<b.size:=(Ψ.1 F).1;cases L:q i with
    |zero=>rw[L] at G;rw[G.1] at hg;cases hg
    |succ k=>
     rw[L] at G;rcases G with⟨hf,_⟩|⟨_,g',es,hm,hstp,hq'⟩
     .rw[hf] at hg;cases hg
     have h:=runT_crowd_go (P:=P) (sl:=s) (i:=i) F (by rw[aa];exact hstp (w.at d));have A:((b.map (woken P g g' (w.at d))).setIfInBounds i g').size=b.size:=ϛ
     have an:sumTo b.size (Go.ConcN.upd q i k)+(k+1)=sumTo b.size q+k:=by
      have:=sumTo_upd q k id p;simpa [L] using this
     have⟨N,c,H,S,u,t',W,hr,R,hS,M,I,J,K,O⟩:=ih ((b.map (woken P g g' (w.at d))).setIfInBounds i g') a (w.at d) s (t++ofEvents i g.frame.fn g.frame.place es) (Go.ConcN.upd q i k) (by rw[A];omega)
      (by
       have Q:i≠0:=ϖ
       rw[ab1 Q,ai0,h0];simp[woken_run o])
      ⟨λj x D T=>by
       by_cases B:i=j
       .subst B
        rw[ae3 (by simpa using p)] at T;obtain rfl:=ac2 T;rw[Go.ConcN.upd_same,Deaf_own];exact hq'
       .rw[ab1 B,ai0] at T
        obtain⟨y,hy,rfl⟩:=χ.1 T;have V:=E.old j y D hy;rw[woken_quitsD V,Go.ConcN.upd_ne q k (Ne.symm B),Deaf_other t B _ (λop l=>by obtain⟨e,_,rfl⟩:=Go.Conc.mem_ofEvents l;rfl)];exact V,λj D=>by
       rw[Deaf_other t (g':=i) (by simp at D;omega) _ (λop l=>by obtain⟨e,_,rfl⟩:=Go.Conc.mem_ofEvents l;rfl)];exact E.above j (by simpa using D)⟩
      (by rw[A];exact Y.own p) (Z.mute ϖ hm) (jj.rely (C:=Se Shun) (r:= .mk f) (.inr ⟨o,v⟩) ⟨d,rfl⟩)
     exact⟨N+1,c,H,S,u,t',W,by simp only[runNT,X,h];exact hr,R,hS,M,I,J,K,(Nr.mute t hm).trans O⟩
def mr {M:Machine}{t:Trace}{g:Θ}{w:Ω}(c:Zero P Shun M t g w)(h:aG P true (Se Shun) Stop () g w):
  ∃(N:Nat)(d:Machine)(t':Trace)(g':Θ)(w':Ω),runNT P N M t=(.next d,t')/\Zero P Shun d t' g' w'/\Stop () g' w'/\w'.os=w.os/\Nr t t':=by
 have⟨r,h⟩:=h;obtain⟨o,sl,q,rfl,h0,m,n⟩:=c.ex;have⟨N,a,a',w',b,t',j,h1,h2,l,f,i,p,e,k⟩:=Lb r _ o g w sl t q (Nat.lt_succ_self _) h0 m n c.past h;exact⟨N,_,t',a',w',h1,⟨⟨a,b,j,rfl,h2,f,e⟩,i⟩,l,p,k⟩
end
end
section
open Go.RowKit
def rF {k:IntKind}{a b:Int}(h:a=b):Ending.returned (.int k a)= .returned (.int k b):=by rw[h]
def aj (p:Prop):Prop:=p
def aj.go {p:Prop}(h:p):aj p:=h
def Row (w:Ω)(b:Nat)(c:ϐ)(t:η):Prop:=w.heap[b]? =some (.cells c t (0,0))
structure aQ (S:List Nat)(w w':Ω):Prop where
 os:w'.os=w.os
 tape:w'.tape=w.tape
 output:w'.output=w.output
 size:w.heap.size<=w'.heap.size
 block:∀k,k<w.heap.size->k∉S->w'.heap[k]? =w.heap[k]?
def aQ.refl (S:ϑ)(w:Ω):aQ S w w:=⟨rfl,rfl,rfl,ι _,λ_ _ _=>rfl⟩
def aQ.mono {S T:ϑ}{w w':Ω}(h:aQ S w w')(a:∀k∈S,k∈T\/w.heap.size<=k:=by simp):aQ T w w':=
 ⟨h.os,h.tape,h.output,h.size,λk b d=>h.block k b λc=>(a k c).elim d ϖ⟩
def aQ.trans {S T:ϑ}{a b c:Ω}(h:aQ S a b)(k:aQ T b c)(f:∀i∈T,i∈S\/a.heap.size<=i:=by simp):aQ S a c:=
 ⟨k.os.trans h.os,k.tape.trans h.tape,k.output.trans h.output,ac7 h.size k.size,
  λi d e=>(k.block i (ψ d h.size) λx=>(f i x).elim e ϖ).trans (h.block i d e)⟩
def aQ.alloc (S:ϑ)(w:Ω)(o:Obj):aQ S w (w.alloc o):=⟨rfl,rfl,rfl,ϛ,λk a _=>Below.heap_alloc w o k a⟩
def aQ.drew (S:ϑ)(w:Ω):aQ S w w.drew:=⟨rfl,rfl,rfl,ι _,λ_ _ _=>rfl⟩
def aQ.drewN (S:ϑ)(w:Ω)(n:Nat):aQ S w (w.drewN n):=by
 refine⟨?_,?_,?_,?_,?_⟩<;>simp[World.drewN]
def aQ.setRow (S:ϑ)(w:Ω)(b:Nat)(c:ϐ)(a:b∈S:=by simp):aQ S w (w.setRow b c):=
 ⟨rfl,rfl,rfl,ϛ,λk _ d=>setRow_other w b k c λe=>d (e▸a)⟩
def aQ.setCell (S:ϑ)(w:Ω)(a:Addr)(v:Φ)(b:a.block∈S:=by simp):aQ S w (w.setCell a v):=
 ⟨rfl,rfl,rfl,ϛ,λk _ c=>heap_setCell_other w a k v λe=>c (e▸b)⟩
def aQ.row {S:ϑ}{w w':Ω}(h:aQ S w w'){b:Nat}{c:ϐ}{t:η}(hr:Row w b c t)(a:b∉S:=by simp):Row w' b c t:=by
 unfold Row at*;rw[h.block b (Ψ.1 hr).1 a];exact hr
def aQ.of_below {w w':Ω}(h:Below w.heap.size w w'):aQ [] w w':=⟨h.os,h.tape,h.output,h.size,λk a _=>h.block k a⟩
def aQ.owns {S:ϑ}{w w':Ω}(h:aQ S w w'){base:Nat}{e:η}{size:Nat}{v:Φ}{n:Nat}{xs:ϡ}(c:w.ownsRow base e size v n xs)(d:∀k∈S,v.ownBlock≠some k:=by simp):
  w'.ownsRow base e size v n xs:=by
 refine⟨c.1,?_⟩;rcases c.2 with f|⟨g,cap,a,rfl,b,hg,r⟩
 .exact .inl f
 .exact .inr ⟨g,cap,a,rfl,b,by rw[h.block g (Ψ.1 hg).1 λi=>d g i rfl];exact hg,r⟩
def aQ.grown {w w':Ω}{row:ϣ}(h:w.grownBy w' row):aQ row.toList w w':=
 ⟨h.os,h.tape,h.output,h.size,λk b a=>h.block k b λe=>a (by simp[<-e])⟩
def Row.lt {w:Ω}{b:Nat}{c:ϐ}{t:η}(h:Row w b c t):b<w.heap.size:=(Ψ.1 h).1
def Row.cell {w:Ω}{b:Nat}{c:ϐ}{t:η}(h:Row w b c t)(j:Nat):w.cell? ⟨b,j,none⟩=c[j]? :=cell_of_row w b j c t (0,0) h
def Row.thaw {w:Ω}{b:Nat}{c:ϐ}{t:η}(h:Row w b c t)(j:Nat):w.frozen? ⟨b,j,none⟩=false:=frozen_of_row w b j c t h
def Row.new (w:Ω)(c:ϐ)(t:η):Row (w.alloc (.cells c t)) w.heap.size c t:=heap_alloc_new w _
def Row.setCell {w:Ω}{b:Nat}{c:ϐ}{t:η}(h:Row w b c t)(i:Nat)(v:Φ):Row (w.setCell ⟨b,i,none⟩ v) b (c.setIfInBounds i v) t:=
 heap_setCell_same w b i c t v h
def Row.setRow {w:Ω}{b:Nat}{c:ϐ}{t:η}(h:Row w b c t)(d:ϐ):Row (w.setRow b d) b d t:=setRow_heap w b c d t (0,0) h
def Row.drew {w:Ω}{b:Nat}{c:ϐ}{t:η}(h:Row w b c t):Row w.drew b c t:=h
def over (c:ϐ)(o:Nat)(a:ϡ):Array Φ:=(c.toList.take o++a++c.toList.drop (o+a.length)).toArray
def bL (c:ϐ)(a:ϡ)(h:c.size=a.length):over c 0 a=a.toArray:=by
 simp[over,<-h]
def cx {α:Type}{l xs:List α}{m:Nat}(h:l.take m=xs)(i j:Nat)(a:i+j<=m:=by omega):(l.drop i).take j=(xs.drop i).take j:=by
 subst h;rw[List.drop_take,List.take_take]
 congr 1
 omega
def co (l:ϡ)(i:Nat)(a:Φ):l.toArray.setIfInBounds i a=(l.set i a).toArray:=List.setIfInBounds_toArray l i a
def cq (x:Φ)(xs:ϡ)(i:Nat)(a:Φ):(x::xs).set (i+1) a=x::xs.set i a:=rfl
def ck (x:Φ)(xs:ϡ)(a:Φ):(x::xs).set 0 a=a::xs:=rfl
def ce {w:Ω}{base:Nat}{e:η}{size:Nat}{v:Φ}{n:Nat}{xs:ϡ}(h:w.ownsRow base e size v n xs):∃ad cap,v= .slice ad n cap:=by
 rcases h.2 with⟨rfl,rfl⟩|⟨g,cap,_,rfl,_⟩
 .exact⟨_,_,rfl⟩
 .exact⟨_,_,rfl⟩
def eT {w:Ω}{base:Nat}{e:η}{size:Nat}{ad:Ϡ}{cap n:Nat}{xs:ϡ}(h:w.ownsRow base e size (.slice ad n cap) n xs)(b:0<n:=by omega):
  ∃g a,ad=some ⟨g,0,none⟩/\Row w g a e/\n<=cap/\cap<=maxLen/\a.size=cap*size/\a.toList.take (n*size)=xs:=by
 rcases h.2 with⟨hv,rfl⟩|⟨g,cap',a,hv,_,hg,r⟩
 .omega
 .simp only[Value.slice.injEq] at hv
  obtain⟨rfl,_,rfl⟩:=hv;exact⟨g,a,rfl,hg,r⟩
section
variable {P:ω}{ops:Array Oper}{Q:Exit->Act->Ω->Prop}{a:Act}{w:Ω}{rest:List Oper}{o:Oper}
def aA {t:η}(_:o.op= .alloc t)(h:aj (wpList P ops Q (o::rest) a w)):wpList P ops Q (o::rest) a w:=h
def bA {t:η}{x:ab7}(_:o.op= .box t x)(h:aj (wpList P ops Q (o::rest) a w)):wpList P ops Q (o::rest) a w:=h
def au (t:η){x:ab7}(_:o.op= .load t x)(h:aj (wpList P ops Q (o::rest) a w)):wpList P ops Q (o::rest) a w:=h
def ai (t:η){x y:ab7}(_:o.op= .store t x y)(h:aj (wpList P ops Q (o::rest) a w)):wpList P ops Q (o::rest) a w:=h
def Hp {t:η}{x:ab7}{f:Nat}(_:o.op= .field t x f)(h:aj (wpList P ops Q (o::rest) a w)):wpList P ops Q (o::rest) a w:=h
def dX (t:η){b:BinOp}{u:η}{x y:ab7}(_:o.op= .binOp b t x y u)(h:aj (wpList P ops Q (o::rest) a w)):wpList P ops Q (o::rest) a w:=h
def ia {t u:η}{x:ab7}(_:o.op= .convert t u x)(h:aj (wpList P ops Q (o::rest) a w)):wpList P ops Q (o::rest) a w:=h
def cT (hg:o.guard=none)(v:Φ)(w1:Ω)(hr:(execOp a.eval o).run P w= .ok (.value v) w1)(h:wpList P ops Q rest (a.put o.dst v) w1):wpList P ops Q (o::rest) a w:=
 wpList_plain hg λK b=>by
  unfold Oper.wp;rw[hr];exact b _ _ h
def yd (hg:o.guard=none)(w1:Ω)(hr:(execOp a.eval o).run P w= .ok .skip w1)(h:wpList P ops Q rest (a.put o.dst ϗ) w1):wpList P ops Q (o::rest) a w:=
 wpList_plain hg λK b=>by
  unfold Oper.wp;rw[hr];exact b _ _ h
def bj (hg:o.guard=none)(t:η)(f:o.op= .alloc t)(z:Φ)(e:(P.info? t).map (·.zero)=some (some z))(h:∀(w1:Ω)(b:Nat),w.heap.size<=b->aQ [] w w1->Row w1 b z.cells t->wpList P ops Q rest (a.put o.dst (.pointer (some ⟨b,0,none⟩))) w1):wpList P ops Q (o::rest) a w:=by
 refine cT hg _ (w.alloc (.cells z.cells t)) ?_ (h _ _ (ι _) (aQ.alloc ..) (Row.new ..));cases d:P.info? t with
 |none=>simp[d] at e
 |some i=>
  have c:i.zero=some z:=by simpa [d] using e
  simp[execOp,f,Instr.alloc,zeroValue,typeInfo,d,c,newVar,newRow,run_bind]
def eQ (hg:o.guard=none)(t:η)(x:ab7)(c:o.op= .box t x)(v:Φ)(d:a.eval x=v)(h:∀(w1:Ω)(b:Nat),w.heap.size<=b->aQ [] w w1->Row w1 b v.cells t->wpList P ops Q rest (a.put o.dst (.pointer (some ⟨b,0,none⟩))) w1):wpList P ops Q (o::rest) a w:=by
 refine cT hg _ (w.alloc (.cells v.cells t)) ?_ (h _ _ (ι _) (aQ.alloc ..) (Row.new ..));simp[execOp,c,d,Instr.box,newVar,newRow]
def bZ (hg:o.guard=none)(t:η)(x:ab7)(l:o.op= .load t x)(b off:Nat)(m:a.eval x= .pointer (some ⟨b,off,none⟩))(i:(P.underlying t).map TypeDesc.isRow=some true)(n:Nat)(p:(P.info? t).map (·.size)=some n)(c:ϐ)(u:η)(hr:Row w b c u)(e:ϡ)(hv:(c.toList.drop off).take n=e)(k:e.length=n)(h:wpList P ops Q rest (a.put o.dst (.agg e.toArray)) w):wpList P ops Q (o::rest) a w:=by
 have⟨d,g,hd⟩:=χ.1 i;refine wpList_load_mid hg t x l b off m e d (λj v f=>?_) g hd (by rw[p,k]) h;rw[hr.cell];subst hv;rw[al8] at f;split at f
 .simpa [ai6] using f
 .cases f
def pM (t:η)(b off:Nat)(cells:ϐ)(n:Nat)(e:(P.info? t).map (·.size)=some n)(g:cells.size=n)(h1:∀v∈cells.toList,v.oneCell'=true)(c:ϐ)(u:η)(hr:Row w b c u)(a:off+n<=c.size):
  (Instr.storeAt t (.pointer (some ⟨b,off,none⟩)) (.agg cells)).run P w= .ok () (w.setRow b (over c off cells.toList)):=by
 subst g;have:=run_storeCells_at P b off u cells.toList 0 c w hr (by simpa using a) h1;cases d:P.info? t with
 |none=>simp[d] at e
 |some i=>
  have f:i.size=cells.size:=by simpa [d] using e
  simp only[ϕ1] at this;simp[Instr.storeAt,Instr.sureAddr,storeVar,sizeOf,typeInfo,d,Value.cells,f,this,over,run_bind]
def bQ (hg:o.guard=none)(t:η)(x y:ab7)(f:o.op= .store t x y)(b off:Nat)(g:a.eval x= .pointer (some ⟨b,off,none⟩))(cells:ϐ)(i:a.eval y= .agg cells)(n:Nat)(j:(P.info? t).map (·.size)=some n)(e:cells.size=n)(h1:∀v∈cells.toList,v.oneCell'=true)(c:ϐ)(u:η)(hr:Row w b c u)(d:off+n<=c.size)(h:∀w1:Ω,aQ [b] w w1->Row w1 b (over c off cells.toList) u->wpList P ops Q rest (a.put o.dst ϗ) w1):wpList P ops Q (o::rest) a w:=by
 refine yd hg (w.setRow b (over c off cells.toList)) ?_ (h _ (aQ.setRow ..) (hr.setRow _));have:=pM (P:=P) t b off cells n j e h1 c u hr d;simp[execOp,f,g,i,this]
def mX {fn:Func}{R:Ending->Ω->Prop}{tp:Tmp}{ty:η}(i:fn.results=#[.cell tp ty])(b:Nat)(j:a.tmps.getD tp ϗ= .pointer (some ⟨b,0,none⟩))(hd:a.defers=[])(c:ϐ)(u:η)(hr:Row w b c u)(g:(P.underlying ty).map TypeDesc.isRow=some true)(k:(P.info? ty).map (·.size)=some c.size)(h:R (.returned (.agg c)) w):bodyPost P fn R .ret a w:=by
 have⟨d,e,f⟩:=χ.1 g;exact bodyPost_ret (results_cell_row i a.tmps w b u c (0,0) d j hr e (by revert f e;cases d<;>intro x y<;>first|rfl|cases y) k) hd h
end
end
section
open Go.Conc
def Pw (P:ω)(S E:Ϣ)(str:Bool)(f:ac0):Bool:=match P.funcs[f]? with
 |some fn=>!(fn.name== "runtime.NumGoroutine")&&(match fn.body with
  |some c=>zC P S E str c
  |none=>false)
 |none=>false
def FD {P:ω}{S E:Ϣ}{str:Bool}{f:ac0}(h:Pw P S E str f=true):∃fn c,P.funcs[f]? =some fn/\(fn.name== "runtime.NumGoroutine")=false/\fn.body=some c/\zC P S E str c=true:=by
 unfold Pw at h;cases b:P.funcs[f]? with
 |none=>simp[b] at h
 |some fn=>
  rw[b] at h;simp only[ε,ϓ5] at h;have⟨h1,h2⟩:=h;cases a:fn.body with
  |none=>rw[a] at h2;cases h2
  |some c=>rw[a] at h2;exact⟨fn,c,rfl,h1,a,h2⟩
def zZ:(decide (prog.globals.size<=1))=true:=ϰ
def KP:prog.cellsOf 1000000=0:=ϰ
def S1 (f:ac0):Bool:=[166,51,83,82,81,114,115,116,117].contains f
def aew:([166,51,83,82,81,114,115,116,117].all (Pw prog S1 (λ_=>false) false))=true:=ϰ
def ad9:Stat prog S1 (λ_=>false) false where
 Bg:=of_decide_eq_true zZ
 wF:=KP
 body:=λf a=>by
  have h:f∈[166,51,83,82,81,114,115,116,117]:=by simpa [S1] using a
  exact FD (ad6.1 aew f h)
 ext:=λf a=>by cases a
def l0:List Nat:=[14,15,16,18,19,20,21,22,23,24,25,26,27,29,32,33,35,36,37,38,39,40,41,42,43,44,45,46,47,48,49,50,51,52,53,54,56,57,58,59,60,61,62,63,64,65,66,67,69,70,71,72,73,74,75,76,77,78,79,80,81,82,83,84,85,86,87,92,93,94,95,96,97,98,99,100,101,102,103,104,105,106,107,108,109,110,111,112,113,114,115,116,117,118,119,120,121,122,123,124,125,126,127,128,129,136,137,138,139,140,141,142,143,144,145,146,147,148,149,150,151,152,153,154,155,156,157,158,159,160,166,179,180,181,182,183,184,185,186,187,188,189,190,191,192,206,207,209,210,91]
def S0 (f:ac0):Bool:=l0.contains f
def E0 (f:ac0):Bool:=[161,205,208,211].contains f
def YT:l0.all (Pw prog S0 E0 true)=true:=ϰ
def aex (f:ac0)(a:f∈l0):Pw prog S0 E0 true f=true:=ad6.1 YT f a
def Bj:Extern.find Tryz.f161=some Extern.AbiNoEscape.same:=ϰ
def z7:Extern.find Tryz.f205=some Extern.BytealgIndexByte.indexByte:=ϰ
def find_index:Extern.find Tryz.f208=some Extern.BytealgIndex.index:=ϰ
def x8:Extern.find Tryz.f211=some (Extern.BytealgMakeNoZero.makeNoZero Tryz.f211.params Tryz.f211.resultTypes):=ϰ
def A9:(Extern.findNext Tryz.f161).isNone=true:=ϰ
def zD:(Extern.findNext Tryz.f205).isNone=true:=ϰ
def Iw:(Extern.findNext Tryz.f208).isNone=true:=ϰ
def xZ:(Extern.findNext Tryz.f211).isNone=true:=ϰ
def Ba:(Tryz.f161.name== "runtime.NumGoroutine")=false:=ϰ
def zE:(Tryz.f205.name== "runtime.NumGoroutine")=false:=ϰ
def IA:(Tryz.f208.name== "runtime.NumGoroutine")=false:=ϰ
def x3:(Tryz.f211.name== "runtime.NumGoroutine")=false:=ϰ
def Bx:Tryz.f161.body.isNone=true:=ϰ
def Ax:Tryz.f205.body.isNone=true:=ϰ
def Jw:Tryz.f208.body.isNone=true:=ϰ
def x9:Tryz.f211.body.isNone=true:=ϰ
def EJ:Stat prog S0 E0 true where
 Bg:=of_decide_eq_true zZ
 wF:=KP
 body:=λf b=>FD (aex f (by simpa [S0] using b))
 ext:=λf b π c h0 N V args=>by
  have a:f=161\/f=205\/f=208\/f=211:=by simpa [E0] using b
  rcases a with rfl|rfl|rfl|rfl
  .exact oP func161 Ba Bx (ϓ3.1 A9) Bj (C5 args)
  .exact oP func205 zE Ax (ϓ3.1 zD) z7 (A3 args)
  .exact oP func208 IA Jw (ϓ3.1 Iw) find_index (C7 h0 (of_decide_eq_true zZ) args)
  .exact oP func211 x3 x9 (ϓ3.1 xZ) x8 (yX _ _ args)
theorem qK {P:ω}{Stop:(Nat->Prop)->Θ->Ω->Prop}(K:ϒ){own:ϒ}{g:Θ}{w:Ω}(h:aG P true mL Stop own g w)(b:∀q,K q->q<w.heap.size/\¬own q):
  aG P true mL (λs g w'=>Stop s g w'/\(∀q,K q->¬s q/\w'.heap[q]? =w.heap[q]?)/\w'.output=w.output) own g w:=by
 obtain⟨r,h⟩:=h
 suffices key:∀w0:Ω,(∀q,K q->w.heap[q]? =w0.heap[q]?)->w.output=w0.output->aG P true mL (λs g w'=>Stop s g w'/\(∀q,K q->¬s q/\w'.heap[q]? =w0.heap[q]?)/\w'.output=w0.output) own g w from key w (λ_ _=>rfl) rfl
 induction r generalizing own g w with
 |zero=>exactλw0 i e=> .stop λw₁ hr=>⟨h w₁ hr,λq a=>⟨(b q a).2,by obtain⟨d,rfl⟩:=hr;exact i q a⟩,by obtain⟨d,rfl⟩:=hr;exact e⟩
 |mk f l=>
  intro w0 i e;rcases h with h|⟨m,h⟩
  .exact .stop λw₁ hr=>⟨h w₁ hr,λq a=>⟨(b q a).2,by obtain⟨d,rfl⟩:=hr;exact i q a⟩,by obtain⟨d,rfl⟩:=hr;exact e⟩
  .refine aG.step m λw₁ hr=>?_
   obtain⟨g',w',es,h1,h2,k⟩:=h w₁ hr;obtain⟨d,rfl⟩:=hr;have c:lO own (λ_=>False) (w.at d) w' es:=h2;exact⟨g',w',es,h1,h2,l (w.at d) (λq a=>⟨ψ (b q a).1 c.size,λj=>j.elim (b q a).2 λx=>by
    have n:=(b q a).1;have o:w.heap.size<=q:=x.1;omega⟩) k w0 (λq a=>(c.keep q (b q a).1 (b q a).2).trans (i q a)) (c.output.trans e)⟩
def Link.less {H Z O RO:ϒ}{π:Ϛ}{wL w:Ω}(h:Link H Z O RO π wL w)(K:ϒ)(c:∀b,iG H wL b->¬K (π b)):Link H Z (λb=>O b/\¬K b) RO π wL w:=
 ⟨h.inj,h.zero,h.lt,h.lw,h.wr,λb hv a=>⟨h.own b hv a,c b hv⟩,h.ro⟩
def Apart.union {Shun:ϩ}{own:ϒ}{w:Ω}(h:Apart Shun own w)(K:ϒ)(d:∀q,K q->q<w.heap.size/\∀l,aI.mP q l->¬Shun l):Apart Shun (λb=>own b\/K b) w:=
 ⟨λb a l c=>a.elim (λx=>h.off b x l c) λx=>(d b x).2 l c,λb a=>a.elim (h.lt b) λx=>(d b x).1,h.low,h.cell⟩
def Apart.part {Shun:ϩ}{own own':ϒ}{w:Ω}(h:Apart Shun own w)(c:∀b,own' b->own b):Apart Shun own' w:=
 ⟨λb a=>h.off b (c b a),λb a=>h.lt b (c b a),h.low,h.cell⟩
def Link.wider {H Z O a RO:ϒ}{π:Ϛ}{wL w:Ω}(h:Link H Z O RO π wL w)(d:∀b,O b->a b):Link H Z a RO π wL w:=⟨h.inj,h.zero,h.lt,h.lw,h.wr,λb e c=>d _ (h.own b e c),h.ro⟩
def FC {P:ω}{S E:Ϣ}{str:Bool}{o:Oper}(h:nI P S E str o=true):ft (sl []) P S E str o=true:=by simp[ft,sl,h]
def ut {π:Ϛ}(a:Act)(d:Ϩ)(v:Φ):(ba π a []).put d (ren π v)=ba π (a.put d v) []:=jd a [] d v λ_ _=>by simp[sl]
def Na {π:Ϛ}(a:Act){x:ab7}(b:oh x=true):(ba π a []).eval x=ren π (a.eval x):=mI a [] b (by cases x<;>rfl)
namespace af
abbrev PP:ω:=Tryz.prog
abbrev no:Nat->Prop:=λ_=>False
structure Env where
 Ok:Machine->Trace->Prop
 back:∀N M t M' t',runNT PP N M t=(.next M',t')->Ok M' t'->Ok M t
 os:Os
 H:Nat->Prop
 K:Nat->Option Obj
 out:Array (Nat×Ξ)
def KF (K:Nat->Option Obj)(Shun:ϩ)(own:ϒ)(w:Ω):Prop:=∀q o,K q=some o->¬own q/\w.heap[q]? =some o/\∀l,aI.mP q l->¬Shun l
def Osl (E:Env)(w:Ω):Prop:=ConcM.OsLater E.os w.os/\w.output=E.out
structure BD (E:Env)(π:Nat->Nat)(wL:Ω)(M:Machine)(t:Trace)(g:Θ):Prop where
 ex:∃(Shun:Loc->Prop) (own:Nat->Prop) (w:Ω),Zero PP Shun M t g w/\Link E.H no own no π wL w/\Apart Shun own w/\Osl E w/\KF E.K Shun own w
abbrev VA (H:Nat->Prop)(wL:Ω)(c:Array Φ):Prop:=∀v∈c,VV (iG H wL) v
section
variable {H Z O RO:Nat->Prop}{π:Nat->Nat}{wL w:Ω}
def _root_.Go.Proofs.YtchcmhodnkgojaaGreat.Link.ax (h:Link H Z O RO π wL w)(t:eL)(d:Nat):Link H Z O RO π (ax wL t d) w:=⟨h.inj,h.zero,h.lt,h.lw.ax t d,h.wr,h.own,h.ro⟩
def _root_.Go.Proofs.YtchcmhodnkgojaaGreat.Link.Eu {t:eL}{d:Nat}(h:Link H Z O RO π (ax wL t d) w):Link H Z O RO π wL w:=⟨h.inj,h.zero,h.lt,h.lw.ax wL.tape wL.drawn,h.wr,h.own,h.ro⟩
def _root_.Go.Proofs.YtchcmhodnkgojaaGreat.Link.at (h:Link H Z O RO π wL w)(d:Nat):Link H Z O RO π wL (w.at d):=
 ⟨h.inj,h.zero,h.lt,h.lw,⟨h.wr.inj,rfl,rfl,h.wr.lt,h.wr.ok,h.wr.hid,h.wr.pZ,h.wr.low,h.wr.AM⟩,h.own,h.ro⟩
end
def BD.ax {E:Env}{π:Ϛ}{wL:Ω}{M:Machine}{b:Trace}{g:Θ}(t:eL)(d:Nat):BD E π (ax wL t d) M b g↔BD E π wL M b g:=
 ⟨λ⟨D,o,w,h1,h2,a⟩=>⟨D,o,w,h1,h2.Eu,a⟩,λ⟨D,o,w,h1,h2,a⟩=>⟨D,o,w,h1,h2.ax t d,a⟩⟩
def Du (own:ϒ)(w:Ω):lO own no w w #[]:=⟨ι _,λ_ _ _=>rfl,rfl,rfl,rfl,ϛ⟩
def JK (s:ϒ)(w:Ω):mL.up s w w=s:=funext λb=>propext ⟨λh=>h.elim id λh=>ϖ,.inl⟩
def kC {H:ϒ}{π cA:Ϛ}{wL:Ω}{a:Act}(ha:VA H wL a.tmps)(h:∀b,b<wL.heap.size->cA b=π b)(D:kU):ba π a D=ba cA a D:=by
 unfold ba;rw[mo λv hv r x=>(h r (ha v hv r x).1).symm]
def VA.grow {H:ϒ}{wL a:Ω}{c:ϐ}(h:VA H wL c)(d:wL.heap.size<=a.heap.size):VA H a c:=λv hv=>(h v hv).weak λ_ b=>⟨ψ b.1 d,b.2⟩
section
variable (Ok:Env)
def CI (f:ac0)(t:ϕ)(R:ϝ)(a:Act)(wL:Ω):Prop:=
 ∀(CS:ϙ)(π:Ϛ)(M:Machine)(e:Trace),BD Ok π wL M e (G ((base f).at (ba π a []) t) CS)->VA Ok.H wL a.tmps->a.defers=[]->
  (∀(a':Act)(c:Ω)(cA:Ϛ)(g:Machine)(h:Trace)(todo:ϕ),(∃t d,R a' (ax c t d))->BD Ok cA c g h (G {(base f).at (ba cA a' []) todo with mode:= .returning} CS)->
   VA Ok.H c a'.tmps->a'.defers=[]->(∀b,b<wL.heap.size->cA b=π b)->wL.heap.size<=c.heap.size->Ok.Ok g h)->Ok.Ok M e
def CC (f:ac0)(args:ϐ)(R:ϥ)(wL:Ω):Prop:=
 ∀(c:κ)(CS:ϙ)(π:Ϛ)(M:Machine)(e:Trace),BD Ok π wL M e (G (Frame.enter PP f (args.map (ren π)) .normal) (c::CS))->VA Ok.H wL args->
  (∀(v:Φ)(a:Ω)(cA:Ϛ)(g:Machine)(h:Trace),(∃t d,R v (ax a t d))->BD Ok cA a g h (G (c.finish (ren cA v)) CS)->VV (iG Ok.H a) v->
   (∀b,b<wL.heap.size->cA b=π b)->wL.heap.size<=a.heap.size->Ok.Ok g h)->Ok.Ok M e
end
section
variable {Ok:Env}{f:ac0}{k t:List Item}{R:Act->Ω->Prop}{a:Act}{wL:Ω}
def pD (t':eL)(d:Nat):CI Ok f t R a (ax wL t' d)↔CI Ok f t R a wL:=
 ⟨λh CS π M b c=>h CS π M b ((BD.ax t' d).2 c),λh CS π M b c=>h CS π M b ((BD.ax t' d).1 c)⟩
def CI.mono {R':ϝ}(h:CI Ok f t R a wL)(hr:∀a w,R a w->R' a w):CI Ok f t R' a wL:=λCS π M b j ha hd i=>
 h CS π M b j ha hd λa' e cA c k todo ⟨t,d,g⟩=>i a' e cA c k todo ⟨t,d,hr _ _ g⟩
def CC.mono {args:ϐ}{R R':ϥ}(h:CC Ok f args R wL)(hr:∀v w,R v w->R' v w):CC Ok f args R' wL:=λc CS π M a j ha i=>
 h c CS π M a j ha λv e cA b k ⟨t,d,g⟩=>i v e cA b k ⟨t,d,hr _ _ g⟩
def lS {π:Ϛ}{M:Machine}{i:Trace}{g:Θ}{Stop:(Nat->Prop)->Θ->Ω->Prop}(t:BD Ok π wL M i g)(h:∀(own:ϒ)(w:Ω),Link Ok.H no own no π wL w->aG PP true mL Stop own g w)(r:∀(Shun:ϩ)(s:ϒ)(g':Θ)(w':Ω)(e:Machine)(k:Trace),Zero PP Shun e k g' w'->Stop s g' w'->Apart Shun s w'/\Osl Ok w'/\KF Ok.K Shun s w'->Ok.Ok e k):Ok.Ok M i:=by
 have⟨D,o,w,h1,h2,p,j,d⟩:=t;obtain⟨N,e,t',g',w',e1,e2,⟨s',⟨l,c,f⟩,m⟩,n,_⟩:=mr h1 (yq (qK (λq=>∃o,Ok.K q=some o) (h o w h2) λq ⟨a,b⟩=>⟨(Ψ.1 (d q a b).2.1).1,(d q a b).1⟩) p)
 exact Ok.back _ _ _ _ _ e1 (r _ _ _ _ _ _ e2 l ⟨m,⟨by rw[n];exact j.1,f.trans j.2⟩,λq a b=>⟨(c q ⟨a,b⟩).1,(c q ⟨a,b⟩).2.trans (d q a b).2.1,(d q a b).2.2⟩⟩)
def eJ {π:Ϛ}{M:Machine}{f:Trace}{fr:κ}{cs:ϙ}{g':Θ}(j:BD Ok π wL M f (G fr cs))(k:∀w,stepG PP true (G fr cs) w= .go g' w)(i:∀(a:Machine)(b:Trace),BD Ok π wL a b g'->Ok.Ok a b):Ok.Ok M f:=by
 refine lS (Stop:=λs g w=>g=g'/\Link Ok.H no s no π wL w) j (λown w c=>?_) λDead s g w a b h ⟨e,c⟩ hd=>i a b ⟨Dead,s,w,e▸h,c,hd⟩
 refine aG.silent rfl k (λw₁ _=>Du ..) (λw₁=>JK ..) (.stop λw₁ ⟨d,e⟩=>⟨rfl,?_⟩);rw[e];exact c.at d
def pE {t':ϕ}(m:∀(b:Act)(CS:ϙ)(w:Ω),(∀x,a.eval x= .bool true->b.eval x= .bool true)->(∀x,a.eval x= .bool false->b.eval x= .bool false)->stepG PP true (G ((base f).at b t) CS) w= .go (G ((base f).at b t') CS) w)(h:CI Ok f t' R a wL):CI Ok f t R a wL:=λCS π M n k ha hd j=>by
 have ev:∀(x:ab7)(t:Bool),a.eval x= .bool t->(ba π a []).eval x= .bool t:=λx t c=>by
  cases x with
  |tmp i=>
   show(a.tmps.map (ren π)).getD i undef=_;rw[k8,show a.tmps.getD i undef=_ from c];simp
  |const v=>exact c
  |global g=>cases c
  |func f=>cases c
 exact eJ k (m _ _ · (λx=>ev x true) λx=>ev x false) λe l d=>h CS π e l d ha hd j
def fU {x y:Code}(h:CI Ok f (.code x::.code y::k) R a wL):CI Ok f (.code (.seq x y)::k) R a wL:=pE (λ_ _ _ _ _=>stepG_seq) h
def Rc {id:Nat}{c:Code}(h:CI Ok f (.code c::.inBlock id::k) R a wL):CI Ok f (.code (.block id c)::k) R a wL:=pE (λ_ _ _ _ _=>stepG_block) h
def Jk {id:Nat}(h:CI Ok f k R a wL):CI Ok f (.inBlock id::k) R a wL:=pE (λ_ _ _ _ _=>stepG_inBlock) h
def Vo (h:CI Ok f k R a wL):CI Ok f (.code .skip::k) R a wL:=pE (λ_ _ _ _ _=>stepG_skip) h
def yz {x:ab7}{p q:Code}{b:Bool}(c:a.eval x= .bool b)(h:CI Ok f (.code (if b then p else q)::k) R a wL):CI Ok f (.code (.cond x p q)::k) R a wL:=by
 refine pE (λd CS w h1 h2=>?_) h;cases b with
 |true=>exact stepG_cond (h1 x c)
 |false=>exact stepG_cond (h2 x c)
def e9 {id:Nat}{ops:Ϙ}(h:CI Ok f (.inRegion ops (range ops.size)::k) R a wL):CI Ok f (.code (.region id ops false)::k) R a wL:=pE (λ_ _ _ _ _=>stepG_region) h
def de {ops:Ϙ}(h:CI Ok f k R a wL):CI Ok f (.inRegion ops []::k) R a wL:=pE (λ_ _ _ _ _=>stepG_region_end) h
def Jj (h:R a wL):CI Ok f (.code .ret::k) R a wL:=λCS π M i e ha hd d=>
 eJ e (λw=>stepG_ret') λc g b=>d a wL π c g _ ⟨wL.tape,wL.drawn,h⟩ b ha hd (λ_ _=>rfl) (ι _)
def after (Ok:Env)(b:ϣ)(f:ac0)(k:ϕ)(R:ϝ):Exit->Act->Ω->Prop
 |.normal,a,w=>CI Ok f k R a w
 |.exit id,a,w=>b=some id/\∃k',exitTo id k=some k'/\CI Ok f k' R a w
 |.ret,a,w=>∃t d,R a (ax w t d)
 |_,_,_=>False
def LY {b:ϣ}:QOk b (after Ok b f k R) where
 tape:=λe a w t d=>by
  cases e with
  |normal=>exact pD t d
  |exit id=>exact and_congr Iff.rfl (exists_congr λk'=>and_congr Iff.rfl (pD t d))
  |ret=>exact Iff.rfl
  |_=>exact Iff.rfl
 out:=λe a w h=>by
  cases e with
  |normal=>exact .inl rfl
  |ret=>exact .inr (.inl rfl)
  |exit id=>exact .inr (.inr ⟨id,rfl,h.1⟩)
  |_=>exact h.elim
def KO {t0:ϕ}(C:ϣ)(h0:∃fn,PP.funcs[f]? =some fn)(Ci:∀it∈t0,Dy PP S0 E0 true it=true)(N:∀id,C=some id->∃y,exitTo id k=some y)(u:∀t d,WpT PP t0 (after Ok C f k R) a (ax wL t d)):CI Ok f (t0++k) R a wL:=λCS π M T O ha hd F=>by
 refine lS O (λown w m=>PR EJ (λ_ _ h=>h) h0 zU LY (B:=base f) (D0:=[]) (CS:=CS) (kT:=k) rfl (by simp[base]) N Ci m ha hd u) ?_;rintro Dead s g w n o A ⟨e,a',D,cA,q,m,j,i,hg,l,c⟩ H;have go:∀k',g=G ((base f).at (ba cA a' []) k') CS->CI Ok f k' R a' D->Ok.Ok n o:=λk' e h=>
  h CS cA n o ⟨Dead,s,w,e▸A,m,H⟩ i j λQ S L J P todo r p v d I z=>F Q S L J P todo r p v d (λb x=>(I b (ψ x c)).trans (l b x)) (ac7 c z)
 cases e with
 |normal=>exact go k hg q
 |exit id=>
  have⟨_,k',h1,h2⟩:=q;have⟨y,E,K⟩:=hg;rw[h1] at E;cases E;exact go k' K h2
 |ret=>
  obtain⟨todo,rfl⟩:=hg;exact F a' D cA n o todo q ⟨Dead,s,w,A,m,H⟩ i j l c
 |_=>exact q.elim
def ij {c:Code}(g:ϣ)(h0:∃fn,PP.funcs[f]? =some fn)(I:Ϥ)(h:∀w t d,I w->I (ax w t d))(i:I wL)(e:∀w,I w->w.heap.size=wL.heap.size->c.wp PP (after Ok g f k R) a w)(Ci:zC PP S0 E0 true c=true:=by kernel_rfl)(j:∀id,g=some id->∃y,exitTo id k=some y:=by simp):CI Ok f (.code c::k) R a wL:=
 KO (t0:=[.code c]) g h0 (λit b=>by simp at b;subst b;exact Ci) j λt d=>e _ (h _ t d i) rfl
def Vp {ops:Ϙ}{l:ϑ}(e:ϣ)(h0:∃fn,PP.funcs[f]? =some fn)(Ci:Dy PP S0 E0 true (.inRegion ops l)=true)(i:∀id,e=some id->∃y,exitTo id k=some y)(I:Ϥ)(h:∀w t d,I w->I (ax w t d))(j:I wL)(g:∀w,I w->w.heap.size=wL.heap.size->wpOps PP ops (after Ok e f k R) l a w):CI Ok f (.inRegion ops l::k) R a wL:=
 KO (t0:=[.inRegion ops l]) e h0 (λit c=>by simp at c;subst c;exact Ci) i λt d b k cs=>wp_ops l a _ (g _ (h _ t d j) rfl) b k cs
def WO {ops:Ϙ}{i:Nat}{rest:ϑ}{o:Oper}(N:ops[i]? =some o)(tO:nI PP S0 E0 true o=true)(hg:o.guard=none)(h:∀t d,uponE o a (λa' w'=>CI Ok f (.inRegion ops rest::k) R a' w') (λ_ _ _=>False) ((execOp a.eval o).run PP (ax wL t d))):CI Ok f (.inRegion ops (i::rest)::k) R a wL:=λCS π M tr hp ha hd V=>by
 have q:∀c:Array Φ,wanted o (yielded ops c)=true:=λc=>by simp[wanted,hg]
 have A:(base f).kind≠.early:=by simp[base]
 refine lS (Stop:=λs g w=>∃a' j cA,CI Ok f (.inRegion ops rest::k) R a' j/\g=G ((base f).at (ba cA a' []) (.inRegion ops rest::k)) CS/\Link Ok.H no s no cA j w/\VA Ok.H j a'.tmps/\a'.defers=[]/\(∀b,b<wL.heap.size->cA b=π b)/\wL.heap.size<=j.heap.size) hp (λown w J=>?_) ?_
 .refine aG.step rfl λw₁ U=>?_
  have⟨r1,r2,r3⟩:=zU.rel own w w₁ U;have⟨cA,l,K,m⟩:=J.rely r1 r2 r3;have I:LW Ok.H no (ax wL w₁.tape w₁.drawn):=l.lw.ax ..;have B:ba π a []=ba cA a []:=kC ha (λb n=>(K b n).symm) [];have h1:=h w₁.tape w₁.drawn
  have D:=fun {x j} (hr:(execOp a.eval o).run PP (ax wL w₁.tape w₁.drawn)= .ok x j)=>pH EJ l.inj l.zero (λ_ _ h=>h) I l.wr [] ha (FC tO) hr λi _=>m i
  cases hr:(execOp a.eval o).run PP (ax wL w₁.tape w₁.drawn) with
  |halt hh u=>rw[hr] at h1;exact h1.elim
  |ok nx u=>
   rw[hr] at h1;have⟨l1,l2,x',w',e1,e2,Y,e4,e5,T⟩:=D hr;have⟨L,o2⟩:=l.uv (λi _=>m i) l1 l2 Y e4 (λe X=>e5 e (mem_listed (fn:=(base f).fn) X))
   have y:∀v:Φ,CI Ok f (.inRegion ops rest::k) R (a.put o.dst v) u->VV (iG Ok.H u) v->aG PP true mL (λs g w=>∃a' j cA,CI Ok f (.inRegion ops rest::k) R a' j/\g=G ((base f).at (ba cA a' []) (.inRegion ops rest::k)) CS/\Link Ok.H no s no cA j w/\VA Ok.H j a'.tmps/\a'.defers=[]/\(∀b,b<wL.heap.size->cA b=π b)/\wL.heap.size<=j.heap.size)
     (mL.up own w₁ w') (G ((base f).at (ba cA (a.put o.dst v) []) (.inRegion ops rest::k)) CS) w':=λv F hv=>
    .stop λO ⟨d,e⟩=>⟨_,u,cA,F,rfl,by rw[e];exact(o2 _ λb=>Iff.rfl).at d,jW (VA.grow ha l2) hv,(put_defers ..).trans hd,λb n=>(K b n).symm,l2⟩
   cases nx with
   |value v=>
    cases e2;refine⟨_,w',_,by rw[B];exact stepG_value N (q _) A e1,L,?_⟩;rw[ut];exact y v h1 T
   |skip=>
    cases e2;refine⟨_,w',_,by rw[B];exact stepG_none N (q _) A e1,L,?_⟩;have e:(ba cA a []).put o.dst undef=ba cA (a.put o.dst undef) []:=by
     have:=ut (π:=cA) a o.dst undef
     rwa [show ren cA undef=undef by simp[undef]] at this
    rw[e];exact y undef h1 ik
   |_=>exact h1.elim
 .rintro Dead s g w M' kd Q ⟨a',j,cA,F,rfl,J,E,H,m,C⟩ hs
  exact F CS cA M' kd ⟨Dead,s,w,Q,J,hs⟩ E H λa2 W S Z AU todo r p v d P z=>V a2 W S Z AU todo r p v d (λb n=>(P b (ψ n C)).trans (m b n)) (ac7 C z)
def Vq {ops:Ϙ}{i:Nat}{rest:ϑ}{o:Oper}{f2:ac0}{xs:Array ab7}{R2:ϥ}(E:ops[i]? =some o)(hg:o.guard=none)(m:xs.all oh=true)(j:∀(b:Act)(w:Ω),(execOp b.eval o).runT PP w #[]=(.ok (.enter f2 (xs.map b.eval)) w,#[]))(y:CC Ok f2 (xs.map a.eval) R2 wL)(h:∀v w',R2 v w'->wL.heap.size<=w'.heap.size->CI Ok f (.inRegion ops rest::k) R (a.put o.dst v) w'):CI Ok f (.inRegion ops (i::rest)::k) R a wL:=λCS π M W P ha hd O=>by
 have q:∀c:Array Φ,wanted o (yielded ops c)=true:=λc=>by simp[wanted,hg]
 have C:(base f).kind≠.early:=by simp[base]
 have u:xs.map (ba π a []).eval=(xs.map a.eval).map (ren π):=by
  rw[Ϙ3];exact ϸ λx A=>Na a (af8.1 m x A)
 have hr:∀w,(execOp (ba π a []).eval o).run PP w= .ok (.enter f2 ((xs.map a.eval).map (ren π))) w:=λw=>by rw[<-Sem.runT_fst PP _ w #[],j,u]
 have s:∀w,listed PP (base f).fn (ba π a []) o w=#[]:=λw=>by
  unfold listed;rw[show(execOp (ba π a []).eval o).events PP w #[]=#[] from congrArg Prod.snd (j _ w)];simp[seen]
 refine eJ P (λw=>by rw[stepG_enter E (q _) C (hr w),s]) λQ I B=>?_
 refine y _ CS π Q I B (λv hv=>?_) λv L cA J S ⟨t,d,N⟩ l hv n g=>?_
 .obtain⟨x,A,rfl⟩:=Ϙ4.1 hv
  exact j6 ha (af8.1 m x A)
 .have G:CI Ok f (.inRegion ops rest::k) R (a.put o.dst v) L:=(pD t d).1 (h v _ N g)
  have e:((base f).at (ba π a []) (.inRegion ops (i::rest)::k)).finish (ren cA v)=(base f).at (ba cA (a.put o.dst v) []) (.inRegion ops rest::k):=by
   rw[Frame.finish_at,E,ϒ6,kC ha n,ut]
  rw[e] at l;exact G CS cA J S l (jW (VA.grow ha g) hv) ((put_defers ..).trans hd) λU V K H T todo r p v d F z=>O U V K H T todo r p v d (λb D=>(F b (ψ D g)).trans (n b D)) (ac7 g z)
def WN (fn:Func)(R2:ϥ)(a:Act)(w:Ω):Prop:=∃v,(results fn a.tmps).run PP w= .ok v w/\R2 v w
def Dj {H Z:ϒ}{w:Ω}(h:LW H Z w){fn:Func}{c:ϐ}{v:Φ}{t:eL}{d:Nat}(hr:(results fn c).run PP (ax w t d)= .ok v (ax w t d))(t2:eL)(d2:Nat):
  (results fn c).run PP (ax w t2 d2)= .ok v (ax w t2 d2):=by
 have j:=mS (P:=PP) (π:=id) (N:=λb=>H b\/Z b) (V:=iG H w) fn c;have g:(results fn c).runT PP (ax w t d) #[]=(.ok v (ax w t d),(results fn c).events PP (ax w t d) #[]):=by rw[Sem.runT_eq,hr]
 have⟨k,f,a⟩:=j.Id h.Cj (λb l=>h.low b l) g;have e:d=d+k:=congrArg World.drawn f;obtain rfl:k=0:=ϖ
 have:=a t2 d2 λi m=>ϖ
 rw[<-Sem.runT_fst PP _ _ #[],this];rfl
def oD {fn:Func}{E:Code}{args:ϐ}{R2:ϥ}(C:PP.funcs[f]? =some fn)(l:fn.body=some E)(h:CI Ok f [.code E] (WN fn R2) {tmps:=args++Array.replicate (fn.ntmps-args.size) undef,defers:=[]} wL):CC Ok f args R2 wL:=λc CS π M I y ha S=>by
 rw[enter_at _ C l] at y;have U:ba π {tmps:=args++Array.replicate (fn.ntmps-args.size) undef,defers:=[]} []={tmps:=args.map (ren π)++Array.replicate (fn.ntmps-(args.map (ren π)).size) undef,defers:=[]}:=by
  simp[ba,ym,undef]
 rw[<-U] at y;refine h (c::CS) π M I y (λv hv=>?_) rfl λa' o cA Y Z todo ⟨t,d,v,hr,R⟩ x n T B m=>?_
 .rcases ai4.1 hv with hv|hv
  .exact ha v hv
  .rw[(Ϙ1.1 hv).2];exact ik
 refine lS (Stop:=λs g w=>∃k,g=G (c.finish (ren k v)) CS/\Link Ok.H no s no k o w/\VV (iG Ok.H o) v/\∀b,b<o.heap.size->k b=cA b) x (λown w u=>?_) ?_
 .refine aG.step rfl λw₁ r=>?_
  have⟨K,r2,r3⟩:=zU.rel own w w₁ r;have⟨k,j,D,p⟩:=u.rely K r2 r3;have q:LW Ok.H no (ax o w₁.tape w₁.drawn):=j.lw.ax ..;have A:=Dj j.lw hr w₁.tape w₁.drawn;have⟨l1,l2,w',e1,H,N,O,Q⟩:=pG EJ j.inj q j.wr n fn A λi _=>p i
  have⟨P,o2⟩:=j.uv (λi _=>p i) l1 l2 H N (es:=seen PP f ((results fn (a'.tmps.map (ren k))).events PP w₁ #[])) (λe X=>O e (by simpa using mem_seen (by simpa using X)));have z:=DT C (main:=true) (b:=base f) (a:=ba k a' []) (todo:=todo) (cr:=c) (Hf:=CS) (w:=w₁) rfl rfl rfl;rw[show(ba k a' []).tmps=a'.tmps.map (ren k) from rfl,e1] at z
  simp only[GStep.after] at z;refine⟨_,w',_,by rw[kC n (λb l=>(D b l).symm) []];exact z,(show lO own no w₁ w' _ by simpa using P),.stop λF ⟨d2,e⟩=>⟨k,rfl,?_,Q,λb l=>(D b l).symm⟩⟩;rw[e];exact((o2 _ λb=>Iff.rfl).Eu).at d2
 .rintro Dead s g w J W L ⟨k,rfl,u,hv,p⟩ V
  exact S v o k J W ⟨t,d,R⟩ ⟨Dead,s,w,L,u,V⟩ hv (λb l=>(p b (ψ l m)).trans (B b l)) m
end
def RJ (Post:ϥ)(M:Machine)(t:Trace):Prop:=∃N a o w' t',runNT PP (N+1) M t=(.ended o w',t')/\runN PP N M= .next a/\step PP a= .ended o w'/\Go.Conc.Good PP Post a o w' t'
def LO (Post:ϥ)(N:Nat)(M:Machine)(t:Trace)(b:Machine)(t':Trace)(h:runNT PP N M t=(.next b,t'))(k:RJ Post b t'):RJ Post M t:=by
 have⟨n,a,o,w',t2,h1,h2,d,c⟩:=k;refine⟨N+n,a,o,w',t2,?_,?_,d,c⟩
 .rw[Nat.add_assoc,runNT_add,h]
  exact h1
 .rw[runN_add,show runN PP N M= .next b by rw[<-runNT_fst PP N M t,h]]
  exact h2
def WM (Post:ϥ)(W:Ω)(H:ϒ)(K:Nat->Option Obj):Env:=⟨RJ Post,LO Post,W.os,H,K,W.output⟩
end af
end
section
open Go.RowKit Go.Lib
structure DS where
 aB:List Γ
 waiting:List (Int×List Γ)
 acts:Int
 given:Bool
 left:Int
 keep:Int
 failed:Bool
def eH (p:Int×List Γ):List Φ:= .int .i64 p.1::byteCells p.2
def lF (l:List (Int×List Γ)):List Φ:=l.flatMap eH
def iX (a n:Nat)(b:Φ)(x:DS):Array Φ:=
 #[.slice (some ⟨a,0,none⟩) n n,b,.int .i64 x.acts,.bool x.given,.int .i64 x.left,.int .i64 x.keep,.bool x.failed]
def j7 {w:Ω}{d b n:Nat}{a:Φ}{x:DS}{t:η}(h:Row w d (iX b n a x) t):
  w.cell? ⟨d,0,none⟩=some (.slice (some ⟨b,0,none⟩) n n)/\w.cell? ⟨d,1,none⟩=some a/\w.cell? ⟨d,2,none⟩=some (.int .i64 x.acts)/\w.cell? ⟨d,3,none⟩=some (.bool x.given)/\
  w.cell? ⟨d,4,none⟩=some (.int .i64 x.left)/\w.cell? ⟨d,5,none⟩=some (.int .i64 x.keep)/\w.cell? ⟨d,6,none⟩=some (.bool x.failed):=by
 refine⟨?_,?_,?_,?_,?_,?_,?_⟩<;>rw[h.cell]<;>rfl
structure bG (w:Ω)(d bl n:Nat)(vw:Φ)(x:DS):Prop where
 row:Row w d (iX bl n vw x) 134
 last:Row w bl (byteCells x.aB).toArray 148
 len:x.aB.length=64*n
 own:w.ownsRow 0 240 65 vw x.waiting.length (lF x.waiting)
 eY:∀p∈x.waiting,p.2.length=64
 within:∀p∈x.waiting,0<=p.1/\p.1<n
 lo:16<=n
 hi:n<=400
 few:x.waiting.length<=60
 ne:d≠bl
 ne1:vw.ownBlock≠some d
 Eh:vw.ownBlock≠some bl
 nil:x.waiting=[]->vw= .slice none 0 0
def bG.yw {w w':Ω}{S:ϑ}{d b n:Nat}{a:Φ}{x:DS}(h:bG w d b n a x)(f:aQ S w w')(h1:d∉S)(h2:b∉S)(c:∀k∈S,a.ownBlock≠some k):bG w' d b n a x:=
 {h with row:=f.row h.row h1,last:=f.row h.last h2,own:=f.owns h.own c}
def Po {w:Ω}{base:Nat}{e:η}{size:Nat}{v:Φ}{n:Nat}{xs:ϡ}(h:w.ownsRow base e size v n xs){k:Nat}(a:v.ownBlock=some k):k<w.heap.size:=(h.lt k a).2
def bG.new {w w':Ω}{S:ϑ}{d g n:Nat}{c:Φ}{x:DS}(h:bG w d g n c x)(f:aQ S w w')(b:∀k∈S,w.heap.size<=k:=by simp):bG w' d g n c x:=by
 have l1:=h.row.lt;have l2:=h.last.lt;exact h.yw f (λa=>by have:=b _ a;omega) (λa=>by have:=b _ a;omega) (λk i e=>by have:=b _ i;have:=Po h.own e;omega)
def bG.reset {w w':Ω}{d b n:Nat}{a:Φ}{x y:DS}(h:bG w d b n a x)(f:aQ [d] w w')(hr:Row w' d (iX b n a y) 134)(h1:y.aB=x.aB)(h2:y.waiting=x.waiting):bG w' d b n a y:=by
 have g:=f.row h.last (by simpa usingλe=>h.ne e.symm);have c:=f.owns h.own (by simpa using h.ne1);exact {row:=hr,last:=by rw[h1];exact g,len:=by rw[h1];exact h.len,own:=by rw[h2];exact c,eY:=by rw[h2];exact h.eY,within:=by rw[h2];exact h.within,lo:=h.lo,hi:=h.hi,few:=by rw[h2];exact h.few,ne:=h.ne,ne1:=h.ne1,Eh:=h.Eh,nil:=by rw[h2];exact h.nil}
def seenIn (c:ϓ)(a:List (Int×List Γ))(s:Int):List Γ:=
 a.foldl (λb p=>if p.1=s then p.2 else b) ((c.drop (64*s.toNat)).take 64)
def DS.read (x:DS)(s:Int):List Γ:=seenIn x.aB x.waiting s
def ah (l:ϓ):(byteCells l).length=l.length:=by simp[byteCells]
def fD (l:ϓ)(n:Nat):(byteCells l).take n=byteCells (l.take n):=by simp[byteCells,List.map_take]
def fE (l:ϓ)(n:Nat):(byteCells l).drop n=byteCells (l.drop n):=by simp[byteCells,List.map_drop]
def byteCells_append (l m:ϓ):byteCells (l++m)=byteCells l++byteCells m:=by simp[byteCells]
def byteCells_one (l:ϓ):∀v∈byteCells l,v.oneCell'=true:=by
 intro v hv;simp only[byteCells,ad1] at hv;obtain⟨b,_,rfl⟩:=hv;rfl
def cH (p:Int×List Γ)(h:p.2.length=64):(eH p).length=65:=by simp[eH,byteCells,h]
def tR:∀(l:List (Int×List Γ)),(∀p∈l,p.2.length=64)->∀k,(lF l).drop (k*65)=lF (l.drop k)
 |_,_,0=>ϛ
 |[],_,k+1=>by simp[lF]
 |p::r,h,k+1=>by
  have:=tR r (λq a=>h q (by simp[a])) k;simp only[lF,ϕ2,List.drop_succ_cons] at this⊢;rw[List.drop_append,cH p (h p ϛ),List.drop_eq_nil_of_le (by rw[cH p (h p ϛ)];omega)];simpa [Nat.add_mul] using this
def sX (l:List (Int×List Γ))(h:∀p∈l,p.2.length=64)(k:Nat)(a:k<l.length):((lF l).drop (k*65)).take 65=eH l[k]:=by
 rw[tR l h k,ae5 a];simp only[lF,ϕ2];rw[ϔ5 (by rw[cH _ (h _ (ai2 a))];omega),θ (by rw[cH _ (h _ (ai2 a))];omega)]
def wY (a:ϓ)(l:List (Int×List Γ))(s:Int)(k:Nat)(b:k<l.length):
  seenIn a (l.take (k+1)) s=if l[k].1=s then l[k].2 else seenIn a (l.take k) s:=by
 unfold seenIn;rw[ac4 b,ϕ3];rfl
def xu (s:Int):∀(l:List (Int×List Γ)) (b:ϓ),b.length=64->(∀p∈l,p.2.length=64)->(l.foldl (λb p=>if p.1=s then p.2 else b) b).length=64
 |[],_,hb,_=>hb
 |p::r,b,hb,h=>by
  refine xu s r _ ?_ λq a=>h q (by simp[a])
  dsimp only;split
  .exact h p ϛ
  .exact hb
def bD (a:ϓ)(s:Int)(h0:64*s.toNat+64<=a.length)(l:List (Int×List Γ))(h:∀p∈l,p.2.length=64):(seenIn a l s).length=64:=
 xu s l _ (by simp;omega) h
def bE:(prog.info? 148).map (·.size)=some 64:=ϰ
def jF:(prog.info? 240).map (·.size)=some 65:=ϰ
def fO:Φ:= .agg (byteCells (replicate 64 0)).toArray
def lk:Φ:= .agg (eH (0,replicate 64 0)).toArray
def d9:(prog.info? 148).map (·.zero)=some (some fO):=ϰ
def lW:(prog.info? 240).map (·.zero)=some (some lk):=ϰ
def vN:(prog.underlying 240).map TypeDesc.isRow=some true:=ϰ
def dY:(prog.underlying 148).map TypeDesc.isRow=some true:=ϰ
def um (d S n:Nat)(vw:Φ)(x:DS)(s:Int)(w:Ω)(h:bG w d S n vw x)(hs:0<=s)(hn:s<n):
  Calls prog 114 #[.pointer (some ⟨d,0,none⟩),.int .i64 s] w λe w'=>e= .returned (.agg (byteCells (x.read s)).toArray)/\aQ [] w w':=by
 have dlt:=h.row.lt;have llt:=h.last.lt;have⟨ad,cap,K⟩:=ce h.own;have a:64*s.toNat+64<=x.aB.length:=by rw[h.len];omega
 subst K;go_enter func114,ntmps114;go_wp2_with (with_reducible first|refine aA rfl ?_|refine au 148 rfl ?_|refine au 240 rfl ?_|refine ai 148 rfl ?_|refine ai 240 rfl ?_);refine bj rfl 148 rfl fO d9 ?_;intro w1 b4 l4 u r4;have h1:=h.new u;obtain⟨c0,c1,-⟩:=j7 h1.row
 go_wp2_with (with_reducible first|refine aA rfl ?_|refine au 148 rfl ?_|refine au 240 rfl ?_|refine ai 148 rfl ?_|refine ai 240 rfl ?_);refine bZ rfl 148 _ rfl S (s.toNat*64) rfl dY 64 bE _ _ h1.last (byteCells (seenIn x.aB [] s)) ?_ ?_ ?_
 .simp[seenIn,fE,fD,Nat.mul_comm]
 .rw[ah];exact bD _ _ a _ ϛ
 go_wp2_with (with_reducible first|refine aA rfl ?_|refine au 148 rfl ?_|refine au 240 rfl ?_|refine ai 148 rfl ?_|refine ai 240 rfl ?_);refine bj rfl 148 rfl fO d9 ?_;intro w2 r l5 f2 r5
 go_wp2_with (with_reducible first|refine aA rfl ?_|refine au 148 rfl ?_|refine au 240 rfl ?_|refine ai 148 rfl ?_|refine ai 240 rfl ?_);refine bQ rfl 148 _ _ rfl _ 0 rfl _ rfl 64 bE ?_ ?_ _ _ r5 ?_ ?_
 .simp only[ab3,ah];exact bD _ _ a _ ϛ
 .exact byteCells_one _
 .decide
 intro w3 Z r5;have Y:=Z.row (f2.row r4) (by have:=r4.lt;simp;omega);have f:aQ [] w w3:=(u.trans f2).trans Z (by simp;have:=u.size;omega);rw[bL _ _ (by rw[ah,bD _ _ a _ ϛ];rfl)] at r5;have V:=h.new f;clear c0 c1 h1;obtain⟨c0,c1,-⟩:=j7 V.row
 go_wp2_with (with_reducible first|refine aA rfl ?_|refine au 148 rfl ?_|refine au 240 rfl ?_|refine ai 148 rfl ?_|refine ai 240 rfl ?_);have D:b4≠r:=by have:=r4.lt;omega
 have ab:w.heap.size<=r:=by have:=u.size;omega
 go_loopw [20] (λi wr=>∃k:Nat,i= .int .i64 k/\k<=x.waiting.length/\aQ [] w wr/\Row wr b4 fO.cells 148/\
  Row wr r (byteCells (seenIn x.aB (x.waiting.take k) s)).toArray 148) (λi _=>x.waiting.length-(intOf i).toNat)
 case atStart=>exact⟨0,rfl,ϖ,f,Y,r5⟩
 case round=>
  obtain⟨k,rfl,hk,y,z,P⟩:=hrel;clear c0 c1 V f Y;have X:=h.new y;have iA:=h.few
  by_cases c:k<x.waiting.length
  .obtain⟨g,F,rfl,hg,aa,_,C,l⟩:=eT X.own
   have b:=h.eY _ (ai2 c);have m:((F.toList.drop (k*65)).take 65)=eH x.waiting[k]:=by
    rw[cx l _ _,sX x.waiting h.eY k c]
   clear C l;go_wp2_with (with_reducible first|refine aA rfl ?_|refine au 148 rfl ?_|refine au 240 rfl ?_|refine ai 148 rfl ?_|refine ai 240 rfl ?_);refine bZ rfl 240 _ rfl g (k*65) rfl vN 65 jF _ _ hg _ m (cH _ b) ?_;clear m
   go_wp2_with (with_reducible first|refine aA rfl ?_|refine au 148 rfl ?_|refine au 240 rfl ?_|refine ai 148 rfl ?_|refine ai 240 rfl ?_);refine bj rfl 240 rfl lk lW ?_;intro w4 M N T R
   go_wp2_with (with_reducible first|refine aA rfl ?_|refine au 148 rfl ?_|refine au 240 rfl ?_|refine ai 148 rfl ?_|refine ai 240 rfl ?_);refine bQ rfl 240 _ _ rfl _ 0 rfl _ rfl 65 jF ?_ ?_ _ _ R ?_ ?_
   .simp only[ab3];exact cH _ b
   .intro v hv;simp only[eH,ac1] at hv;rcases hv with rfl|hv;rfl;exact byteCells_one _ v hv
   .decide
   intro O W A;rw[bL _ _ (by rw[cH _ b];rfl)] at A;clear R;have ac:wr.heap.size<=M:=N;have L:aQ [] wr O:=T.trans W (by simpa using N);have B:=L.row z;have U:=L.row P;have Q:=y.trans L;have c0:O.cell? ⟨M,0,none⟩=some (.int .i64 x.waiting[k].1):=by rw[A.cell];rfl
   clear z P y X T W N;have ae:b4<O.heap.size:=B.lt
   by_cases j:x.waiting[k].1=s
   .have hb:(x.waiting[k].1==s)=true:=by simp[j]
    have G:Hid (x.waiting[k].1=s):=j;clear j;go_wp2_with (with_reducible first|refine aA rfl ?_|refine au 148 rfl ?_|refine au 240 rfl ?_|refine ai 148 rfl ?_|refine ai 240 rfl ?_);refine bZ rfl 148 _ rfl M 1 rfl dY 64 bE _ _ A (byteCells x.waiting[k].2) ?_ (by rw[ah,b]) ?_
    .simp[eH];rw[θ];rw[ah,b];omega
    go_wp2_with (with_reducible first|refine aA rfl ?_|refine au 148 rfl ?_|refine au 240 rfl ?_|refine ai 148 rfl ?_|refine ai 240 rfl ?_);refine bQ rfl 148 _ _ rfl _ 0 rfl _ rfl 64 bE ?_ ?_ _ _ U ?_ ?_
    .simp only[ab3,ah,b]
    .exact byteCells_one _
    .simp only[ab3,ah];rw[bD _ _ a _ (λp H=>h.eY p (ϓ4 H))];omega
    intro J t o;rw[bL _ _ (by simp only[ab3,ah];rw[bD _ _ a _ (λp H=>h.eY p (ϓ4 H)),b])] at o;have I:=t.row B (by simp;exact D);have E:aQ [] w J:=Q.trans t (by simp;omega)
    go_wp2_with (with_reducible first|refine aA rfl ?_|refine au 148 rfl ?_|refine au 240 rfl ?_|refine ai 148 rfl ?_|refine ai 240 rfl ?_)
    go_roundw
    case rel=>
     refine⟨k+1,by go_num,ϖ,E,I,?_⟩;rw[wY _ _ _ _ c,φ G.out];exact o
    case measure=>simp[intOf];omega
   .have hb:(x.waiting[k].1==s)=false:=by simp[j]
    have G:Hid (¬x.waiting[k].1=s):=j;clear j;go_wp2_with (with_reducible first|refine aA rfl ?_|refine au 148 rfl ?_|refine au 240 rfl ?_|refine ai 148 rfl ?_|refine ai 240 rfl ?_)
    go_roundw
    case rel=>
     refine⟨k+1,by go_num,ϖ,Q,B,?_⟩;rw[wY _ _ _ _ c,ζ G.out];exact U
    case measure=>simp[intOf];omega
  .have q:k=x.waiting.length:=ϖ
   have HK:Hid (k=x.waiting.length):=q;clear q;go_wp2_with (with_reducible first|refine aA rfl ?_|refine au 148 rfl ?_|refine au 240 rfl ?_|refine ai 148 rfl ?_|refine ai 240 rfl ?_);refine bZ rfl 148 _ rfl r 0 rfl dY 64 bE _ _ P (byteCells (x.read s)) ?_ ?_ ?_
   .simp only[ϲ]
    rw[HK.out,θ (ι _),θ (by rw[ah,bD _ _ a _ h.eY];omega)];rfl
   .rw[ah];exact bD _ _ a _ h.eY
   go_wp2_with (with_reducible first|refine aA rfl ?_|refine au 148 rfl ?_|refine au 240 rfl ?_|refine ai 148 rfl ?_|refine ai 240 rfl ?_);refine bQ rfl 148 _ _ rfl _ 0 rfl _ rfl 64 bE ?_ ?_ _ _ z ?_ ?_
   .simp only[ab3,ah];exact bD _ _ a _ h.eY
   .exact byteCells_one _
   .decide
   intro J t o;rw[bL _ _ (by simp only[ah];rw[show(x.read s).length=64 from bD _ _ a _ h.eY];rfl)] at o;have E:aQ [] w J:=y.trans t (by simp;omega);go_wp2_with (with_reducible first|refine aA rfl ?_|refine au 148 rfl ?_|refine au 240 rfl ?_|refine ai 148 rfl ?_|refine ai 240 rfl ?_)
   exact mX rfl b4 rfl rfl _ _ o dY (by simp only[ab3,ah];rw[show(x.read s).length=64 from bD _ _ a _ h.eY];exact bE) ⟨rfl,E⟩
def uh {w:Ω}{b off:Nat}{a:ϡ}{c:ϐ}{u:η}(hr:Row w b c u)(e:off+a.length<=c.size)(h1:∀v∈a,v.oneCell'=true):
  w.setCells b off a=w.setRow b (over c off a):=by
 have g:=run_storeCells_cells (P:=prog) b off a 0 w (λj f=>by rw[hr.cell];simp;omega) (λj f=>hr.thaw _) h1;have d:=run_storeCells_at prog b off u a 0 c w hr (by simpa using e) h1;rw[g] at d;simpa [over] using d
def bg (a:ϓ)(p:Int×List Γ):List Γ:=a.take (64*p.1.toNat)++p.2++a.drop (64*p.1.toNat+64)
def je (a:ϓ)(p:Int×List Γ)(h:p.2.length=64)(b:64*p.1.toNat+64<=a.length):(bg a p).length=a.length:=by
 simp[bg,h];omega
def qE (a:ϓ)(p:Int×List Γ)(h:p.2.length=64):over (byteCells a).toArray (p.1.toNat*64) (byteCells p.2)=(byteCells (bg a p)).toArray:=by
 simp[over,bg,byteCells_append,fD,fE,ah,h,Nat.mul_comm]
def fR (a:ϓ)(l:List (Int×List Γ)):List Γ:=l.foldl bg a
def Fv (a:ϓ)(l:List (Int×List Γ))(k:Nat)(b:k<l.length):fR a (l.take (k+1))=bg (fR a (l.take k)) l[k]:=by
 unfold fR;rw[ac4 b,ϕ3];rfl
def sN (n:Nat):∀(l:List (Int×List Γ)) (a:ϓ),a.length=64*n->(∀p∈l,p.2.length=64)->(∀p∈l,0<=p.1/\p.1<n)->(fR a l).length=64*n
 |[],a,h,_,_=>h
 |p::r,a,h,h1,h2=>by
  have c:=h2 p ϛ;exact sN n r (bg a p) (by rw[je _ _ (h1 p ϛ) ϖ];exact h) (λq b=>h1 q (by simp[b])) (λq b=>h2 q (by simp[b]))
def sY:prog.underlying 148=some (.array 64 5):=ϰ
def MO (d a n:Nat)(O:Φ)(x:DS)(w:Ω)(hm:Calls prog 187 #[.pointer (some ⟨d,0,none⟩)] w λe w'=>e= .returned (.bool true)/\bG w' d a n O x/\aQ [d] w w'):
  Calls prog 149 #[.pointer (some ⟨d,0,none⟩)] w λe w'=>e= .returned (.int .i64 0)/\bG w' d a n (.slice none 0 0) {x with aB:=fR x.aB x.waiting,waiting:=[]}/\aQ [d,a] w w':=by
 go_enter func149,ntmps149;go_wp2_with fail;refine hm.mono ?_;clear hm;rintro e w1 ⟨rfl,h1,U⟩;have h:=h1;have dlt:=h.row.lt;have llt:=h.last.lt;have⟨ad,cap,D⟩:=ce h.own;subst D;obtain⟨c0,c1,-⟩:=j7 h1.row;go_wp2_with fail;have N:=h.len
 go_loopw [13] (λi wr=>∃k:Nat,i= .int .i64 k/\k<=x.waiting.length/\aQ [d,a] w wr/\bG wr d a n (.slice ad x.waiting.length cap) {x with aB:=fR x.aB (x.waiting.take k)}) (λi _=>x.waiting.length-(intOf i).toNat)
 case atStart=>exact⟨0,rfl,ϖ,U.mono,by simpa [fR] using h1⟩
 case round=>
  obtain⟨k,rfl,hk,G,c⟩:=hrel;clear c0 c1 h1;have iA:=h.few
  by_cases o:k<x.waiting.length
  .obtain⟨g,B,rfl,hg,P,_,z,r⟩:=eT (n:=x.waiting.length) c.own
   have b:=h.eY _ (ai2 o);have A:=h.within _ (ai2 o);have s:((B.toList.drop (k*65)).take 65)=eH x.waiting[k]:=by
    rw[cx r _ _,sX x.waiting h.eY k o]
   clear z r;go_wp2_with (with_reducible first|refine aA rfl ?_|refine au 148 rfl ?_|refine au 240 rfl ?_|refine ai 148 rfl ?_|refine ai 240 rfl ?_);refine bZ rfl 240 _ rfl g (k*65) rfl vN 65 jF _ _ hg _ s (cH _ b) ?_;clear s
   go_wp2_with (with_reducible first|refine aA rfl ?_|refine au 148 rfl ?_|refine au 240 rfl ?_|refine ai 148 rfl ?_|refine ai 240 rfl ?_);refine bj rfl 240 rfl lk lW ?_;intro w4 q E J I
   go_wp2_with (with_reducible first|refine aA rfl ?_|refine au 148 rfl ?_|refine au 240 rfl ?_|refine ai 148 rfl ?_|refine ai 240 rfl ?_);refine bQ rfl 240 _ _ rfl _ 0 rfl _ rfl 65 jF ?_ ?_ _ _ I ?_ ?_
   .simp only[ab3];exact cH _ b
   .intro v hv;simp only[eH,ac1] at hv;rcases hv with rfl|hv;rfl;exact byteCells_one _ v hv
   .decide
   intro f L t;rw[bL _ _ (by rw[cH _ b];rfl)] at t;clear I;have T:wr.heap.size<=q:=E;have M:aQ [] wr f:=J.trans L (by simpa using E);have l:=c.new M;have H:=G.trans M;obtain⟨c0,c1,-⟩:=j7 l.row;have Z:f.cell? ⟨q,0,none⟩=some (.int .i64 x.waiting[k].1):=by rw[t.cell];rfl
   have S:a≠q:=by have:=c.last.lt;omega
   have aa:d≠q:=by have:=c.row.lt;omega
   clear G c J L E;go_wp2_with fail;have m:(fR x.aB (x.waiting.take k)).length=64*n:=sN n _ _ h.len (λp C=>h.eY p (ϓ4 C)) (λp C=>h.within p (ϓ4 C));have W:f.rangeAt q 1 (byteCells x.waiting[k].2):=λj v hv=>by rw[t.cell];simpa [eH,Nat.add_comm] using hv
   have gt:f.there a (x.waiting[k].1.toNat*64) 64:=λj hj=>by rw[l.last.cell,l.last.thaw];simp[ah,m];omega
   have V:(prog.info? 148).map (·.size)=some (byteCells x.waiting[k].2).length:=by rw[ah,b];exact bE
   have gl:(byteCells x.waiting[k].2).length=64:=by rw[ah,b]
   have go:=byteCells_one x.waiting[k].2;have X:=sY;have⟨Q,Y⟩:=A;have R:=h.ne
   go_region_held3 (λw'=>w'.cell? ⟨d,0,none⟩=some (.slice (some ⟨a,0,none⟩) n n)/\w'.cell? ⟨q,0,none⟩=some (.int .i64 x.waiting[k].1)/\w'.rangeAt q 1 (byteCells x.waiting[k].2)/\w'.there a (x.waiting[k].1.toNat*64) 64) ((go_split_ands;(try simp only[World.rangeAt_drew,World.there_drew,World.cell?_drew] at*);(repeat' constructor)<;>first|assumption|(rw[World.cell?_setCells_out _ _ _ _ _ (by intro e;simp only at e;omega)];assumption)|(apply World.there_setCells;assumption)|(refine World.rangeAt_setCells_apart (by assumption) _ _ _ ϖ))) (fail)
   have u:bG (f.drew.setCells a (x.waiting[k].1.toNat*64) (byteCells x.waiting[k].2)) d a n (.slice (some ⟨g,0,none⟩) x.waiting.length cap) {x with aB:=fR x.aB (x.waiting.take (k+1))}/\
     aQ [d,a] w (f.drew.setCells a (x.waiting[k].1.toNat*64) (byteCells x.waiting[k].2)):=by
    rw[uh (w:=f.drew) l.last (by simp[ah,m,b];omega) go,qE _ _ b,Fv _ _ _ o];have y:aQ [a] f (f.drew.setRow a (byteCells (bg (fR x.aB (x.waiting.take k)) x.waiting[k])).toArray):=(aQ.drew [a] f).trans (aQ.setRow [a] _ _ _ ϛ)
    refine⟨{l with row:=y.row l.row (by simpa using l.ne),last:=l.last.setRow (w:=f.drew) _,len:=?_,own:=y.owns l.own (by simpa using l.Eh)},H.trans y⟩;rw[je _ _ b (by rw[m];omega)];exact m
   have⟨u,K⟩:=u;clear W gt l H t V gl go X c0 c1 Z;generalize f.drew.setCells a (x.waiting[k].1.toNat*64) (byteCells x.waiting[k].2)=w6 at u K⊢;go_wp2
   go_roundw
   case rel=>exact⟨k+1,by go_num,ϖ,K,u⟩
   case measure=>simp[intOf];omega
  .have HK:Hid (k=x.waiting.length):=(by omega:k=x.waiting.length)
   have F:Hid (List.take k x.waiting=x.waiting):=by show _=_;rw[HK.out,θ (ι _)]
   obtain⟨c0,c1,-⟩:=j7 c.row;have hf:=c.row.thaw;go_wp2;go_ret;rw[F.out] at c;have fs:aQ [d] wr (wr.setCell ⟨d,1,none⟩ (.slice none 0 0)):=aQ.setCell ..
   refine⟨rfl,{row:=c.row.setCell 1 _,last:=fs.row c.last (by simpa usingλe=>c.ne e.symm),len:=c.len,own:=World.ownsRow_nil ..,eY:=ϛ,within:=ϛ,lo:=h.lo,hi:=h.hi,few:=ϛ,ne:=h.ne,ne1:=by simp[Value.ownBlock],Eh:=by simp[Value.ownBlock],nil:=λ_=>rfl},G.trans fs⟩
def Gn (d:Nat)(w:Ω)(R:Ϥ)(hm:Calls prog 187 #[.pointer (some ⟨d,0,none⟩)] w λe w'=>e= .returned (.bool false)/\R w'):
  Calls prog 149 #[.pointer (some ⟨d,0,none⟩)] w λe w'=>e= .returned (.int .i64 3)/\R w':=by
 go_enter func149,ntmps149;go_wp2_with fail;refine hm.mono ?_;rintro e w1 ⟨rfl,h1⟩;go_wp2;go_ret;exact⟨rfl,h1⟩
def eB (keep:Int)(k:Nat):Bool:=bits BinOp.and .i64 (keep/2^k) 1==1
def dQ (keep:Int)(a:ϓ)(l:List (Int×List Γ)):Nat->List Γ
 |0=>a
 |k+1=>match l[k]? with
  |some p=>if eB keep k then bg (dQ keep a l k) p else dQ keep a l k
  |none=>dQ keep a l k
def IK (keep:Int)(a:ϓ)(l:List (Int×List Γ))(k:Nat)(b:k<l.length)(h:eB keep k=true):dQ keep a l (k+1)=bg (dQ keep a l k) l[k]:=by simp[dQ,b,h]
def Mt (keep:Int)(a:ϓ)(l:List (Int×List Γ))(k:Nat)(h:eB keep k=false):dQ keep a l (k+1)=dQ keep a l k:=by
 simp only[dQ];split<;>simp[h]
def nL (keep:Int)(n:Nat)(a:ϓ)(l:List (Int×List Γ))(h:a.length=64*n)(h1:∀p∈l,p.2.length=64)(h2:∀p∈l,0<=p.1/\p.1<n):∀k,(dQ keep a l k).length=64*n
 |0=>h
 |k+1=>by
  have b:=nL keep n a l h h1 h2 k;simp only[dQ];split
  .rename_i p c
   have hm:=ai9 c;have:=h2 p hm;split
   .rw[je _ _ (h1 p hm) ϖ];exact b
   .exact b
  .exact b
def Qs (d a n:Nat)(Q:Φ)(x:DS)(w:Ω)(h:bG w d a n Q x):
  Calls prog 210 #[.pointer (some ⟨d,0,none⟩)] w λe w'=>e= .returned (.tuple #[])/\bG w' d a n (.slice none 0 0) {x with aB:=dQ x.keep x.aB x.waiting x.waiting.length,waiting:=[],failed:=true}/\aQ [d,a] w w':=by
 have dlt:=h.row.lt;have llt:=h.last.lt;have⟨ad,cap,G⟩:=ce h.own;subst G;obtain⟨c0,c1,-⟩:=j7 h.row;go_enter func210,ntmps210;go_wp2_with fail;have O:=h.len
 go_loopw [9] (λi wr=>∃k:Nat,i= .int .i64 k/\k<=x.waiting.length/\aQ [d,a] w wr/\bG wr d a n (.slice ad x.waiting.length cap) {x with aB:=dQ x.keep x.aB x.waiting k}) (λi _=>x.waiting.length-(intOf i).toNat)
 case atStart=>exact⟨0,rfl,ϖ,aQ.refl ..,h⟩
 case round=>
  obtain⟨k,rfl,hk,I,m⟩:=hrel;clear c0 c1;have iA:=h.few
  by_cases p:k<x.waiting.length
  .obtain⟨g,E,rfl,hg,R,_,C,r⟩:=eT (n:=x.waiting.length) m.own
   have b:=h.eY _ (ai2 p);have D:=h.within _ (ai2 p);have s:((E.toList.drop (k*65)).take 65)=eH x.waiting[k]:=by
    rw[cx r _ _,sX x.waiting h.eY k p]
   clear C r;go_wp2_with (with_reducible first|refine aA rfl ?_|refine au 148 rfl ?_|refine au 240 rfl ?_|refine ai 148 rfl ?_|refine ai 240 rfl ?_);refine bZ rfl 240 _ rfl g (k*65) rfl vN 65 jF _ _ hg _ s (cH _ b) ?_;clear s
   go_wp2_with (with_reducible first|refine aA rfl ?_|refine au 148 rfl ?_|refine au 240 rfl ?_|refine ai 148 rfl ?_|refine ai 240 rfl ?_);refine bj rfl 240 rfl lk lW ?_;intro w4 q H K J
   go_wp2_with (with_reducible first|refine aA rfl ?_|refine au 148 rfl ?_|refine au 240 rfl ?_|refine ai 148 rfl ?_|refine ai 240 rfl ?_);refine bQ rfl 240 _ _ rfl _ 0 rfl _ rfl 65 jF ?_ ?_ _ _ J ?_ ?_
   .simp only[ab3];exact cH _ b
   .intro v hv;simp only[eH,ac1] at hv;rcases hv with rfl|hv;rfl;exact byteCells_one _ v hv
   .decide
   intro f M u;rw[bL _ _ (by rw[cH _ b];rfl)] at u;clear J;have W:wr.heap.size<=q:=H;have N:aQ [] wr f:=K.trans M (by simpa using H);have c:=m.new N;have A:=I.trans N;have⟨c0,c1,c2,c3,U,P,X⟩:=j7 c.row;have e0:f.cell? ⟨q,0,none⟩=some (.int .i64 x.waiting[k].1):=by rw[u.cell];rfl
   have V:a≠q:=by have:=m.last.lt;omega
   have ac:d≠q:=by have:=m.row.lt;omega
   clear I m K M H
   by_cases z:eB x.keep k=true
   .have t:Hid (eB x.keep k=true):=z
    unfold eB at z;go_wp2_with fail;have o:(dQ x.keep x.aB x.waiting k).length=64*n:=nL _ n _ _ h.len h.eY h.within k;have Z:f.rangeAt q 1 (byteCells x.waiting[k].2):=λj v hv=>by rw[u.cell];simpa [eH,Nat.add_comm] using hv
    have gt:f.there a (x.waiting[k].1.toNat*64) 64:=λj hj=>by rw[c.last.cell,c.last.thaw];simp[ah,o];omega
    have Y:(prog.info? 148).map (·.size)=some (byteCells x.waiting[k].2).length:=by rw[ah,b];exact bE
    have gl:(byteCells x.waiting[k].2).length=64:=by rw[ah,b]
    have go:=byteCells_one x.waiting[k].2;have gu:=sY;have⟨S,ab⟩:=D;have T:=h.ne
    go_region_held3 (λw'=>w'.cell? ⟨d,0,none⟩=some (.slice (some ⟨a,0,none⟩) n n)/\w'.cell? ⟨q,0,none⟩=some (.int .i64 x.waiting[k].1)/\w'.rangeAt q 1 (byteCells x.waiting[k].2)/\w'.there a (x.waiting[k].1.toNat*64) 64) ((go_split_ands;(try simp only[World.rangeAt_drew,World.there_drew,World.cell?_drew] at*);(repeat' constructor)<;>first|assumption|(rw[World.cell?_setCells_out _ _ _ _ _ (by intro e;simp only at e;omega)];assumption)|(apply World.there_setCells;assumption)|(refine World.rangeAt_setCells_apart (by assumption) _ _ _ ϖ))) (fail)
    have y:bG (f.drew.setCells a (x.waiting[k].1.toNat*64) (byteCells x.waiting[k].2)) d a n (.slice (some ⟨g,0,none⟩) x.waiting.length cap) {x with aB:=dQ x.keep x.aB x.waiting (k+1)}/\
      aQ [d,a] w (f.drew.setCells a (x.waiting[k].1.toNat*64) (byteCells x.waiting[k].2)):=by
     rw[uh (w:=f.drew) c.last (by simp[ah,o,b];omega) go,qE _ _ b,IK _ _ _ _ p t.out];have B:aQ [a] f (f.drew.setRow a (byteCells (bg (dQ x.keep x.aB x.waiting k) x.waiting[k])).toArray):=(aQ.drew [a] f).trans (aQ.setRow [a] _ _ _ ϛ)
     refine⟨{c with row:=B.row c.row (by simpa using c.ne),last:=c.last.setRow (w:=f.drew) _,len:=?_,own:=B.owns c.own (by simpa using c.Eh)},A.trans B⟩;rw[je _ _ b (by rw[o];omega)];exact o
    have⟨y,L⟩:=y;clear Z gt c A u Y gl go gu c0 c1 e0;generalize f.drew.setCells a (x.waiting[k].1.toNat*64) (byteCells x.waiting[k].2)=w6 at y L⊢;go_wp2
    go_roundw
    case rel=>exact⟨k+1,by go_num,ϖ,L,y⟩
    case measure=>simp[intOf];omega
   .have t:Hid (eB x.keep k=false):=(by simpa using z:eB x.keep k=false)
    have aa:(bits BinOp.and .i64 (x.keep/2^k) 1==1)=false:=t.out;clear z;go_wp2
    go_roundw
    case rel=>exact⟨k+1,by go_num,ϖ,A,by rw[Mt _ _ _ _ t.out];exact c⟩
    case measure=>simp[intOf];omega
  .have HK:Hid (k=x.waiting.length):=(by omega:k=x.waiting.length)
   have⟨c0,c1,c2,c3,U,P,X⟩:=j7 m.row;have hf:=m.row.thaw;have l:=m.last;rw[HK.out] at l;have F:=nL x.keep n _ _ h.len h.eY h.within x.waiting.length;go_wp2_with fail
   go_end0
   have fs:aQ [d] wr ((wr.setCell ⟨d,1,none⟩ (.slice none 0 0)).setCell ⟨d,6,none⟩ (.bool true)):=(aQ.setCell [d] _ _ _ ϛ).trans (aQ.setCell [d] _ _ _ ϛ)
   refine⟨rfl,{row:=(m.row.setCell 1 _).setCell 6 _,last:=fs.row l (by simpa usingλe=>m.ne e.symm),len:=F,own:=World.ownsRow_nil ..,eY:=ϛ,within:=ϛ,lo:=h.lo,hi:=h.hi,few:=ϛ,ne:=h.ne,ne1:=by simp[Value.ownBlock],Eh:=by simp[Value.ownBlock],nil:=λ_=>rfl},I.trans fs⟩
def DS.fall (x:DS):DS:={x with aB:=dQ x.keep x.aB x.waiting x.waiting.length,waiting:=[],failed:=true}
def DS.gW (x:DS):DS:={x with left:=if x.given then x.left-1 else x.left,acts:=x.acts+1}
def DS.bp (x:DS):Bool:=!x.failed&&!(x.given&&x.left==0)
def DS.stopped (x:DS):DS:=if x.failed then x else x.fall
def zH (d f n:Nat)(b:Φ)(x:DS)(w:Ω)(h:bG w d f n b x)(a:x.failed=true):
  Calls prog 187 #[.pointer (some ⟨d,0,none⟩)] w λe w'=>e= .returned (.bool false)/\w'=w:=by
 have⟨c0,c1,c2,j,i,g,c⟩:=j7 h.row;rw[a] at c;clear a;go_enter func187,ntmps187;go_wp2;go_ret;exact⟨rfl,rfl⟩
def Cm (d a n:Nat)(b:Φ)(x:DS)(w:Ω)(h:bG w d a n b x)(c:x.failed=false)(hg:x.given=true)(f:x.left=0):
  Calls prog 187 #[.pointer (some ⟨d,0,none⟩)] w λe w'=>e= .returned (.bool false)/\bG w' d a n (.slice none 0 0) x.fall/\aQ [d,a] w w':=by
 have⟨c0,c1,c2,k,g,l,j⟩:=j7 h.row;rw[c] at j;rw[hg] at k;rw[f] at g;clear c hg f;go_enter func187,ntmps187;go_wp2_with fail;refine(Qs d a n b x _ h).mono ?_;rintro e w1 ⟨rfl,h1,i⟩;go_wp2;go_ret;exact⟨rfl,h1,i⟩
def FH (d i n:Nat)(g:Φ)(x:DS)(w:Ω)(h:bG w d i n g x)(b:x.bp=true)(u:0<=x.left)(k:x.left<=9223372036854775807)(ha:0<=x.acts)(m:x.acts<1000000000):
  Calls prog 187 #[.pointer (some ⟨d,0,none⟩)] w λe w'=>e= .returned (.bool true)/\bG w' d i n g x.gW/\aQ [d] w w':=by
 have⟨c0,c1,c2,j,t,s,q⟩:=j7 h.row;have o:=h.row.thaw;have r:=h.ne;have c:x.failed=false:=by simp[DS.bp] at b;exact b.1
 rw[c] at q
 by_cases hg:x.given=true
 .have l:(x.left==0)=false:=by simp[DS.bp,hg] at b;simpa using b.2
  have p:x.left≠0:=by simpa using l
  rw[hg] at j;have f:Hid (x.given=true):=hg;clear hg c b;go_enter func187,ntmps187;go_wp2;go_ret;have fs:aQ [d] w ((w.setCell ⟨d,4,none⟩ (.int .i64 (x.left-1))).setCell ⟨d,2,none⟩ (.int .i64 (x.acts+1))):=(aQ.setCell [d] _ _ _ ϛ).trans (aQ.setCell [d] _ _ _ ϛ);refine⟨rfl,h.reset fs ?_ rfl rfl,fs⟩
  have:=(h.row.setCell 4 (.int .i64 (x.left-1))).setCell 2 (.int .i64 (x.acts+1));simpa [iX,DS.gW,f.out] using this
 .have a:x.given=false:=by simpa using hg
  rw[a] at j;have f:Hid (x.given=false):=a;clear hg c b a;go_enter func187,ntmps187;go_wp2;go_ret;have fs:aQ [d] w (w.setCell ⟨d,2,none⟩ (.int .i64 (x.acts+1))):=aQ.setCell [d] _ _ _ ϛ;refine⟨rfl,h.reset fs ?_ rfl rfl,fs⟩;have:=h.row.setCell 2 (.int .i64 (x.acts+1));simpa [iX,DS.gW,f.out] using this
end
section
open Go.RowKit
def Mb (c:ϐ)(o:Nat)(v:Φ)(r:ϡ)(h:o+r.length+1<=c.size):over (c.setIfInBounds o v) (o+1) r=over c o (v::r):=by
 unfold over
 congr 1
 have:=list_seg_step c.toList o v r (by simpa [Nat.add_assoc] using h);simp only[Array.toList_setIfInBounds];rw[this];simp
def CB:∀(l:ϡ)(k off:Nat)(cells:ϐ),off+k+l.length<=cells.size->
  (l.zipIdx k).foldl (λcs (x:Φ×Nat)=>cs.setIfInBounds (off+x.2) x.1) cells=over cells (off+k) l
 |[],k,off,cells,_=>by simp[over]
 |v::r,k,off,cells,h=>by
  simp only[List.zipIdx_cons,ϒ1];simp only[ϳ] at h;rw[CB r (k+1) off _ (by simp;omega),<-Nat.add_assoc,Mb _ _ _ _ ϖ]
def wn (a:Nat->Option (Nat×Nat))(cells:ϐ)(i:Nat)(v:Φ)(rest:List (Nat×Φ))(off size:Nat)(f:a i=some (off,size))(d:v.cells.size=size)(e:off+size<=cells.size):
  Instr.fill a cells ((i,v)::rest)=Instr.fill a (over cells off v.cells.toList) rest:=by
 subst d;have b:v.cells.zipIdx.foldl (λcs (x:Φ×Nat)=>cs.setIfInBounds (off+x.2) x.1) cells=over cells off v.cells.toList:=by
  rw[<-Array.foldl_toList,Array.toList_zipIdx];exact CB v.cells.toList 0 off cells (by simpa using e)
 simp only[Instr.fill,f];rw[ζ (by simp;omega)];exact congrArg (λc=>Instr.fill a c rest) b
section
variable {P:ω}{w:Ω}{o:Oper}{ρ:ab7->Φ}
def iT (t:η)(a:Array (Nat×ab7))(b:o.op= .build t a)(cells:ϐ)(c:P.built t (a.toList.map λx=>(x.1,ρ x.2))=some cells):(execOp ρ o).run P w= .ok (.value (.agg cells)) w:=by
 have:=run_build (P:=P) w t (a.map λx=>(x.1,ρ x.2)) cells (by simpa using c);simp only[execOp,b,run_bind];rw[this];rfl
def j4 (t:η)(x:ab7)(i:o.op= .load t x)(b off:Nat)(k:ρ x= .pointer (some ⟨b,off,none⟩))(g:(P.underlying t).map TypeDesc.isRow=some true)(n:Nat)(l:(P.info? t).map (·.size)=some n)(c:ϐ)(u:η)(hr:Row w b c u)(a:ϡ)(hv:(c.toList.drop off).take n=a)(h:a.length=n):(execOp ρ o).run P w= .ok (.value (.agg a.toArray)) w:=by
 have⟨d,f,hd⟩:=χ.1 g;have:=run_loadAt_mid (P:=P) w b off t a d (λj v e=>by
  rw[hr.cell];subst hv;rw[al8] at e;split at e
  .simpa [ai6] using e
  .cases e) f hd (by rw[l,h])
 simp only[execOp,i,k,run_bind];rw[this];rfl
def wo (t e:η)(x:ab7)(g:o.op= .buildSlice t 1 #[(0,x)])(c:P.underlying t=some (.slice e))(i:TypeInfo)(z v:Φ)(k:P.info? e=some i)(f:i.zero=some z)(h0:0<i.size)(d:i.size<=1000)(h:ρ x=v)(hv:v.cells.size=i.size):(execOp ρ o).run P w= .ok (.value (.slice (some ⟨w.heap.size,0,none⟩) 1 1)) (w.alloc (.cells v.cells e)):=by
 have b:Instr.fill (λj=>some (j*i.size,i.size)) ((Array.range (1*i.size)).map (z.cells[·%z.cells.size]!)) [(0,v)]=some v.cells:=by
  rw[wn _ _ 0 v [] 0 i.size ϛ hv ϛ];simp only[Instr.fill];rw[bL _ _ (by simp[hv])]
 have h1:¬i.size>2^24:=ϖ
 have h2:¬i.size=0:=ϖ
 have l:zeroValue e=(do match(<-typeInfo e).zero with|some v=>pure v|none=>unsupported (.resourceLimit "a value of more than 2^22 cells")):=rfl;simp only[Nat.one_mul] at b;simp[execOp,g,h,Instr.buildSlice,run_underlying c,sizeOf,typeInfo,k,h1,h2,zeroValue,f,b,newRow]
def KH (d s:ab7)(m n e:η)(y:o.op= .call {callee:= .builtin .copy,args:=#[d,s],argTypes:=#[m,n]})(p:P.underlying m=some (.slice e))(A:(P.info? e).map (·.size)=some 1)(g off c i:Nat)(hd:ρ d= .slice (some ⟨g,off,none⟩) c i)(b o2 a h:Nat)(z:ρ s= .slice (some ⟨b,o2,none⟩) a h)(f:ϐ)(t:η)(hg:Row w g f t)(l:ϐ)(u:η)(r:Row w b l u)(cs:ϡ)(q:(l.toList.drop o2).take (Nat.min a c)=cs)(x:cs.length=Nat.min a c)(k:off+cs.length<=f.size)(h1:∀v∈cs,v.oneCell'=true):
  (execOp ρ o).run P w= .ok (.value (goInt cs.length)) (w.setRow g (over f off cs)):=by
 have:=run_copy_row (P:=P) w m n o.type e g off c i ⟨b,o2,none⟩ a h f t cs p A hg x (λj v hv=>by
  rw[Addr.add_mid,r.cell];subst q;rw[al8] at hv;split at hv
  .simpa [ai6] using hv
  .cases hv) k h1
 simp only[execOp,y,resolve,invoke,builtin,run_bind,Sem.run_pure,Result.andThen_ok,ϒ7,ϴ,Ϙ2,hd,z,this];rfl
def nj (d s:ab7)(m p c:η)(u:o.op= .call {callee:= .builtin .copy,args:=#[d,s],argTypes:=#[m,p]})(q:P.underlying m=some (.slice c))(g off a h:Nat)(hd:ρ d= .slice (some ⟨g,off,none⟩) a h)(str:Ξ)(x:ρ s= .string str)(f:ϐ)(t:η)(hg:Row w g f t)(l:off+Nat.min str.size a<=f.size)(y:(P.info? c).map (·.size)=some 1:=by kernel_rfl):
  (execOp ρ o).run P w= .ok (.value (goInt (Nat.min str.size a))) (w.setRow g (over f off (Lib.byteCells (str.data.toList.take a)))):=by
 have k:str.data.toList.length=str.size:=by rw[af9];rfl
 have r:(Lib.byteCells (str.data.toList.take a)).length=Nat.min str.size a:=by
  simp only[Lib.byteCells,ah1,ac8,k];exact Nat.min_comm ..
 have h1:∀v∈Lib.byteCells (str.data.toList.take a),v.oneCell'=true:=by
  intro v hv;simp only[Lib.byteCells,ad1] at hv;obtain⟨b,_,rfl⟩:=hv;rfl
 have j:=run_storeCells_at P g off t (Lib.byteCells (str.data.toList.take a)) 0 f w hg (by rw[r];simpa using l) h1;have e:Lib.byteCells (str.data.toList.take a)=(str.data.toList.map λb=>Value.int .u8 b.toNat).take (Nat.min str.size a):=by
  have:str.data.toList.take (Nat.min str.size a)=str.data.toList.take a:=by
   rw[<-k,show Nat.min str.data.toList.length a=min a str.data.toList.length from Nat.min_comm _ _,<-List.take_take,θ (ι _)]
  rw[<-List.map_take,this];rfl
 rw[e] at j⊢;have:(Builtin.copy_ #[m,p] o.type #[.slice (some ⟨g,off,none⟩) a h,.string str]).run P w= .ok (goInt (Nat.min str.size a)) (w.setRow g (over f off ((str.data.toList.map λb=>Value.int .u8 b.toNat).take (Nat.min str.size a)))):=by
  cases n:P.info? c with
  |none=>simp[n] at y
  |some i=>
   simp only[ϕ1] at j;simp[Builtin.copy_,run_underlying q,Builtin.lenOf,Builtin.firstCells,sizeOf,typeInfo,n,j,over]
 simp only[execOp,u,resolve,invoke,builtin,run_bind,Sem.run_pure,Result.andThen_ok,ϒ7,ϴ,Ϙ2,hd,x,this]
def nO (t e:η)(n:Nat)(x l:ab7)(g:o.op= .slice t x (some l) none none)(d:P.underlying t=some (.array n e))(c:(P.info? e).map (·.size)=some 1)(b off:Nat)(j:ρ x= .pointer (some ⟨b,off,none⟩))(k:Int)(f:ρ l= .int .i64 k)(h0:0<=k)(p:k<n)(q r:Nat)(e1:off+k.toNat=q)(e2:n-k.toNat=r):(execOp ρ o).run P w= .ok (.value (.slice (some ⟨b,q,none⟩) r r)) w:=by
 subst e1;subst e2;cases a:P.info? e with
 |none=>simp[a] at c
 |some i=>
  have m:i.size=1:=by simpa [a] using c
  have h2:k<=n:=ϖ
  have h:¬n=k.toNat:=ϖ
  simp[execOp,g,j,f,Instr.sliceAt,run_underlying d,Instr.sureAddr,Instr.sliceBounds,Instr.sliceBound,asIntOf,h0,h2,h,sizeOf,typeInfo,a,m,Addr.add_mid]
def lx (t e:η)(n:Nat)(x l m:ab7)(u:o.op= .slice t x (some l) (some m) none)(g:P.underlying t=some (.array n e))(d:(P.info? e).map (·.size)=some 1)(b off:Nat)(z:ρ x= .pointer (some ⟨b,off,none⟩))(k j:Int)(s:ρ l= .int .i64 k)(hm:ρ m= .int .i64 j)(h0:0<=k)(B:k<n)(h:k<=j)(v:j<=n)(q r c:Nat)(e1:off+k.toNat=q)(e2:j.toNat-k.toNat=r)(f:n-k.toNat=c):
  (execOp ρ o).run P w= .ok (.value (.slice (some ⟨b,q,none⟩) r c)) w:=by
 subst e1;subst e2;subst f;cases a:P.info? e with
 |none=>simp[a] at d
 |some i=>
  have A:i.size=1:=by simpa [a] using d
  have h1:0<=j:=ϖ
  have h2:k<=(j.toNat:Int):=ϖ
  have y:¬n=k.toNat:=ϖ
  have p:k<=max j 0:=ϖ
  simp[execOp,u,z,s,hm,Instr.sliceAt,run_underlying g,Instr.sureAddr,Instr.sliceBounds,Instr.sliceBound,asIntOf,h0,h1,v,p,y,sizeOf,typeInfo,a,A,Addr.add_mid]
structure Elem (P:ω)(t e:η)(size bytes:Nat):Prop where
 slice:P.underlying t=some (.slice e)
 info:(P.info? e).map (λi=>(i.size,i.bytes,i.zero.map (·.cells.size)))=some (size,bytes,some size)
 pos:0<size
def Elem.open {t e:η}{size bytes:Nat}(E:Elem P t e size bytes):∃i z,P.info? e=some i/\i.zero=some z/\i.size=size/\i.bytes=bytes/\z.cells.size=size:=by
 have h:=E.info;cases c:P.info? e with
 |none=>rw[c] at h;cases h
 |some i=>
  rw[c] at h;simp only[ξ,af5,ai1] at h;have⟨h1,h2,a⟩:=h;cases b:i.zero with
  |none=>rw[b] at a;cases a
  |some z=>rw[b] at a;exact⟨i,z,rfl,b,h1,h2,by simpa using a⟩
end
section
variable {P:ω}{ops:Array Oper}{Q:Exit->Act->Ω->Prop}{a:Act}{w:Ω}{rest:List Oper}{o:Oper}
def bW {s x:ab7}{t u:η}(_:o.op= .call {callee:= .builtin .append,args:=#[s,x],argTypes:=#[t,u]})(h:aj (wpList P ops Q (o::rest) a w)):wpList P ops Q (o::rest) a w:=h
def bV {t:η}{n:Nat}{b:Array (Nat×ab7)}(_:o.op= .buildSlice t n b)(h:aj (wpList P ops Q (o::rest) a w)):wpList P ops Q (o::rest) a w:=h
def iu (hg:o.guard=none)(t e:η)(size bytes:Nat)(E:Elem P t e size bytes)(x:ab7)(g:o.op= .buildSlice t 1 #[(0,x)])(v:Φ)(j:a.eval x=v)(hv:v.cells.size=size)(h:∀(w1:Ω)(b:Nat),w.heap.size<=b->aQ [] w w1->Row w1 b v.cells e->wpList P ops Q rest (a.put o.dst (.slice (some ⟨b,0,none⟩) 1 1)) w1)(c:size<=1000:=by omega):wpList P ops Q (o::rest) a w:=by
 have⟨i,z,k,d,m,l,f⟩:=E.open;have h0:=E.pos;exact cT hg _ _ (wo t e x g E.slice i z v k d ϖ ϖ j ϖ) (h _ _ (ι _) (aQ.alloc ..) (Row.new ..))
def BH {K:ϝ}(t e:η)(size bytes:Nat)(E:Elem P t e size bytes)(s x:ab7)(H:o.op= .call {callee:= .builtin .append,args:=#[s,x],argTypes:=#[t,t]})(base:Nat)(v:Φ)(n:Nat)(xs:ϡ)(J:a.eval s=v)(p:w.ownsRow base e size v n xs)(b m c:Nat)(d:ϡ)(I:a.eval x= .slice (some ⟨b,0,none⟩) m c)(q:ϐ)(u:η)(hr:Row w b q u)(F:q.toList.take (m*size)=d)(D:d.length=m*size)(h1:∀v∈d,v.oneCell'=true)(hm:0<m)(f:n+m<=1048576)(k:bytes<=1048576)(l:base<=w.heap.size)(h:∀g cap w',w'.ownsRow base e size (.slice (some ⟨g,0,none⟩) (n+m) cap) (n+m) (xs++d)->aQ v.ownBlock.toList w w'->(v.ownBlock=some g\/w.heap.size<=g)->K (a.put o.dst (.slice (some ⟨g,0,none⟩) (n+m) cap)) w'):o.wp P a w K Q:=by
 have⟨i,z,L,C,y,B,A⟩:=E.open;refine wp_append_lies w s x t H base e i z size bytes E.slice L C y B A E.pos v n xs J p ⟨b,0,none⟩ m c d I D (λj u r=>?_) h1 hm (by simp[maxLen];omega) ?_ l w.heap.size rfl (λg cap w' G o2 o3 _=>h g cap w' G (aQ.grown o2) (o3.imp id ϖ))
 .rw[Addr.add_mid,hr.cell]
  subst F;rw[al8] at r;split at r
  .simpa using r
  .cases r
 .exact ac7 (Nat.mul_le_mul f k) (by decide)
def ja (hg:o.guard=none)(t e:η)(size bytes:Nat)(E:Elem P t e size bytes)(s x:ab7)(y:o.op= .call {callee:= .builtin .append,args:=#[s,x],argTypes:=#[t,t]})(base:Nat)(v:Φ)(n:Nat)(xs:ϡ)(B:a.eval s=v)(l:w.ownsRow base e size v n xs)(b m c:Nat)(d:ϡ)(A:a.eval x= .slice (some ⟨b,0,none⟩) m c)(k:ϐ)(u:η)(hr:Row w b k u)(q:k.toList.take (m*size)=d)(p:d.length=m*size)(h1:∀v∈d,v.oneCell'=true)(hm:0<m)(f:n+m<=1048576)(i:bytes<=1048576)(j:base<=w.heap.size)(h:∀g cap w',w'.ownsRow base e size (.slice (some ⟨g,0,none⟩) (n+m) cap) (n+m) (xs++d)->aQ v.ownBlock.toList w w'->(v.ownBlock=some g\/w.heap.size<=g)->wpList P ops Q rest (a.put o.dst (.slice (some ⟨g,0,none⟩) (n+m) cap)) w'):wpList P ops Q (o::rest) a w:=
 wpList_plain hg λ_ z=>BH t e size bytes E s x y base v n xs B l b m c d A k u hr q p h1 hm f i j λg cap w' r o2 o3=>z _ _ (h g cap w' r o2 o3)
end
def fK (P:ω)(C:Ϥ)(o:Oper):Prop:=∀ρ w,C w->match(execOp ρ o).run P w with
 |.ok (.value _) w'=>C w'
 |.ok .skip w'=>C w'
 |.ok _ _=>False
 |.halt _ _=>True
def Gives (P:ω)(C:Ϥ)(e:Sem Next)(v:Φ):Prop:=∀w,C w->match e.run P w with
 |.ok (.value u) w'=>u=v/\w'=w
 |.ok (.enter f args) w'=>w'=w/\Calls P f args w (λe x=>e= .returned v/\x=w)
 |_=>False
section
variable {P:ω}{ops:Array Oper}{Q:Exit->Act->Ω->Prop}{md:Region.Mode}{C:Ω->Prop}
def Gives.wp {o:Oper}{a:Act}{v:Φ}{w:Ω}{K:ϝ}(h:Gives P C (execOp a.eval o) v)(c:C w)(b:K (a.put o.dst v) w):o.wp P a w K Q:=by
 have:=h w c;unfold Oper.wp;cases hr:(execOp a.eval o).run P w with
 |ok n w'=>
  rw[hr] at this;cases n<;>simp only[Oper.upon] at this⊢
  case value u=>obtain⟨rfl,rfl⟩:=this;exact b
  case enter f args=>
   obtain⟨rfl,d⟩:=this;refine d.mono ?_;rintro e x ⟨rfl,rfl⟩;exact b
 |halt x w'=>rw[hr] at this;exact this.elim
def Gives.val {e:Sem Next}{v:Φ}(h:∀w,C w->e.run P w= .ok (.value v) w):Gives P C e v:=λw a=>by
 rw[h w a];exact⟨rfl,rfl⟩
def NI {i:Nat}{m:Oper}{v:Φ}(V:ops[i]? =some m)(s:∀(j:Nat) (o:Oper) cs b,ops[j]? =some o->o.op≠.select cs b)(Y:∀c a w,Q (.panic c) (a.put m.dst v) w->Q (.panic c) a w):
  ∀(f:Nat)(d:ϭ)(a:Act)(w:Ω),
   (∀j l,ops[j]? =some l->j≠i->d.getD j true=false->(∀e∈l.after,Region.binds md e=true->e.on≠i)->m.apart ops l=true/\fK P C l)->
   i∈ready md ops d->wanted m (yielded ops a.tmps)=true->Gives P C (execOp a.eval m) v->C w->
   wpAny P md ops Q f (d.setIfInBounds i true) (a.put m.dst v) w->wpAny P md ops Q (f+1) d a w:=by
 intro f
 induction f with
 |zero=>
  intro d a w _ hr K M D H;refine⟨λh=>(by rw[h] at hr;cases hr),λj L=>?_⟩
  by_cases g:j=i
  .subst g
   unfold wpOp;simp only[V,K,if_true];exact .inl (M.wp D H)
  .have:=ready_mono L g
   rw[H.1] at this;cases this
 |succ f ih=>
  intro d a w p hr K M D H;refine⟨λh=>(by rw[h] at hr;cases hr),λj L=>?_⟩
  by_cases g:j=i
  .subst g
   unfold wpOp;simp only[V,K,if_true];exact .inl (M.wp D H)
  .have h1:=H.2 j (ready_mono L g)
   have⟨t,l,z,G⟩:=mem_ready.1 L;have J:∀e∈l.after,Region.binds md e=true->e.on≠i:=λe he X O=>by
    have h1:=G e he X;have h0:=(mem_ready.1 hr).1;rw[O] at h1;rcases ϐ5 i d.size with U|U
    .simp[U] at h0 h1;rw[h0] at h1;cases h1
    .simp[Array.getElem?_eq_none U] at h1
   have⟨S,A⟩:=p j l z g t J;have⟨s1,s2,W⟩:=Oper.apart_spec S;have q:∀k ok,ops[k]? =some ok->k≠i->(d.setIfInBounds j true).getD k true=false->
     (∀e∈ok.after,Region.binds md e=true->e.on≠i)->m.apart ops ok=true/\fK P C ok:=λk ok B R I N=>by
    refine p k ok B R ?_ N
    by_cases E:j=k
    .subst E;exact t
    .rw[getD_set_ne true E] at I;exact I
   have next:∀(u:Φ)(w':Ω),C w'->wpAny P md ops Q f ((d.setIfInBounds i true).setIfInBounds j true) ((a.put m.dst v).put l.dst u) w'->
     wpAny P md ops Q (f+1) (d.setIfInBounds j true) (a.put l.dst u) w':=λu w' T Z=>by
    refine ih _ _ w' q (ready_mono hr (Ne.symm g)) ?_ ?_ T ?_
    .rw[wanted_put m a l.dst u W];exact K
    .rw[execOp_put m (λcs b=>s i m cs b V) a l.dst u W];exact M
    .rw[Array.setIfInBounds_comm _ _ g,<-Act.put_comm a v u s2];exact Z
   have F:=execOp_put l (λcs b=>s j l cs b z) a m.dst v s1;unfold wpOp at h1⊢;simp only[z] at h1⊢;rw[wanted_put l a m.dst v s1] at h1;split
   .rename_i y
    simp only[y,if_true] at h1;rcases h1 with h1|⟨h1,h2⟩
    .refine .inl ?_
     unfold Oper.wp at h1⊢;rw[F] at h1;have B:=A a.eval w D;generalize (execOp a.eval l).run P w=r at h1 B⊢;cases r with
     |ok n w'=>
      cases n<;>simp only[Oper.upon] at h1 B⊢
      case value u=>exact next u w' B h1
      case skip=>exact next ϗ w' B h1
     |halt x w'=>
      cases x<;>simp only[Oper.upon] at h1⊢
      case panic u=>exact Y _ _ _ h1
    .exact .inr ⟨by unfold Oper.asks at h1⊢;rw[F] at h1;exact h1,h2⟩
   .rename_i y
    simp only[y] at h1;exact next ϗ w D h1
def others (md:Region.Mode)(ops:Ϙ)(a:ϭ)(i:Nat):List Oper:=
 (range ops.size).filterMap λj=>if j==i||a.getD j true then none else match ops[j]? with
  |some b=>if b.after.any (λe=>Region.binds md e&&e.on==i) then none else some b
  |none=>none
def Ha {i:Nat}{k:Oper}{v:Φ}{d:Nat}{b:ϭ}{a:Act}{w:Ω}(C:Ϥ)(s:ops[i]? =some k)(B:Region.noSelect ops=true)(t:Region.free md ops b i=true)(hr:(ready md ops b).contains i=true)(u:∀c a w,Q (.panic c) (a.put k.dst v) w->Q (.panic c) a w)(hg:k.guard=none)(x:C w)(A:Gives P C (execOp a.eval k) v)(r:ϧ)(y:others md ops b i=r)(z:∀o∈r,fK P C o)(h:wpAny P md ops Q d (b.setIfInBounds i true) (a.put k.dst v) w):wpAny P md ops Q (d+1) b a w:=by
 refine NI (C:=C) s (Region.noSelect_spec B) u d b a w (λj q p l m g=>⟨Region.free_spec s t j q p l m g,z q ?_⟩) (by simpa using hr) (by simp[wanted,hg]) A x h;rw[<-y];unfold others;rw[ϓ1];refine⟨j,ae2.2 (Ψ.1 p).1,?_⟩
 rw[ζ (by simp only[Ϲ,ai7,m,or_false,ν];exact l)];simp only[p];rw[ζ];intro f;have⟨e,D,n⟩:=Array.any_eq_true'.1 f;simp only[ε,ai7] at n;exact g e D n.1 n.2
def Ea {i:Nat}{d:Oper}{c:Nat}{b:ϭ}{a:Act}{w:Ω}(hr:ready md ops b=[i])(f:ops[i]? =some d)(hg:d.guard=none)(h:∀K:Act->Ω->Prop,(∀a w,wpAny P md ops Q c (b.setIfInBounds i true) a w->K a w)->d.wp P a w K Q):wpAny P md ops Q (c+1) b a w:=
 wpAny_all hr ϛ λj e=>by
  obtain rfl:j=i:=by simpa using e
  unfold wpOp;simp only[f];rw[φ (by simp[wanted,hg])];exact .inl (h _ λ_ _ x=>x)
def KS {i:Nat}{e:Oper}{c:Nat}{b:ϭ}{a:Act}{w:Ω}(hr:ready md ops b=[i])(g:ops[i]? =some e)(hg:e.guard=none)(v:Φ)(w1:Ω)(d:(execOp a.eval e).run P w= .ok (.value v) w1)(h:wpAny P md ops Q c (b.setIfInBounds i true) (a.put e.dst v) w1):wpAny P md ops Q (c+1) b a w:=
 Ea hr g hg λK f=>by
  unfold Oper.wp;rw[d];exact f _ _ h
def RB {i:Nat}{e:Oper}{c:Nat}{b:ϭ}{a:Act}{w:Ω}(hr:ready md ops b=[i])(g:ops[i]? =some e)(hg:e.guard=none)(w1:Ω)(d:(execOp a.eval e).run P w= .ok .skip w1)(h:wpAny P md ops Q c (b.setIfInBounds i true) (a.put e.dst ϗ) w1):wpAny P md ops Q (c+1) b a w:=
 Ea hr g hg λK f=>by
  unfold Oper.wp;rw[d];exact f _ _ h
end
structure Lets (C:Ω->Prop):Prop where
 alloc:∀w o,C w->C (w.alloc o)
 drew:∀w,C w->C w.drew
def aC {α:Type}(P:ω)(C:Ϥ)(e:Sem α):Prop:=∀w,C w->match e.run P w with
 |.ok _ w'=>C w'
 |.halt _ _=>True
section
variable {P:ω}{C:Ω->Prop}{α β:Type}
def aC.pure (a:α):aC P C (Pure.pure a:Sem α):=λ_ h=>h
def aC.halt (x:Halt):aC P C (Sem.halt x:Sem α):=λ_ _=>trivial
def aC.stuck (x:String):aC P C (stuck x:Sem α):=λ_ _=>trivial
def aC.bind {e:Sem α}{f:α->Sem β}(h:aC P C e)(k:∀a,aC P C (f a)):aC P C (e>>=f):=λw b=>by
 have:=h w b;rw[run_bind];cases hr:e.run P w with
 |ok a w'=>rw[hr] at this;exact k a w' this
 |halt x w'=>trivial
def aC.map {e:Sem α}{f:α->β}(h:aC P C e):aC P C (Functor.map f e):=λw b=>by
 have:=h w b;rw[Sem.run_map];cases hr:e.run P w with
 |ok a w'=>rw[hr] at this;exact this
 |halt x w'=>trivial
def aC.typeInfo (t:η):aC P C (typeInfo t):=λw a=>by
 simp only[Go.typeInfo,run_bind,run_program,Result.andThen_ok];cases P.info? t with
 |none=>trivial
 |some i=>exact a
def aC.underlying (t:η):aC P C (underlying t):=λw a=>by
 simp only[Go.underlying,run_bind,run_program,Result.andThen_ok];cases P.underlying t with
 |none=>trivial
 |some i=>exact a
def aC.sizeOf (t:η):aC P C (sizeOf t):=(aC.typeInfo t).bind λ_=>aC.pure _
def aC.zeroValue (t:η):aC P C (zeroValue t):=(aC.typeInfo t).bind λi=>by
 cases i.zero with
 |none=>exactλ_ _=>trivial
 |some v=>exact aC.pure _
def aC.isAgg (t:η):aC P C (isAgg t):=(aC.underlying t).bind λd=>by
 cases d<;>exact aC.pure _
def aC.load (a:Addr):aC P C (load a):=λw b=>by
 unfold Go.load;simp only[Sem.run];cases w.cell? a with
 |some v=>exact b
 |none=>
  simp only;cases w.farLoad P a (Mode.plain==Mode.atomic) with
  |ok r=>exact b
  |error h=>trivial
def aC.loadCellsFrom (a:Addr):∀(n i:Nat)(acc:ϐ),aC P C (loadCellsFrom a i n acc)
 |0,_,_=>aC.pure _
 |n+1,i,_=>(aC.load _).bind λ_=>aC.loadCellsFrom a n (i+1) _
def aC.loadVar (t:η)(a:Addr):aC P C (loadVar t a):=(aC.isAgg t).bind λb=>by
 cases b with
 |true=>exact(aC.sizeOf t).bind λn=>(aC.loadCellsFrom a n 0 #[]).bind λ_=>aC.pure _
 |false=>exact aC.load a
def aC.sureAddr (v:Φ):aC P C (Instr.sureAddr v):=by
 unfold Instr.sureAddr;split
 .exact aC.pure _
 .exact aC.stuck _
def aC.loadAt (t:η)(v:Φ):aC P C (Instr.loadAt t v):=(aC.sureAddr v).bind λa=>aC.loadVar t a
def aC.newRow (a:Lets C)(t:η)(cs:ϐ):aC P C (newRow t cs):=λw b=>by
 simp only[Go.newRow,run_bind,run_newObj_alloc,Result.andThen_ok];exact a.alloc w _ b
def aC.mapM {f:α->Sem β}(h:∀a,aC P C (f a)):∀(l:List α),aC P C (l.mapM f)
 |[]=>by simp only[List.mapM_nil];exact aC.pure _
 |a::r=>by simp only[List.mapM_cons];exact(h a).bind λ_=>(aC.mapM h r).bind λ_=>aC.pure _
def aC.afB {f:α->Sem β}(h:∀a,aC P C (f a))(l:Array α):aC P C (l.mapM f):=by
 rw[ϕ7];exact aC.map (aC.mapM h _)
def aC.build (t:η)(a:Array (Nat×Φ)):aC P C (Instr.build t a):=by
 refine(aC.zeroValue t).bind λz=>(aC.underlying t).bind λd=>?_
 cases d<;>try exact aC.stuck _
 case array n e=>
  refine(aC.sizeOf e).bind λs=>?_
  split
  .exact aC.pure _
  .exact aC.stuck _
 case struct fs=>
  have c:aC P C (fs.mapM λf=>(do Pure.pure (f.offset,<-Go.sizeOf f.type):Sem (Nat×Nat))):=aC.afB (λf=>(aC.sizeOf f.type).bind λ_=>aC.pure _) fs;refine aC.bind c λb=>?_
  split
  .exact aC.pure _
  .exact aC.stuck _
def aC.buildSlice (f:Lets C)(t:η)(n:Nat)(b:Array (Nat×Φ)):aC P C (Instr.buildSlice t n b):=by
 refine(aC.underlying t).bind λd=>?_
 cases d<;>try exact aC.stuck _
 case slice e=>
  refine(aC.sizeOf e).bind λs=>?_
  have c:∀zero:Array Φ,aC P C (match Instr.fill (λi=>some (i*s,s)) ((Array.range (n*s)).map (zero[·%zero.size]!)) b.toList with
    |some cells=>(do Pure.pure (Value.slice (some (<-Go.newRow e cells)) n n):Sem Φ)
    |_=>Go.stuck "buildSlice: a part of the wrong size"):=λzero=>by
   split
   .exact(aC.newRow f _ _).bind λ_=>aC.pure _
   .exact aC.stuck _
  dsimp only;split
  .exact λ_ _=>trivial
  .split
   .exact(aC.pure _).bind λz=>c z
   .exact(aC.zeroValue e).bind λv=>(aC.pure v.cells).bind λz=>c z
def iZ {α:Type}(P:ω)(e:Sem α):Prop:=∀w v w',e.run P w≠.ok v w'
def iZ.keeps {e:Sem α}(h:iZ P e):aC P C e:=λw _=>by
 cases hr:e.run P w with
 |ok a w'=>exact absurd hr (h w a w')
 |halt x w'=>trivial
def iZ.halt (x:Halt):iZ P (Sem.halt x:Sem α):=λ_ _ _ h=>by cases h
def iZ.bind {e:Sem α}{f:α->Sem β}(h:∀a,iZ P (f a)):iZ P (e>>=f):=λw v w' hr=>by
 rw[run_bind] at hr;cases b:e.run P w with
 |ok a w1=>rw[b] at hr;exact h a w1 v w' hr
 |halt x w1=>rw[b] at hr;cases hr
def iZ.runtimePanic (x:RuntimeError):iZ P (runtimePanic x:Sem α):=by
 refine iZ.bind λp=>?_
 cases x<;>first|exact iZ.halt _|exact iZ.bind λ_=>iZ.bind λ_=>iZ.halt _
def iZ.boundsPanic (k:IntKind)(x y:Int)(c:BoundsCode):iZ P (boundsPanic k x y c:Sem α):=by
 have h:∀s,iZ P (Go.runtimePanic (.bounds (IntKind.i64.wrap x) y s c):Sem α):=λs=>iZ.runtimePanic _
 unfold Go.boundsPanic;unfold Go.runtimePanic at h⊢;dsimp only;split
 .exact iZ.bind h
 .exact iZ.bind h
def aC.asIntOf (v:Φ):aC P C (asIntOf v):=by
 unfold Go.asIntOf;split<;>first|exact aC.pure _|exact aC.halt _
def aC.sliceBound (v:Φ)(y:Nat)(c:BoundsCode):aC P C (Instr.sliceBound v y c):=by
 refine(aC.asIntOf v).bind λx=>?_
 dsimp only;split
 .exact aC.pure _
 .exact(iZ.boundsPanic _ _ _ _).keeps
def aC.sliceBounds (b:Bool)(l c:Nat)(x y z:ϯ):aC P C (Instr.sliceBounds b l c x y z):=by
 unfold Instr.sliceBounds;dsimp only
 (repeat' first|exact aC.pure _|exact aC.sliceBound _ _ _|exact aC.stuck _|(refine aC.bind ?_ λ_=>?_)|split)
def aC.asAddr (v:Φ):aC P C (asAddr v):=by
 unfold Go.asAddr
 (repeat' first|exact aC.pure _|exact aC.stuck _|exact aC.halt _|exact(iZ.runtimePanic _).keeps|split)
def aC.Xr (t:η)(v:Φ)(x y z:ϯ):aC P C (Instr.slice t v x y z):=by
 refine(aC.underlying t).bind λd=>?_
 (repeat' first|exact aC.pure _|exact aC.stuck _|exact aC.asAddr _|exact aC.sliceBounds _ _ _ _ _ _|exact aC.sizeOf _|exact aC.underlying _|(refine aC.bind ?_ λ_=>?_)|split)
def aC.sliceAt (t:η)(v:Φ)(x y z:ϯ):aC P C (Instr.sliceAt t v x y z):=by
 refine(aC.underlying t).bind λd=>?_
 (repeat' first|exact aC.pure _|exact aC.Xr _ _ _ _ _|exact aC.stuck _|exact aC.sureAddr _|exact aC.sliceBounds _ _ _ _ _ _|exact aC.sizeOf _|(refine aC.bind ?_ λ_=>?_)|split)
def aC.indexAt (t:η)(x i:Φ):aC P C (Instr.indexAt t x i):=by
 refine(aC.asIntOf i).bind λk=>?_
 refine(aC.underlying t).bind λd=>?_
 (repeat' first|exact aC.pure _|exact aC.stuck _|exact aC.halt _|exact aC.sureAddr _|exact(iZ.boundsPanic _ _ _ _).keeps|exact aC.sizeOf _|exact aC.underlying _|(refine aC.bind ?_ λ_=>?_)|split|(dsimp only;split))
def fK.oo {o:Oper}(s:(ab7->Φ)->Sem Φ)(b:∀ρ,execOp ρ o=(do pure (Next.value (<-s ρ))))(h:∀ρ,aC P C (s ρ)):fK P C o:=λρ w c=>by
 have:=h ρ w c;rw[b,run_bind];cases hr:(s ρ).run P w with
 |ok a w'=>rw[hr] at this;exact this
 |halt x w'=>trivial
def fK.load {o:Oper}{t:η}{x:ab7}(a:o.op= .load t x):fK P C o:= .oo (λρ=>Instr.loadAt t (ρ x)) (λρ=>by simp only[execOp,a]) (λ_=>aC.loadAt _ _)
def fK.build {o:Oper}{t:η}{a:Array (Nat×ab7)}(b:o.op= .build t a):fK P C o:= .oo (λρ=>Instr.build t (a.map λ(i,x)=>(i,ρ x))) (λρ=>by simp only[execOp,b]) (λ_=>aC.build _ _)
def fK.buildSlice (b:Lets C){o:Oper}{t:η}{n:Nat}{a:Array (Nat×ab7)}(c:o.op= .buildSlice t n a):fK P C o:= .oo (λρ=>Instr.buildSlice t n (a.map λ(i,x)=>(i,ρ x))) (λρ=>by simp only[execOp,c]) (λ_=>aC.buildSlice b _ _ _)
def fK.indexAddr {o:Oper}{t:η}{x i:ab7}(a:o.op= .indexAddr t x i):fK P C o:= .oo (λρ=>Instr.indexAt t (ρ x) (ρ i)) (λρ=>by simp only[execOp,a]) (λ_=>aC.indexAt _ _ _)
def fK.slice {o:Oper}{t:η}{x:ab7}{l h m:Option ab7}(a:o.op= .slice t x l h m):fK P C o:= .oo (λρ=>Instr.sliceAt t (ρ x) (l.map ρ) (h.map ρ) (m.map ρ)) (λρ=>by simp only[execOp,a]) (λ_=>aC.sliceAt _ _ _ _ _)
def Plain (P:ω)(src a:η):Bool:=match P.underlying src,P.underlying a with
 |some (.slice e),some .string=>match P.underlying e with|some (.int .u8)=>true|_=>false
 |some (.int _),some (.int _)=>true
 |_,_=>false
def aC.Qm {γ:Type}{f:γ->β->Sem (ForInStep β)}(h:∀a s,aC P C (f a s)):∀(l:List γ)(s:β),aC P C (forIn l s f)
 |[],s=>by rw[List.forIn_nil];exact aC.pure _
 |a::r,s=>by
  rw[List.forIn_cons];refine(h a s).bind λx=>?_
  cases x with
  |done b=>exact aC.pure _
  |yield b=>exact aC.Qm h r b
def aC.bytesToString (x:Φ):aC P C (Conv.bytesToString x):=by
 unfold Conv.bytesToString;split
 .exact aC.pure _
 .refine aC.bind (aC.loadCellsFrom _ _ _ _) λcs=>?_
  refine aC.bind ?_ λ_=>aC.pure _
  rw[<-Array.forIn_toList];refine aC.Qm (λa s=>?_) _ _;split
  .exact aC.pure _
  .exact(aC.stuck _).bind λ_=>aC.pure _
 .exact aC.stuck _
def aC.choose (c:Lets C)(q:Question):aC P C (choose q):=λw b=>by
 unfold Go.choose;simp only[Sem.run]
 by_cases a:q.forced=true
 .simp only[a,if_true];exact b
 .simp only[a];exact c.drew w b
def aC.floatToInt (a:Lets C)(k:FloatKind)(b:Nat)(d:IntKind):aC P C (Conv.floatToInt k b d):=by
 unfold Conv.floatToInt;dsimp only;split
 .split
  .exact aC.pure _
  .exact(aC.choose a _).bind λ_=>aC.pure _
 .exact(aC.choose a _).bind λ_=>aC.pure _
def fK.convert (g:Lets C){o:Oper}{src a:η}{x:ab7}(b:Plain P src a=true)(h:o.op= .convert src a x):fK P C o:=by
 refine .oo (λρ=>Go.convert src a (ρ x)) (λρ=>by simp only[execOp,h]) (λρ=>?_);intro w c;unfold Plain at b;split at b
 .rename_i e h1 h2
  split at b
  .rename_i i
   simp only[Go.convert,run_bind,run_underlying h1,run_underlying h2,Result.andThen_ok];have d:=aC.bytesToString (P:=P) (C:=C) (ρ x) w c;cases f:ρ x<;>rw[f] at d<;>first|exact c|(simp only[run_bind,run_underlying i,Result.andThen_ok];exact d)
  .cases b
 .rename_i j k2 h1 h2
  simp only[Go.convert,run_bind,run_underlying h1,run_underlying h2,Result.andThen_ok];cases f:ρ x<;>first|exact c|exact trivial|exact aC.floatToInt g _ _ _ w c|skip
  case pointer ad=>cases ad<;>exact trivial
 .cases b
def fK.move {o:Oper}{x:ab7}(a:o.op= .move x\/o.op= .assign x):fK P C o:=λρ w b=>by
 rcases a with a|a<;>simp only[execOp,a]<;>exact b
def EA (P:ω)(o:Oper):Bool:=match o.op with
 |.load .. |.build .. |.buildSlice .. |.move _|.assign _|.indexAddr .. |.slice .. =>true
 |.convert src a _=>Plain P src a
 |_=>false
def fK.EA (b:Lets C){o:Oper}(h:EA P o=true):fK P C o:=by
 cases a:o.op<;>simp only[Go.Proofs.YtchcmhodnkgojaaGreat.EA,a] at h<;>first|(cases h;done)|exact fK.load a|exact fK.build a|exact fK.buildSlice b a|exact fK.move (.inl a)|exact fK.move (.inr a)|exact fK.indexAddr a|exact fK.slice a|exact fK.convert b h a
end
section
variable {P:ω}{ops:Array Oper}{Q:Exit->Act->Ω->Prop}{md:Region.Mode}
def Rz {i:Nat}{e:Oper}{v:Φ}{d:Nat}{b:ϭ}{a:Act}{w:Ω}(C:Ϥ)(k:Lets C)(j:C w)(q:ops[i]? =some e)(p:Region.noSelect ops=true)(f:Region.free md ops b i=true)(hr:(ready md ops b).contains i=true)(g:∀c a w,Q (.panic c) (a.put e.dst v) w->Q (.panic c) a w)(hg:e.guard=none)(m:(others md ops b i).all (EA P)=true)(n:∀w,C w->(execOp a.eval e).run P w= .ok (.value v) w)(h:wpAny P md ops Q d (b.setIfInBounds i true) (a.put e.dst v) w):wpAny P md ops Q (d+1) b a w:=
 Ha C q p f hr g hg j (Gives.val n) _ rfl (λo l=>fK.EA k (ad6.1 m o l)) h
def Hb {i:Nat}{e:Oper}{v:Φ}{d:Nat}{b:ϭ}{a:Act}{w:Ω}(k:ops[i]? =some e)(j:Region.noSelect ops=true)(l:Region.free md ops b i=true)(hr:(ready md ops b).contains i=true)(f:∀c a w,Q (.panic c) (a.put e.dst v) w->Q (.panic c) a w)(hg:e.guard=none)(g:∀w,(execOp a.eval e).run P w= .ok (.value v) w)(h:wpAny P md ops Q d (b.setIfInBounds i true) (a.put e.dst v) w):wpAny P md ops Q (d+1) b a w:=
 wpAny_take k j l hr f (.inl ⟨by simp[wanted,hg],g⟩) h
def upto (n k:Nat):Array Bool:=((range n).map λj=>decide (j<k)).toArray
def nR (n k:Nat)(c:k<n):(upto n k).setIfInBounds k true=upto n (k+1):=by
 apply ϑ9
 intro i;simp only[upto,Array.getElem?_setIfInBounds,ab3,ah1,List.length_range,List.getElem?_toArray,List.getElem?_map]
 by_cases b:k=i
 .subst b;simp[c]
 .simp only[b,if_false]
  rcases ϐ5 i n with a|a
  .simp only[List.getElem?_range a,ξ,af5,decide_eq_decide];omega
  .simp[a]
def At (P:ω)(ops:Ϙ)(Q:ϔ)(n k:Nat)(a:Act)(w:Ω):Prop:=wpAny P .any ops Q (n-k) (upto n k) a w
def iq {id:Nat}{a:Act}{w:Ω}(n:Nat)(c:ops.size=n)(h:At P ops Q n 0 a w.drew)(hm:P.follows .mixedOrders=true:=by kernel_rfl):(Code.region id ops true).wp P Q a w:=by
 refine wp_region_any hm ?_;rw[c];have e:Array.replicate n false=upto n 0:=by
  apply ϑ9
  intro i;rcases ϐ5 i n with b|b
  .simp[upto,b]
  .simp[upto,b]
 rw[e];exact h
def At.step {n k:Nat}{a:Act}{w:Ω}(b:k<n)(h:wpAny P .any ops Q ((n-(k+1))+1) (upto n k) a w):At P ops Q n k a w:=by
 unfold At;rw[show n-k=(n-(k+1))+1 by omega];exact h
def cy {n:Nat}(k:Nat){d:Oper}{v:Φ}{a:Act}{w:Ω}(b:Ϩ)(j:ops[k]? =some d)(hd:d.dst=b)(f:∀c a w,Q (.panic c) (a.put d.dst v) w->Q (.panic c) a w)(hg:d.guard=none)(g:∀w,(execOp a.eval d).run P w= .ok (.value v) w)(h:At P ops Q n (k+1) (a.put b v) w)(e:k<n:=by omega)(i:Region.noSelect ops=true:=by kernel_rfl)(l:Region.free .any ops (upto n k) k=true:=by kernel_rfl)(hr:(ready .any ops (upto n k)).contains k=true:=by kernel_rfl):At P ops Q n k a w:=
 .step e (Hb j i l hr f hg g (by rw[nR n k e,hd];exact h))
def nn {n:Nat}(k:Nat){b:Oper}{v:Φ}{a:Act}{w:Ω}(C:Ϥ)(j:Lets C)(i:C w)(d:Ϩ)(p:ops[k]? =some b)(hd:b.dst=d)(g:∀c a w,Q (.panic c) (a.put b.dst v) w->Q (.panic c) a w)(hg:b.guard=none)(m:∀w,C w->(execOp a.eval b).run P w= .ok (.value v) w)(h:At P ops Q n (k+1) (a.put d v) w)(e:k<n:=by omega)(o:Region.noSelect ops=true:=by kernel_rfl)(f:Region.free .any ops (upto n k) k=true:=by kernel_rfl)(hr:(ready .any ops (upto n k)).contains k=true:=by kernel_rfl)(l:(others .any ops (upto n k) k).all (EA P)=true:=by kernel_rfl):At P ops Q n k a w:=
 .step e (Rz C j i p o f hr g hg l m (by rw[nR n k e,hd];exact h))
def VK {n:Nat}(k:Nat){b:Oper}{a:Act}{w:Ω}(C:Ϥ)(p:Lets C)(m:C w)(g:k<n)(d:Ϩ)(y:ops[k]? =some b)(hd:b.dst=d)(u:Region.noSelect ops=true)(j:Region.free .any ops (upto n k) k=true)(hr:(ready .any ops (upto n k)).contains k=true)(hg:b.guard=none)(r:(others .any ops (upto n k) k).all (EA P)=true)(f:ac0)(args:ϐ)(v:Φ)(l:∀c a w,Q (.panic c) (a.put b.dst v) w->Q (.panic c) a w)(t:∀w,(execOp a.eval b).run P w= .ok (.enter f args) w)(i:∀w,C w->Calls P f args w λe x=>e= .returned v/\x=w)(h:At P ops Q n (k+1) (a.put d v) w):At P ops Q n k a w:=
 .step g (Ha C y u j hr l hg m (λw q=>by rw[t w];exact⟨rfl,i w q⟩) _ rfl (λo s=>fK.EA p (ad6.1 r o s)) (by rw[nR n k g,hd];exact h))
def at_one {n:Nat}(k:Nat){b:Oper}{a:Act}{w:Ω}(c:k<n)(e:ops[k]? =some b)(hr:ready .any ops (upto n k)=[k])(hg:b.guard=none)(h:∀K:Act->Ω->Prop,(∀a w,At P ops Q n (k+1) a w->K a w)->b.wp P a w K Q):At P ops Q n k a w:=
 .step c (Ea hr e hg λK d=>h K λa w x=>d a w (by rw[nR n k c];exact x))
def tL {n:Nat}(k:Nat){d:Oper}{a:Act}{w:Ω}(b:Ϩ)(f:ops[k]? =some d)(hd:d.dst=b)(hg:d.guard=none)(v:Φ)(w1:Ω)(c:(execOp a.eval d).run P w= .ok (.value v) w1)(h:At P ops Q n (k+1) (a.put b v) w1)(e:k<n:=by omega)(hr:ready .any ops (upto n k)=[k]:=by kernel_rfl):At P ops Q n k a w:=
 .step e (KS hr f hg v w1 c (by rw[nR n k e,hd];exact h))
def KR {n:Nat}(k:Nat){d:Oper}{a:Act}{w:Ω}(e:k<n)(c:Ϩ)(f:ops[k]? =some d)(hd:d.dst=c)(hr:ready .any ops (upto n k)=[k])(hg:d.guard=none)(w1:Ω)(b:(execOp a.eval d).run P w= .ok .skip w1)(h:At P ops Q n (k+1) (a.put c ϗ) w1):At P ops Q n k a w:=
 .step e (RB hr f hg w1 b (by rw[nR n k e,hd];exact h))
def nr {n:Nat}{a:Act}{w:Ω}(h:Q .normal a w)(hr:ready .any ops (upto n n)=[]:=by kernel_rfl):At P ops Q n n a w:=wpAny_done hr h _
end
end
section
open Go.RowKit Go.Lib
def wU:lk.cells.size=65:=by simp[lk,Value.cells,eH,ah]
def GZ (s:Int)(l:ϓ)(h:l.length=64):prog.built 240 [(0,.int .i64 s),(1,.agg (byteCells l).toArray)]=some (eH (s,l)).toArray:=by
 have a:∃it,prog.info? 240=some it/\it.zero=some lk:=by
  have:=lW;cases c:prog.info? 240 with
  |none=>rw[c] at this;cases this
  |some it=>rw[c] at this;exact⟨it,rfl,by simpa using this⟩
 have⟨it,a,d⟩:=a;have b:∃fs,prog.underlying 240=some (.struct fs)/\fs.toList.mapM (λf=>(prog.info? f.type).map λi=>(f.offset,i.size))=some [(0,1),(1,64)]:=⟨_,underlying240,ϰ⟩
 have⟨fs,e,b⟩:=b;unfold Program.built;simp only[a,e,d,b];have e1:over lk.cells 0 [Value.int .i64 s]=(Value.int .i64 s::byteCells (replicate 64 0)).toArray:=by simp[over,lk,Value.cells,eH]
 rw[wn _ _ 0 _ _ 0 1 rfl rfl (by rw[wU];omega)];rw[show(Value.int IntKind.i64 s).cells.toList=[Value.int .i64 s] from rfl,e1];rw[wn _ _ 1 _ _ 1 64 rfl (by simp[Value.cells,ah,h]) (by simp only[ab3,ϳ,ah,Ϸ];omega)];simp only[Instr.fill]
 congr 1
 simp[over,eH,ah,h,Value.cells]
def K6 (d B n:Nat)(q:Φ)(x:DS)(w:Ω)(s:Int)(l:ϓ)(A:l.length=64)(hs:0<=s)(hn:s<n)(iA:x.waiting.length<60)(ac:d<w.heap.size)(hm:∀w1,aQ [] w w1->Calls prog 187 #[.pointer (some ⟨d,0,none⟩)] w1 λe w'=>e= .returned (.bool true)/\bG w' d B n q x/\aQ [d] w1 w'):
  Calls prog 148 #[.pointer (some ⟨d,0,none⟩),.int .i64 s,.agg (byteCells l).toArray] w λe w'=>e= .returned (.int .i64 0)/\
   ∃z,bG w' d B n z {x with waiting:=x.waiting++[(s,l)]}/\aQ (d::q.ownBlock.toList) w w'/\(z.ownBlock=q.ownBlock\/∃k,z.ownBlock=some k/\w.heap.size<=k):=by
 go_enter func148,ntmps148;go_wp2_with (with_reducible refine bA rfl ?_);refine eQ rfl 148 _ rfl (.agg (byteCells l).toArray) rfl ?_;intro w1 H l5 f1 r5;go_wp2_with fail;refine(hm w1 f1).mono ?_;clear hm;rintro e E ⟨rfl,h2,f2⟩;have C:=f2.row r5 (by simp;omega);have hf:=h2.row.thaw;have O:Row E.drew H (byteCells l).toArray 148:=C
 have c:bG E.drew d B n q x:=h2.yw (aQ.drew [] _) ϛ ϛ ϛ;go_wp2_with fail;refine iq 13 rfl ?_;have f3:aQ [] E E.drew:=aQ.drew [] _;generalize E.drew=m at O c f3;obtain⟨c0,c1,-⟩:=j7 c.row;refine cy 0 (some 10) rfl rfl (λ_ _ _ h=>h) rfl (λ_=>rfl) ?_
 refine cy 1 (some 11) rfl rfl (λ_ _ _ h=>h) rfl (λ_=>rfl) ?_;refine cy 2 (some 12) rfl rfl (λ_ _ _ h=>h) rfl (λ_=>rfl) ?_
 refine cy 3 (some 13) rfl rfl (λ_ _ _ h=>h) rfl (v:= .pointer (some ⟨d,1,none⟩)) (λ_=>by go_simp) ?_;simp only[Act.put,co,cq,ck]
 have hC:Lets (λw':Ω=>w'.cell? ⟨d,1,none⟩=some q/\w'.rangeAt H 0 (byteCells l)):=⟨λw o h=>⟨by rw[World.cell?_alloc_some _ _ _ (by rw[h.1];rfl)];exact h.1,World.rangeAt_alloc h.2 o⟩,λw h=>h⟩
 have D:m.cell? ⟨d,1,none⟩=some q/\m.rangeAt H 0 (byteCells l):=⟨c1,λj v hv=>by rw[O.cell];simpa using hv⟩
 refine nn 4 _ hC D (some 14) rfl rfl (λ_ _ _ h=>h) rfl (v:=q) (λw' R=>by have:=R.1;go_simp) ?_;refine cy 5 (some 15) rfl rfl (λ_ _ _ h=>h) rfl (λ_=>rfl) ?_;clear hC D
 refine tL 6 (some 16) rfl rfl rfl _ m (j4 148 _ rfl H 0 rfl dY 64 bE _ _ O (byteCells l) ?_ (by rw[ah,A])) ?_
 .simp only[ϲ];rw[θ (by rw[ah,A];omega)]
 refine cy 7 (some 17) rfl rfl (λ_ _ _ h=>h) rfl (v:= .agg (eH (s,l)).toArray) (λw'=>?_) ?_
 .exact iT _ _ rfl _ (GZ s l A)
 simp only[Act.put,co,cq,ck];obtain⟨i,hi,Z,G,U⟩:∃i,prog.info? 240=some i/\i.zero=some lk/\i.size=65/\i.bytes=72:=by
  have I:=lW;have a2:=jF;have Y:(prog.info? 240).map (·.bytes)=some 72:=ϰ
  cases X:prog.info? 240 with
  |none=>rw[X] at I;cases I
  |some it=>rw[X] at I a2 Y;exact⟨it,rfl,by simpa using I,by simpa using a2,by simpa using Y⟩
 refine tL 8 (some 18) rfl rfl rfl _ _ (wo 130 240 _ rfl underlying130 i lk (.agg (eH (s,l)).toArray) hi Z ϖ ϖ rfl ?_) ?_
 .simp only[Value.cells,ab3,G];exact cH _ A
 have f:=c.new (w':=m.alloc (.cells (Value.agg (eH (s,l)).toArray).cells 240)) (aQ.alloc [] _ _) ϛ;have P:Row (m.alloc (.cells (Value.agg (eH (s,l)).toArray).cells 240)) m.heap.size (eH (s,l)).toArray 240:=Row.new ..;have Q:aQ [] m (m.alloc (.cells (Value.agg (eH (s,l)).toArray).cells 240)):=aQ.alloc ..
 generalize m.alloc (.cells (Value.agg (eH (s,l)).toArray).cells 240)=M at f P Q;refine at_one 9 ϖ rfl ϰ rfl (λK hK=>?_)
 refine wp_append_lies M (.tmp 14) (.tmp 18) 130 rfl 0 240 i lk 65 72 underlying130 hi Z G U wU ϖ q x.waiting.length (lF x.waiting) rfl f.own ⟨m.heap.size,0,none⟩ 1 1 (eH (s,l)) rfl (by rw[cH _ A]) ?_ ?_ ϖ (by simp[maxLen];omega) ϖ (Nat.zero_le _) M.heap.size rfl ?_
 .intro j u hu;rw[Addr.add_mid,P.cell];simpa using hu
 .intro v hv;simp only[eH,ac1] at hv;rcases hv with rfl|hv;rfl;exact byteCells_one _ v hv
 intro g cap N t V a ad;refine hK _ _ ?_;clear hK;simp only[Act.put,co,cq,ck];have S:=aQ.grown V;have y:=f.own;have ab:=c.row.lt;have aa:=c.last.lt;have ae:=Q.size;have L:=S.row f.row (by simpa using f.ne1);have P9:=S.row f.last (by simpa using f.Eh);have gd:d≠g:=by
  rcases a with a|rfl
  .intro e;exact f.ne1 (by rw[a,e])
  .omega
 have gb:B≠g:=by
  rcases a with a|rfl
  .intro e;exact f.Eh (by rw[a,e])
  .omega
 refine cy 10 (some 20) rfl rfl (λ_ _ _ h=>h) rfl (λ_=>rfl) ?_;refine cy 11 (some 21) rfl rfl (λ_ _ _ h=>h) rfl (v:= .pointer (some ⟨d,1,none⟩)) (λ_=>by go_simp) ?_;simp only[Act.put]
 refine KR 12 ϖ none rfl rfl ϰ rfl (N.setCell ⟨d,1,none⟩ (.slice (some ⟨g,0,none⟩) (x.waiting.length+1) cap)) ?_ ?_
 .have:=L.thaw 1
  have:=(j7 L).2.1;go_simp
 refine nr ?_;simp only[Act.put];have J:aQ [d] N (N.setCell ⟨d,1,none⟩ (.slice (some ⟨g,0,none⟩) (x.waiting.length+1) cap)):=aQ.setCell ..;have T:=L.setCell 1 (.slice (some ⟨g,0,none⟩) (x.waiting.length+1) cap);have W:=J.row P9 (by simpa usingλe=>f.ne e.symm);have b:=J.owns t (by simpa [Value.ownBlock] using gd.symm)
 generalize N.setCell ⟨d,1,none⟩ (.slice (some ⟨g,0,none⟩) (x.waiting.length+1) cap)=w6 at J T W b;have F:bG w6 d B n (.slice (some ⟨g,0,none⟩) (x.waiting.length+1) cap) {x with waiting:=x.waiting++[(s,l)]}:=by
  refine {row:=T,last:=W,len:=c.len,own:=?_,eY:=?_,within:=?_,lo:=c.lo,hi:=c.hi,few:=by simp;omega,ne:=c.ne,ne1:=by simpa [Value.ownBlock] using gd.symm,Eh:=by simpa [Value.ownBlock] using gb.symm,nil:=by simp}
  .simpa [lF] using b
  .intro p r;simp only[ϐ1,ae1] at r;rcases r with r|rfl;exact c.eY p r;exact A
  .intro p r;simp only[ϐ1,ae1] at r;rcases r with r|rfl;exact c.within p r;exact⟨hs,hn⟩
 clear c0 c1 hf L P9 t y T W b O P C r5;go_wp2;go_ret;have g0:aQ [d] w M:=((((f1.mono ϛ:aQ [d] w w1).trans f2).trans f3).trans Q)
 have g1:aQ (d::q.ownBlock.toList) w M:=g0.mono;refine⟨rfl,_,F,(g1.trans S (by intro i hi;left;simp[hi])).trans J,?_⟩;rcases a with a|rfl
 .exact .inl (by rw[a];rfl)
 .exact .inr ⟨_,rfl,by have:=g1.size;omega⟩
def En (d:Nat)(s:Int)(l:ϓ)(w:Ω)(R:Ϥ)(hm:∀w1,aQ [] w w1->Calls prog 187 #[.pointer (some ⟨d,0,none⟩)] w1 λe w'=>e= .returned (.bool false)/\R w'):
  Calls prog 148 #[.pointer (some ⟨d,0,none⟩),.int .i64 s,.agg (byteCells l).toArray] w λe w'=>e= .returned (.int .i64 3)/\R w':=by
 go_enter func148,ntmps148;go_wp2_with (with_reducible refine bA rfl ?_);refine eQ rfl 148 _ rfl (.agg (byteCells l).toArray) rfl ?_;intro w1 f b a r5;go_wp2_with fail;refine(hm w1 a).mono ?_;rintro e c ⟨rfl,h1⟩;go_wp2;go_ret;exact⟨rfl,h1⟩
def RG (d b n:Nat)(a:Φ)(x:DS)(w:Ω)(h:bG w d b n a x):
  Calls prog 45 #[.pointer (some ⟨d,0,none⟩)] w λe w'=>e= .returned (.int .i64 x.acts)/\w'=w:=by
 have⟨c0,c1,c2,i,g,c,f⟩:=j7 h.row;go_enter func45,ntmps45;go_wp2;go_ret;exact⟨rfl,rfl⟩
def I6 (d b n:Nat)(a:Φ)(x:DS)(w:Ω)(h:bG w d b n a x):
  Calls prog 79 #[.pointer (some ⟨d,0,none⟩)] w λe w'=>e= .returned (.bool x.failed)/\w'=w:=by
 have⟨c0,c1,c2,i,g,c,f⟩:=j7 h.row;go_enter func79,ntmps79;go_wp2;go_ret;exact⟨rfl,rfl⟩
def mV (d b n:Nat)(a:Φ)(x:DS)(w:Ω)(h:bG w d b n a x):
  Calls prog 117 #[.pointer (some ⟨d,0,none⟩)] w λe w'=>e= .returned (.int .i64 n)/\w'=w:=by
 have⟨c0,c1,c2,i,g,c,f⟩:=j7 h.row;go_enter func117,ntmps117;go_wp2;go_ret;exact⟨rfl,rfl⟩
def aK (n:Nat):Nat:=min ((n-1)/2) 54
def dP (a:ϓ)(i:Nat):Γ:=a.getD (10+i) 0
def jP (a:ϓ)(k:Nat):List Nat:=(range k).filter λi=>dP a i==1
def taken (x:DS)(n:Nat):List Nat:=jP (x.read 0) (aK n)
def gS (l:ϑ):List Φ:=l.map λ(i:Nat)=>Value.int .i64 i
def nB (n:Nat)(h:16<=n)(h2:n<=400)(w:Ω):
  Calls prog 116 #[.int .i64 n] w λe w'=>e= .returned (.int .i64 (aK n))/\w'=w:=by
 go_enter func116,ntmps116
 by_cases a:((n:Int)-1)/2<=54
 all_goals
  go_wp2;go_ret;refine⟨rF ?_,rfl⟩;unfold aK;omega
def pR (i:Nat)(h:i<200)(w:Ω):
  Calls prog 115 #[.int .i64 i] w λe w'=>e= .returned (.int .i64 (1+2*i:Nat))/\w'=w:=by
 go_enter func115,ntmps115;go_wp2;go_ret;exact⟨rF ϖ,rfl⟩
def tS (a:ϓ)(k:Nat):jP a (k+1)=jP a k++if dP a k==1 then [k] else []:=by
 simp[jP,List.range_succ,ϓ2,List.filter_cons]
def ID (a:ϓ)(i:Nat):(((dP a i).toNat:Int)==1)=(dP a i==1):=by
 rw[ϐ2];simp[<-UInt8.toNat_inj];omega
def zR (a b:ϑ):gS (a++b)=gS a++gS b:=by simp[gS]
def p6 (a:ϓ)(k:Nat):(jP a k).length<=k:=by
 have:=ϑ7 (λi=>dP a i==1) (range k);simpa [jP] using this
def Gz:Elem prog 64 3 1 8:=⟨underlying64,ϰ,ϖ⟩
structure Sa (D:Ω->Prop)(d n:Nat)(x:DS):Prop where
 lo:16<=n
 hi:n<=400
 len:∀j:Nat,j<n->(x.read j).length=64
 new:∀{w w':Ω} {S:List Nat},D w->aQ S w w'->(∀k∈S,w.heap.size<=k)->D w'
 read:∀(s:Int) (w:Ω),D w->0<=s->s<n->Calls Tryz.prog 114 #[.pointer (some ⟨d,0,none⟩),.int .i64 s] w λe w'=>e= .returned (.agg (byteCells (x.read s)).toArray)/\aQ [] w w'
 SR:∀w:Ω,D w->Calls Tryz.prog 117 #[.pointer (some ⟨d,0,none⟩)] w λe w'=>e= .returned (.int .i64 n)/\w'=w
def In {w0:Ω}{d b n:Nat}{a:Φ}{x:DS}(h:bG w0 d b n a x):Sa (λw=>bG w d b n a x) d n x:=
 ⟨h.lo,h.hi,λj e=>bD _ _ (by rw[h.len];simp;omega) _ h.eY,λh f c=>h.new f c,λs w h h0 h1=>um d b n a x s w h h0 h1,λw h=>mV d b n a x w h⟩
def sj {D:Ϥ}{d n:Nat}{x:DS}(R:Sa D d n x)(w:Ω)(h:D w):
  Calls prog 83 #[.pointer (some ⟨d,0,none⟩)] w λe w'=>∃v,e= .returned v/\w'.ownsRow w.heap.size 3 1 v (taken x n).length (gS (taken x n))/\aQ [] w w':=by
 have r:=R.lo;have s:=R.hi;have q:(x.read 0).length=64:=R.len 0 ϖ;go_enter func83,ntmps83;go_wp2_with fail;refine(R.read 0 w h ϖ ϖ).mono ?_;rintro e w1 ⟨rfl,p⟩;go_wp2_with (with_reducible first|refine aA rfl ?_|refine ai 148 rfl ?_);refine bj rfl 148 rfl fO d9 ?_;intro W b4 X f2 r4
 go_wp2_with (with_reducible first|refine aA rfl ?_|refine ai 148 rfl ?_);refine bQ rfl 148 _ _ rfl _ 0 rfl _ rfl 64 bE ?_ ?_ _ _ r4 ?_ ?_
 .simp only[ab3,ah];exact q
 .exact byteCells_one _
 .decide
 intro F I z;rw[bL _ _ (by rw[ah,q];rfl)] at z;have f:aQ [] w F:=(p.trans f2).trans I (by simp;have:=p.size;omega);have G:=R.new h f ϛ;clear r4 I f2;go_wp2_with fail;refine(R.SR F G).mono ?_;rintro e N ⟨rfl,rfl⟩;go_wp2_with fail;refine(nB n r s _).mono ?_;rintro e N ⟨rfl,rfl⟩;go_wp2_with fail
 have O:aK n<=54:=by unfold aK;omega
 have U:w.heap.size<=b4:=by have:=p.size;omega
 go_loopw [3,11] (λv i wr=>∃k:Nat,i= .int .i64 k/\k<=aK n/\aQ [] w wr/\Row wr b4 (byteCells (x.read 0)).toArray 148/\
  wr.ownsRow w.heap.size 3 1 v (jP (x.read 0) k).length (gS (jP (x.read 0) k))/\v.ownBlock≠some b4) (λ_ i _=>aK n-(intOf i).toNat)
 case atStart=>exact⟨0,rfl,ϖ,f,z,World.ownsRow_nil ..,by simp[Value.ownBlock]⟩
 case round=>
  obtain⟨k,rfl,H,m,o,ok,t⟩:=hrel;clear G f z p
  by_cases S:k<aK n
  .have K:wr.cell? ⟨b4,10+k,none⟩=some (.int .u8 (dP (x.read 0) k).toNat):=by
    rw[o.cell];simp[byteCells,dP,ϻ];rw[List.getElem?_eq_getElem ϖ];exact⟨_,rfl,rfl⟩
   have HR:Hid ((x.read 0).length=64):=q;clear q;have b:=ID (x.read 0) k
   by_cases hm:(dP (x.read 0) k==1)=true
   .have L:(((dP (x.read 0) k).toNat:Int)==1)=true:=by rw[b];exact hm
    have A:Hid ((dP (x.read 0) k==1)=true):=hm;clear hm b;go_wp2_with (with_reducible first|refine bV rfl ?_|refine bW rfl ?_);refine iu rfl 64 3 1 8 Gz _ rfl (.int .i64 k) rfl rfl ?_;intro V P T l r5;go_wp2_with (with_reducible first|refine bV rfl ?_|refine bW rfl ?_);have c:=l.owns ok
    refine ja rfl 64 3 1 8 Gz _ _ rfl w.heap.size u3 _ _ rfl c P 1 1 [.int .i64 k] rfl _ _ r5 rfl rfl (by simp[Value.oneCell']) ϖ ?_ ϖ ?_ ?_
    .have:=p6 (x.read 0) k;omega
    .have:=m.size;have:=l.size;omega
    intro g cap Q C u a;have E:=m.trans l;have B:g≠b4:=by
     rcases a with a|a
     .intro e;exact t (by rw[a,e])
     .have:=o.lt;have:=l.size;omega
    have y:=u.row (l.row o) (by simpa usingλe=>t e);have M:aQ [] w Q:=E.trans u (by intro i J;right;simp at J;exact(c.lt i J).1);clear o ok m K c r5 l u E a T;go_wp2
    go_roundw
    case rel=>
     refine⟨k+1,by go_num,ϖ,M,y,?_,by simpa [Value.ownBlock] using B⟩;rw[tS,A.out];simpa [zR,gS] using C
    case measure=>simp[intOf];omega
   .have j:(dP (x.read 0) k==1)=false:=by simpa using hm
    have L:(((dP (x.read 0) k).toNat:Int)==1)=false:=by rw[b];exact j
    have A:Hid ((dP (x.read 0) k==1)=false):=j;clear hm j b;go_wp2
    go_roundw
    case rel=>
     refine⟨k+1,by go_num,ϖ,m,o,?_,t⟩;rw[tS,A.out];simpa using ok
    case measure=>simp[intOf];omega
  .have HK:Hid (k=aK n):=(by omega:k=aK n)
   go_wp2;go_ret;have H:=HK.out;subst H;exact⟨_,rfl,ok,m⟩
def jQ (d b n:Nat)(a:Φ)(x:DS)(w:Ω)(h:bG w d b n a x):
  Calls prog 83 #[.pointer (some ⟨d,0,none⟩)] w λe w'=>∃v,e= .returned v/\w'.ownsRow w.heap.size 3 1 v (taken x n).length (gS (taken x n))/\aQ [] w w':=sj (In h) w h
def gy:(prog.info? 138).map (·.size)=some 128:=ϰ
def kz:(prog.underlying 138).map TypeDesc.isRow=some true:=ϰ
def oG:Φ:= .agg (byteCells (replicate 128 0)).toArray
def kV:(prog.info? 138).map (·.zero)=some (some oG):=ϰ
def DS.sec (x:DS)(j:Nat):List Γ:=x.read j
def aiv (d b n:Nat)(a:Φ)(x:DS)(j:Nat)(s:Int)(c:s=j)(w:Ω)(h:bG w d b n a x)(f:j<n):
  Calls prog 114 #[.pointer (some ⟨d,0,none⟩),.int .i64 s] w λe w'=>e= .returned (.agg (byteCells (x.sec j)).toArray)/\aQ [] w w':=by
 subst c;exact um d b n a x j w h ϖ ϖ
def zL {w:Ω}{d b n:Nat}{a:Φ}{x:DS}(h:bG w d b n a x)(j:Nat)(c:j<n):(x.sec j).length=64:=bD _ _ (by rw[h.len];omega) _ h.eY
def cO (x:DS)(i:Nat):List Γ:=x.sec (1+2*i)++x.sec (2+2*i)
def sw (x:DS)(i:Nat):Nat->List Γ
 |0=>replicate 128 0
 |1=>x.sec (1+2*i)++replicate 64 0
 |_=>cO x i
def Iu (x:DS)(i k:Nat)(a:k<2)(h1:(x.sec (1+2*i)).length=64)(h2:(x.sec (2+2*i)).length=64):over (byteCells (sw x i k)).toArray (k*64) (byteCells (x.sec (1+2*i+k)))=(byteCells (sw x i (k+1))).toArray:=by
 have e:1+2*i+1=2+2*i:=ϖ
 rcases(by omega:k=0\/k=1) with rfl|rfl
 .simp[over,sw,byteCells,h1]
 .simp[over,sw,cO,byteCells,h1,h2,e]
def uH (x:DS)(i k:Nat)(h1:(x.sec (1+2*i)).length=64)(h2:(x.sec (2+2*i)).length=64):(sw x i k).length=128:=by
 unfold sw;split<;>simp[cO,h1,h2]
def Sa.sec {D:Ϥ}{d n:Nat}{x:DS}(R:Sa D d n x)(j:Nat)(s:Int)(a:s=j)(w:Ω)(h:D w)(b:j<n):
  Calls prog 114 #[.pointer (some ⟨d,0,none⟩),.int .i64 s] w λe w'=>e= .returned (.agg (byteCells (x.sec j)).toArray)/\aQ [] w w':=by
 subst a;exact R.read j w h ϖ ϖ
def sy {D:Ϥ}{d n:Nat}{x:DS}(R:Sa D d n x)(i:Nat)(w:Ω)(h:D w)(V:i<aK n):
  Calls prog 82 #[.pointer (some ⟨d,0,none⟩),.int .i64 i] w λe w'=>e= .returned (.agg (byteCells (cO x i)).toArray)/\aQ [] w w':=by
 have Y:=R.lo;have aa:=R.hi;have ab:2*i+2<n:=by unfold aK at V;omega
 have ac:i<54:=by unfold aK at V;omega
 have g:∀j:Nat,j<n->Hid ((x.sec j).length=64):=λj hj=>R.len j hj
 go_enter func82,ntmps82;go_wp2_with (with_reducible refine aA rfl ?_);refine bj rfl 138 rfl oG kV ?_;intro w1 b4 l4 G r4;go_wp2_with (with_reducible refine aA rfl ?_);refine bj rfl 138 rfl oG kV ?_;intro w2 l l5 f2 r5;have U:=f2.row r4;have t:=G.trans f2
 have L:w.heap.size<=b4:=l4;have O:w.heap.size<=l:=by have:=G.size;omega
 have K:b4≠l:=by have:=r4.lt;omega
 clear G f2 r4 l5;go_wp2_with fail
 go_loopw [8] (λc wr=>∃k:Nat,c= .int .i64 k/\k<=2/\aQ [] w wr/\Row wr b4 oG.cells 138/\Row wr l (byteCells (sw x i k)).toArray 138) (λc _=>2-(intOf c).toNat)
 case atStart=>exact⟨0,rfl,ϖ,t,U,r5⟩
 case round=>
  obtain⟨k,rfl,hk,A,r,q⟩:=hrel;clear t U r5
  by_cases H:k<2
  .have h0:=R.new h A ϛ
   go_wp2_with fail;refine(pR i ϖ wr).mono ?_;rintro e W ⟨rfl,rfl⟩;go_wp2_with fail;have b:=g (1+2*i+k) ϖ;refine(R.sec (1+2*i+k) _ ϖ W h0 ϖ).mono ?_;rintro e w4 ⟨rfl,C⟩;go_wp2_with (with_reducible first|refine aA rfl ?_|refine ai 148 rfl ?_);refine bj rfl 148 rfl fO d9 ?_;intro w5 I l7 Q T
   go_wp2_with (with_reducible first|refine aA rfl ?_|refine ai 148 rfl ?_);refine bQ rfl 148 _ _ rfl _ 0 rfl _ rfl 64 bE ?_ ?_ _ _ T ?_ ?_
   .simp only[ab3,ah];exact b.out
   .exact byteCells_one _
   .decide
   intro s B N;rw[bL _ _ (by rw[ah,b.out];rfl)] at N;have p:aQ [] W s:=(C.trans Q).trans B (by simp;have:=C.size;omega);have z:=p.row r;have y:=p.row q;have P:=A.trans p;have Z:l≠I:=by have:=q.lt;have:=C.size;omega
   clear r q A p C Q B T l7 h0;go_wp2_with fail;refine iq 5 rfl ?_;have u:aQ [] s s.drew:=aQ.drew ..;have r:=u.row z;have q:=u.row y;have M:=u.row N;have F:=P.trans u;generalize s.drew=E at r q M F;clear z y N P u
   refine cy 0 (some 17) rfl rfl (λ_ _ _ h=>h) rfl (λ_=>rfl) ?_;refine cy 1 (some 18) rfl rfl (λ_ _ _ h=>h) rfl (v:= .int .i64 (k*64)) (λ_=>by go_simp;exact IntWalk.i64_in _ ϖ) ?_;simp only[Act.put,co,cq,ck]
   refine cy 2 (some 19) rfl rfl (λ_ _ _ h=>h) rfl (v:= .slice (some ⟨l,k*64,none⟩) (128-k*64) (128-k*64)) (λ_=>?_) ?_
   .exact nO 138 5 128 _ _ rfl underlying138 ϰ l 0 rfl (k*64) rfl ϖ ϖ _ _ ϖ ϖ
   refine cy 3 (some 20) rfl rfl (λ_ _ _ h=>h) rfl (v:= .slice (some ⟨I,0,none⟩) 64 64) (λ_=>by go_simp) ?_;simp only[Act.put,co,cq,ck];have o:=(g (1+2*i) ϖ).out;have m:=(g (2+2*i) ϖ).out;have f:Nat.min 64 (128-k*64)=64:=Nat.min_eq_left ϖ
   refine tL 4 (some 21) rfl rfl rfl _ _ (KH _ _ _ _ 5 rfl underlying85 ϰ l (k*64) _ _ rfl I 0 64 64 rfl _ _ q _ _ M (byteCells (x.sec (1+2*i+k))) ?_ ?_ ?_ (byteCells_one _)) ?_
   .rw[f];simp only[ϲ];rw[θ (by rw[ah,b.out];omega)]
   .rw[f,ah,b.out]
   .simp only[ab3,ah];rw[uH x i k o m,b.out];omega
   rw[Iu x i k H o m];refine nr ?_;have y:=q.setRow (byteCells (sw x i (k+1))).toArray;have J:aQ [l] E (E.setRow l (byteCells (sw x i (k+1))).toArray):=aQ.setRow ..;have z:=J.row r (by simpa using K);have S:aQ [] w _:=F.trans J (by simpa using O)
   generalize E.setRow l (byteCells (sw x i (k+1))).toArray=w8 at y z S;simp only[Act.put,co,cq,ck];clear o m f r q M F J b;go_wp2
   go_roundw
   case rel=>exact⟨k+1,by go_num,ϖ,S,z,y⟩
   case measure=>simp[intOf];omega
  .have HK:Hid (k=2):=(by omega:k=2)
   have o:=(g (1+2*i) ϖ)
   have m:=(g (2+2*i) ϖ)
   have a:Hid ((cO x i).length=128):=by show _=_;have:=uH x i 2 o.out m.out;exact this
   go_wp2_with (with_reducible first|refine au 138 rfl ?_|refine ai 138 rfl ?_);refine bZ rfl 138 _ rfl l 0 rfl kz 128 gy _ _ q (byteCells (cO x i)) ?_ ?_ ?_
   .simp only[ϲ]
    rw[HK.out];exact θ (by rw[ah];exact ai8 a.out)
   .rw[ah];exact a.out
   go_wp2_with (with_reducible first|refine au 138 rfl ?_|refine ai 138 rfl ?_);refine bQ rfl 138 _ _ rfl _ 0 rfl _ rfl 128 gy ?_ ?_ _ _ r ?_ ?_
   .simp only[ab3,ah];exact a.out
   .exact byteCells_one _
   .decide
   intro s B X;rw[bL _ _ (by simp only[ah];rw[a.out];rfl)] at X;have tB:aQ [] w s:=A.trans B (by simpa using L);go_wp2;exact mX rfl b4 rfl rfl _ _ X kz (by simp only[ab3,ah];rw[a.out];exact gy) ⟨rfl,tB⟩
def mh (d c n:Nat)(a:Φ)(x:DS)(i:Nat)(w:Ω)(h:bG w d c n a x)(b:i<aK n):
  Calls prog 82 #[.pointer (some ⟨d,0,none⟩),.int .i64 i] w λe w'=>e= .returned (.agg (byteCells (cO x i)).toArray)/\aQ [] w w':=sy (In h) i w h b
def Sa.ZO {D:Ϥ}{d n:Nat}{x:DS}(R:Sa D d n x)(i:Nat)(a:i<aK n):(cO x i).length=128:=by
 have:2*i+2<n:=by unfold aK at a;have:=R.lo;omega
 have h1:(x.sec (1+2*i)).length=64:=R.len _ ϖ;have h2:(x.sec (2+2*i)).length=64:=R.len _ ϖ;simp[cO,h1,h2]
def aD (l:ϓ):Ξ:=⟨l.toArray⟩
def fH (r:ϓ)(i:Nat):Nat:=(r.getD i 0).toNat
def sa (r:ϓ)(i:Nat):fH r i<256:=(r.getD i 0).toNat_lt
def fQ (r:ϓ):Nat:=(fH r 0)
def dm (r:ϓ):List Γ:=(r.drop 3).take (min (fH r 1) 8)
def bJ (r:ϓ):List Γ:=(r.drop 11).take (min (fH r 2) 96)
def cg (s:Int)(p c:ϓ):List Φ:=[.int .i64 s,.string (aD p),.string (aD c)]
def wH {w:Ω}{b:Nat}{r:ϓ}{t:η}(h:Row w b (byteCells r).toArray t)(j:Nat)(a:j<r.length):w.cell? ⟨b,j,none⟩=some (.int .u8 (fH r j)):=by
 rw[h.cell];simp[byteCells,fH,ϻ,a]
section
variable {P:ω}{w:Ω}{o:Oper}{ρ:ab7->Φ}
def z8 (src a e:η)(x:ab7)(h:o.op= .convert src a x)(m:P.underlying src=some (.slice e))(p:P.underlying e=some (.int .u8))(hd:P.underlying a=some .string)(b off n c:Nat)(k:ρ x= .slice (some ⟨b,off,none⟩) n c)(r:ϓ)(t:η)(hr:Row w b (byteCells r).toArray t)(l:ϓ)(f:(r.drop off).take n=l)(g:l.length=n):
  (execOp ρ o).run P w= .ok (.value (.string (aD l))) w:=by
 have d:∀j v,((byteCells r).drop off|>.take n)[j]? =some v->w.cell? ⟨b,off+j,none⟩=some v:=λj v hv=>by
  rw[hr.cell];rw[al8] at hv;split at hv
  .simpa [ai6] using hv
  .cases hv
 rw[fE,fD,f] at d;subst g;have:=run_convert_bytes_back (P:=P) w src a e ⟨b,off,none⟩ c l m p hd (λj i=>by
  rw[Addr.add_mid];exact d j _ (by simp[byteCells,i]))
 simp only[execOp,h,k,run_bind,this];rfl
end
section
variable {P:ω}{w:Ω}{o:Oper}{ρ:ab7->Φ}
def QQ (t:η)(x y:ab7)(d:o.op= .store t x y)(b:Φ)(e:ρ x=b)(a:Φ)(c:ρ y=a)(w1:Ω)(h:(Instr.storeAt t b a).run P w= .ok () w1):(execOp ρ o).run P w= .ok .skip w1:=by
 simp only[execOp,d,e,c,run_bind,h,Result.andThen_ok];rfl
end
def eZ:(prog.info? 107).map (·.size)=some 3:=ϰ
def kZ:(prog.underlying 107).map TypeDesc.isRow=some true:=ϰ
def yE:Φ:= .agg (cg 0 [] []).toArray
def lP:(prog.info? 107).map (·.zero)=some (some yE):=ϰ
def Jt (s:Int)(p:Ξ):prog.built 103 [(0,.int .i64 s),(1,.string p)]=some #[.int .i64 s,.string p]:=ϰ
def Ju (s:Int)(p c:Ξ):prog.built 107 [(0,.agg #[.int .i64 s,.string p]),(1,.string c)]=some #[.int .i64 s,.string p,.string c]:=ϰ
def pz (r:ϓ)(w:Ω)(hr:r.length=128):
  Calls prog 81 #[.agg (byteCells r).toArray] w λe w'=>e= .returned (.agg (cg (fQ r) (dm r) (bJ r)).toArray)/\aQ [] w w':=by
 go_enter func81,ntmps81;go_wp2_with (with_reducible first|refine bA rfl ?_|refine aA rfl ?_);refine eQ rfl 138 _ rfl (.agg (byteCells r).toArray) rfl ?_;intro w1 b1 l1 u p;go_wp2_with (with_reducible first|refine bA rfl ?_|refine aA rfl ?_);refine bj rfl 107 rfl yE lP ?_;intro l b2 l2 f2 r2
 have q1:Row l b1 (byteCells r).toArray 138:=f2.row p;have s:=u.trans f2;have q:w.heap.size<=b2:=by have:=u.size;omega
 have F:b1≠b2:=by have:=p.lt;omega
 have c1:=wH q1 1 ϖ;have c2:=wH q1 2 ϖ;obtain⟨g,c⟩:∃g,min (fH r 1) 8=g:=⟨_,rfl⟩
 obtain⟨cl,d⟩:∃cl,min (fH r 2) 96=cl:=⟨_,rfl⟩
 have G:g<=8:=ϖ
 have A:cl<=96:=ϖ
 have HR:Hid (r.length=128):=hr;have z:=c;have i:=d;have B:Hid (min (fH r 1) 8=g):=c;have C:Hid (min (fH r 2) 96=cl):=d;have x:((fH r 1):Int)<=255:=by have:=sa r 1;omega
 have y:((fH r 2):Int)<=255:=by have:=sa r 2;omega
 generalize (fH r 1)=n1 at c1 c B x;generalize (fH r 2)=E at c2 d C y;clear hr p u f2;clear c d;have k:Lets (λw':Ω=>Row w' b1 (byteCells r).toArray 138):=⟨λw o h=>(aQ.alloc [] w o).row h,λw h=>h⟩
 by_cases h1:(n1:Int)<=8<;>by_cases h2:(E:Int)<=96
 all_goals
  go_wp2_with fail;have c:=B.out;have d:=C.out;have hr:=HR.out;refine iq 12 rfl ?_;have t:aQ [] l l.drew:=aQ.drew ..;have b:=t.row q1;have f:=t.row r2;have n:=s.trans t;generalize l.drew=m at b f n
  refine cy 0 (some 15) rfl rfl (λ_ _ _ h=>h) rfl (v:= .pointer (some ⟨b1,0,none⟩)) (λ_=>by go_simp) ?_
  refine nn 1 _ k b (some 16) rfl rfl (λ_ _ _ h=>h) rfl (v:= .int .u8 (fH r 0)) (λw' a=>by have:=wH a 0 ϖ;go_simp) ?_;have D:((fH r 0):Int)<=255:=by have:=sa r 0;omega
  refine cy 2 (some 17) rfl rfl (λ_ _ _ h=>h) rfl (v:= .int .i64 (fH r 0)) (λ_=>by go_simp;try exact IntWalk.i64_in _ ϖ) ?_;simp only[Act.put,co,cq,ck];refine cy 3 (some 18) rfl rfl (λ_ _ _ h=>h) rfl (λ_=>rfl) ?_
  refine cy 4 (some 19) rfl rfl (λ_ _ _ h=>h) rfl (v:= .slice (some ⟨b1,3,none⟩) g 125) (λ_=>lx 138 5 128 _ _ _ rfl underlying138 ϰ b1 0 rfl 3 _ rfl rfl ϖ ϖ ϖ ϖ _ _ _ ϖ ϖ ϖ) ?_
  refine nn 5 _ k b (some 20) rfl rfl (λ_ _ _ h=>h) rfl (v:= .string (aD (dm r))) (λw' a=>z8 85 9 5 _ rfl underlying85 underlying5 underlying9 b1 3 g 125 rfl r _ a (dm r) ?_ ?_) ?_
  .unfold dm;rw[z]
  .unfold dm;rw[ac8,ϐ3];omega
  simp only[Act.put,co,cq,ck];refine cy 6 (some 21) rfl rfl (λ_ _ _ h=>h) rfl (v:= .agg #[.int .i64 (fH r 0),.string (aD (dm r))]) (λw'=>iT _ _ rfl _ (Jt ..)) ?_;refine cy 7 (some 22) rfl rfl (λ_ _ _ h=>h) rfl (λ_=>rfl) ?_
  refine cy 8 (some 23) rfl rfl (λ_ _ _ h=>h) rfl (v:= .slice (some ⟨b1,11,none⟩) cl 117) (λ_=>lx 138 5 128 _ _ _ rfl underlying138 ϰ b1 0 rfl 11 _ rfl rfl ϖ ϖ ϖ ϖ _ _ _ ϖ ϖ ϖ) ?_
  refine nn 9 _ k b (some 24) rfl rfl (λ_ _ _ h=>h) rfl (v:= .string (aD (bJ r))) (λw' a=>z8 85 9 5 _ rfl underlying85 underlying5 underlying9 b1 11 cl 117 rfl r _ a (bJ r) ?_ ?_) ?_
  .unfold bJ;rw[i]
  .unfold bJ;rw[ac8,ϐ3];omega
  simp only[Act.put,co,cq,ck];refine cy 10 (some 25) rfl rfl (λ_ _ _ h=>h) rfl (v:= .agg (cg (fQ r) (dm r) (bJ r)).toArray) (λw'=>iT _ _ rfl _ (Ju ..)) ?_
  refine KR 11 ϖ none rfl rfl ϰ rfl (m.setRow b2 (cg (fQ r) (dm r) (bJ r)).toArray) ?_ ?_
  .have:=pM (P:=prog) (w:=m) 107 b2 0 (cg (fQ r) (dm r) (bJ r)).toArray 3 eZ rfl (by simp[cg,Value.oneCell']) _ _ f (by decide)
   rw[bL _ _ (by rfl)] at this;exact QQ _ _ _ rfl _ rfl _ rfl _ this
  refine nr ?_;have j:=f.setRow (cg (fQ r) (dm r) (bJ r)).toArray;have fn:aQ [] w (m.setRow b2 (cg (fQ r) (dm r) (bJ r)).toArray):=n.trans (aQ.setRow [b2] _ _ _ ϛ) (by simpa using q);generalize m.setRow b2 (cg (fQ r) (dm r) (bJ r)).toArray=H at j fn;simp only[Act.put];clear k b f n
  go_wp2;exact mX rfl b2 rfl rfl _ _ j kZ eZ ⟨rfl,fn⟩
end
section
open Go.RowKit
section
variable {P:ω}{ops:Array Oper}{Q:Act->Prop}{C:Ω->Prop}{a:Act}{rest:List Oper}{o:Oper}
def bP (hg:o.guard=none)(b:Ϩ)(hd:o.dst=b)(v:Φ)(hr:∀w',C w'->(execOp a.eval o).run P w'= .ok (.value v) w')(h:wpQuiet P ops C Q rest (a.put b v)):wpQuiet P ops C Q (o::rest) a:=by
 subst hd;unfold wpQuiet;rw[φ (by simp[wanted,hg])];refine⟨v,λw' c=>?_,h⟩;unfold Oper.quietAt;rw[hr w' c];exact⟨rfl,rfl⟩
def lU (hg:o.guard=none)(b:Ϩ)(hd:o.dst=b)(f:ac0)(args:ϐ)(v:Φ)(hr:∀w',C w'->(execOp a.eval o).run P w'= .ok (.enter f args) w')(g:∀w',C w'->Calls P f args w' λe d=>e= .returned v/\C d)(h:wpQuiet P ops C Q rest (a.put b v)):wpQuiet P ops C Q (o::rest) a:=by
 subst hd;unfold wpQuiet;rw[φ (by simp[wanted,hg])];refine⟨v,λw' c=>?_,h⟩;unfold Oper.quietAt;rw[hr w' c];exact⟨rfl,g w' c⟩
def kJ {id:Nat}{ops:Ϙ}{Q:ϔ}{w:Ω}(h:wpQuiet P ops (λw'=>aQ [] w w') (λa'=>∀w',aQ [] w w'->Q .normal a' w') ops.toList a)(hm:P.follows .mixedOrders=true:=by kernel_rfl)(b:Region.lexB .any ops=true:=by kernel_rfl):(Code.region id ops true).wp P Q a w:=
 wp_region_quiet (C:=λw'=>aQ [] w w') hm b (aQ.drew [] w) h
end
end
section
open Go.RowKit Go.Lib
def dN:(prog.info? 103).map (·.size)=some 2:=ϰ
def fl:(prog.underlying 103).map TypeDesc.isRow=some true:=ϰ
def dH (s:Int)(p:Ξ):Array Φ:=#[.int .i64 s,.string p]
def Gv (s t:Int)(p q:Ξ)(w:Ω):(binOp .eql 103 (.agg #[.int .i64 s,.string p]) (.agg #[.int .i64 t,.string q])).run prog w= .ok (.bool (s==t&&p==q)) w:=by
 go_simp;rw[beq_toListBytes]
 by_cases h1:s=t<;>by_cases h2:p.toList=q.toList<;>simp[h1,h2]
def named (x:DS)(s:Int)(p:Ξ)(i:Nat):Bool:=((fQ (cO x i):Int)==s)&&aD (dm (cO x i))==p
def cN (x:DS)(s:Int)(p:Ξ):List Nat->Int
 |[]=>-1
 |i::r=>if named x s p i then i else cN x s p r
section
variable {P:ω}{w:Ω}{o:Oper}{ρ:ab7->Φ}
def Gt (t:η)(x:ab7)(f:Nat)(b:o.op= .field t x f)(a:Φ)(c:ρ x=a)(v:Φ)(h:(Instr.field t a f).run P w= .ok v w):(execOp ρ o).run P w= .ok (.value v) w:=by
 simp only[execOp,b,c,run_bind,h,Result.andThen_ok];rfl
def tE (a:BinOp)(t u:η)(x y:ab7)(e:o.op= .binOp a t x y u)(c b:Φ)(f:ρ x=c)(d:ρ y=b)(v:Φ)(hg:(eqGuard a t x y c b).run P w= .ok () w)(h:(binOp a t c b).run P w= .ok v w):(execOp ρ o).run P w= .ok (.value v) w:=by
 simp only[execOp,e,f,d,run_bind,hg,h,Result.andThen_ok];rfl
end
def I5 (a b c:Φ)(w:Ω):(Instr.field 107 (.agg #[a,b,c]) 0).run prog w= .ok (.agg #[a,b]) w:=ϰ
def Bk (a b c:Φ)(w:Ω):(Instr.field 107 (.agg #[a,b,c]) 1).run prog w= .ok c w:=ϰ
def zY (c:BinOp)(x y:ab7)(a b:ϐ)(w:Ω):(eqGuard c 103 x y (.agg a) (.agg b)).run prog w= .ok () w:=by
 cases c<;>kernel_rfl
def EN (x:DS)(s:Int)(p:Ξ)(l:ϑ)(k:Nat)(a:k<l.length)(h:named x s p l[k]=false):cN x s p (l.drop k)=cN x s p (l.drop (k+1)):=by
 rw[ae5 a,cN,ζ (by simp[h])]
def Lv (x:DS)(s:Int)(p:Ξ)(l:ϑ)(k:Nat)(a:k<l.length)(h:named x s p l[k]=true):cN x s p (l.drop k)=l[k]:=by
 rw[ae5 a,cN,φ h]
def nT (x:DS)(n i:Nat)(h:i∈taken x n):i<aK n:=by
 simp only[taken,jP,ad2,ae2] at h;exact h.1
def fy (x:DS)(n:Nat):(taken x n).length<=54:=by
 have:=p6 (x.read 0) (aK n);have:aK n<=54:=by unfold aK;omega
 unfold taken;omega
def o6 {w:Ω}{d c n:Nat}{b:Φ}{x:DS}(h:bG w d c n b x)(i:Nat)(a:i<aK n):(cO x i).length=128:=by
 have:2*i+2<n:=by unfold aK at a;have:=h.lo;omega
 simp[cO,zL h (1+2*i) ϖ,zL h (2+2*i) ϖ]
def tc (d F n:Nat)(E:Φ)(x:DS)(s:Int)(p:Ξ)(w:Ω)(h:bG w d F n E x):
  Calls prog 80 #[.pointer (some ⟨d,0,none⟩),.agg (dH s p)] w λe w'=>e= .returned (.int .i64 (cN x s p (taken x n)))/\aQ [] w w':=by
 go_enter func80,ntmps80;go_wp2_with (with_reducible refine bA rfl ?_);refine eQ rfl 103 _ rfl (.agg (dH s p)) rfl ?_;intro w1 T W G r3;have h1:=h.new G;go_wp2_with fail;refine(jQ d F n E x w1 h1).mono ?_;rintro e R ⟨v,rfl,hv,f2⟩;have C:=f2.row r3;have m:=G.trans f2;have h2:=h.new m
 have V:=fy x n;have⟨ad,cap,J⟩:=ce hv;subst J;clear h1 G f2 r3;go_wp2_with fail;have Q:Hid (∀i∈taken x n,i<aK n):=λi z=>nT x n i z
 generalize j:taken x n=a at*;have N:Hid (taken x n=a):=j;clear j
 go_loopw [10] (λc wr=>∃k:Nat,c= .int .i64 k/\k<=a.length/\aQ [] R wr/\Hid (cN x s p a=cN x s p (a.drop k))) (λc _=>a.length-(intOf c).toNat)
 case atStart=>exact⟨0,rfl,ϖ,aQ.refl ..,rfl⟩
 case round=>
  obtain⟨k,rfl,Y,q,I⟩:=hrel;have hd:=h2.new q;have o:=q.owns hv;have M:=q.row C
  by_cases l:k<a.length
  .obtain⟨g,K,rfl,hg,U,_,B,j⟩:=eT o
   have z:a[k]<aK n:=Q.out _ (ai2 l);have D:wr.cell? ⟨g,k,none⟩=some (.int .i64 (a[k]:Nat)):=by
    rw[hg.cell,<-al1];have:(K.toList.take (a.length*1))[k]? =(gS a)[k]? :=by rw[j]
    rw[List.getElem?_take_of_lt ϖ] at this;rw[this];simp[gS,l]
   have u:=o6 hd a[k] z;generalize y:a[k]=i at z D u;have P:Hid (a[k]=i):=y;clear y;clear B j;go_wp2_with fail;refine kJ ?_;refine bP rfl (some 14) rfl _ (λ_ _=>rfl) ?_;refine bP rfl (some 15) rfl _ (λ_ _=>rfl) ?_;simp only[Act.put,co,cq,ck]
   refine lU rfl (some 16) rfl 82 #[.pointer (some ⟨d,0,none⟩),.int .i64 i] (.agg (byteCells (cO x i)).toArray) (λ_ _=>by go_simp) (λw' b=>?_) ?_
   .refine(mh d F n E x i w' (hd.new b) z).mono ?_
    rintro e L ⟨rfl,f⟩;exact⟨rfl,b.trans f⟩
   refine lU rfl (some 17) rfl 81 #[.agg (byteCells (cO x i)).toArray] (.agg (cg (fQ (cO x i)) (dm (cO x i)) (bJ (cO x i))).toArray) (λ_ _=>by go_simp) (λw' b=>?_) ?_
   .refine(pz (cO x i) w' u).mono ?_
    rintro e L ⟨rfl,f⟩;exact⟨rfl,b.trans f⟩
   simp only[Act.put,co,cq,ck];refine bP rfl (some 18) rfl (.agg (dH (fQ (cO x i)) (aD (dm (cO x i))))) (λw' _=>?_) ?_
   .exact Gt _ _ _ rfl _ rfl _ (I5 ..)
   refine bP rfl (some 19) rfl (.agg (dH s p)) (λw' b=>j4 103 _ rfl T 0 rfl fl 2 dN _ _ (b.row M) [.int .i64 s,.string p] rfl rfl) ?_;simp only[Act.put,co,cq,ck];refine bP rfl (some 20) rfl (.bool (named x s p i)) (λw' _=>?_) ?_
   .exact tE _ _ _ _ _ rfl _ _ rfl rfl _ (zY ..) (Gv ..)
   simp only[Act.put,co,cq,ck];intro X A;have O:=q.trans A;have S:=m.trans O
   by_cases t:named x s p i=true
   .have H:Hid (named x s p i=true):=t
    rw[t];clear t hd o M hg D q A;go_wp2;go_ret;refine⟨rF ?_,S⟩;rw[show taken x n=a from N.out,I.out];have:=P.out;rw[Lv _ _ _ _ _ l (by rw[this];exact H.out),this]
   .have r:named x s p i=false:=by simpa using t
    have H:Hid (named x s p i=false):=r;rw[r];clear t r hd o M hg D q A;go_wp2
    go_roundw
    case rel=>
     refine⟨k+1,by go_num,ϖ,O,?_⟩;show _=_;have:=P.out;rw[I.out,EN _ _ _ _ _ l (by rw[this];exact H.out)]
    case measure=>simp[intOf];omega
  .have HK:Hid (k=a.length):=(by omega:k=a.length)
   go_wp2;go_ret;refine⟨rF ?_,m.trans q⟩;rw[show taken x n=a from N.out,I.out,HK.out,List.drop_length];rfl
def DS.content (x:DS)(n:Nat)(s:Int)(p:Ξ):Option (List Γ):=
 match cN x s p (taken x n) with
 |.ofNat i=>some (bJ (cO x i))
 |.negSucc _=>none
def oO (x:DS)(s:Int)(p:Ξ):∀(l:ϑ),cN x s p l=-1\/∃i∈l,cN x s p l=(i:Nat)/\named x s p i=true
 |[]=> .inl rfl
 |i::r=>by
  unfold cN
  by_cases h:named x s p i=true
  .exact .inr ⟨i,ϛ,by simp[h],h⟩
  .rw[ζ h]
   rcases oO x s p r with a|⟨j,b,h1,h2⟩
   .exact .inl a
   .exact .inr ⟨j,by simp[b],h1,h2⟩
def oz (d g n:Nat)(f:Φ)(x:DS)(s:Int)(p:Ξ)(w:Ω)(h:bG w d g n f x):
  Calls prog 50 #[.pointer (some ⟨d,0,none⟩),.agg (dH s p)] w λe w'=>
   e= .returned (.tuple #[.string (aD ((x.content n s p).getD [])),.bool (x.content n s p).isSome])/\aQ [] w w':=by
 go_enter func50,ntmps50;go_wp2_with (with_reducible first|refine bA rfl ?_|refine au 103 rfl ?_);refine eQ rfl 103 _ rfl (.agg (dH s p)) rfl ?_;intro w1 r A j r3;have h1:=h.new j;go_wp2_with (with_reducible first|refine bA rfl ?_|refine au 103 rfl ?_)
 refine bZ rfl 103 _ rfl r 0 rfl fl 2 dN _ _ r3 [.int .i64 s,.string p] rfl rfl ?_;go_wp2_with fail;refine(tc d g n f x s p w1 h1).mono ?_;rintro e q ⟨rfl,f2⟩;have h2:=h1.new f2;have l:=j.trans f2;clear h1 j f2 r3;rcases oO x s p (taken x n) with a|⟨i,m,a,_⟩
 .have c:Hid (x.content n s p=none):=by show _=_;unfold DS.content;rw[a];rfl
  rw[a];clear a;go_wp2
  go_ret2
  refine⟨?_,l⟩;rw[c.out];rfl
 .have c:Hid (x.content n s p=some (bJ (cO x i))):=by show _=_;unfold DS.content;rw[a]
  have b:=nT x n i m;have k:=o6 h2 i b;rw[a];clear a m;have t:((i:Int)==-1)=false:=by rw[ac3];omega
  go_wp2_with fail;refine(mh d g n f x i q h2 b).mono ?_;rintro e y ⟨rfl,u⟩;go_wp2_with fail;refine(pz (cO x i) y k).mono ?_;rintro e z ⟨rfl,v⟩;have o:=(l.trans u).trans v;go_wp2_with (with_reducible refine Hp rfl ?_);refine cT rfl _ _ (Gt _ _ _ rfl _ rfl _ (Bk ..)) ?_;go_wp2
  go_ret2
  refine⟨?_,o⟩;rw[c.out];rfl
structure dl where
 set:Nat
 path:List Γ
 content:List Γ
def fileAt (x:DS)(i:Nat):dl:=⟨fQ (cO x i),dm (cO x i),bJ (cO x i)⟩
def aO (x:DS)(n:Nat):List dl:=(taken x n).map (fileAt x)
def jp (l:List dl):List Φ:=l.flatMap λf=>cg f.set f.path f.content
def DH (l:List dl):(jp l).length=l.length*3:=by
 induction l with
 |nil=>rfl
 |cons f r a=>simp only[jp,ϕ2,ah2,ϳ,cg] at a⊢;rw[a];simp;omega
def uU (a b:List dl):jp (a++b)=jp a++jp b:=by simp[jp]
def rS:Elem prog 104 107 3 40:=⟨underlying104,ϰ,ϖ⟩
def RD {D:Ϥ}{d n:Nat}{x:DS}(R:Sa D d n x)(w:Ω)(h:D w):
  Calls prog 51 #[.pointer (some ⟨d,0,none⟩)] w λe w'=>∃v,e= .returned v/\w'.ownsRow w.heap.size 107 3 v (aO x n).length (jp (aO x n))/\aQ [] w w':=by
 go_enter func51,ntmps51;go_wp2_with fail;refine(sj R w h).mono ?_;rintro e z ⟨v,rfl,hv,f2⟩;have h2:=R.new h f2 ϛ;have Y:=fy x n;have⟨ad,cap,G⟩:=ce hv;subst G;go_wp2_with fail;have S:Hid (∀i∈taken x n,i<aK n):=λi t=>nT x n i t
 generalize f:taken x n=a at*;have T:Hid (taken x n=a):=f;clear f;have M:=f2.size
 go_loopw [3,9] (λu c wr=>∃k:Nat,c= .int .i64 k/\k<=a.length/\aQ [] z wr/\wr.ownsRow z.heap.size 107 3 u k (jp ((a.take k).map (fileAt x)))) (λ_ c _=>a.length-(intOf c).toNat)
 case atStart=>exact⟨0,rfl,ϖ,aQ.refl ..,World.ownsRow_nil ..⟩
 case round=>
  obtain⟨k,rfl,hk,r,F⟩:=hrel;have hd:=R.new h2 r ϛ;have p:=r.owns hv
  by_cases l:k<a.length
  .obtain⟨g,m,rfl,hg,W,_,A,f⟩:=eT p
   have t:a[k]<aK n:=S.out _ (ai2 l);have L:wr.cell? ⟨g,k,none⟩=some (.int .i64 (a[k]:Nat)):=by
    rw[hg.cell,<-al1];have:(m.toList.take (a.length*1))[k]? =(gS a)[k]? :=by rw[f]
    rw[List.getElem?_take_of_lt ϖ] at this;rw[this];simp[gS,l]
   have q:=R.ZO a[k] t;generalize s:a[k]=i at t L q;have X:Hid (a[k]=i):=s;clear s A f;go_wp2_with fail;refine(sy R i wr hd t).mono ?_;rintro e Z ⟨rfl,I⟩;go_wp2_with fail;refine(pz (cO x i) Z q).mono ?_;rintro e w4 ⟨rfl,J⟩;have o:=J.owns (I.owns F ϛ);have C:=(r.trans I).trans J
   clear F r hd p hg L I J;go_wp2_with (with_reducible first|refine bV rfl ?_|refine bW rfl ?_);refine iu rfl 104 107 3 40 rS _ rfl (.agg (cg (fQ (cO x i)) (dm (cO x i)) (bJ (cO x i))).toArray) rfl rfl ?_;intro U Q V y r5
   go_wp2_with (with_reducible first|refine bV rfl ?_|refine bW rfl ?_);have B:=y.owns o;have b:z.heap.size<=U.heap.size:=by have:=C.size;have:=y.size;omega
   refine ja rfl 104 107 3 40 rS _ _ rfl z.heap.size u3 _ _ rfl B Q 1 1 (cg (fQ (cO x i)) (dm (cO x i)) (bJ (cO x i))) rfl _ _ r5 rfl rfl (by simp[cg,Value.oneCell']) ϖ ϖ ϖ b ?_;intro g' K w6 E O H;have P:=(C.trans y).trans O (by intro j N;right;simp at N;exact(B.lt j N).1)
   clear o B r5 y O H V C b;go_wp2
   go_roundw
   case rel=>
    refine⟨k+1,by go_num,ϖ,P,?_⟩;rw[ac4 l,Ϙ6,uU,show a[k]=i from X.out];simpa [jp,fileAt] using E
   case measure=>simp[intOf];omega
  .have HK:Hid (k=a.length):=(by omega:k=a.length)
   go_wp2;go_ret;refine⟨_,rfl,?_,f2.trans r⟩;have:=HK.out;subst this;have e:aO x n=(a.take a.length).map (fileAt x):=by unfold aO;rw[show taken x n=a from T.out,θ (ι _)]
   rw[e];have⟨o1,o2⟩:=F;refine⟨by simpa using DH ((a.take a.length).map (fileAt x)),?_⟩;rcases o2 with⟨e1,e2⟩|⟨g,cap,m,e1,e2,e3⟩
   .exact .inl ⟨e1,by simpa using e2⟩
   .exact .inr ⟨g,cap,m,by simpa using e1,ϖ,by simpa using e3⟩
def vq (d b n:Nat)(a:Φ)(x:DS)(w:Ω)(h:bG w d b n a x):
  Calls prog 51 #[.pointer (some ⟨d,0,none⟩)] w λe w'=>∃v,e= .returned v/\w'.ownsRow w.heap.size 107 3 v (aO x n).length (jp (aO x n))/\aQ [] w w':=RD (In h) w h
structure iD (w:Ω)(d bl n:Nat)(vw:Φ)(x:DS):Prop where
 row:∃f,w.heap[d]? =some (.cells (iX bl n vw x) 134 f)
 last:∃f,w.heap[bl]? =some (.cells (byteCells x.aB).toArray 148 f)
 len:x.aB.length=64*n
 lo:16<=n
 hi:n<=400
 nil:vw= .slice none 0 0
 none:x.waiting=[]
 vw:∃ad cap,vw= .slice ad x.waiting.length cap
def iD.eY {w:Ω}{d b n:Nat}{a:Φ}{x:DS}(h:iD w d b n a x):∀p∈x.waiting,p.2.length=64:=by rw[h.none];simp
def iD.dlt {w:Ω}{d b n:Nat}{a:Φ}{x:DS}(h:iD w d b n a x):d<w.heap.size:=let⟨_,h⟩:=h.row;(Ψ.1 h).1
def iD.llt {w:Ω}{d a n:Nat}{b:Φ}{x:DS}(h:iD w d a n b x):a<w.heap.size:=let⟨_,h⟩:=h.last;(Ψ.1 h).1
def iD.new {w w':Ω}{S:ϑ}{d a n:Nat}{b:Φ}{x:DS}(h:iD w d a n b x)(f:aQ S w w')(c:∀k∈S,w.heap.size<=k:=by simp):iD w' d a n b x:=by
 have l1:=h.dlt;have l2:=h.llt;have⟨e,h1⟩:=h.row;have⟨f2,h2⟩:=h.last;exact⟨⟨e,by rw[f.block d l1 λhd=>by have:=c _ hd;omega];exact h1⟩,⟨f2,by rw[f.block a l2 λhd=>by have:=c _ hd;omega];exact h2⟩,h.len,h.lo,h.hi,h.nil,h.none,h.vw⟩
def Ah {w:Ω}{d b n:Nat}{a:Φ}{x:DS}(h:iD w d b n a x):
  w.cell? ⟨d,0,none⟩=some (.slice (some ⟨b,0,none⟩) n n)/\w.cell? ⟨d,1,none⟩=some a/\w.cell? ⟨d,2,none⟩=some (.int .i64 x.acts)/\w.cell? ⟨d,3,none⟩=some (.bool x.given)/\
  w.cell? ⟨d,4,none⟩=some (.int .i64 x.left)/\w.cell? ⟨d,5,none⟩=some (.int .i64 x.keep)/\w.cell? ⟨d,6,none⟩=some (.bool x.failed):=by
 have⟨f,h⟩:=h.row;refine⟨?_,?_,?_,?_,?_,?_,?_⟩<;>rw[cell_of_row w d _ _ _ f h]<;>rfl
section
variable {P:ω}{ops:Array Oper}{Q:Exit->Act->Ω->Prop}{o:Oper}{rest:List Oper}{a:Act}{w:Ω}
def N9 (hg:o.guard=none)(t:η)(x:ab7)(m:o.op= .load t x)(b off:Nat)(p:a.eval x= .pointer (some ⟨b,off,none⟩))(k:(P.underlying t).map TypeDesc.isRow=some true)(n:Nat)(q:(P.info? t).map (·.size)=some n)(c:ϐ)(u:η)(hr:∃f,w.heap[b]? =some (.cells c u f))(e:ϡ)(hv:(c.toList.drop off).take n=e)(l:e.length=n)(h:wpList P ops Q rest (a.put o.dst (.agg e.toArray)) w):wpList P ops Q (o::rest) a w:=by
 have⟨d,i,hd⟩:=χ.1 k;have⟨f,hr⟩:=hr;refine wpList_load_mid hg t x m b off p e d (λj v g=>?_) i hd (by rw[q,l]) h;rw[cell_of_row w b _ _ _ f hr];subst hv;rw[al8] at g;split at g
 .simpa [ai6] using g
 .cases g
end
def Tn (d l n:Nat)(r:Φ)(x:DS)(s:Int)(w:Ω)(h:iD w d l n r x)(L:0<=s)(F:s<n):
  Calls prog 114 #[.pointer (some ⟨d,0,none⟩),.int .i64 s] w λe w'=>e= .returned (.agg (byteCells (x.read s)).toArray)/\aQ [] w w':=by
 have dlt:=h.dlt;have llt:=h.llt;have⟨ad,cap,j⟩:=h.vw;have a:64*s.toNat+64<=x.aB.length:=by rw[h.len];omega
 subst j;go_enter func114,ntmps114;go_wp2_with (with_reducible first|refine aA rfl ?_|refine au 148 rfl ?_|refine au 240 rfl ?_|refine ai 148 rfl ?_|refine ai 240 rfl ?_);refine bj rfl 148 rfl fO d9 ?_;intro w1 b4 I g r4;have h1:=h.new g;obtain⟨c0,c1,-⟩:=Ah h1
 go_wp2_with (with_reducible first|refine aA rfl ?_|refine au 148 rfl ?_|refine au 240 rfl ?_|refine ai 148 rfl ?_|refine ai 240 rfl ?_);refine N9 rfl 148 _ rfl l (s.toNat*64) rfl dY 64 bE _ _ h1.last (byteCells (seenIn x.aB [] s)) ?_ ?_ ?_
 .simp[seenIn,fE,fD,Nat.mul_comm]
 .rw[ah];exact bD _ _ a _ ϛ
 go_wp2_with (with_reducible first|refine aA rfl ?_|refine au 148 rfl ?_|refine au 240 rfl ?_|refine ai 148 rfl ?_|refine ai 240 rfl ?_);refine bj rfl 148 rfl fO d9 ?_;intro H f G f2 r5
 go_wp2_with (with_reducible first|refine aA rfl ?_|refine au 148 rfl ?_|refine au 240 rfl ?_|refine ai 148 rfl ?_|refine ai 240 rfl ?_);refine bQ rfl 148 _ _ rfl _ 0 rfl _ rfl 64 bE ?_ ?_ _ _ r5 ?_ ?_
 .simp only[ab3,ah];exact bD _ _ a _ ϛ
 .exact byteCells_one _
 .decide
 intro E p r5;have o:=p.row (f2.row r4) (by have:=r4.lt;simp;omega);have b:aQ [] w E:=(g.trans f2).trans p (by simp;have:=g.size;omega);rw[bL _ _ (by rw[ah,bD _ _ a _ ϛ];rfl)] at r5;have m:=h.new b;clear c0 c1 h1;obtain⟨c0,c1,-⟩:=Ah m
 go_wp2_with (with_reducible first|refine aA rfl ?_|refine au 148 rfl ?_|refine au 240 rfl ?_|refine ai 148 rfl ?_|refine ai 240 rfl ?_);have z:b4≠f:=by have:=r4.lt;omega
 have D:w.heap.size<=f:=by have:=g.size;omega
 go_loopw [20] (λi wr=>∃k:Nat,i= .int .i64 k/\k<=x.waiting.length/\aQ [] w wr/\Row wr b4 fO.cells 148/\
  Row wr f (byteCells (seenIn x.aB (x.waiting.take k) s)).toArray 148) (λi _=>x.waiting.length-(intOf i).toNat)
 case atStart=>exact⟨0,rfl,ϖ,b,o,r5⟩
 case round=>
  obtain⟨k,rfl,K,y,t,A⟩:=hrel;clear c0 c1 m b o;have J:x.waiting.length<=60:=by rw[h.none];simp
  have v:¬k<x.waiting.length:=by rw[h.none];simp
  have c:k=x.waiting.length:=ϖ
  have HK:Hid (k=x.waiting.length):=c;clear c;go_wp2_with (with_reducible first|refine aA rfl ?_|refine au 148 rfl ?_|refine au 240 rfl ?_|refine ai 148 rfl ?_|refine ai 240 rfl ?_);refine bZ rfl 148 _ rfl f 0 rfl dY 64 bE _ _ A (byteCells (x.read s)) ?_ ?_ ?_
  .simp only[ϲ]
   rw[HK.out,θ (ι _),θ (by rw[ah,bD _ _ a _ h.eY];omega)];rfl
  .rw[ah];exact bD _ _ a _ h.eY
  go_wp2_with (with_reducible first|refine aA rfl ?_|refine au 148 rfl ?_|refine au 240 rfl ?_|refine ai 148 rfl ?_|refine ai 240 rfl ?_);refine bQ rfl 148 _ _ rfl _ 0 rfl _ rfl 64 bE ?_ ?_ _ _ t ?_ ?_
  .simp only[ab3,ah];exact bD _ _ a _ h.eY
  .exact byteCells_one _
  .decide
  intro u C q;rw[bL _ _ (by simp only[ah];rw[show(x.read s).length=64 from bD _ _ a _ h.eY];rfl)] at q;have B:aQ [] w u:=y.trans C (by simp;omega);go_wp2_with (with_reducible first|refine aA rfl ?_|refine au 148 rfl ?_|refine au 240 rfl ?_|refine ai 148 rfl ?_|refine ai 240 rfl ?_)
  exact mX rfl b4 rfl rfl _ _ q dY (by simp only[ab3,ah];rw[show(x.read s).length=64 from bD _ _ a _ h.eY];exact bE) ⟨rfl,B⟩
def If (d b n:Nat)(a:Φ)(x:DS)(w:Ω)(h:iD w d b n a x):
  Calls prog 117 #[.pointer (some ⟨d,0,none⟩)] w λe w'=>e= .returned (.int .i64 n)/\w'=w:=by
 have⟨c0,c1,c2,i,g,c,f⟩:=Ah h;go_enter func117,ntmps117;go_wp2;go_ret;exact⟨rfl,rfl⟩
def YZ {w0:Ω}{d b n:Nat}{a:Φ}{x:DS}(h:iD w0 d b n a x):Sa (λw=>iD w d b n a x) d n x:=
 ⟨h.lo,h.hi,λj e=>bD _ _ (by rw[h.len];simp;omega) _ h.eY,λh f c=>h.new f c,λs w h h0 h1=>Tn d b n a x s w h h0 h1,λw h=>If d b n a x w h⟩
def bT (w:Ω)(F:ϑ)(d n:Nat)(x:DS):Prop:=∃b a,bG w d b n a x/\F=d::b::a.ownBlock.toList
def bT.yw {w w':Ω}{F S:ϑ}{d n:Nat}{x:DS}(h:bT w F d n x)(f:aQ S w w')(a:∀k∈S,k∉F):bT w' F d n x:=by
 obtain⟨g,b,h,rfl⟩:=h;refine⟨g,b,h.yw f (λe=>a _ e ϛ) (λe=>a _ e ϛ) (λk c e=>a k c (by simp[e])),rfl⟩
def bT.lt {w:Ω}{F:ϑ}{d n:Nat}{x:DS}(h:bT w F d n x):∀k∈F,k<w.heap.size:=by
 obtain⟨c,b,h,rfl⟩:=h;intro k a;simp only[ac1,Option.mem_toList] at a;rcases a with rfl|rfl|a
 .exact h.row.lt
 .exact h.last.lt
 .exact Po h.own a
def bT.new {w w':Ω}{F S:ϑ}{d n:Nat}{x:DS}(h:bT w F d n x)(f:aQ S w w')(c:∀k∈S,w.heap.size<=k:=by simp):bT w' F d n x:=
 h.yw f λk b a=>by have:=h.lt k a;have:=c k b;omega
structure DS.Fit (x:DS)(room:Nat):Prop where
 lD:0<=x.acts
 lC:x.acts+room<=1000000000
 lB:0<=x.left
 lA:x.left<=9223372036854775807
def DS.write (x:DS)(s:Int)(l:ϓ):DS:=if x.bp then {x.gW with waiting:=x.waiting++[(s,l)]} else x.stopped
def DS.flush (x:DS):DS:=if x.bp then {x.gW with aB:=fR x.aB x.waiting,waiting:=[]} else x.stopped
def cu (b:Bool):Φ:= .int .i64 (if b then 0 else 3)
def cannot {x:DS}(h:x.bp=false):x.failed=true\/(x.failed=false/\x.given=true/\x.left=0):=by
 unfold DS.bp at h;cases a:x.failed<;>simp_all
def bC (F a:ϑ)(w:Ω):Prop:=∀k∈a,k∈F\/w.heap.size<=k
def bC.refl (F:ϑ)(w:Ω):bC F F w:=λ_ h=> .inl h
def bC.trans {F G H:ϑ}{w w':Ω}(h:bC F G w)(k:bC G H w')(b:w.heap.size<=w'.heap.size:=by simp):bC F H w:=λi a=>by
 rcases k i a with h1|h1
 .exact h i h1
 .exact .inr ϖ
def wS {d a n:Nat}{e:Φ}{x:DS}{w w':Ω}(h:bG w d a n e x)(f:bG w' d a n (.slice none 0 0) x.fall):∃b,bT w' b d n x.fall/\bC (d::a::e.ownBlock.toList) b w:=
 ⟨[d,a],⟨a,_,f,by simp[Value.ownBlock]⟩,λk c=> .inl (by simp at c;simp;rcases c with rfl|rfl<;>simp)⟩
def lX (F:ϑ)(d n:Nat)(x:DS)(s:Int)(l:ϓ)(w:Ω)(h:bT w F d n x)(r:x.Fit 1)(u:l.length=64)(z:x.waiting.length<60)(B:0<=s:=by omega)(v:s<n:=by omega):
  Calls prog 148 #[.pointer (some ⟨d,0,none⟩),.int .i64 s,.agg (byteCells l).toArray] w λe w'=>e= .returned (cu x.bp)/\∃q,bT w' q d n (x.write s l)/\aQ F w w'/\bC F q w:=by
 obtain⟨b,i,h,rfl⟩:=h;cases m:x.bp with
 |true=>
  refine(K6 d b n i x.gW w s l u B v (by simpa [DS.gW] using z) h.row.lt λw1 c=>FH d b n i x w1 (h.new c) m r.lB r.lA r.lD (by have:=r.lC;omega)).mono ?_;rintro e w' ⟨rfl,p,g,f,hv⟩
  refine⟨by simp[cu],d::b::p.ownBlock.toList,⟨b,p,by simpa [DS.write,m,DS.gW] using g,rfl⟩,f.mono (λk a=> .inl (by simp only[ac1] at a⊢;rcases a with a|a;exact .inl a;exact .inr (.inr a))),?_⟩;intro k a;simp only[ac1,Option.mem_toList] at a⊢;rcases a with rfl|rfl|a
  .exact .inl (.inl rfl)
  .exact .inl (.inr (.inl rfl))
  .rcases hv with hv|⟨j,A,t⟩
   .exact .inl (.inr (.inr (by rw[<-hv];exact a)))
   .rw[A] at a
    obtain rfl:j=k:=by simpa using a
    exact .inr t
 |false=>
  rcases cannot m with o|⟨o,hg,h0⟩
  .refine(En d s l w (λw'=>bG w' d b n i x/\aQ [] w w') λw1 c=>?_).mono ?_
   .refine(zH d b n i x w1 (h.new c) o).mono ?_
    rintro e w' ⟨rfl,rfl⟩;exact⟨rfl,h.new c,c⟩
   .rintro e w' ⟨rfl,g,f⟩
    exact⟨by simp[cu],_,⟨b,i,by simpa [DS.write,m,DS.stopped,o] using g,rfl⟩,f.mono,bC.refl _ _⟩
  .refine(En d s l w (λw'=>bG w' d b n (.slice none 0 0) x.fall/\aQ [d,b] w w') λw1 c=>?_).mono ?_
   .refine(Cm d b n i x w1 (h.new c) o hg h0).mono ?_
    rintro e w' ⟨rfl,g,f2⟩;exact⟨rfl,g,(c.mono ϛ:aQ [d,b] w w1).trans f2⟩
   .rintro e w' ⟨rfl,g,f⟩
    have⟨q,y,o2⟩:=wS h g;exact⟨by simp[cu],q,by simpa [DS.write,m,DS.stopped,o] using y,f.mono,o2⟩
def mF (F:ϑ)(d n:Nat)(x:DS)(w:Ω)(h:bT w F d n x)(j:x.Fit 1):
  Calls prog 149 #[.pointer (some ⟨d,0,none⟩)] w λe w'=>e= .returned (cu x.bp)/\∃i,bT w' i d n x.flush/\aQ F w w'/\bC F i w:=by
 obtain⟨a,c,h,rfl⟩:=h;cases b:x.bp with
 |true=>
  refine(MO d a n c x.gW w (FH d a n c x w h b j.lB j.lA j.lD (by have:=j.lC;omega))).mono ?_;rintro e w' ⟨rfl,l,f⟩;refine⟨by simp[cu],[d,a],⟨a,_,by simpa [DS.flush,b,DS.gW] using l,by simp[Value.ownBlock]⟩,f.mono,?_⟩;intro k m;simp at m;rcases m with rfl|rfl<;>simp
 |false=>
  rcases cannot b with g|⟨g,hg,h0⟩
  .refine(Gn d w (λw'=>w'=w) (zH d a n c x w h g)).mono ?_
   rintro e w' ⟨rfl,rfl⟩;exact⟨by simp[cu],_,⟨a,c,by simpa [DS.flush,b,DS.stopped,g] using h,rfl⟩,aQ.refl _ _,bC.refl _ _⟩
  .refine(Gn d w (λw'=>bG w' d a n (.slice none 0 0) x.fall/\aQ [d,a] w w') (Cm d a n c x w h g hg h0)).mono ?_
   rintro e w' ⟨rfl,l,f⟩;have⟨i,o,o2⟩:=wS h l;exact⟨by simp[cu],i,by simpa [DS.flush,b,DS.stopped,g] using o,f.mono,o2⟩
end
end
end Go.Proofs.YtchcmhodnkgojaaGreat
