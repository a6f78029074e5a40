/- On the way to the last text; put together and shortened by program. -/
import Derived.Test.YtchcmhodnkgojaaGreatPart3
set_option linter.all false
set_option maxRecDepth 100000
set_option maxHeartbeats 8000000
namespace Go.Proofs.YtchcmhodnkgojaaGreat
open Value (ren)
noncomputable section
section
open Go.Conc
section
variable {P:ω}{π:Nat->Nat}{N V:Nat->Prop}
def tf {r:Nat}(hv:V r):br P π N V (λa b=>b=a.map λx=>(bn π x.1,x.2)) (viewAt r) (viewAt (π r)):=by
 unfold viewAt;refine br.shape (k:=λx=>_) hv λx=>?_
 cases x with
 |some y=>exact ay rfl
 |none=>
  refine br.getObj (k:=λx=>_) λo c=>?_
  cases o<;>first|exact c.elim|exact ay rfl
def C4 {r:Nat}(hv:V r):br P π N V (λa b=>b=a.map λx=>(bn π x.1,x.2)) (numberAt r) (numberAt (π r)):=by
 unfold numberAt;refine br.shape (k:=λx=>_) hv λx=>?_
 cases x with
 |some y=>exact ay rfl
 |none=>
  refine br.getObj (k:=λx=>_) λo c=>?_
  cases o<;>first|exact c.elim|exact ay rfl
def Hy {r:Nat}(hv:V r)(a:Addr)(ha:a.block=r):br P π N V Eq (noView a) (noView (bn π a)):=by
 unfold noView;subst ha;refine(tf hv).bind' λx y h=>?_
 subst h;cases x with
 |none=>exact ay rfl
 |some z=>exact aM trivial
def dc {α:Type}{R:α->α->Prop}{c:Prop}[Decidable c]{d b e a:Sem α}(h1:br P π N V R d b)(h2:br P π N V R e a):br P π N V R (if c then d else e) (if c then b else a):=by
 split
 .exact h1
 .exact h2
inductive PQ (P:ω){α:Type}(Q:α->Prop):Sem α->Prop
 |pure {a:α} (h:Q a):PQ P Q (.pure a)
 |halt {h:Halt} (hh:mn h):PQ P Q (.halt h)
 |choose {q:Question} {k:Nat->Sem α} (h:∀n,PQ P Q (k n)):PQ P Q (.choose q k)
 |program {k:ω->Sem α} (h:PQ P Q (k P)):PQ P Q (.program k)
def PQ.bind {α d:Type}{Q:α->Prop}{c:d->Prop}{s:Sem α}(h:PQ P Q s){f:α->Sem d}(e:∀a,Q a->PQ P c (f a)):PQ P c (s.bind f):=by
 induction h with
 |pure h=>exact e _ h
 |halt h=>exact .halt h
 |choose _ b=>exact .choose λn=>b n
 |program _ b=>exact .program b
def jh {α c:Type}{Q:α->Prop}{b:c->Prop}{s:Sem α}(h:PQ P Q s){f:α->Sem c}(d:∀a,Q a->PQ P b (f a)):PQ P b (s>>=f):=h.bind d
def oa {α:Type}{Q:α->Prop}{a:α}(h:Q a):PQ P Q (Pure.pure a):= .pure h
def NQ {α:Type}{Q:α->Prop}{m:String}:PQ P Q (stuck m:Sem α):= .halt trivial
def akR {α a:Type}{Q:a->Prop}{m:String}{f:α->Sem a}:PQ P Q ((stuck m:Sem α)>>=f):= .halt trivial
def pqc {q:Question}:PQ P (λ_=>True) (choose q):= .choose λ_=> .pure trivial
def Xu {α:Type}{Q:α->Prop}{s:Sem α}(h:PQ P Q s):br P π N V (λa b=>a=b/\Q a) s s:=by
 induction h with
 |pure h=>exact .pure ⟨rfl,h⟩
 |halt h=>exact .dead (.halt h)
 |choose _ c=>exact .choose λn=>c n
 |program _ c=>exact .program c
def gU:Φ->Prop
 |.bool _|.int _ _|.float _ _|.complex _ _ _|.string _=>True
 |_=>False
def LU {v:Φ}(h:gU v):ren π v=v:=by cases v<;>first|exact h.elim|simp
def eI {s:Sem Φ}(h:PQ P gU s):br P π N V (RV π) s s:=(Xu h).mono λa b h=>by rw[RV,LU h.2];exact h.1.symm
def sF (b:BinOp)(k:FloatKind)(x y:Nat):PQ P gU (Op.floatArith b k x y):=by
 unfold Op.floatArith;have a:∀r:Option Nat,PQ P gU (match r with|some r=>Pure.pure (Value.float k r)|none=>(do let c <-choose (.nanBits k x y);Pure.pure (.float k c))):=by
  intro r;cases r with
  |none=>exact jh pqc λn _=>oa trivial
  |some r=>exact oa trivial
 cases b<;>first|exact a _|exact akR
def xm (a:BinOp)(k:FloatKind)(x y:Nat):PQ P gU (Op.floatCmp a k x y):=by
 unfold Op.floatCmp;cases a<;>first|exact NQ|exact oa trivial
def Zg (s:FloatKind)(b:Nat)(d:FloatKind):PQ P gU (Conv.floatToFloat s b d):=by
 unfold Conv.floatToFloat;split
 .exact oa trivial
 .split
  .exact jh pqc λn _=>oa trivial
  .exact oa trivial
  .dsimp only
   split
   .exact jh pqc λn _=>oa trivial
   .exact oa trivial
def Zf (s:FloatKind)(b:Nat)(d:IntKind):PQ P gU (Conv.floatToInt s b d):=by
 unfold Conv.floatToInt;have a:PQ P gU (do Pure.pure (.int d (d.wrap (<-choose (.floatToInt s b d)))):Sem Φ):=jh pqc λn _=>oa trivial
 dsimp only;split
 .split
  .exact oa trivial
  .exact a
 .exact a
def bR (a:BinOp)(k:FloatKind)(x y:Nat):PQ P (λ_=>True) (Op.Complex.arith a k x y):=by
 unfold Op.Complex.arith;refine jh (sF a k x y) λv hv=>?_
 cases v<;>first|exact NQ|exact oa trivial
def Cd (v:Φ):PQ P (λ_=>True) (asBool v):=by cases v<;>first|exact NQ|exact oa trivial
def zw (a:BinOp)(k:FloatKind)(x y:Nat):PQ P (λ_=>True) (Op.Complex.cmp a k x y):=jh (xm a k x y) λv _=>Cd v
def jw (s:FloatKind)(x:Nat)(d:FloatKind):PQ P (λ_=>True) (Op.Complex.conv s x d):=by
 unfold Op.Complex.conv;split
 .exact oa trivial
 .refine jh (Zg s x d) λv hv=>?_
  cases v<;>first|exact NQ|exact oa trivial
def Ir (a b c d:Nat):PQ P (λ_=>True) (Op.Complex.product a b c d):=
 jh (bR ..) λ_ _=>jh (bR ..) λ_ _=>jh (bR ..) λ_ _=>jh (bR ..) λ_ _=>jh (bR ..) λ_ _=>jh (bR ..) λ_ _=>oa trivial
def uu (s a b c d:Nat):PQ P (λ_=>True) (Op.Complex.corrected s a b c d):=
 jh (bR ..) λ_ _=>jh (bR ..) λ_ _=>jh (bR ..) λ_ _=>jh (bR ..) λ_ _=>jh (bR ..) λ_ _=>jh (bR ..) λ_ _=>jh (bR ..) λ_ _=>jh (bR ..) λ_ _=>oa trivial
def Fw (a b c d:Nat):PQ P (λ_=>True) (Op.Complex.quotient a b c d):=by
 unfold Op.Complex.quotient;have e:∀p:Nat×Nat,PQ P (λ_=>True) (do
   let zero:=(<-Op.Complex.cmp .eql .f64 c 0)&&(<-Op.Complex.cmp .eql .f64 d 0)
   if !(Op.Complex.isNaN p.1&&Op.Complex.isNaN p.2) then Pure.pure p
   else if zero&&(!Op.Complex.isNaN a||!Op.Complex.isNaN b) then
    Pure.pure (<-Op.Complex.mul (Op.Complex.copysign Op.Complex.inf c) a,<-Op.Complex.mul (Op.Complex.copysign Op.Complex.inf c) b)
   else if(Op.Complex.isInf a||Op.Complex.isInf b)&&Op.Complex.isFinite c&&Op.Complex.isFinite d then
    Op.Complex.corrected Op.Complex.inf (Op.Complex.inf2one a) (Op.Complex.inf2one b) c d
   else if(Op.Complex.isInf c||Op.Complex.isInf d)&&Op.Complex.isFinite a&&Op.Complex.isFinite b then
    Op.Complex.corrected 0 a b (Op.Complex.inf2one c) (Op.Complex.inf2one d)
   else Pure.pure p):=by
  intro p;refine jh (zw ..) λ_ _=>jh (zw ..) λ_ _=>?_
  dsimp only;split
  .exact oa trivial
  .split
   .exact jh (bR ..) λ_ _=>jh (bR ..) λ_ _=>oa trivial
   .split
    .exact uu ..
    .split
     .exact uu ..
     .exact oa trivial
 refine jh (zw ..) λt _=>?_
 cases t
 .exact jh (bR ..) λ_ _=>jh (bR ..) λ_ _=>jh (bR ..) λ_ _=>jh (bR ..) λ_ _=>jh (bR ..) λ_ _=>jh (bR ..) λ_ _=>jh (bR ..) λ_ _=>jh (bR ..) λ_ _=>jh (bR ..) λ_ _=>jh (Q:=λ_=>True) (oa trivial) λp _=>e p
 .exact jh (bR ..) λ_ _=>jh (bR ..) λ_ _=>jh (bR ..) λ_ _=>jh (bR ..) λ_ _=>jh (bR ..) λ_ _=>jh (bR ..) λ_ _=>jh (bR ..) λ_ _=>jh (bR ..) λ_ _=>jh (bR ..) λ_ _=>jh (Q:=λ_=>True) (oa trivial) λp _=>e p
def Dr (f:BinOp)(k:FloatKind)(a b c d:Nat):PQ P gU (Op.complexOp f k a b c d):=by
 unfold Op.complexOp;have e:∀o,PQ P gU (do Pure.pure (.complex k (<-Op.Complex.arith o k a c) (<-Op.Complex.arith o k b d)):Sem Φ):=λo=>jh (bR ..) λ_ _=>jh (bR ..) λ_ _=>oa trivial
 cases f<;>first|exact NQ|exact e _|exact jh (zw ..) λ_ _=>jh (zw ..) λ_ _=>oa trivial|skip
 .refine jh (jw ..) λ_ _=>jh (jw ..) λ_ _=>jh (jw ..) λ_ _=>jh (jw ..) λ_ _=>?_
  exact jh (Ir ..) λ_ _=>jh (jw ..) λ_ _=>jh (jw ..) λ_ _=>oa trivial
 .refine jh (jw ..) λ_ _=>jh (jw ..) λ_ _=>jh (jw ..) λ_ _=>jh (jw ..) λ_ _=>?_
  exact jh (Fw ..) λ_ _=>jh (jw ..) λ_ _=>jh (jw ..) λ_ _=>oa trivial
def KV {c:Type}(R:c->c->Prop):ForInStep c->ForInStep c->Prop
 |.done a,.done b|.yield a,.yield b=>R a b
 |_,_=>False
def mc {α d:Type}{R:d->d->Prop}{f f':α->d->Sem (ForInStep d)}:∀(l:List α),(∀a∈l,∀b c,R b c->br P π N V (KV R) (f a b) (f' a c))->∀b c,R b c->br P π N V R (forIn l b f) (forIn l c f')
 |[],_,b,c,h=>by simp only[List.forIn_nil];exact ay h
 |a::l,hf,b,c,h=>by
  simp only[List.forIn_cons];refine(hf a ϛ b c h).bind' λx x' e=>?_
  cases x<;>cases x'<;>first|exact e.elim|exact ay e|exact mc l (λa ha=>hf a (by simp[ha])) _ _ e
def xW {α d:Type}{R:d->d->Prop}{f f':α->d->Sem (ForInStep d)}(xs:Array α)(e:∀a∈xs,∀b c,R b c->br P π N V (KV R) (f a b) (f' a c))(b c:d)(h:R b c):br P π N V R (forIn xs b f) (forIn xs c f'):=by
 rw[<-Array.forIn_toList,<-Array.forIn_toList];exact mc _ (λa ha=>e a (by simpa using ha)) b c h
def xV {d:Type}{R:d->d->Prop}{f f':Nat->d->Sem (ForInStep d)}(r:Std.Legacy.Range)(e:∀a,∀b c,R b c->br P π N V (KV R) (f a b) (f' a c))(b c:d)(h:R b c):br P π N V R (forIn r b f) (forIn r c f'):=by
 rw[Std.Legacy.Range.forIn_eq_forIn_range',Std.Legacy.Range.forIn_eq_forIn_range'];exact mc _ (λa _=>e a) b c h
def eqTy (P:ω):Nat->η->Bool
 |0,_=>false
 |n+1,t=>match P.underlying t with
  |some .bool|some (.int _)|some .string=>(match(P.info? t).map (·.desc) with|some (TypeDesc.named s _)=>s != "sync.copyChecker"|_=>true)
  |some (.struct fs)=>fs.all λf=>eqTy P n f.type
  |some (.array _ e)=>eqTy P n e
  |_=>false
def VV.Dq {p:Ϡ}(h:VV V (.pointer p)){a:Addr}(e:p=some a):V a.block:=by subst e;exact h.ptr
def fx {g:Type}{R:g->g->Prop}{a:Addr}(hv:V a.block){f f':Addr×Bool->Sem g}(h:∀x:Addr×Bool,br P π N (λi=>V i\/i=x.1.block) R (f x) (f' (bn π x.1,x.2))):
  br P π N V R (behindNumber a>>=f) (behindNumber (bn π a)>>=f'):=by
 have c:br P π N V R (f (a,false)) (f' (bn π a,false)):=(h (a,false)).weak λi d=>d.elim id λe=>e▸hv
 unfold behindNumber numberAt;rw[bind_assoc,bind_assoc,bind_assoc,bind_assoc];refine br.shape (k:=λx=>_) hv λx=>?_
 cases x with
 |some y=>exact c
 |none=>
  refine br.getObj (k:=λx=>_) λo j=>?_
  cases o with
  |number b l=>exact(h (b,l)).weak λi d=>d.elim .inl λe=> .inr (.inr e)
  |_=>first|exact j.elim|exact c.weak λi d=> .inl d
def qg {a:Addr}(hv:V a.block):br P π N V Eq (noView a) (noView (bn π a)):=Hy hv a rfl
def th {a:Addr}(hv:V a.block):br P π N V Eq (byteOf a) (byteOf (bn π a)):=by
 unfold byteOf;have⟨b,off,c⟩:=a;cases c with
 |some s=>exact ay rfl
 |none=>
  simp only[pure_bind];refine cV.bind' λz d h=>?_
  rw[h.1,h.2];refine(qg hv).bind' λ_ _ _=>?_
  refine br.shape (k:=λx=>_) hv λx=>?_
  cases x with
  |none=>exact al
  |some e=>
   have⟨e,n⟩:=e;dsimp only[Sem.bind];show br P π N V Eq (if P.cellsOf e=0 then _ else _) (if P.cellsOf e=0 then _ else _)
   by_cases h0:P.cellsOf e=0
   .rw[φ h0,φ h0];exact ay rfl
   .rw[ζ h0,ζ h0]
    show br P π N V Eq (match byteOfCell P P.depth e (off%P.cellsOf e) with|some b=>_|_=>_) (match byteOfCell P P.depth e (off%P.cellsOf e) with|some b=>_|_=>_);cases byteOfCell P P.depth e (off%P.cellsOf e) with
    |none=>exact al
    |some b=>exact ay rfl
def E8 (h0:π 0=0)(c:∀i j,π i=π j->i=j)(d:P.globals.size<=1)(a b:Nat):(π a==π b&&decide (π a<P.globals.size))=(a==b&&decide (a<P.globals.size)):=by
 have e1:(π a==π b)=(a==b):=by
  rw[ϐ2,ai7,ai7];exact⟨c _ _,λh=>by rw[h]⟩
 have e2:decide (π a<P.globals.size)=decide (a<P.globals.size):=by
  rw[decide_eq_decide];constructor
  .intro h
   have:a=0:=c a 0 (by rw[h0];omega);rw[this] at h⊢;rw[h0] at h;exact h
  .intro h
   have:a=0:=ϖ
   rw[this] at h⊢;rw[h0];exact h
 rw[e1,e2]
def BZ (V:ϒ){a b:Addr}(ha:V a.block)(d:V b.block){c:Type}{R:c->c->Prop}{f:Nat->Nat->Sem c}{f':Nat->Nat->Sem c}(e:∀x y,br P π N V R (f x y) (f' x y)):
  br P π N V R (byteOf a>>=λx=>byteOf b>>=λy=>f x y) (byteOf (bn π a)>>=λx=>byteOf (bn π b)>>=λy=>f' x y):=
 (th ha).bind' λx _ h=>by subst h;exact(th d).bind' λy _ h=>by subst h;exact e x y
def zm (d:∀i j,π i=π j->i=j){a b:Addr}(h:bn π a=bn π b):a=b:=by
 have⟨b1,e,s1⟩:=a;have⟨b2,o2,s2⟩:=b;simp only[bn,Addr.mk.injEq] at h;have⟨h1,h2,c⟩:=h;rw[d _ _ h1,h2,c]
def sm {a:Addr}(b:∀r,V r->¬N r)(hv:V a.block):br P π N V Eq (stringish a) (stringish (bn π a)):=by
 unfold stringish;refine br.frozen (k:=λx=>_) hv (b _ hv) λx=>?_
 cases x with
 |true=>exact ay rfl
 |false=>
  refine br.shape (k:=λx=>_) hv λx=>?_
  cases x with
  |none=>exact ay rfl
  |some y=>exact br.frozen (a:={block:=a.block,off:=y.2}) hv (b _ hv) λx=> .pure rfl
def C6 {a b:Addr}(d:∀r,V r->¬N r)(ha:V a.block)(c:V b.block):br P π N V Eq (mayBeOne a b) (mayBeOne (bn π a) (bn π b)):=by
 unfold mayBeOne;refine(sm d ha).bind' λx _ h=>?_
 subst h;refine(sm d c).bind' λy _ h=>?_
 subst h;refine br.shape (k:=λx=>_) ha λu=>?_
 refine br.shape (k:=λx=>_) c λv=>?_
 exact ay rfl
def C3 {a b:Addr}(c:∀i j,π i=π j->i=j)(e:∀r,V r->¬N r)(ha:V a.block)(d:V b.block):br P π N V Eq (sameAddr a b) (sameAddr (bn π a) (bn π b)):=by
 unfold sameAddr;have e1:((bn π a).block==(bn π b).block)=(a.block==b.block):=by
  rw[ϐ2,ai7,ai7];exact⟨c _ _,λh=>congrArg π h⟩
 have e2:(bn π a==bn π b)=(a==b):=by
  rw[ϐ2,ai7,ai7];exact⟨zm c,λh=>by rw[h]⟩
 rw[e1,e2];refine dc (ay rfl) ?_;refine br.frozen (k:=λx=>_) ha (e _ ha) λx=>?_
 refine br.frozen (k:=λx=>_) d (e _ d) λy=>?_
 refine dc (aM trivial) ?_;refine(qg ha).bind' λ_ _ _=>?_
 refine(qg d).bind' λ_ _ _=>?_
 refine(C6 e ha d).bind' λz _ h=>?_
 subst h;refine dc (jD.bind' λn _ h=>?_) (ay rfl);subst h;exact ay rfl
def mZ (P:ω)(t:η):Bool:=match P.underlying t with|some (.pointer _)=>true|_=>false
def qm {pe:Bool}(E:pe=true->∀r,V r->¬N r)(A:π 0=0)(l:∀i j,π i=π j->i=j)(w:P.globals.size<=1):∀(d n:Nat)(t:η)(x y:Φ),(eqTy P n t=true\/(x= .pointer none\/y= .pointer none)\/(pe&&mZ P t)=true)->VV V x->VV V y->
  br P π N V Eq (Op.equalIn d t x y) (Op.equalIn d t (ren π x) (ren π y))
 |0,_,_,_,_,_,_,_=>aM trivial
 |d+1,n,t,x,y,ht,hx,hy=>by
  unfold Op.equalIn;refine(aH t).bind' λu J h=>?_
  obtain⟨rfl,o⟩:=h;cases u with
  |bool=>
   cases x with
   |bool a=>cases y with
    |bool b=>simp only[eF];exact ay rfl
    |_=>exact al
   |_=>exact al
  |string=>
   cases x with
   |string a=>cases y with
    |string b=>simp only[bN];exact ay rfl
    |_=>exact al
   |_=>exact al
  |int U=>
   cases x with
   |int k a=>cases y with
    |int k' b=>
     simp only[cR]
     by_cases H:k=k'
     .simp only[H,if_true];exact ay rfl
     .simp only[H,if_false];exact al
    |pointer b=>
     cases b with
     |none=>cases a with
      |ofNat m=>cases m<;>exact aM trivial
      |negSucc m=>exact aM trivial
     |some b=>cases a with
      |ofNat m=>cases m with
       |zero=>simp only[cR,bi,ξ];exact ay rfl
       |succ m=>exact aM trivial
      |negSucc m=>exact aM trivial
    |_=>exact al
   |pointer a=>cases a with
    |none=>cases y<;>exact aM trivial
    |some a=>cases y with
     |int k' b=>cases b with
      |ofNat m=>cases m with
       |zero=>simp only[cR,bi,ξ];exact ay rfl
       |succ m=>exact aM trivial
      |negSucc m=>exact aM trivial
     |pointer b=>cases b with
      |none=>exact aM trivial
      |some b=>
       simp only[bi,ξ];refine fx hx.ptr λp=>fx (.inl hy.ptr) λq=>?_
       dsimp only;refine cV.bind' λz F h=>?_
       obtain⟨rfl,rfl⟩:=h;have e2:=E8 (P:=F) A l w p.1.block q.1.block;rw[show(bn π p.1).block=π p.1.block from rfl,show(bn π q.1).block=π q.1.block from rfl,e2];refine dc ?_ ?_
       .exact BZ _ (.inl (.inr rfl)) (.inr rfl) λx y=>ay rfl
       .refine(fo t).bind' λi X h=>?_
        obtain⟨rfl,L⟩:=h;have g:eqTy F n t=true:=by simpa [mZ,o] using ht
        have hd:∀s u,i.desc= .named s u->s≠ "sync.copyChecker":=λs u e=>by
         cases n with
         |zero=>simp[eqTy] at g
         |succ n=>simpa [eqTy,o,L,e] using g
        refine .dead ?_;split
        .rename_i e
         exact absurd rfl (hd _ _ e)
        .exact Dead.halt trivial
     |_=>exact aM trivial
   |_=>cases y<;>first|exact al|exact aM trivial
  |pointer T=>
   have g:=ht.resolve_left (by cases n<;>simp[eqTy,o]);rcases g with(rfl|rfl)|hpe
   .cases y with
    |pointer b=>simp only[bi];exact ay (by cases b<;>rfl)
    |_=>exact al
   .cases x with
    |pointer a=>cases a<;>(simp only[bi];exact ay rfl)
    |_=>exact al
   .have C:=E (by simp only[ε] at hpe;exact hpe.1)
    cases x with
    |pointer a=>cases a with
     |none=>cases y with
      |pointer b=>simp only[bi];exact ay (by cases b<;>rfl)
      |_=>exact al
     |some a=>cases y with
      |pointer b=>cases b with
       |none=>simp only[bi];exact ay rfl
       |some b=>
        simp only[bi,ξ];refine(dh T).bind' λm _ h=>?_
        obtain⟨rfl,_⟩:=h;have e2:(bn π a==bn π b)=(a==b):=by
         rw[ϐ2,ai7,ai7];exact⟨zm l,λh=>by rw[h]⟩
        rw[e2];refine dc (C3 l C hx.ptr hy.ptr) (dc (ay rfl) (jD.bind' λn _ h=>?_));subst h;exact ay rfl
      |_=>exact al
    |_=>exact al
  |unsafePointer=>
   have g:x= .pointer none\/y= .pointer none:=(ht.resolve_left (by cases n<;>simp[eqTy,o])).resolve_right (by simp[mZ,o]);rcases g with rfl|rfl
   .cases y with
    |pointer b=>cases b<;>(simp only[bi];exact ay rfl)
    |_=>exact al
   .cases x with
    |pointer a=>cases a<;>(simp only[bi];exact ay rfl)
    |_=>exact al
  |struct fs=>
   cases x with
   |agg xs=>
     cases y with
    |agg G=>
     have g:eqTy P n t=true:=by simpa [mZ,o] using ht
     cases n with
     |zero=>simp[eqTy] at g
     |succ n=>
      simp only[eqTy,o,af8] at g;simp only[dV];refine cV.bind' λz F h=>?_
      rw[h.1,h.2];split
      .exact aM trivial
      .refine(xW (R:=Eq) fs (λf O b K D=>?_) _ _ rfl).bind' λr S h=>?_
       .subst D
        by_cases I:f.name≠ "_"
        .simp only[I,ne_eq,not_false_eq_true,if_true]
         refine(ma f.type xs f.offset).bind' λu J h=>?_
         obtain⟨rfl,h1⟩:=h;refine(ma f.type G f.offset).bind' λv Q h=>?_
         obtain⟨rfl,h2⟩:=h;refine(qm E A l w d n f.type u v (.inl (g f O)) (hx.part h1) (hy.part h2)).bind' λc M h=>?_
         subst h;cases c<;>exact ay rfl
        .simp only[I,if_false]
         exact ay rfl
       .subst h
        have⟨B,r2⟩:=r;cases B<;>exact ay rfl
    |_=>exact al
   |_=>exact al
  |array len e=>
   cases x with
   |agg xs=>cases y with
    |agg G=>
     have g:eqTy P n t=true:=by simpa [mZ,o] using ht
     cases n with
     |zero=>simp[eqTy] at g
     |succ n=>
      simp only[eqTy,o] at g;simp only[dV];refine(dh e).bind' λm W h=>?_
      obtain⟨rfl,_⟩:=h;refine(xV (R:=Eq) _ (λa b K D=>?_) _ _ rfl).bind' λr S h=>?_
      .subst D
       refine(ma e xs _).bind' λu J h=>?_
       obtain⟨rfl,h1⟩:=h;refine(ma e G _).bind' λv Q h=>?_
       obtain⟨rfl,h2⟩:=h;refine(qm E A l w d n e u v (.inl g) (hx.part h1) (hy.part h2)).bind' λc M h=>?_
       subst h;cases c<;>exact ay rfl
      .subst h
       have⟨B,r2⟩:=r;cases B<;>exact ay rfl
    |_=>exact al
   |_=>exact al
  |slice e=>
   have g:x= .pointer none\/y= .pointer none:=(ht.resolve_left (by cases n<;>simp[eqTy,o])).resolve_right (by simp[mZ,o]);rcases g with rfl|rfl
   .exact al
   .cases x with
    |slice a _ _=>cases a<;>exact al
    |_=>exact al
  |map Y e=>
   have g:x= .pointer none\/y= .pointer none:=(ht.resolve_left (by cases n<;>simp[eqTy,o])).resolve_right (by simp[mZ,o]);rcases g with rfl|rfl
   .exact al
   .cases x with
    |map a=>cases a<;>exact al
    |_=>exact al
  |_=>
   have g:x= .pointer none\/y= .pointer none:=(ht.resolve_left (by cases n<;>simp[eqTy,o])).resolve_right (by simp[mZ,o]);rcases g with rfl|rfl
   .exact al
   .cases x<;>exact al
def qf (g:π 0=0)(c:∀i j,π i=π j->i=j)(e:P.globals.size<=1){a b:Addr}(ha:V a.block)(m:V b.block){k:Type}{R:k->k->Prop}{f f':Nat×Nat->Sem k}(l:∀x,br P π N V R (f x) (f' x)):
  br P π N V R (Op.twoPlaces a b>>=f) (Op.twoPlaces (bn π a) (bn π b)>>=f'):=by
 have e2:=E8 (P:=P) g c e a.block b.block;have n:(π a.block !=π b.block||decide (π a.block>=P.globals.size))=(a.block !=b.block||decide (a.block>=P.globals.size)):=by
  have:=congrArg (!·) e2;simp only[Bool.not_and] at this;have d1:∀x:Nat,(!decide (x<P.globals.size))=decide (x>=P.globals.size):=λx=>by
   rw[<-decide_not];exact decide_eq_decide.2 ϖ
  rw[d1,d1] at this;exact this
 unfold Op.twoPlaces;simp only[bind_assoc];refine cV.bind' λz o h=>?_
 rw[h.1,h.2,show(bn π a).block=π a.block from rfl,show(bn π b).block=π b.block from rfl,n]
 by_cases d:(a.block !=b.block||decide (a.block>=P.globals.size))=true
 .rw[φ d];exact jC trivial
 .rw[ζ d,ζ d]
  simp only[bind_assoc,pure_bind];exact BZ _ ha m λx y=>l (x,y)
def EZ (e:π 0=0)(c:∀i j,π i=π j->i=j)(d:P.globals.size<=1){k:IntKind}{a b:Addr}(ha:V a.block)(f:V b.block):br P π N V (RV π) (Op.addrSub k a b) (Op.addrSub k (bn π a) (bn π b)):=by
 unfold Op.addrSub;exact qf e c d ha f λx=>ay (by simp[RV])
def E1 (f:π 0=0)(c:∀i j,π i=π j->i=j)(d:P.globals.size<=1){e:BinOp}{a b:Addr}(ha:V a.block)(g:V b.block):br P π N V (RV π) (Op.addrCmp e a b) (Op.addrCmp e (bn π a) (bn π b)):=by
 unfold Op.addrCmp;refine qf f c d ha g λx=>?_
 cases e<;>first|exact aM trivial|exact ay (by simp[RV])
def qp {k:IntKind}{a:Addr}{n:Int}(hv:V a.block):br P π N V (RV π) (Op.addrMod k a n) (Op.addrMod k (bn π a) n):=by
 unfold Op.addrMod;refine br.shape (k:=λx=>_) hv λx=>?_
 cases x with
 |none=>exact aM trivial
 |some e=>
  have⟨e,m⟩:=e;refine(fo e).bind' λi d h=>?_
  obtain⟨rfl,_⟩:=h;dsimp only;split
  .exact aM trivial
  .refine(th hv).bind' λb c h=>?_
   subst h;exact ay (by simp[RV])
def nC (t:η)(c:ϫ)(p:Ϡ)(y:Φ)(f:∀a,p=some a->V a.block):
  br P π N V (λv g=>g=ren π v/\∀b,v= .pointer (some b)->∃a,p=some a/\b.block=a.block) (Builtin.unsafeAdd_ c t #[.pointer p,y]) (Builtin.unsafeAdd_ c t #[.pointer (p.map (bn π)),ren π y]):=by
 unfold Builtin.unsafeAdd_;dsimp only;refine(lR y).bind' λn i h=>?_
 subst h
 by_cases h0:n=0
 .simp only[h0,if_true]
  cases p with
  |none=>exact aM trivial
  |some a=>
   simp only[ξ];refine(tf (f a rfl)).bind' λx x' h=>?_
   subst h;cases x with
   |some z=>exact aM trivial
   |none=>exact ay ⟨ϛ,λb d=>⟨a,rfl,by cases d;rfl⟩⟩
 .simp only[h0,if_false]
  split
  .exact aM trivial
  .cases p with
   |none=>exact aM trivial
   |some a=>
    simp only[ξ];refine br.shape (k:=λx=>_) (f a rfl) λx=>?_
    cases x with
    |none=>exact aM trivial
    |some e=>
     have⟨e,m⟩:=e;refine cV.bind' λz j h=>?_
     rw[h.1,h.2];show br P π N V _ (match cellAtBytes P P.depth e (m/P.cellsOf e) a.off n with|some off=>_|none=>_) (match cellAtBytes P P.depth e (m/P.cellsOf e) a.off n with|some off=>_|none=>_);cases cellAtBytes P P.depth e (m/P.cellsOf e) a.off n with
     |none=>exact aM trivial
     |some o=>exact ay ⟨by simp[bn],λb d=>⟨a,rfl,by cases d;rfl⟩⟩
def Da {a:Addr}{l:Bool}(hv:V a.block):br P π N V (RV π) (asNumber a l) (asNumber (bn π a) l):=by
 unfold asNumber newObj;exact br.new (o:= .number a l) trivial (λi c=>by rw[show i=a.block from c];exact hv) λb _=> .pure (by simp[RV,bn])
def lp {t:η}{p:Ϡ}{y:Φ}(e:∀a,p=some a->V a.block):br P π N V (RV π) (movedNumber t (.pointer p) y) (movedNumber t (.pointer (p.map (bn π))) (ren π y)):=by
 unfold movedNumber;refine(aH t).bind' λu i h=>?_
 obtain⟨rfl,g⟩:=h;cases p with
 |none=>
  have c:=(nC (P:=P) (π:=π) (N:=N) (V:=V) t #[] none y (λa h=>by cases h)).mono (R':=RV π) λ_ _ h=>h.1
  cases u<;>first|exact aM trivial|exact c
 |some a=>
  have c:br P π N V (RV π) (behindNumber a>>=λx=>Builtin.unsafeAdd_ #[] t #[.pointer (some x.1),y]>>=λv=>match v with|.pointer (some b)=>asNumber b x.2|v=>Pure.pure v)
    (behindNumber (bn π a)>>=λx=>Builtin.unsafeAdd_ #[] t #[.pointer (some x.1),ren π y]>>=λv=>match v with|.pointer (some b)=>asNumber b x.2|v=>Pure.pure v):=by
   refine fx (e a rfl) λx=>?_
   have⟨x,l⟩:=x;dsimp only;refine(nC t #[] (some x) y (λa h=>by cases h;exact .inr rfl)).bind' λv f h=>?_
   obtain⟨rfl,h⟩:=h;cases v with
   |pointer b=>cases b with
    |none=>simp only[bi];exact ay (by simp[RV])
    |some b=>
     have⟨a',ha,d⟩:=h b rfl;cases ha;simp only[bi,ξ];exact Da (.inr d)
   |_=>simp only[eF,cR,dZ,dr,bN,et,di,bU,ec,eS,dk,dV,dj,dO];exact ay (by simp[RV])
  cases u<;>first|exact aM trivial|exact c
def vL {t:η}{p:Ϡ}{y:Φ}(c:∀a,p=some a->V a.block):br P π N V (RV π) (movedPointer t (.pointer p) y) (movedPointer t (.pointer (p.map (bn π))) (ren π y)):=by
 unfold movedPointer;have b:=(nC (P:=P) (π:=π) (N:=N) (V:=V) t #[] p y c).mono (R':=RV π) λ_ _ h=>h.1
 cases p with
 |none=>exact b
 |some a=>
  simp only[ξ];refine(C4 (c a rfl)).bind' λx x' h=>?_
  subst h;cases x with
  |some z=>exact aM trivial
  |none=>exact b
def LB {pe:Bool}(g:pe=true->∀r,V r->¬N r)(c:π 0=0)(a:∀i j,π i=π j->i=j)(b:P.globals.size<=1){n:Nat}{t:η}{x y:Φ}(f:eqTy P n t=true\/(x= .pointer none\/y= .pointer none)\/(pe&&mZ P t)=true)(d:VV V x)(e:VV V y):
  br P π N V Eq (Op.equal t x y) (Op.equal t (ren π x) (ren π y)):=qm g c a b _ n t x y f d e
def Pg {α:Type}{Q:α->Prop}(m:String):PQ P Q (runtimePanic (.error m):Sem α):= .program (.halt trivial)
def Pf (c:BinOp)(k:IntKind)(a:Int)(k':IntKind)(b:Int):PQ P gU (Op.shift c k a k' b):=by
 unfold Op.shift;split
 .exact Pg _
 .cases c<;>first|exact NQ|exact oa trivial
def xl (c:BinOp)(k:IntKind)(a b:Int):PQ P gU (Op.intArith c k a b):=by
 unfold Op.intArith;cases c<;>first|exact NQ|exact oa trivial
def L4 (c:BinOp)(k:IntKind)(a b:Int):PQ P gU (Op.intDiv c k a b):=by
 unfold Op.intDiv;split
 .exact Pg _
 .cases c<;>first|exact NQ|exact oa trivial
def zu (c:BinOp)(k:IntKind)(a b:Int):PQ P gU (Op.intBits c k a b):=by
 unfold Op.intBits;cases c<;>first|exact NQ|exact oa trivial
def L6 (c:BinOp)(a b:Int):PQ P gU (Op.intCmp c a b):=by
 unfold Op.intCmp;cases c<;>first|exact NQ|exact oa trivial
def xk (c:BinOp)(a b:Ξ):PQ P gU (Op.stringOp c a b):=by
 unfold Op.stringOp;cases c<;>first|exact NQ|exact oa trivial|skip
 dsimp only;split
 .exact .halt trivial
 .exact oa trivial
def zv {α:Type}{Q:α->Prop}{p:Prop}[Decidable p]{m:String}{s:Sem α}(h:PQ P Q s):PQ P Q (if p then stuck m else s):=by
 split
 .exact NQ
 .exact h
def Tv (c:BinOp)(t:η)(k k':IntKind)(a b:Int):PQ P gU (binOp c t (.int k a) (.int k' b)):=by
 unfold binOp;cases c<;>first|exact Pf _ _ _ _ _|exact zv (xl ..)|exact zv (L4 ..)|exact zv (zu ..)|exact zv (L6 ..)
def L8 (c:BinOp)(t:η)(k k':FloatKind)(a b:Nat):PQ P gU (binOp c t (.float k a) (.float k' b)):=by
 unfold binOp;cases c<;>first|exact zv (sF ..)|exact zv (xm ..)
def Fx (e:BinOp)(t:η)(k k':FloatKind)(a b c d:Nat):PQ P gU (binOp e t (.complex k a b) (.complex k' c d)):=by
 unfold binOp;cases e<;>exact zv (Dr ..)
def Iq (c:BinOp)(t:η)(a b:Ξ):PQ P gU (binOp c t (.string a) (.string b)):=by
 unfold binOp;cases c<;>exact xk ..
def JQ {s s':Sem Bool}(h:br P π N V Eq s s'):br P π N V (RV π) (do Pure.pure (.bool (<-s)):Sem Φ) (do Pure.pure (.bool (<-s')):Sem Φ):=h.bind' λb a e=>by subst e;exact ay (by simp[RV])
def JP {s s':Sem Bool}(h:br P π N V Eq s s'):br P π N V (RV π) (do Pure.pure (.bool (!(<-s))):Sem Φ) (do Pure.pure (.bool (!(<-s'))):Sem Φ):=h.bind' λb a e=>by subst e;exact ay (by simp[RV])
def kg:Φ->Bool
 |.int _ _|.float _ _|.complex _ _ _|.string _|.pointer _=>false
 |_=>true
def GA {v:Φ}(h:kg v=true):kg (ren π v)=true:=by cases v<;>simp_all [kg]
def rg {t:η}{x y:Φ}(h:kg x=true\/kg y=true):binOp .eql t x y=(do Pure.pure (.bool (<-Op.equal t x y))):=by
 unfold binOp;cases x<;>cases y<;>first|rfl|simp[kg] at h
def qZ {t:η}{x y:Φ}(h:kg x=true\/kg y=true):binOp .neq t x y=(do Pure.pure (.bool (!(<-Op.equal t x y)))):=by
 unfold binOp;cases x<;>cases y<;>first|rfl|simp[kg] at h
def Nk {c:BinOp}{t:η}{x y:Φ}(h:kg x=true\/kg y=true)(h1:c≠.eql)(h2:c≠.neq):Dead P (binOp c t x y):=by
 unfold binOp;cases c<;>first|exact absurd rfl h1|exact absurd rfl h2|skip
 all_goals (cases x with
  |pointer a=>cases a<;>cases y<;>first|exact Dead.halt trivial|(simp[kg] at h;done)
  |_=>cases y with
   |pointer b=>cases b<;>first|exact Dead.halt trivial|(simp[kg] at h;done)
   |_=>first|exact Dead.halt trivial|(simp[kg] at h;done))
def LF {pe:Bool}(v:pe=true->∀r,V r->¬N r)(l:π 0=0)(c:∀i j,π i=π j->i=j)(g:P.globals.size<=1){d:BinOp}{n:Nat}{t:η}{x y:Φ}(w:d= .eql\/d= .neq->eqTy P n t=true\/(x= .pointer none\/y= .pointer none)\/(pe&&mZ P t)=true)(f:VV V x)(o:VV V y):
  br P π N V (RV π) (binOp d t x y) (binOp d t (ren π x) (ren π y)):=by
 have m:(d= .eql\/d= .neq)->br P π N V Eq (Op.equal t x y) (Op.equal t (ren π x) (ren π y)):=λh=>LB v l c g (w h) f o
 by_cases hd:kg x=true\/kg y=true
 .have s:kg (ren π x)=true\/kg (ren π y)=true:=hd.imp GA GA
  by_cases h1:d= .eql
  .subst h1
   rw[rg hd,rg s];exact JQ (m (.inl rfl))
  .by_cases h2:d= .neq
   .subst h2
    rw[qZ hd,qZ s];exact JP (m (.inr rfl))
   .exact .dead (Nk hd h1 h2)
 .cases x<;>first|exact absurd (.inl rfl) hd|skip
  all_goals (cases y<;>first|exact absurd (.inr rfl) hd|skip)
  all_goals (simp only[cR,dZ,dr,bN,bi] at m⊢)
  all_goals first
   |exact eI (Tv ..)
   |exact eI (L8 ..)
   |exact eI (Fx ..)
   |exact eI (Iq ..)
   |skip
  all_goals unfold binOp
  all_goals (cases d<;>first|exact al|exact aM trivial|exact JQ (m (.inl rfl))|exact JP (m (.inr rfl))|skip)
  case neg.int.pointer.add k a p=>
   have:=lp (P:=P) (π:=π) (N:=N) (V:=V) (t:=t) (p:=p) (y:= .int k a) λb e=>o.Dq e
   rw[cR] at this;exact this
  case neg.int.pointer.and k a p=>
   cases p with
   |none=>exact aM trivial
   |some p=>exact fx o.ptr λz=>qp (.inr rfl)
  case neg.pointer.int.add p k a=>
   have h1:=lp (P:=P) (π:=π) (N:=N) (V:=V) (t:=t) (p:=p) (y:= .int k a) λb e=>f.Dq e
   have h2:=vL (P:=P) (π:=π) (N:=N) (V:=V) (t:=t) (p:=p) (y:= .int k a) λb e=>f.Dq e
   rw[cR] at h1 h2;refine(aH t).bind' λu B h=>?_
   obtain⟨rfl,_⟩:=h;cases u<;>first|exact h2|exact h1
  case neg.pointer.int.sub p k a=>
   have h1:=lp (P:=P) (π:=π) (N:=N) (V:=V) (t:=t) (p:=p) (y:= .int k (-a)) λb e=>f.Dq e
   rw[cR] at h1;exact h1
  case neg.pointer.int.rem p k a=>
   cases p with
   |none=>exact aM trivial
   |some p=>exact fx f.ptr λz=>qp (.inr rfl)
  case neg.pointer.int.and p k a=>
   cases p with
   |none=>exact aM trivial
   |some p=>exact fx f.ptr λz=>qp (.inr rfl)
  case neg.pointer.pointer.sub p q=>
   cases p with
   |none=>cases q<;>exact aM trivial
   |some p=>cases q with
    |none=>exact aM trivial
    |some q=>exact fx f.ptr λz=>fx (.inl o.ptr) λA=>EZ l c g (.inl (.inr rfl)) (.inr rfl)
  all_goals first
   |(rename_i p q;cases p<;>cases q<;>first
     |exact aM trivial
     |exact fx f.ptr λz=>fx (.inl o.ptr) λA=>E1 l c g (.inl (.inr rfl)) (.inr rfl)
     |(done))
   |(rename_i p _;cases p<;>exact aM trivial)
   |(rename_i p _ _;cases p<;>exact aM trivial)
   |(rename_i p _ _ _;cases p<;>exact aM trivial)
def Pe {c:UnOp}{x:Φ}:∀{π:Ϛ},br P π N V (RV π) (Op.unary c x) (Op.unary c (ren π x)):=by
 intro π;unfold Op.unary;cases x with
 |int k n=>simp only[cR];cases c<;>first|exact al|exact eI (xl ..)|exact eI (zu ..)
 |float k n=>simp only[dZ];cases c<;>first|exact al|exact eI (oa trivial)
 |complex k n m=>simp only[dr];cases c<;>first|exact al|exact eI (oa trivial)
 |bool b=>simp only[eF];cases c<;>first|exact al|exact eI (oa trivial)
 |pointer a=>cases a<;>cases c<;>first|exact al|exact aM trivial
 |_=>cases c<;>exact al
def EW {c:BinOp}{n:Nat}{t:η}{x y:ab7}{a b:Φ}(f:c= .eql\/c= .neq->((eqTy P n t=true\/mZ P t=true)/\P.eqGuardType P.depth t=false)\/a= .pointer none\/b= .pointer none):
  br P π N V Eq (eqGuard c t x y a b) (eqGuard c t x y (ren π a) (ren π b)):=by
 unfold eqGuard;cases c<;>first|exact ay rfl|skip
 all_goals
  rcases f ϛ with⟨h1,h2⟩|rfl|rfl
  .cases a with
   |nilIface=>cases b with
    |nilIface=>
     simp only[di];refine dc (ay rfl) (dc (ay rfl) ?_)
     .rw[show Op.maxDepth=9999+1 from rfl]
      unfold Op.eqGuardIn;rw[bind_assoc];refine(aH t).bind' λu i h=>?_
      obtain⟨rfl,e⟩:=h;cases u<;>first|exact ay rfl|(cases n<;>simp[eqTy,mZ,e] at h1)
    |_=>simp only[eF,cR,dZ,dr,bN,bi,et,di,bU,ec,eS,dk,dV,dj,dO];exact ay rfl
   |agg xs=>cases b with
    |agg g=>
     simp only[dV];refine cV.bind' λz d h=>?_
     rw[h.1,h.2];refine cV.bind' λz d h=>?_
     rw[h.1,h.2,h2];exact ay rfl
    |_=>simp only[eF,cR,dZ,dr,bN,bi,et,di,bU,ec,eS,dk,dV,dj,dO];exact ay rfl
   |_=>simp only[eF,cR,dZ,dr,bN,bi,et,di,bU,ec,eS,dk,dV,dj,dO];exact ay rfl
  .simp only[bi];exact ay rfl
  .cases a<;>(simp only[eF,cR,dZ,dr,bN,bi,et,di,bU,ec,eS,dk,dV,dj,dO];exact ay rfl)
end
end
end
end Go.Proofs.YtchcmhodnkgojaaGreat
