/- A part. -/
import Derived.Test.YtchcmhodnkgojaaGreatPart3
set_option linter.all false
set_option maxRecDepth 100000
set_option maxHeartbeats 8000000
namespace Go.Proofs.YtchcmhodnkgojaaGreat
open Value (ren)
noncomputable section
variable {m:String}{v x y:Θ}{p:Option Addr}{a b:Addr}{t:θ}
section
open Go.Conc
section
variable {P:aa1}{π:Nat->Nat}{N V:Nat->Prop}
def tB{r:Nat}(hv:V r):bD P π N V (λa b=>b=a.map λx=>(bA π x.1,x.2)) (viewAt r) (viewAt (π r)):=by
 unfold viewAt;refine bD.shape (k:=λx=>_) hv λx=>?_
 cases x with
 |some y=>exact ak rfl
 |none=>
  refine bD.getObj (k:=λx=>_) λo c=>?_
  cases o<;>first|exact c.elim|exact ak rfl
def CU{r:Nat}(hv:V r):bD P π N V (λa b=>b=a.map λx=>(bA π x.1,x.2)) (numberAt r) (numberAt (π r)):=by
 unfold numberAt;refine bD.shape (k:=λx=>_) hv λx=>?_
 cases x with
 |some y=>exact ak rfl
 |none=>
  refine bD.getObj (k:=λx=>_) λo c=>?_
  cases o<;>first|exact c.elim|exact ak rfl
def Hp{r:Nat}(hv:V r)(a:Addr)(ha:a.block=r):bD P π N V Eq (noView a) (noView (bA π a)):=by
 unfold noView;subst ha;refine(tB hv).bind' λx y h=>?_
 subst h;cases x with|none=>exact ak rfl|some z=>exact aP trivial
def di{α:Type}{R:α->α->Prop}{c:Prop}[Decidable c]{e a d b:Sem α}(h1:bD P π N V R e a)(h2:bD P π N V R d b):bD P π N V R (if c then e else d) (if c then a else b):=by
 split;exact h1;exact h2
inductive PQ (P:aa1){α:Type}(Q:α->Prop):Sem α->Prop
 |pure {a:α} (h:Q a):PQ P Q (.pure a)
 |halt {h:Halt} (hh:mH h):PQ P Q (.halt h)
 |choose {q:Question}{k:Nat->Sem α} (h:∀n,PQ P Q (k n)):PQ P Q (.choose q k)
 |program {k:aa1->Sem α} (h:PQ P Q (k P)):PQ P Q (.program k)
def PQ.bind{α c:Type}{Q:α->Prop}{d:c->Prop}{s:Sem α}(h:PQ P Q s){f:α->Sem c}(hf:∀a,Q a->PQ P d (f a)):PQ P d (s.bind f):=by
 induction h with|pure h=>exact hf _ h|halt h=>exact .halt h|choose _ b=>exact .choose λn=>b n|program _ b=>exact .program b
def iU{α b:Type}{Q:α->Prop}{c:b->Prop}{s:Sem α}(h:PQ P Q s){f:α->Sem b}(hf:∀a,Q a->PQ P c (f a)):PQ P c (s>>=f):=h.bind hf
def oN{α:Type}{Q:α->Prop}{a:α}(h:Q a):PQ P Q (Pure.pure a):=.pure h
def NE{α:Type}{Q:α->Prop}:PQ P Q (stuck m:Sem α):=.halt trivial
def akJ{α a:Type}{Q:a->Prop}{f:α->Sem a}:PQ P Q ((stuck m:Sem α)>>=f):=.halt trivial
def pqc{q:Question}:PQ P (λ_=>True) (choose q):=.choose λ_=>.pure trivial
def XZ{α:Type}{Q:α->Prop}{s:Sem α}(h:PQ P Q s):bD P π N V (λa b=>a=b/\Q a) s s:=by
 induction h with|pure h=>exact .pure ⟨rfl,h⟩|halt h=>exact .dead (.halt h)|choose _ c=>exact .choose λn=>c n|program _ c=>exact .program c
def gB:Θ->Prop
 |.bool _|.int _ _|.float _ _|.complex _ _ _|.string _=>True
 |_=>False
def LG(h:gB v):ren π v=v:=by cases v<;>first|exact h.elim|simp
def eE{s:Sem Θ}(h:PQ P gB s):bD P π N V (RV π) s s:=(XZ h).mono λa b h=>by rw[RV,LG h.2];exact h.1.symm
def sR(b:BinOp)(k:FloatKind)(x y:Nat):PQ P gB (Op.floatArith b k x y):=by
 unfold Op.floatArith;have a:∀r:Option Nat,PQ P gB (match r with|some r=>Pure.pure (Value.float k r)|none=>(do let c <-choose (.nanBits k x y);Pure.pure (.float k c))):=by
  intro r;cases r with|none=>exact iU pqc λn _=>oN trivial|some r=>exact oN trivial
 cases b<;>first|exact a _|exact akJ
def xe(a:BinOp)(k:FloatKind)(x y:Nat):PQ P gB (Op.floatCmp a k x y):=by
 unfold Op.floatCmp;cases a<;>first|exact NE|exact oN trivial
def ZH(s:FloatKind)(b:Nat)(d:FloatKind):PQ P gB (Conv.floatToFloat s b d):=by
 unfold Conv.floatToFloat;split;exact oN trivial;split;exact iU pqc λn _=>oN trivial
 exact oN trivial;dsimp only;split;exact iU pqc λn _=>oN trivial
 exact oN trivial
def ZG(s:FloatKind)(b:Nat)(d:IntKind):PQ P gB (Conv.floatToInt s b d):=by
 unfold Conv.floatToInt;have a:PQ P gB (do Pure.pure (.int d (d.wrap (<-choose (.floatToInt s b d)))):Sem Θ):=iU pqc λn _=>oN trivial
 dsimp only;split;split;exact oN trivial;exact a;exact a
def bY(a:BinOp)(k:FloatKind)(x y:Nat):PQ P (λ_=>True) (Op.Complex.arith a k x y):=by
 unfold Op.Complex.arith;refine iU (sR a k x y) λv hv=>?_
 cases v<;>first|exact NE|exact oN trivial
def BP(v:Θ):PQ P (λ_=>True) (asBool v):=by cases v<;>first|exact NE|exact oN trivial
def zo(a:BinOp)(k:FloatKind)(x y:Nat):PQ P (λ_=>True) (Op.Complex.cmp a k x y):=iU (xe a k x y) λv _=>BP v
def ji(s:FloatKind)(x:Nat)(d:FloatKind):PQ P (λ_=>True) (Op.Complex.conv s x d):=by
 unfold Op.Complex.conv;split;exact oN trivial;refine iU (ZH s x d) λv hv=>?_
 cases v<;>first|exact NE|exact oN trivial
def Im(a b c d:Nat):PQ P (λ_=>True) (Op.Complex.product a b c d):=
 iU (bY ..) λ_ _=>iU (bY ..) λ_ _=>iU (bY ..) λ_ _=>iU (bY ..) λ_ _=>iU (bY ..) λ_ _=>iU (bY ..) λ_ _=>oN trivial
def uM(s a b c d:Nat):PQ P (λ_=>True) (Op.Complex.corrected s a b c d):=
 iU (bY ..) λ_ _=>iU (bY ..) λ_ _=>iU (bY ..) λ_ _=>iU (bY ..) λ_ _=>iU (bY ..) λ_ _=>iU (bY ..) λ_ _=>iU (bY ..) λ_ _=>iU (bY ..) λ_ _=>oN trivial
def Fx(a b c d:Nat):PQ P (λ_=>True) (Op.Complex.quotient a b c d):=by
 unfold Op.Complex.quotient;have e:∀p:Nat×Nat,PQ P (λ_=>True) (do
   let zero:=(<-Op.Complex.cmp .eql .f64 c 0)&&(<-Op.Complex.cmp .eql .f64 d 0)
   if !(Op.Complex.isNaN p.1&&Op.Complex.isNaN p.2)then Pure.pure p
   else if zero&&(!Op.Complex.isNaN a||!Op.Complex.isNaN b)then
    Pure.pure (<-Op.Complex.mul (Op.Complex.copysign Op.Complex.inf c) a,<-Op.Complex.mul (Op.Complex.copysign Op.Complex.inf c) b)
   else if(Op.Complex.isInf a||Op.Complex.isInf b)&&Op.Complex.isFinite c&&Op.Complex.isFinite d then
    Op.Complex.corrected Op.Complex.inf (Op.Complex.inf2one a) (Op.Complex.inf2one b) c d
   else if(Op.Complex.isInf c||Op.Complex.isInf d)&&Op.Complex.isFinite a&&Op.Complex.isFinite b then
    Op.Complex.corrected 0 a b (Op.Complex.inf2one c) (Op.Complex.inf2one d)
   else Pure.pure p):=by
  intro p;refine iU (zo ..) λ_ _=>iU (zo ..) λ_ _=>?_
  dsimp only;split;exact oN trivial;split;exact iU (bY ..) λ_ _=>iU (bY ..) λ_ _=>oN trivial
  split;exact uM ..;split;exact uM ..;exact oN trivial
 refine iU (zo ..) λt _=>?_
 cases t;exact iU (bY ..) λ_ _=>iU (bY ..) λ_ _=>iU (bY ..) λ_ _=>iU (bY ..) λ_ _=>iU (bY ..) λ_ _=>iU (bY ..) λ_ _=>iU (bY ..) λ_ _=>iU (bY ..) λ_ _=>iU (bY ..) λ_ _=>iU (Q:=λ_=>True) (oN trivial) λp _=>e p
 exact iU (bY ..) λ_ _=>iU (bY ..) λ_ _=>iU (bY ..) λ_ _=>iU (bY ..) λ_ _=>iU (bY ..) λ_ _=>iU (bY ..) λ_ _=>iU (bY ..) λ_ _=>iU (bY ..) λ_ _=>iU (bY ..) λ_ _=>iU (Q:=λ_=>True) (oN trivial) λp _=>e p
def Di(f:BinOp)(k:FloatKind)(a b c d:Nat):PQ P gB (Op.complexOp f k a b c d):=by
 unfold Op.complexOp;have e:∀o,PQ P gB (do Pure.pure (.complex k (<-Op.Complex.arith o k a c) (<-Op.Complex.arith o k b d)):Sem Θ):=λo=>iU (bY ..) λ_ _=>iU (bY ..) λ_ _=>oN trivial
 cases f<;>first|exact NE|exact e _|exact iU (zo ..) λ_ _=>iU (zo ..) λ_ _=>oN trivial|skip
 refine iU (ji ..) λ_ _=>iU (ji ..) λ_ _=>iU (ji ..) λ_ _=>iU (ji ..) λ_ _=>?_
 exact iU (Im ..) λ_ _=>iU (ji ..) λ_ _=>iU (ji ..) λ_ _=>oN trivial
 refine iU (ji ..) λ_ _=>iU (ji ..) λ_ _=>iU (ji ..) λ_ _=>iU (ji ..) λ_ _=>?_
 exact iU (Fx ..) λ_ _=>iU (ji ..) λ_ _=>iU (ji ..) λ_ _=>oN trivial
def KH{c:Type}(R:c->c->Prop):ForInStep c->ForInStep c->Prop
 |.done a,.done b|.yield a,.yield b=>R a b
 |_,_=>False
def mz{α d:Type}{R:d->d->Prop}{f f':α->d->Sem (ForInStep d)}:∀(l:List α),(∀a∈l,∀b c,R b c->bD P π N V (KH R) (f a b) (f' a c))->∀b c,R b c->bD P π N V R (forIn l b f) (forIn l c f')
 |[],_,b,c,h=>by simp only[List.forIn_nil];exact ak h
 |a::l,hf,b,c,h=>by
  simp only[List.forIn_cons];refine(hf a ϛ b c h).bind' λx x' e=>?_
  cases x<;>cases x'<;>first|exact e.elim|exact ak e|exact mz l (λa ha=>hf a (by simp[ha])) _ _ e
def xI{α d:Type}{R:d->d->Prop}{f f':α->d->Sem (ForInStep d)}(xs:Array α)(hf:∀a∈xs,∀b c,R b c->bD P π N V (KH R) (f a b) (f' a c))(b c:d)(h:R b c):bD P π N V R (forIn xs b f) (forIn xs c f'):=by
 rw[<-Array.forIn_toList,<-Array.forIn_toList];exact mz _ (λa ha=>hf a (by simpa using ha)) b c h
def xH{d:Type}{R:d->d->Prop}{f f':Nat->d->Sem (ForInStep d)}(r:Std.Legacy.Range)(hf:∀a,∀b c,R b c->bD P π N V (KH R) (f a b) (f' a c))(b c:d)(h:R b c):bD P π N V R (forIn r b f) (forIn r c f'):=by
 rw[Std.Legacy.Range.forIn_eq_forIn_range',Std.Legacy.Range.forIn_eq_forIn_range'];exact mz _ (λa _=>hf a) b c h
def eqTy(P:aa1):Nat->θ->Bool
 |0,_=>false
 |n+1,t=>match P.underlying t with
  |some .bool|some (.int _)|some .string=>(match(P.info? t).map (·.desc) with|some (TypeDesc.named s _)=>s != "sync.copyChecker"|_=>true)
  |some (.struct fs)=>fs.all λf=>eqTy P n f.type
  |some (.array _ e)=>eqTy P n e
  |_=>false
def VV.Dh(h:VV V (.pointer p))(e:p=some a):V a.block:=by subst e;exact h.ptr
def fo{g:Type}{R:g->g->Prop}{a:Addr}(hv:V a.block){f f':Addr×Bool->Sem g}(hf:∀x:Addr×Bool,bD P π N (λi=>V i\/i=x.1.block) R (f x) (f' (bA π x.1,x.2))):
  bD P π N V R (behindNumber a>>=f) (behindNumber (bA π a)>>=f'):=by
 have c:bD P π N V R (f (a,false)) (f' (bA π a,false)):=(hf (a,false)).weak λi d=>d.elim id λe=>e▸hv
 unfold behindNumber numberAt;rw[bind_assoc,bind_assoc,bind_assoc,bind_assoc];refine bD.shape (k:=λx=>_) hv λx=>?_
 cases x with
 |some y=>exact c
 |none=>
  refine bD.getObj (k:=λx=>_) λo h=>?_
  cases o with
  |number b l=>exact(hf (b,l)).weak λi d=>d.elim .inl λe=>.inr (.inr e)
  |_=>first|exact h.elim|exact c.weak λi d=>.inl d
def qu(hv:V a.block):bD P π N V Eq (noView a) (noView (bA π a)):=Hp hv a rfl
def tD{a:Addr}(hv:V a.block):bD P π N V Eq (byteOf a) (byteOf (bA π a)):=by
 unfold byteOf;have⟨b,off,sp⟩:=a;cases sp with
 |some s=>exact ak rfl
 |none=>
  simp only[pure_bind];refine cX.bind' λz c h=>?_
  rw[h.1,h.2];refine(qu hv).bind' λ_ _ _=>?_
  refine bD.shape (k:=λx=>_) hv λx=>?_
  cases x with
  |none=>exact ai
  |some e=>
   have⟨e,n⟩:=e;dsimp only[Sem.bind];show bD P π N V Eq (if P.cellsOf e=0 then _ else _) (if P.cellsOf e=0 then _ else _);by_cases h0:P.cellsOf e=0;rw[κ h0,κ h0];exact ak rfl;rw[Γ h0,Γ h0];show bD P π N V Eq (match byteOfCell P P.depth e (off%P.cellsOf e)with|some b=>_|_=>_) (match byteOfCell P P.depth e (off%P.cellsOf e)with|some b=>_|_=>_);cases byteOfCell P P.depth e (off%P.cellsOf e)with|none=>exact ai|some b=>exact ak rfl
def E2(h0:π 0=0)(c:∀i j,π i=π j->i=j)(d:P.globals.size<=1)(a b:Nat):(π a==π b&&decide (π a<P.globals.size))=(a==b&&decide (a<P.globals.size)):=by
 have e1:(π a==π b)=(a==b):=by rw[am4,ai5,ai5];exact⟨c _ _,λh=>by rw[h]⟩
 have e2:decide (π a<P.globals.size)=decide (a<P.globals.size):=by rw[decide_eq_decide];constructor;intro h;have:a=0:=c a 0 (by rw[h0];omega);rw[this]at h⊢;rw[h0]at h;exact h;intro h;have:a=0:=ϖ;rw[this]at h⊢;rw[h0];exact h
 rw[e1,e2]
def BI(V:ϒ)(ha:V a.block)(d:V b.block){c:Type}{R:c->c->Prop}{f:Nat->Nat->Sem c}{f':Nat->Nat->Sem c}(hf:∀x y,bD P π N V R (f x y) (f' x y)):
  bD P π N V R (byteOf a>>=λx=>byteOf b>>=λy=>f x y) (byteOf (bA π a)>>=λx=>byteOf (bA π b)>>=λy=>f' x y):=
 (tD ha).bind' λx _ h=>by subst h;exact(tD d).bind' λy _ h=>by subst h;exact hf x y
def zd(d:∀i j,π i=π j->i=j)(h:bA π a=bA π b):a=b:=by
 have⟨b1,e,s1⟩:=a;have⟨b2,o2,s2⟩:=b;simp only[bA,Addr.mk.injEq]at h;have⟨h1,h2,c⟩:=h;rw[d _ _ h1,h2,c]
def sK{a:Addr}(b:∀r,V r->¬N r)(hv:V a.block):bD P π N V Eq (stringish a) (stringish (bA π a)):=by
 unfold stringish;refine bD.frozen (k:=λx=>_) hv (b _ hv) λx=>?_
 cases x with
 |true=>exact ak rfl
 |false=>
  refine bD.shape (k:=λx=>_) hv λx=>?_
  cases x with|none=>exact ak rfl|some y=>exact bD.frozen (a:={block:=a.block,off:=y.2}) hv (b _ hv) λx=>.pure rfl
def CW(c:∀r,V r->¬N r)(ha:V a.block)(d:V b.block):bD P π N V Eq (mayBeOne a b) (mayBeOne (bA π a) (bA π b)):=by
 unfold mayBeOne;refine(sK c ha).bind' λx _ h=>?_
 subst h;refine(sK c d).bind' λy _ h=>?_
 subst h;refine bD.shape (k:=λx=>_) ha λu=>?_
 refine bD.shape (k:=λx=>_) d λv=>?_
 exact ak rfl
def CT(c:∀i j,π i=π j->i=j)(e:∀r,V r->¬N r)(ha:V a.block)(d:V b.block):bD P π N V Eq (sameAddr a b) (sameAddr (bA π a) (bA π b)):=by
 unfold sameAddr;have e1:((bA π a).block==(bA π b).block)=(a.block==b.block):=by rw[am4,ai5,ai5];exact⟨c _ _,λh=>congrArg π h⟩
 have e2:(bA π a==bA π b)=(a==b):=by rw[am4,ai5,ai5];exact⟨zd c,λh=>by rw[h]⟩
 rw[e1,e2];refine di (ak rfl) ?_;refine bD.frozen (k:=λx=>_) ha (e _ ha) λx=>?_
 refine bD.frozen (k:=λx=>_) d (e _ d) λy=>?_
 refine di (aP trivial) ?_;refine(qu ha).bind' λ_ _ _=>?_
 refine(qu d).bind' λ_ _ _=>?_
 refine(CW e ha d).bind' λz _ h=>?_
 subst h;refine di (jo.bind' λn _ h=>?_) (ak rfl);subst h;exact ak rfl
def nC(P:aa1)(t:θ):Bool:=match P.underlying t with|some (.pointer _)=>true|_=>false
def qA{pe:Bool}(D:pe=true->∀r,V r->¬N r)(A:π 0=0)(l:∀i j,π i=π j->i=j)(w:P.globals.size<=1):∀(d n:Nat)(t:θ)(x y:Θ),(eqTy P n t=true\/(x=.pointer none\/y=.pointer none)\/(pe&&nC P t)=true)->VV V x->VV V y->
  bD P π N V Eq (Op.equalIn d t x y) (Op.equalIn d t (ren π x) (ren π y))
 |0,_,_,_,_,_,_,_=>aP trivial
 |d+1,n,t,x,y,ht,hx,hy=>by
  unfold Op.equalIn;refine(aK t).bind' λu H h=>?_
  obtain⟨rfl,o⟩:=h;cases u with
  |bool=>
   cases x with
   |bool a=>cases y with
    |bool b=>simp only[eB];exact ak rfl
    |_=>exact ai
   |_=>exact ai
  |string=>
   cases x with
   |string a=>cases y with
    |string b=>simp only[bU];exact ak rfl
    |_=>exact ai
   |_=>exact ai
  |int U=>
   cases x with
   |int k a=>cases y with
    |int k' b=>simp only[cR];by_cases hk:k=k';simp only[hk,if_true];exact ak rfl;simp only[hk,if_false];exact ai
    |pointer b=>
     cases b with
     |none=>cases a with
      |ofNat m=>cases m<;>exact aP trivial
      |negSucc m=>exact aP trivial
     |some b=>cases a with
      |ofNat m=>cases m with
       |zero=>simp only[cR,bn,ι];exact ak rfl
       |succ m=>exact aP trivial
      |negSucc m=>exact aP trivial
    |_=>exact ai
   |pointer a=>cases a with
    |none=>cases y<;>exact aP trivial
    |some a=>cases y with
     |int k' b=>cases b with
      |ofNat m=>cases m with
       |zero=>simp only[cR,bn,ι];exact ak rfl
       |succ m=>exact aP trivial
      |negSucc m=>exact aP trivial
     |pointer b=>cases b with
      |none=>exact aP trivial
      |some b=>
       simp only[bn,ι];refine fo hx.ptr λp=>fo (.inl hy.ptr) λq=>?_
       dsimp only;refine cX.bind' λz F h=>?_
       obtain⟨rfl,rfl⟩:=h;have e2:=E2 (P:=F) A l w p.1.block q.1.block;rw[show(bA π p.1).block=π p.1.block from rfl,show(bA π q.1).block=π q.1.block from rfl,e2];refine di ?_ ?_;exact BI _ (.inl (.inr rfl)) (.inr rfl) λx y=>ak rfl
       refine(fg t).bind' λi S h=>?_
       obtain⟨rfl,L⟩:=h;have g:eqTy F n t=true:=by simpa[nC,o] using ht
       have hd:∀s u,i.desc= .named s u->s≠ "sync.copyChecker":=λs u e=>by
        cases n with|zero=>simp[eqTy]at g|succ n=>simpa[eqTy,o,L,e] using g
       refine .dead ?_;split;rename_i e;exact absurd rfl (hd _ _ e);exact Dead.halt trivial
     |_=>exact aP trivial
   |_=>cases y<;>first|exact ai|exact aP trivial
  |pointer K=>
   have g:=ht.resolve_left (by cases n<;>simp[eqTy,o]);rcases g with(rfl|rfl)|hpe
   .cases y with
    |pointer b=>simp only[bn];exact ak (by cases b<;>rfl)
    |_=>exact ai
   .cases x with
    |pointer a=>cases a<;>(simp only[bn];exact ak rfl)
    |_=>exact ai
   have B:=D (by simp only[χ]at hpe;exact hpe.1);cases x with
   |pointer a=>cases a with
    |none=>cases y with
     |pointer b=>simp only[bn];exact ak (by cases b<;>rfl)
     |_=>exact ai
    |some a=>cases y with
     |pointer b=>cases b with
      |none=>simp only[bn];exact ak rfl
      |some b=>
       simp only[bn,ι];refine(dm K).bind' λm _ h=>?_
       obtain⟨rfl,_⟩:=h;have e2:(bA π a==bA π b)=(a==b):=by rw[am4,ai5,ai5];exact⟨zd l,λh=>by rw[h]⟩
       rw[e2];refine di (CT l B hx.ptr hy.ptr) (di (ak rfl) (jo.bind' λn _ h=>?_));subst h;exact ak rfl
     |_=>exact ai
   |_=>exact ai
  |unsafePointer=>
   have g:x=.pointer none\/y=.pointer none:=(ht.resolve_left (by cases n<;>simp[eqTy,o])).resolve_right (by simp[nC,o]);obtain rfl|rfl:=g
   .cases y with
    |pointer b=>cases b<;>(simp only[bn];exact ak rfl)
    |_=>exact ai
   .cases x with
    |pointer a=>cases a<;>(simp only[bn];exact ak rfl)
    |_=>exact ai
  |struct fs=>
   cases x with
   |agg xs=>
     cases y with
    |agg ys=>
     have g:eqTy P n t=true:=by simpa[nC,o] using ht
     cases n with
     |zero=>simp[eqTy]at g
     |succ n=>
      simp only[eqTy,o,ae8]at g;simp only[dV];refine cX.bind' λz F h=>?_
      rw[h.1,h.2];split;exact aP trivial;refine(xI (R:=Eq) fs (λf hf b I C=>?_) _ _ rfl).bind' λr J h=>?_
      subst C;by_cases G:f.name≠ "_";simp only[G,ne_eq,not_false_eq_true,if_true];refine(mq f.type xs f.offset).bind' λu H h=>?_
      obtain⟨rfl,h1⟩:=h;refine(mq f.type ys f.offset).bind' λv M h=>?_
      obtain⟨rfl,h2⟩:=h;refine(qA D A l w d n f.type u v (.inl (g f hf)) (hx.part h1) (hy.part h2)).bind' λc O h=>?_
      subst h;cases c<;>exact ak rfl
      simp only[G,if_false];exact ak rfl;subst h;have⟨E,r2⟩:=r;cases E<;>exact ak rfl
    |_=>exact ai
   |_=>exact ai
  |array len e=>
   cases x with
   |agg xs=>cases y with
    |agg ys=>
     have g:eqTy P n t=true:=by simpa[nC,o] using ht
     cases n with
     |zero=>simp[eqTy]at g
     |succ n=>
      simp only[eqTy,o]at g;simp only[dV];refine(dm e).bind' λm T h=>?_
      obtain⟨rfl,_⟩:=h;refine(xH (R:=Eq) _ (λa b I C=>?_) _ _ rfl).bind' λr J h=>?_
      subst C;refine(mq e xs _).bind' λu H h=>?_
      obtain⟨rfl,h1⟩:=h;refine(mq e ys _).bind' λv M h=>?_
      obtain⟨rfl,h2⟩:=h;refine(qA D A l w d n e u v (.inl g) (hx.part h1) (hy.part h2)).bind' λc O h=>?_
      subst h;cases c<;>exact ak rfl
      subst h;have⟨E,r2⟩:=r;cases E<;>exact ak rfl
    |_=>exact ai
   |_=>exact ai
  |slice e=>
   have g:x=.pointer none\/y=.pointer none:=(ht.resolve_left (by cases n<;>simp[eqTy,o])).resolve_right (by simp[nC,o]);obtain rfl|rfl:=g;exact ai
   .cases x with
    |slice a _ _=>cases a<;>exact ai
    |_=>exact ai
  |map Q e=>
   have g:x=.pointer none\/y=.pointer none:=(ht.resolve_left (by cases n<;>simp[eqTy,o])).resolve_right (by simp[nC,o]);obtain rfl|rfl:=g;exact ai
   .cases x with
    |map a=>cases a<;>exact ai
    |_=>exact ai
  |_=>have g:x=.pointer none\/y=.pointer none:=(ht.resolve_left (by cases n<;>simp[eqTy,o])).resolve_right (by simp[nC,o]);obtain rfl|rfl:=g;exact ai;cases x<;>exact ai
def qt(k:π 0=0)(c:∀i j,π i=π j->i=j)(g:P.globals.size<=1)(ha:V a.block)(l:V b.block){e:Type}{R:e->e->Prop}{f f':Nat×Nat->Sem e}(hf:∀x,bD P π N V R (f x) (f' x)):
  bD P π N V R (Op.twoPlaces a b>>=f) (Op.twoPlaces (bA π a) (bA π b)>>=f'):=by
 have e2:=E2 (P:=P) k c g a.block b.block;have m:(π a.block !=π b.block||decide (π a.block>=P.globals.size))=(a.block !=b.block||decide (a.block>=P.globals.size)):=by
  have:=congrArg (!·) e2;simp only[Bool.not_and]at this;have d1:∀x:Nat,(!decide (x<P.globals.size))=decide (x>=P.globals.size):=λx=>by rw[<-decide_not];exact decide_eq_decide.2 ϖ
  rw[d1,d1]at this;exact this
 unfold Op.twoPlaces;simp only[bind_assoc];refine cX.bind' λz n h=>?_
 rw[h.1,h.2,show(bA π a).block=π a.block from rfl,show(bA π b).block=π b.block from rfl,m];by_cases d:(a.block !=b.block||decide (a.block>=P.globals.size))=true;rw[κ d];exact jm trivial;rw[Γ d,Γ d];simp only[bind_assoc,pure_bind];exact BI _ ha l λx y=>hf (x,y)
def ES(e:π 0=0)(c:∀i j,π i=π j->i=j)(d:P.globals.size<=1){k:IntKind}(ha:V a.block)(f:V b.block):bD P π N V (RV π) (Op.addrSub k a b) (Op.addrSub k (bA π a) (bA π b)):=by
 unfold Op.addrSub;exact qt e c d ha f λx=>ak (by simp[RV])
def ET(e:π 0=0)(c:∀i j,π i=π j->i=j)(d:P.globals.size<=1){f:BinOp}(ha:V a.block)(g:V b.block):bD P π N V (RV π) (Op.addrCmp f a b) (Op.addrCmp f (bA π a) (bA π b)):=by
 unfold Op.addrCmp;refine qt e c d ha g λx=>?_
 cases f<;>first|exact aP trivial|exact ak (by simp[RV])
def qD{k:IntKind}{a:Addr}{n:Int}(hv:V a.block):bD P π N V (RV π) (Op.addrMod k a n) (Op.addrMod k (bA π a) n):=by
 unfold Op.addrMod;refine bD.shape (k:=λx=>_) hv λx=>?_
 cases x with
 |none=>exact aP trivial
 |some e=>
  have⟨e,m⟩:=e;refine(fg e).bind' λi d h=>?_
  obtain⟨rfl,_⟩:=h;dsimp only;split;exact aP trivial;refine(tD hv).bind' λb c h=>?_
  subst h;exact ak (by simp[RV])
def n4(t:θ)(c:ϫ)(p:Ϣ)(y:Θ)(f:∀a,p=some a->V a.block):
  bD P π N V (λv g=>g=ren π v/\∀b,v=.pointer (some b)->∃a,p=some a/\b.block=a.block) (Builtin.unsafeAdd_ c t #[.pointer p,y]) (Builtin.unsafeAdd_ c t #[.pointer (p.map (bA π)),ren π y]):=by
 unfold Builtin.unsafeAdd_;dsimp only;refine(lZ y).bind' λn j h=>?_
 subst h;by_cases h0:n=0;simp only[h0,if_true];cases p with
 |none=>exact aP trivial
 |some a=>
  simp only[ι];refine(tB (f a rfl)).bind' λx x' h=>?_
  subst h;cases x with
  |some z=>exact aP trivial
  |none=>exact ak ⟨ϛ,λb d=>⟨a,rfl,by cases d;rfl⟩⟩
 simp only[h0,if_false];split;exact aP trivial
 .cases p with
  |none=>exact aP trivial
  |some a=>
   simp only[ι];refine bD.shape (k:=λx=>_) (f a rfl) λx=>?_
   cases x with
   |none=>exact aP trivial
   |some e=>
    have⟨e,m⟩:=e;refine cX.bind' λz i h=>?_
    rw[h.1,h.2];show bD P π N V _ (match cellAtBytes P P.depth e (m/P.cellsOf e) a.off n with|some off=>_|none=>_) (match cellAtBytes P P.depth e (m/P.cellsOf e) a.off n with|some off=>_|none=>_);cases cellAtBytes P P.depth e (m/P.cellsOf e) a.off n with
    |none=>exact aP trivial
    |some o=>exact ak ⟨by simp[bA],λb d=>⟨a,rfl,by cases d;rfl⟩⟩
def C0{l:Bool}(hv:V a.block):bD P π N V (RV π) (asNumber a l) (asNumber (bA π a) l):=by
 unfold asNumber newObj;exact bD.new (o:=.number a l) trivial (λi c=>by rw[show i=a.block from c];exact hv) λb _=>.pure (by simp[RV,bA])
def lA{t:θ}{p:Ϣ}{y:Θ}(e:∀a,p=some a->V a.block):bD P π N V (RV π) (movedNumber t (.pointer p) y) (movedNumber t (.pointer (p.map (bA π))) (ren π y)):=by
 unfold movedNumber;refine(aK t).bind' λu i h=>?_
 obtain⟨rfl,g⟩:=h;cases p with
 |none=>
  have c:=(n4 (P:=P) (π:=π) (N:=N) (V:=V) t #[] none y λa h=>by cases h).mono (R':=RV π) λ_ _ h=>h.1
  cases u<;>first|exact aP trivial|exact c
 |some a=>
  have c:bD P π N V (RV π) (behindNumber a>>=λx=>Builtin.unsafeAdd_ #[] t #[.pointer (some x.1),y]>>=λv=>match v with|.pointer (some b)=>asNumber b x.2|v=>Pure.pure v)
    (behindNumber (bA π a)>>=λx=>Builtin.unsafeAdd_ #[] t #[.pointer (some x.1),ren π y]>>=λv=>match v with|.pointer (some b)=>asNumber b x.2|v=>Pure.pure v):=by
   refine fo (e a rfl) λx=>?_
   have⟨x,l⟩:=x;dsimp only;refine(n4 t #[] (some x) y λa h=>by cases h;exact .inr rfl).bind' λv f h=>?_
   obtain⟨rfl,h⟩:=h;cases v with
   |pointer b=>cases b with
    |none=>simp only[bn];exact ak (by simp[RV])
    |some b=>have⟨a',ha,d⟩:=h b rfl;cases ha;simp only[bn,ι];exact C0 (.inr d)
   |_=>simp only[eB,cR,dY,dB,bU,eu,dn,cg,ee,eM,dz,dV,dy,dO];exact ak (by simp[RV])
  cases u<;>first|exact aP trivial|exact c
def vO{t:θ}{p:Ϣ}{y:Θ}(c:∀a,p=some a->V a.block):bD P π N V (RV π) (movedPointer t (.pointer p) y) (movedPointer t (.pointer (p.map (bA π))) (ren π y)):=by
 unfold movedPointer;have b:=(n4 (P:=P) (π:=π) (N:=N) (V:=V) t #[] p y c).mono (R':=RV π) λ_ _ h=>h.1
 cases p with
 |none=>exact b
 |some a=>
  simp only[ι];refine(CU (c a rfl)).bind' λx x' h=>?_
  subst h;cases x with|some z=>exact aP trivial|none=>exact b
def Lh{pe:Bool}(e:pe=true->∀r,V r->¬N r)(c:π 0=0)(a:∀i j,π i=π j->i=j)(b:P.globals.size<=1){n:Nat}(f:eqTy P n t=true\/(x=.pointer none\/y=.pointer none)\/(pe&&nC P t)=true)(g:VV V x)(d:VV V y):
  bD P π N V Eq (Op.equal t x y) (Op.equal t (ren π x) (ren π y)):=qA e c a b _ n t x y f g d
def O9{α:Type}{Q:α->Prop}(m:String):PQ P Q (runtimePanic (.error m):Sem α):=.program (.halt trivial)
def O8(c:BinOp)(k:IntKind)(a:Int)(k':IntKind)(b:Int):PQ P gB (Op.shift c k a k' b):=by
 unfold Op.shift;split;exact O9 _;cases c<;>first|exact NE|exact oN trivial
def xd(c:BinOp)(k:IntKind)(a b:Int):PQ P gB (Op.intArith c k a b):=by
 unfold Op.intArith;cases c<;>first|exact NE|exact oN trivial
def LM(c:BinOp)(k:IntKind)(a b:Int):PQ P gB (Op.intDiv c k a b):=by
 unfold Op.intDiv;split;exact O9 _;cases c<;>first|exact NE|exact oN trivial
def zm(c:BinOp)(k:IntKind)(a b:Int):PQ P gB (Op.intBits c k a b):=by
 unfold Op.intBits;cases c<;>first|exact NE|exact oN trivial
def LN(c:BinOp)(a b:Int):PQ P gB (Op.intCmp c a b):=by
 unfold Op.intCmp;cases c<;>first|exact NE|exact oN trivial
def xc(c:BinOp)(a b:Ξ):PQ P gB (Op.stringOp c a b):=by
 unfold Op.stringOp;cases c<;>first|exact NE|exact oN trivial|skip
 dsimp only;split;exact .halt trivial;exact oN trivial
def zn{α:Type}{Q:α->Prop}{p:Prop}[Decidable p]{s:Sem α}(h:PQ P Q s):PQ P Q (if p then stuck m else s):=by
 split;exact NE;exact h
def TA(c:BinOp)(t:θ)(k k':IntKind)(a b:Int):PQ P gB (binOp c t (.int k a) (.int k' b)):=by
 unfold binOp;cases c<;>first|exact O8 _ _ _ _ _|exact zn (xd ..)|exact zn (LM ..)|exact zn (zm ..)|exact zn (LN ..)
def LO(c:BinOp)(t:θ)(k k':FloatKind)(a b:Nat):PQ P gB (binOp c t (.float k a) (.float k' b)):=by
 unfold binOp;cases c<;>first|exact zn (sR ..)|exact zn (xe ..)
def Fy(e:BinOp)(t:θ)(k k':FloatKind)(a b c d:Nat):PQ P gB (binOp e t (.complex k a b) (.complex k' c d)):=by
 unfold binOp;cases e<;>exact zn (Di ..)
def Il(c:BinOp)(t:θ)(a b:Ξ):PQ P gB (binOp c t (.string a) (.string b)):=by
 unfold binOp;cases c<;>exact xc ..
def JG{s s':Sem Bool}(h:bD P π N V Eq s s'):bD P π N V (RV π) (do Pure.pure (.bool (<-s)):Sem Θ) (do Pure.pure (.bool (<-s')):Sem Θ):=h.bind' λb a e=>by subst e;exact ak (by simp[RV])
def JF{s s':Sem Bool}(h:bD P π N V Eq s s'):bD P π N V (RV π) (do Pure.pure (.bool (!(<-s))):Sem Θ) (do Pure.pure (.bool (!(<-s'))):Sem Θ):=h.bind' λb a e=>by subst e;exact ak (by simp[RV])
def j8:Θ->Bool
 |.int _ _|.float _ _|.complex _ _ _|.string _|.pointer _=>false
 |_=>true
def GB(h:j8 v=true):j8 (ren π v)=true:=by cases v<;>simp_all [j8]
def rH(h:j8 x=true\/j8 y=true):binOp .eql t x y=(do Pure.pure (.bool (<-Op.equal t x y))):=by
 unfold binOp;cases x<;>cases y<;>first|rfl|simp[j8]at h
def rG(h:j8 x=true\/j8 y=true):binOp .neq t x y=(do Pure.pure (.bool (!(<-Op.equal t x y)))):=by
 unfold binOp;cases x<;>cases y<;>first|rfl|simp[j8]at h
def MV{c:BinOp}{t:θ}{x y:Θ}(h:j8 x=true\/j8 y=true)(h1:c≠.eql)(h2:c≠.neq):Dead P (binOp c t x y):=by
 unfold binOp;cases c<;>first|exact absurd rfl h1|exact absurd rfl h2|skip
 all_goals (cases x with
  |pointer a=>cases a<;>cases y<;>first|exact Dead.halt trivial|(simp[j8]at h;done)
  |_=>cases y with
   |pointer b=>cases b<;>first|exact Dead.halt trivial|(simp[j8]at h;done)
   |_=>first|exact Dead.halt trivial|(simp[j8]at h;done))
def Lk{pe:Bool}(v:pe=true->∀r,V r->¬N r)(l:π 0=0)(c:∀i j,π i=π j->i=j)(g:P.globals.size<=1){d:BinOp}{n:Nat}{t:θ}{x y:Θ}(w:d=.eql\/d=.neq->eqTy P n t=true\/(x=.pointer none\/y=.pointer none)\/(pe&&nC P t)=true)(f:VV V x)(s:VV V y):
  bD P π N V (RV π) (binOp d t x y) (binOp d t (ren π x) (ren π y)):=by
 have o:(d=.eql\/d=.neq)->bD P π N V Eq (Op.equal t x y) (Op.equal t (ren π x) (ren π y)):=λh=>Lh v l c g (w h) f s
 by_cases hd:j8 x=true\/j8 y=true;have m:j8 (ren π x)=true\/j8 (ren π y)=true:=hd.imp GB GB;by_cases h1:d=.eql;subst h1;rw[rH hd,rH m];exact JG (o (.inl rfl));by_cases h2:d=.neq;subst h2;rw[rG hd,rG m];exact JF (o (.inr rfl));exact .dead (MV hd h1 h2)
 .cases x<;>first|exact absurd (.inl rfl) hd|skip
  all_goals (cases y<;>first|exact absurd (.inr rfl) hd|skip)
  all_goals (simp only[cR,dY,dB,bU,bn]at o⊢)
  all_goals first
   |exact eE (TA ..)
   |exact eE (LO ..)
   |exact eE (Fy ..)
   |exact eE (Il ..)
   |skip
  all_goals unfold binOp
  all_goals (cases d<;>first|exact ai|exact aP trivial|exact JG (o (.inl rfl))|exact JF (o (.inr rfl))|skip)
  case neg.int.pointer.add k a p=>
   have:=lA (P:=P) (π:=π) (N:=N) (V:=V) (t:=t) (p:=p) (y:=.int k a) λb e=>s.Dh e
   rw[cR]at this;exact this
  case neg.int.pointer.and k a p=>
   cases p with|none=>exact aP trivial|some p=>exact fo s.ptr λz=>qD (.inr rfl)
  case neg.pointer.int.add p k a=>
   have h1:=lA (P:=P) (π:=π) (N:=N) (V:=V) (t:=t) (p:=p) (y:=.int k a) λb e=>f.Dh e
   have h2:=vO (P:=P) (π:=π) (N:=N) (V:=V) (t:=t) (p:=p) (y:=.int k a) λb e=>f.Dh e
   rw[cR]at h1 h2;refine(aK t).bind' λu B h=>?_
   obtain⟨rfl,_⟩:=h;cases u<;>first|exact h2|exact h1
  case neg.pointer.int.sub p k a=>
   have h1:=lA (P:=P) (π:=π) (N:=N) (V:=V) (t:=t) (p:=p) (y:=.int k (-a)) λb e=>f.Dh e
   rw[cR]at h1;exact h1
  case neg.pointer.int.rem p k a=>
   cases p with|none=>exact aP trivial|some p=>exact fo f.ptr λz=>qD (.inr rfl)
  case neg.pointer.int.and p k a=>
   cases p with|none=>exact aP trivial|some p=>exact fo f.ptr λz=>qD (.inr rfl)
  case neg.pointer.pointer.sub p q=>
   cases p with
   |none=>cases q<;>exact aP trivial
   |some p=>cases q with
    |none=>exact aP trivial
    |some q=>exact fo f.ptr λz=>fo (.inl s.ptr) λA=>ES l c g (.inl (.inr rfl)) (.inr rfl)
  all_goals first
   |(rename_i p q;cases p<;>cases q<;>first
     |exact aP trivial
     |exact fo f.ptr λz=>fo (.inl s.ptr) λA=>ET l c g (.inl (.inr rfl)) (.inr rfl)
     |(done))
   |(rename_i p _;cases p<;>exact aP trivial)
   |(rename_i p _ _;cases p<;>exact aP trivial)
   |(rename_i p _ _ _;cases p<;>exact aP trivial)
def O7{c:UnOp}{x:Θ}:∀{π:ϙ},bD P π N V (RV π) (Op.unary c x) (Op.unary c (ren π x)):=by
 intro π;unfold Op.unary;cases x with
 |int k n=>simp only[cR];cases c<;>first|exact ai|exact eE (xd ..)|exact eE (zm ..)
 |float k n=>simp only[dY];cases c<;>first|exact ai|exact eE (oN trivial)
 |complex k n m=>simp only[dB];cases c<;>first|exact ai|exact eE (oN trivial)
 |bool b=>simp only[eB];cases c<;>first|exact ai|exact eE (oN trivial)
 |pointer a=>cases a<;>cases c<;>first|exact ai|exact aP trivial
 |_=>cases c<;>exact ai
def EP{c:BinOp}{n:Nat}{t:θ}{x y:ac4}{a b:Θ}(e:c=.eql\/c=.neq->((eqTy P n t=true\/nC P t=true)/\P.eqGuardType P.depth t=false)\/a=.pointer none\/b=.pointer none):
  bD P π N V Eq (eqGuard c t x y a b) (eqGuard c t x y (ren π a) (ren π b)):=by
 unfold eqGuard;cases c<;>first|exact ak rfl|skip
 all_goals
  obtain⟨h1,h2⟩|rfl|rfl:=e ϛ
  .cases a with
   |nilIface=>cases b with
    |nilIface=>
     simp only[dn];refine di (ak rfl) (di (ak rfl) ?_);rw[show Op.maxDepth=9999+1 from rfl];unfold Op.eqGuardIn;rw[bind_assoc];refine(aK t).bind' λu g h=>?_
     obtain⟨rfl,f⟩:=h;cases u<;>first|exact ak rfl|(cases n<;>simp[eqTy,nC,f]at h1)
    |_=>simp only[eB,cR,dY,dB,bU,bn,eu,dn,cg,ee,eM,dz,dV,dy,dO];exact ak rfl
   |agg xs=>cases b with
    |agg ys=>
     simp only[dV];refine cX.bind' λz d h=>?_
     rw[h.1,h.2];refine cX.bind' λz d h=>?_
     rw[h.1,h.2,h2];exact ak rfl
    |_=>simp only[eB,cR,dY,dB,bU,bn,eu,dn,cg,ee,eM,dz,dV,dy,dO];exact ak rfl
   |_=>simp only[eB,cR,dY,dB,bU,bn,eu,dn,cg,ee,eM,dz,dV,dy,dO];exact ak rfl
  simp only[bn];exact ak rfl;cases a<;>(simp only[eB,cR,dY,dB,bU,bn,eu,dn,cg,ee,eM,dz,dV,dy,dO];exact ak rfl)
end
end
end
end Go.Proofs.YtchcmhodnkgojaaGreat
