/- On the way to the last text; put together and shortened by program. -/
import Derived.Test.YtchcmhodnkgojaaGreatPart3
set_option linter.all false
set_option maxRecDepth 100000
set_option maxHeartbeats 8000000
namespace Go.Proofs.YtchcmhodnkgojaaGreat
noncomputable section
section
open Go.Conc
section
variable {P:ω}{π:Nat->Nat}{N V:Nat->Prop}
theorem qQ {r:Nat}(hv:V r):ba P π N V (λa b=>b=a.map λx=>(aZ π x.1,x.2)) (viewAt r) (viewAt (π r)):=by
 unfold viewAt;refine ba.shape (k:=λx=>_) hv λx=>?_
 cases x with
 |some y=>exact al rfl
 |none=>
  refine ba.getObj (k:=λx=>_) λo ho=>?_
  cases o<;>first|exact ho.elim|exact al rfl
theorem AD {r:Nat}(hv:V r):ba P π N V (λa b=>b=a.map λx=>(aZ π x.1,x.2)) (numberAt r) (numberAt (π r)):=by
 unfold numberAt;refine ba.shape (k:=λx=>_) hv λx=>?_
 cases x with
 |some y=>exact al rfl
 |none=>
  refine ba.getObj (k:=λx=>_) λo ho=>?_
  cases o<;>first|exact ho.elim|exact al rfl
theorem EO {r:Nat}(hv:V r)(a:Addr)(ha:a.block=r):ba P π N V Eq (noView a) (noView (aZ π a)):=by
 unfold noView;subst ha;refine(qQ hv).bind' λx y h=>?_
 subst h;cases x with
 |none=>exact al rfl
 |some z=>exact aI trivial
theorem cI {α:Type}{R:α->α->Prop}{c:Prop}[Decidable c]{s₁ s₁' s₂ s₂':Sem α}(h1:ba P π N V R s₁ s₁')(h2:ba P π N V R s₂ s₂'):ba P π N V R (if c then s₁ else s₂) (if c then s₁' else s₂'):=by
 split
 .exact h1
 .exact h2
inductive PQ (P:ω){α:Type}(Q:α->Prop):Sem α->Prop
 |pure {a:α} (h:Q a):PQ P Q (.pure a)
 |halt {h:Halt} (hh:kV h):PQ P Q (.halt h)
 |choose {q:Question} {k:Nat->Sem α} (h:∀n,PQ P Q (k n)):PQ P Q (.choose q k)
 |program {k:ω->Sem α} (h:PQ P Q (k P)):PQ P Q (.program k)
theorem PQ.bind {α β:Type}{Q:α->Prop}{Q':β->Prop}{s:Sem α}(h:PQ P Q s){f:α->Sem β}(hf:∀a,Q a->PQ P Q' (f a)):PQ P Q' (s.bind f):=by
 induction h with
 |pure h=>exact hf _ h
 |halt h=>exact .halt h
 |choose _ ih=>exact .choose λn=>ih n
 |program _ ih=>exact .program ih
theorem gX {α β:Type}{Q:α->Prop}{Q':β->Prop}{s:Sem α}(h:PQ P Q s){f:α->Sem β}(hf:∀a,Q a->PQ P Q' (f a)):PQ P Q' (s>>=f):=h.bind hf
theorem mK {α:Type}{Q:α->Prop}{a:α}(h:Q a):PQ P Q (Pure.pure a):= .pure h
theorem KJ {α:Type}{Q:α->Prop}{m:String}:PQ P Q (stuck m:Sem α):= .halt trivial
theorem ag5 {α β:Type}{Q:β->Prop}{m:String}{f:α->Sem β}:PQ P Q ((stuck m:Sem α)>>=f):= .halt trivial
theorem pqc {q:Question}:PQ P (λ_=>True) (choose q):= .choose λ_=> .pure trivial
theorem UC {α:Type}{Q:α->Prop}{s:Sem α}(h:PQ P Q s):ba P π N V (λa b=>a=b/\Q a) s s:=by
 induction h with
 |pure h=>exact .pure ⟨rfl,h⟩
 |halt h=>exact .dead (.halt h)
 |choose _ ih=>exact .choose λn=>ih n
 |program _ ih=>exact .program ih
def fl:Φ->Prop
 |.bool _|.int _ _|.float _ _|.complex _ _ _|.string _=>True
 |_=>False
theorem I7 {v:Φ}(h:fl v):Value.ren π v=v:=by cases v<;>first|exact h.elim|simp
theorem dP {s:Sem Φ}(h:PQ P fl s):ba P π N V (RV π) s s:=(UC h).mono λa b h=>by rw[RV,I7 h.2];exact h.1.symm
theorem qw (op:BinOp)(k:FloatKind)(x y:Nat):PQ P fl (Op.floatArith op k x y):=by
 unfold Op.floatArith;have tail:∀r:Option Nat,PQ P fl (match r with|some r=>Pure.pure (Value.float k r)|none=>(do let c <-choose (.nanBits k x y);Pure.pure (.float k c))):=by
  intro r;cases r with
  |none=>exact gX pqc λn _=>mK trivial
  |some r=>exact mK trivial
 cases op<;>first|exact tail _|exact ag5
theorem ux (op:BinOp)(k:FloatKind)(x y:Nat):PQ P fl (Op.floatCmp op k x y):=by
 unfold Op.floatCmp;cases op<;>first|exact KJ|exact mK trivial
theorem Wp (s:FloatKind)(b:Nat)(d:FloatKind):PQ P fl (Conv.floatToFloat s b d):=by
 unfold Conv.floatToFloat;split
 .exact mK trivial
 .split
  .exact gX pqc λn _=>mK trivial
  .exact mK trivial
  .dsimp only
   split
   .exact gX pqc λn _=>mK trivial
   .exact mK trivial
theorem Wo (s:FloatKind)(b:Nat)(d:IntKind):PQ P fl (Conv.floatToInt s b d):=by
 unfold Conv.floatToInt;have any:PQ P fl (do Pure.pure (.int d (d.wrap (<-choose (.floatToInt s b d)))):Sem Φ):=gX pqc λn _=>mK trivial
 dsimp only;split
 .split
  .exact mK trivial
  .exact any
 .exact any
theorem bH (op:BinOp)(k:FloatKind)(x y:Nat):PQ P (λ_=>True) (Op.Complex.arith op k x y):=by
 unfold Op.Complex.arith;refine gX (qw op k x y) λv hv=>?_
 cases v<;>first|exact KJ|exact mK trivial
theorem zS (v:Φ):PQ P (λ_=>True) (asBool v):=by cases v<;>first|exact KJ|exact mK trivial
theorem wZ (op:BinOp)(k:FloatKind)(x y:Nat):PQ P (λ_=>True) (Op.Complex.cmp op k x y):=gX (ux op k x y) λv _=>zS v
theorem ir (s:FloatKind)(x:Nat)(d:FloatKind):PQ P (λ_=>True) (Op.Complex.conv s x d):=by
 unfold Op.Complex.conv;split
 .exact mK trivial
 .refine gX (Wp s x d) λv hv=>?_
  cases v<;>first|exact KJ|exact mK trivial
theorem Fb (a b c d:Nat):PQ P (λ_=>True) (Op.Complex.product a b c d):=
 gX (bH _ _ _ _) λ_ _=>gX (bH _ _ _ _) λ_ _=>gX (bH _ _ _ _) λ_ _=>gX (bH _ _ _ _) λ_ _=>gX (bH _ _ _ _) λ_ _=>gX (bH _ _ _ _) λ_ _=>mK trivial
theorem sb (s a b c d:Nat):PQ P (λ_=>True) (Op.Complex.corrected s a b c d):=
 gX (bH _ _ _ _) λ_ _=>gX (bH _ _ _ _) λ_ _=>gX (bH _ _ _ _) λ_ _=>gX (bH _ _ _ _) λ_ _=>gX (bH _ _ _ _) λ_ _=>gX (bH _ _ _ _) λ_ _=>gX (bH _ _ _ _) λ_ _=>gX (bH _ _ _ _) λ_ _=>mK trivial
theorem Da (a b c d:Nat):PQ P (λ_=>True) (Op.Complex.quotient a b c d):=by
 unfold Op.Complex.quotient;have tail:∀p:Nat×Nat,PQ P (λ_=>True) (do
   let zero:=(<-Op.Complex.cmp .eql .f64 c 0)&&(<-Op.Complex.cmp .eql .f64 d 0)
   if !(Op.Complex.isNaN p.1&&Op.Complex.isNaN p.2) then Pure.pure p
   else if zero&&(!Op.Complex.isNaN a||!Op.Complex.isNaN b) then
    Pure.pure (<-Op.Complex.mul (Op.Complex.copysign Op.Complex.inf c) a,<-Op.Complex.mul (Op.Complex.copysign Op.Complex.inf c) b)
   else if(Op.Complex.isInf a||Op.Complex.isInf b)&&Op.Complex.isFinite c&&Op.Complex.isFinite d then
    Op.Complex.corrected Op.Complex.inf (Op.Complex.inf2one a) (Op.Complex.inf2one b) c d
   else if(Op.Complex.isInf c||Op.Complex.isInf d)&&Op.Complex.isFinite a&&Op.Complex.isFinite b then
    Op.Complex.corrected 0 a b (Op.Complex.inf2one c) (Op.Complex.inf2one d)
   else Pure.pure p):=by
  intro p;refine gX (wZ _ _ _ _) λ_ _=>gX (wZ _ _ _ _) λ_ _=>?_
  dsimp only;split
  .exact mK trivial
  .split
   .exact gX (bH _ _ _ _) λ_ _=>gX (bH _ _ _ _) λ_ _=>mK trivial
   .split
    .exact sb _ _ _ _ _
    .split
     .exact sb _ _ _ _ _
     .exact mK trivial
 refine gX (wZ _ _ _ _) λt _=>?_
 cases t
 .exact gX (bH _ _ _ _) λ_ _=>gX (bH _ _ _ _) λ_ _=>gX (bH _ _ _ _) λ_ _=>gX (bH _ _ _ _) λ_ _=>gX (bH _ _ _ _) λ_ _=>gX (bH _ _ _ _) λ_ _=>gX (bH _ _ _ _) λ_ _=>gX (bH _ _ _ _) λ_ _=>gX (bH _ _ _ _) λ_ _=>gX (Q:=λ_=>True) (mK trivial) λp _=>tail p
 .exact gX (bH _ _ _ _) λ_ _=>gX (bH _ _ _ _) λ_ _=>gX (bH _ _ _ _) λ_ _=>gX (bH _ _ _ _) λ_ _=>gX (bH _ _ _ _) λ_ _=>gX (bH _ _ _ _) λ_ _=>gX (bH _ _ _ _) λ_ _=>gX (bH _ _ _ _) λ_ _=>gX (bH _ _ _ _) λ_ _=>gX (Q:=λ_=>True) (mK trivial) λp _=>tail p
theorem AX (op:BinOp)(k:FloatKind)(a b c d:Nat):PQ P fl (Op.complexOp op k a b c d):=by
 unfold Op.complexOp;have two:∀o,PQ P fl (do Pure.pure (.complex k (<-Op.Complex.arith o k a c) (<-Op.Complex.arith o k b d)):Sem Φ):=λo=>gX (bH _ _ _ _) λ_ _=>gX (bH _ _ _ _) λ_ _=>mK trivial
 cases op<;>first|exact KJ|exact two _|exact gX (wZ _ _ _ _) λ_ _=>gX (wZ _ _ _ _) λ_ _=>mK trivial|skip
 .refine gX (ir _ _ _) λ_ _=>gX (ir _ _ _) λ_ _=>gX (ir _ _ _) λ_ _=>gX (ir _ _ _) λ_ _=>?_
  exact gX (Fb _ _ _ _) λ_ _=>gX (ir _ _ _) λ_ _=>gX (ir _ _ _) λ_ _=>mK trivial
 .refine gX (ir _ _ _) λ_ _=>gX (ir _ _ _) λ_ _=>gX (ir _ _ _) λ_ _=>gX (ir _ _ _) λ_ _=>?_
  exact gX (Da _ _ _ _) λ_ _=>gX (ir _ _ _) λ_ _=>gX (ir _ _ _) λ_ _=>mK trivial
def Im {β:Type}(R:β->β->Prop):ForInStep β->ForInStep β->Prop
 |.done a,.done b|.yield a,.yield b=>R a b
 |_,_=>False
theorem kP {α β:Type}{R:β->β->Prop}{f f':α->β->Sem (ForInStep β)}:∀(l:List α),(∀a∈l,∀b b',R b b'->ba P π N V (Im R) (f a b) (f' a b'))->∀b b',R b b'->ba P π N V R (forIn l b f) (forIn l b' f')
 |[],_,b,b',h=>by simp only[List.forIn_nil];exact al h
 |a::l,hf,b,b',h=>by
  simp only[List.forIn_cons];refine(hf a (by simp) b b' h).bind' λx x' hx=>?_
  cases x<;>cases x'<;>first|exact hx.elim|exact al hx|exact kP l (λa ha=>hf a (by simp[ha])) _ _ hx
theorem vg {α β:Type}{R:β->β->Prop}{f f':α->β->Sem (ForInStep β)}(xs:Array α)(hf:∀a∈xs,∀b b',R b b'->ba P π N V (Im R) (f a b) (f' a b'))(b b':β)(h:R b b'):ba P π N V R (forIn xs b f) (forIn xs b' f'):=by
 rw[<-Array.forIn_toList,<-Array.forIn_toList];exact kP _ (λa ha=>hf a (by simpa using ha)) b b' h
theorem ve {β:Type}{R:β->β->Prop}{f f':Nat->β->Sem (ForInStep β)}(r:Std.Legacy.Range)(hf:∀a,∀b b',R b b'->ba P π N V (Im R) (f a b) (f' a b'))(b b':β)(h:R b b'):ba P π N V R (forIn r b f) (forIn r b' f'):=by
 rw[Std.Legacy.Range.forIn_eq_forIn_range',Std.Legacy.Range.forIn_eq_forIn_range'];exact kP _ (λa _=>hf a) b b' h
def eqTy (P:ω):Nat->η->Bool
 |0,_=>false
 |n+1,t=>match P.underlying t with
  |some .bool|some (.int _)|some .string=>(match(P.info? t).map (·.desc) with|some (TypeDesc.named s _)=>s != "sync.copyChecker"|_=>true)
  |some (.struct fs)=>fs.all λf=>eqTy P n f.type
  |some (.array _ e)=>eqTy P n e
  |_=>false
theorem VV.AW {p:Option Addr}(h:VV V (.pointer p)){a:Addr}(e:p=some a):V a.block:=by subst e;exact h.ptr
theorem ew {β:Type}{R:β->β->Prop}{a:Addr}(hv:V a.block){f f':Addr×Bool->Sem β}(hf:∀x:Addr×Bool,ba P π N (λi=>V i\/i=x.1.block) R (f x) (f' (aZ π x.1,x.2))):
  ba P π N V R (behindNumber a>>=f) (behindNumber (aZ π a)>>=f'):=by
 have here:ba P π N V R (f (a,false)) (f' (aZ π a,false)):=(hf (a,false)).weak λi hi=>hi.elim id λe=>e▸hv
 unfold behindNumber numberAt;rw[bind_assoc,bind_assoc,bind_assoc,bind_assoc];refine ba.shape (k:=λx=>_) hv λx=>?_
 cases x with
 |some y=>exact here
 |none=>
  refine ba.getObj (k:=λx=>_) λo ho=>?_
  cases o with
  |number b l=>exact(hf (b,l)).weak λi hi=>hi.elim .inl λe=> .inr (.inr e)
  |_=>first|exact ho.elim|exact here.weak λi hi=> .inl hi
theorem oC {a:Addr}(hv:V a.block):ba P π N V Eq (noView a) (noView (aZ π a)):=EO hv a rfl
theorem qS {a:Addr}(hv:V a.block):ba P π N V Eq (byteOf a) (byteOf (aZ π a)):=by
 unfold byteOf;obtain⟨b,off,sp⟩:=a;cases sp with
 |some s=>exact al rfl
 |none=>
  simp only[pure_bind];refine cD.bind' λz z' h=>?_
  rw[h.1,h.2];refine(oC hv).bind' λ_ _ _=>?_
  refine ba.shape (k:=λx=>_) hv λx=>?_
  cases x with
  |none=>exact aj
  |some e=>
   obtain⟨e,n⟩:=e;dsimp only[Sem.bind];show ba P π N V Eq (if P.cellsOf e=0 then _ else _) (if P.cellsOf e=0 then _ else _)
   by_cases h0:P.cellsOf e=0
   .rw[χ h0,χ h0];exact al rfl
   .rw[ζ h0,ζ h0]
    show ba P π N V Eq (match byteOfCell P P.depth e (off%P.cellsOf e) with|some b=>_|_=>_) (match byteOfCell P P.depth e (off%P.cellsOf e) with|some b=>_|_=>_);cases byteOfCell P P.depth e (off%P.cellsOf e) with
    |none=>exact aj
    |some b=>exact al rfl
theorem CO (h0:π 0=0)(hi:∀i j,π i=π j->i=j)(hP1:P.globals.size<=1)(a b:Nat):(π a==π b&&decide (π a<P.globals.size))=(a==b&&decide (a<P.globals.size)):=by
 have e1:(π a==π b)=(a==b):=by
  rw[Bool.eq_iff_iff,ai0,ai0];exact⟨hi _ _,λh=>by rw[h]⟩
 have e2:decide (π a<P.globals.size)=decide (a<P.globals.size):=by
  rw[decide_eq_decide];constructor
  .intro h
   have:a=0:=hi a 0 (by rw[h0];omega);rw[this] at h⊢;rw[h0] at h;exact h
  .intro h
   have:a=0:=by omega
   rw[this] at h⊢;rw[h0];exact h
 rw[e1,e2]
theorem zM (V:Nat->Prop){a b:Addr}(ha:V a.block)(hb:V b.block){β:Type}{R:β->β->Prop}{f:Nat->Nat->Sem β}{f':Nat->Nat->Sem β}(hf:∀x y,ba P π N V R (f x y) (f' x y)):
  ba P π N V R (byteOf a>>=λx=>byteOf b>>=λy=>f x y) (byteOf (aZ π a)>>=λx=>byteOf (aZ π b)>>=λy=>f' x y):=
 (qS ha).bind' λx _ h=>by subst h;exact(qS hb).bind' λy _ h=>by subst h;exact hf x y
theorem wS (hi:∀i j,π i=π j->i=j){a b:Addr}(h:aZ π a=aZ π b):a=b:=by
 obtain⟨b1,o1,s1⟩:=a;obtain⟨b2,o2,s2⟩:=b;simp only[aZ,Addr.mk.injEq] at h;obtain⟨h1,h2,h3⟩:=h;rw[hi _ _ h1,h2,h3]
theorem qn {a:Addr}(hN:∀r,V r->¬N r)(hv:V a.block):ba P π N V Eq (stringish a) (stringish (aZ π a)):=by
 unfold stringish;refine ba.frozen (k:=λx=>_) hv (hN _ hv) λx=>?_
 cases x with
 |true=>exact al rfl
 |false=>
  refine ba.shape (k:=λx=>_) hv λx=>?_
  cases x with
  |none=>exact al rfl
  |some y=>exact ba.frozen (a:={block:=a.block,off:=y.2}) hv (hN _ hv) λx=> .pure rfl
theorem AF {a b:Addr}(hN:∀r,V r->¬N r)(ha:V a.block)(hb:V b.block):ba P π N V Eq (mayBeOne a b) (mayBeOne (aZ π a) (aZ π b)):=by
 unfold mayBeOne;refine(qn hN ha).bind' λx _ h=>?_
 subst h;refine(qn hN hb).bind' λy _ h=>?_
 subst h;refine ba.shape (k:=λx=>_) ha λu=>?_
 refine ba.shape (k:=λx=>_) hb λv=>?_
 exact al rfl
theorem AC {a b:Addr}(hinj:∀i j,π i=π j->i=j)(hN:∀r,V r->¬N r)(ha:V a.block)(hb:V b.block):ba P π N V Eq (sameAddr a b) (sameAddr (aZ π a) (aZ π b)):=by
 unfold sameAddr;have e1:((aZ π a).block==(aZ π b).block)=(a.block==b.block):=by
  rw[Bool.eq_iff_iff,ai0,ai0];exact⟨hinj _ _,λh=>congrArg π h⟩
 have e2:(aZ π a==aZ π b)=(a==b):=by
  rw[Bool.eq_iff_iff,ai0,ai0];exact⟨wS hinj,λh=>by rw[h]⟩
 rw[e1,e2];refine cI (al rfl) ?_;refine ba.frozen (k:=λx=>_) ha (hN _ ha) λx=>?_
 refine ba.frozen (k:=λx=>_) hb (hN _ hb) λy=>?_
 refine cI (aI trivial) ?_;refine(oC ha).bind' λ_ _ _=>?_
 refine(oC hb).bind' λ_ _ _=>?_
 refine(AF hN ha hb).bind' λz _ h=>?_
 subst h;refine cI (iz.bind' λn _ h=>?_) (al rfl);subst h;exact al rfl
def lI (P:ω)(t:η):Bool:=match P.underlying t with|some (.pointer _)=>true|_=>false
theorem oI {pe:Bool}(hN:pe=true->∀r,V r->¬N r)(h00:π 0=0)(hinj:∀i j,π i=π j->i=j)(hP1:P.globals.size<=1):∀(d n:Nat) (t:η) (x y:Φ),(eqTy P n t=true\/(x= .pointer none\/y= .pointer none)\/(pe&&lI P t)=true)->VV V x->VV V y->
  ba P π N V Eq (Op.equalIn d t x y) (Op.equalIn d t (Value.ren π x) (Value.ren π y))
 |0,_,_,_,_,_,_,_=>aI trivial
 |d+1,n,t,x,y,ht,hx,hy=>by
  unfold Op.equalIn;refine(aE t).bind' λu u' h=>?_
  obtain⟨rfl,hu⟩:=h;cases u with
  |bool=>
   cases x with
   |bool a=>cases y with
    |bool b=>simp only[dK];exact al rfl
    |_=>exact aj
   |_=>exact aj
  |string=>
   cases x with
   |string a=>cases y with
    |string b=>simp only[bF];exact al rfl
    |_=>exact aj
   |_=>exact aj
  |int ki=>
   cases x with
   |int k a=>cases y with
    |int k' b=>
     simp only[cA]
     by_cases hk:k=k'
     .simp only[hk,if_true];exact al rfl
     .simp only[hk,if_false];exact aj
    |pointer b=>
     cases b with
     |none=>cases a with
      |ofNat m=>cases m<;>exact aI trivial
      |negSucc m=>exact aI trivial
     |some b=>cases a with
      |ofNat m=>cases m with
       |zero=>simp only[cA,aU,ε];exact al rfl
       |succ m=>exact aI trivial
      |negSucc m=>exact aI trivial
    |_=>exact aj
   |pointer a=>cases a with
    |none=>cases y<;>exact aI trivial
    |some a=>cases y with
     |int k' b=>cases b with
      |ofNat m=>cases m with
       |zero=>simp only[cA,aU,ε];exact al rfl
       |succ m=>exact aI trivial
      |negSucc m=>exact aI trivial
     |pointer b=>cases b with
      |none=>exact aI trivial
      |some b=>
       simp only[aU,ε];refine ew hx.ptr λp=>ew (.inl hy.ptr) λq=>?_
       dsimp only;refine cD.bind' λz z' h=>?_
       obtain⟨rfl,rfl⟩:=h;have e2:=CO (P:=z') h00 hinj hP1 p.1.block q.1.block;rw[show(aZ π p.1).block=π p.1.block from rfl,show(aZ π q.1).block=π q.1.block from rfl,e2];refine cI ?_ ?_
       .exact zM _ (.inl (.inr rfl)) (.inr rfl) λx y=>al rfl
       .refine(eh t).bind' λi i' h=>?_
        obtain⟨rfl,hi⟩:=h;have ht':eqTy z' n t=true:=by simpa [lI,hu] using ht
        have hd:∀s u,i.desc= .named s u->s≠ "sync.copyChecker":=λs u e=>by
         cases n with
         |zero=>simp[eqTy] at ht'
         |succ n=>simpa [eqTy,hu,hi,e] using ht'
        refine .dead ?_;split
        .rename_i e
         exact absurd rfl (hd _ _ e)
        .exact Dead.halt trivial
     |_=>exact aI trivial
   |_=>cases y<;>first|exact aj|exact aI trivial
  |pointer el=>
   have ht':=ht.resolve_left (by cases n<;>simp[eqTy,hu]);rcases ht' with(rfl|rfl)|hpe
   .cases y with
    |pointer b=>simp only[aU];exact al (by cases b<;>rfl)
    |_=>exact aj
   .cases x with
    |pointer a=>cases a<;>(simp only[aU];exact al rfl)
    |_=>exact aj
   .have hN':=hN (by simp only[ξ] at hpe;exact hpe.1)
    cases x with
    |pointer a=>cases a with
     |none=>cases y with
      |pointer b=>simp only[aU];exact al (by cases b<;>rfl)
      |_=>exact aj
     |some a=>cases y with
      |pointer b=>cases b with
       |none=>simp only[aU];exact al rfl
       |some b=>
        simp only[aU,ε];refine(cL el).bind' λm _ h=>?_
        obtain⟨rfl,_⟩:=h;have e2:(aZ π a==aZ π b)=(a==b):=by
         rw[Bool.eq_iff_iff,ai0,ai0];exact⟨wS hinj,λh=>by rw[h]⟩
        rw[e2];refine cI (AC hinj hN' hx.ptr hy.ptr) (cI (al rfl) (iz.bind' λn _ h=>?_));subst h;exact al rfl
      |_=>exact aj
    |_=>exact aj
  |unsafePointer=>
   have ht':x= .pointer none\/y= .pointer none:=(ht.resolve_left (by cases n<;>simp[eqTy,hu])).resolve_right (by simp[lI,hu]);rcases ht' with rfl|rfl
   .cases y with
    |pointer b=>cases b<;>(simp only[aU];exact al rfl)
    |_=>exact aj
   .cases x with
    |pointer a=>cases a<;>(simp only[aU];exact al rfl)
    |_=>exact aj
  |struct fs=>
   cases x with
   |agg xs=>
     cases y with
    |agg ys=>
     have ht':eqTy P n t=true:=by simpa [lI,hu] using ht
     cases n with
     |zero=>simp[eqTy] at ht'
     |succ n=>
      simp only[eqTy,hu,af0] at ht';simp only[dm];refine cD.bind' λz z' h=>?_
      rw[h.1,h.2];split
      .exact aI trivial
      .refine(vg (R:=Eq) fs (λf hf b b' hb=>?_) _ _ rfl).bind' λr r' h=>?_
       .subst hb
        by_cases hn:f.name≠ "_"
        .simp only[hn,ne_eq,not_false_eq_true,if_true]
         refine(kN f.type xs f.offset).bind' λu u' h=>?_
         obtain⟨rfl,h1⟩:=h;refine(kN f.type ys f.offset).bind' λv v' h=>?_
         obtain⟨rfl,h2⟩:=h;refine(oI hN h00 hinj hP1 d n f.type u v (.inl (ht' f hf)) (hx.part h1) (hy.part h2)).bind' λc c' h=>?_
         subst h;cases c<;>exact al rfl
        .simp only[hn,if_false]
         exact al rfl
       .subst h
        obtain⟨r1,r2⟩:=r;cases r1<;>exact al rfl
    |_=>exact aj
   |_=>exact aj
  |array len e=>
   cases x with
   |agg xs=>cases y with
    |agg ys=>
     have ht':eqTy P n t=true:=by simpa [lI,hu] using ht
     cases n with
     |zero=>simp[eqTy] at ht'
     |succ n=>
      simp only[eqTy,hu] at ht';simp only[dm];refine(cL e).bind' λm m' h=>?_
      obtain⟨rfl,_⟩:=h;refine(ve (R:=Eq) _ (λa b b' hb=>?_) _ _ rfl).bind' λr r' h=>?_
      .subst hb
       refine(kN e xs _).bind' λu u' h=>?_
       obtain⟨rfl,h1⟩:=h;refine(kN e ys _).bind' λv v' h=>?_
       obtain⟨rfl,h2⟩:=h;refine(oI hN h00 hinj hP1 d n e u v (.inl ht') (hx.part h1) (hy.part h2)).bind' λc c' h=>?_
       subst h;cases c<;>exact al rfl
      .subst h
       obtain⟨r1,r2⟩:=r;cases r1<;>exact al rfl
    |_=>exact aj
   |_=>exact aj
  |slice e=>
   have ht':x= .pointer none\/y= .pointer none:=(ht.resolve_left (by cases n<;>simp[eqTy,hu])).resolve_right (by simp[lI,hu]);rcases ht' with rfl|rfl
   .exact aj
   .cases x with
    |slice a _ _=>cases a<;>exact aj
    |_=>exact aj
  |map ke e=>
   have ht':x= .pointer none\/y= .pointer none:=(ht.resolve_left (by cases n<;>simp[eqTy,hu])).resolve_right (by simp[lI,hu]);rcases ht' with rfl|rfl
   .exact aj
   .cases x with
    |map a=>cases a<;>exact aj
    |_=>exact aj
  |_=>
   have ht':x= .pointer none\/y= .pointer none:=(ht.resolve_left (by cases n<;>simp[eqTy,hu])).resolve_right (by simp[lI,hu]);rcases ht' with rfl|rfl
   .exact aj
   .cases x<;>exact aj
theorem oB (h00:π 0=0)(hinj:∀i j,π i=π j->i=j)(hP1:P.globals.size<=1){a b:Addr}(ha:V a.block)(hb:V b.block){β:Type}{R:β->β->Prop}{f f':Nat×Nat->Sem β}(hf:∀x,ba P π N V R (f x) (f' x)):
  ba P π N V R (Op.twoPlaces a b>>=f) (Op.twoPlaces (aZ π a) (aZ π b)>>=f'):=by
 have e2:=CO (P:=P) h00 hinj hP1 a.block b.block;have e3:(π a.block !=π b.block||decide (π a.block>=P.globals.size))=(a.block !=b.block||decide (a.block>=P.globals.size)):=by
  have:=congrArg (!·) e2;simp only[Bool.not_and] at this;have d1:∀x:Nat,(!decide (x<P.globals.size))=decide (x>=P.globals.size):=λx=>by
   rw[<-decide_not];exact decide_eq_decide.2 (by omega)
  rw[d1,d1] at this;exact this
 unfold Op.twoPlaces;simp only[bind_assoc];refine cD.bind' λz z' h=>?_
 rw[h.1,h.2,show(aZ π a).block=π a.block from rfl,show(aZ π b).block=π b.block from rfl,e3]
 by_cases hc:(a.block !=b.block||decide (a.block>=P.globals.size))=true
 .rw[χ hc];exact iy trivial
 .rw[ζ hc,ζ hc]
  simp only[bind_assoc,pure_bind];exact zM _ ha hb λx y=>hf (x,y)
theorem CH (h00:π 0=0)(hinj:∀i j,π i=π j->i=j)(hP1:P.globals.size<=1){k:IntKind}{a b:Addr}(ha:V a.block)(hb:V b.block):ba P π N V (RV π) (Op.addrSub k a b) (Op.addrSub k (aZ π a) (aZ π b)):=by
 unfold Op.addrSub;exact oB h00 hinj hP1 ha hb λx=>al (by simp[RV])
theorem CJ (h00:π 0=0)(hinj:∀i j,π i=π j->i=j)(hP1:P.globals.size<=1){op:BinOp}{a b:Addr}(ha:V a.block)(hb:V b.block):ba P π N V (RV π) (Op.addrCmp op a b) (Op.addrCmp op (aZ π a) (aZ π b)):=by
 unfold Op.addrCmp;refine oB h00 hinj hP1 ha hb λx=>?_
 cases op<;>first|exact aI trivial|exact al (by simp[RV])
theorem oL {k:IntKind}{a:Addr}{n:Int}(hv:V a.block):ba P π N V (RV π) (Op.addrMod k a n) (Op.addrMod k (aZ π a) n):=by
 unfold Op.addrMod;refine ba.shape (k:=λx=>_) hv λx=>?_
 cases x with
 |none=>exact aI trivial
 |some e=>
  obtain⟨e,m⟩:=e;refine(eh e).bind' λi i' h=>?_
  obtain⟨rfl,_⟩:=h;dsimp only;split
  .exact aI trivial
  .refine(qS hv).bind' λb b' h=>?_
   subst h;exact al (by simp[RV])
theorem mb (t:η)(ats:Array η)(p:Option Addr)(y:Φ)(hp:∀a,p=some a->V a.block):
  ba P π N V (λv v'=>v'=Value.ren π v/\∀b,v= .pointer (some b)->∃a,p=some a/\b.block=a.block) (Builtin.unsafeAdd_ ats t #[.pointer p,y]) (Builtin.unsafeAdd_ ats t #[.pointer (p.map (aZ π)),Value.ren π y]):=by
 unfold Builtin.unsafeAdd_;dsimp only;refine(kC y).bind' λn n' h=>?_
 subst h
 by_cases h0:n=0
 .simp only[h0,if_true]
  cases p with
  |none=>exact aI trivial
  |some a=>
   simp only[ε];refine(qQ (hp a rfl)).bind' λx x' h=>?_
   subst h;cases x with
   |some z=>exact aI trivial
   |none=>exact al ⟨by simp,λb hb=>⟨a,rfl,by cases hb;rfl⟩⟩
 .simp only[h0,if_false]
  split
  .exact aI trivial
  .cases p with
   |none=>exact aI trivial
   |some a=>
    simp only[ε];refine ba.shape (k:=λx=>_) (hp a rfl) λx=>?_
    cases x with
    |none=>exact aI trivial
    |some e=>
     obtain⟨e,m⟩:=e;refine cD.bind' λz z' h=>?_
     rw[h.1,h.2];show ba P π N V _ (match cellAtBytes P P.depth e (m/P.cellsOf e) a.off n with|some off=>_|none=>_) (match cellAtBytes P P.depth e (m/P.cellsOf e) a.off n with|some off=>_|none=>_);cases cellAtBytes P P.depth e (m/P.cellsOf e) a.off n with
     |none=>exact aI trivial
     |some o=>exact al ⟨by simp[aZ],λb hb=>⟨a,rfl,by cases hb;rfl⟩⟩
theorem AJ {a:Addr}{l:Bool}(hv:V a.block):ba P π N V (RV π) (asNumber a l) (asNumber (aZ π a) l):=by
 unfold asNumber newObj;exact ba.new (o:= .number a l) trivial (λi hi=>by rw[show i=a.block from hi];exact hv) λb _=> .pure (by simp[RV,aZ])
theorem jX {t:η}{p:Option Addr}{y:Φ}(hp:∀a,p=some a->V a.block):ba P π N V (RV π) (movedNumber t (.pointer p) y) (movedNumber t (.pointer (p.map (aZ π))) (Value.ren π y)):=by
 unfold movedNumber;refine(aE t).bind' λu u' h=>?_
 obtain⟨rfl,hu⟩:=h;cases p with
 |none=>
  have tail:=(mb (P:=P) (π:=π) (N:=N) (V:=V) t #[] none y (λa h=>by cases h)).mono (R':=RV π) λ_ _ h=>h.1
  cases u<;>first|exact aI trivial|exact tail
 |some a=>
  have tail:ba P π N V (RV π) (behindNumber a>>=λx=>Builtin.unsafeAdd_ #[] t #[.pointer (some x.1),y]>>=λv=>match v with|.pointer (some b)=>asNumber b x.2|v=>Pure.pure v)
    (behindNumber (aZ π a)>>=λx=>Builtin.unsafeAdd_ #[] t #[.pointer (some x.1),Value.ren π y]>>=λv=>match v with|.pointer (some b)=>asNumber b x.2|v=>Pure.pure v):=by
   refine ew (hp a rfl) λx=>?_
   obtain⟨x,l⟩:=x;dsimp only;refine(mb t #[] (some x) y (λa h=>by cases h;exact .inr rfl)).bind' λv v' h=>?_
   obtain⟨rfl,h⟩:=h;cases v with
   |pointer b=>cases b with
    |none=>simp only[aU];exact al (by simp[RV])
    |some b=>
     obtain⟨a',ha,hb⟩:=h b rfl;cases ha;simp only[aU,ε];exact AJ (.inr hb)
   |_=>simp only[dK,cA,du,cV,bF,dG,cM,bK,dA,dX,cR,dm,cQ,di];exact al (by simp[RV])
  cases u<;>first|exact aI trivial|exact tail
theorem tu {t:η}{p:Option Addr}{y:Φ}(hp:∀a,p=some a->V a.block):ba P π N V (RV π) (movedPointer t (.pointer p) y) (movedPointer t (.pointer (p.map (aZ π))) (Value.ren π y)):=by
 unfold movedPointer;have tail:=(mb (P:=P) (π:=π) (N:=N) (V:=V) t #[] p y hp).mono (R':=RV π) λ_ _ h=>h.1
 cases p with
 |none=>exact tail
 |some a=>
  simp only[ε];refine(AD (hp a rfl)).bind' λx x' h=>?_
  subst h;cases x with
  |some z=>exact aI trivial
  |none=>exact tail
theorem IT {pe:Bool}(hN:pe=true->∀r,V r->¬N r)(h00:π 0=0)(hinj:∀i j,π i=π j->i=j)(hP1:P.globals.size<=1){n:Nat}{t:η}{x y:Φ}(ht:eqTy P n t=true\/(x= .pointer none\/y= .pointer none)\/(pe&&lI P t)=true)(hx:VV V x)(hy:VV V y):
  ba P π N V Eq (Op.equal t x y) (Op.equal t (Value.ren π x) (Value.ren π y)):=oI hN h00 hinj hP1 _ n t x y ht hx hy
theorem LY {α:Type}{Q:α->Prop}(m:String):PQ P Q (runtimePanic (.error m):Sem α):= .program (.halt trivial)
theorem LX (op:BinOp)(k:IntKind)(a:Int)(k':IntKind)(b:Int):PQ P fl (Op.shift op k a k' b):=by
 unfold Op.shift;split
 .exact LY _
 .cases op<;>first|exact KJ|exact mK trivial
theorem uw (op:BinOp)(k:IntKind)(a b:Int):PQ P fl (Op.intArith op k a b):=by
 unfold Op.intArith;cases op<;>first|exact KJ|exact mK trivial
theorem Jb (op:BinOp)(k:IntKind)(a b:Int):PQ P fl (Op.intDiv op k a b):=by
 unfold Op.intDiv;split
 .exact LY _
 .cases op<;>first|exact KJ|exact mK trivial
theorem wX (op:BinOp)(k:IntKind)(a b:Int):PQ P fl (Op.intBits op k a b):=by
 unfold Op.intBits;cases op<;>first|exact KJ|exact mK trivial
theorem Jc (op:BinOp)(a b:Int):PQ P fl (Op.intCmp op a b):=by
 unfold Op.intCmp;cases op<;>first|exact KJ|exact mK trivial
theorem uv (op:BinOp)(a b:Ξ):PQ P fl (Op.stringOp op a b):=by
 unfold Op.stringOp;cases op<;>first|exact KJ|exact mK trivial|skip
 dsimp only;split
 .exact .halt trivial
 .exact mK trivial
theorem wY {α:Type}{Q:α->Prop}{p:Prop}[Decidable p]{m:String}{s:Sem α}(h:PQ P Q s):PQ P Q (if p then stuck m else s):=by
 split
 .exact KJ
 .exact h
theorem Qi (op:BinOp)(t:η)(k k':IntKind)(a b:Int):PQ P fl (binOp op t (.int k a) (.int k' b)):=by
 unfold binOp;cases op<;>first|exact LX _ _ _ _ _|exact wY (uw _ _ _ _)|exact wY (Jb _ _ _ _)|exact wY (wX _ _ _ _)|exact wY (Jc _ _ _)
theorem Jd (op:BinOp)(t:η)(k k':FloatKind)(a b:Nat):PQ P fl (binOp op t (.float k a) (.float k' b)):=by
 unfold binOp;cases op<;>first|exact wY (qw _ _ _ _)|exact wY (ux _ _ _ _)
theorem Db (op:BinOp)(t:η)(k k':FloatKind)(a b c d:Nat):PQ P fl (binOp op t (.complex k a b) (.complex k' c d)):=by
 unfold binOp;cases op<;>exact wY (AX _ _ _ _ _ _)
theorem Fa (op:BinOp)(t:η)(a b:Ξ):PQ P fl (binOp op t (.string a) (.string b)):=by
 unfold binOp;cases op<;>exact uv _ _ _
theorem GP {s s':Sem Bool}(h:ba P π N V Eq s s'):ba P π N V (RV π) (do Pure.pure (.bool (<-s)):Sem Φ) (do Pure.pure (.bool (<-s')):Sem Φ):=h.bind' λb b' e=>by subst e;exact al (by simp[RV])
theorem GO {s s':Sem Bool}(h:ba P π N V Eq s s'):ba P π N V (RV π) (do Pure.pure (.bool (!(<-s))):Sem Φ) (do Pure.pure (.bool (!(<-s'))):Sem Φ):=h.bind' λb b' e=>by subst e;exact al (by simp[RV])
def ja:Φ->Bool
 |.int _ _|.float _ _|.complex _ _ _|.string _|.pointer _=>false
 |_=>true
theorem D7 {v:Φ}(h:ja v=true):ja (Value.ren π v)=true:=by cases v<;>simp_all [ja]
theorem pE {t:η}{x y:Φ}(h:ja x=true\/ja y=true):binOp .eql t x y=(do Pure.pure (.bool (<-Op.equal t x y))):=by
 unfold binOp;cases x<;>cases y<;>first|rfl|simp[ja] at h
theorem pD {t:η}{x y:Φ}(h:ja x=true\/ja y=true):binOp .neq t x y=(do Pure.pure (.bool (!(<-Op.equal t x y)))):=by
 unfold binOp;cases x<;>cases y<;>first|rfl|simp[ja] at h
theorem Kc {op:BinOp}{t:η}{x y:Φ}(h:ja x=true\/ja y=true)(h1:op≠.eql)(h2:op≠.neq):Dead P (binOp op t x y):=by
 unfold binOp;cases op<;>first|exact absurd rfl h1|exact absurd rfl h2|skip
 all_goals (cases x with
  |pointer a=>cases a<;>cases y<;>first|exact Dead.halt trivial|(simp[ja] at h;done)
  |_=>cases y with
   |pointer b=>cases b<;>first|exact Dead.halt trivial|(simp[ja] at h;done)
   |_=>first|exact Dead.halt trivial|(simp[ja] at h;done))
theorem IW {pe:Bool}(hN:pe=true->∀r,V r->¬N r)(h00:π 0=0)(hinj:∀i j,π i=π j->i=j)(hP1:P.globals.size<=1){op:BinOp}{n:Nat}{t:η}{x y:Φ}
  (hq:op= .eql\/op= .neq->eqTy P n t=true\/(x= .pointer none\/y= .pointer none)\/(pe&&lI P t)=true) (hx:VV V x) (hy:VV V y):
  ba P π N V (RV π) (binOp op t x y) (binOp op t (Value.ren π x) (Value.ren π y)):=by
 have hE:(op= .eql\/op= .neq)->ba P π N V Eq (Op.equal t x y) (Op.equal t (Value.ren π x) (Value.ren π y)):=λh=>IT hN h00 hinj hP1 (hq h) hx hy
 by_cases hd:ja x=true\/ja y=true
 .have hd':ja (Value.ren π x)=true\/ja (Value.ren π y)=true:=hd.imp D7 D7
  by_cases h1:op= .eql
  .subst h1
   rw[pE hd,pE hd'];exact GP (hE (.inl rfl))
  .by_cases h2:op= .neq
   .subst h2
    rw[pD hd,pD hd'];exact GO (hE (.inr rfl))
   .exact .dead (Kc hd h1 h2)
 .cases x<;>first|exact absurd (.inl rfl) hd|skip
  all_goals (cases y<;>first|exact absurd (.inr rfl) hd|skip)
  all_goals (simp only[cA,du,cV,bF,aU] at hE⊢)
  all_goals first
   |exact dP (Qi _ _ _ _ _ _)
   |exact dP (Jd _ _ _ _ _ _)
   |exact dP (Db _ _ _ _ _ _ _ _)
   |exact dP (Fa _ _ _ _)
   |skip
  all_goals unfold binOp
  all_goals (cases op<;>first|exact aj|exact aI trivial|exact GP (hE (.inl rfl))|exact GO (hE (.inr rfl))|skip)
  case neg.int.pointer.add k a p=>
   have:=jX (P:=P) (π:=π) (N:=N) (V:=V) (t:=t) (p:=p) (y:= .int k a) λb e=>hy.AW e
   rw[cA] at this;exact this
  case neg.int.pointer.and k a p=>
   cases p with
   |none=>exact aI trivial
   |some p=>exact ew hy.ptr λz=>oL (.inr rfl)
  case neg.pointer.int.add p k a=>
   have h1:=jX (P:=P) (π:=π) (N:=N) (V:=V) (t:=t) (p:=p) (y:= .int k a) λb e=>hx.AW e
   have h2:=tu (P:=P) (π:=π) (N:=N) (V:=V) (t:=t) (p:=p) (y:= .int k a) λb e=>hx.AW e
   rw[cA] at h1 h2;refine(aE t).bind' λu u' h=>?_
   obtain⟨rfl,_⟩:=h;cases u<;>first|exact h2|exact h1
  case neg.pointer.int.sub p k a=>
   have h1:=jX (P:=P) (π:=π) (N:=N) (V:=V) (t:=t) (p:=p) (y:= .int k (-a)) λb e=>hx.AW e
   rw[cA] at h1;exact h1
  case neg.pointer.int.rem p k a=>
   cases p with
   |none=>exact aI trivial
   |some p=>exact ew hx.ptr λz=>oL (.inr rfl)
  case neg.pointer.int.and p k a=>
   cases p with
   |none=>exact aI trivial
   |some p=>exact ew hx.ptr λz=>oL (.inr rfl)
  case neg.pointer.pointer.sub p q=>
   cases p with
   |none=>cases q<;>exact aI trivial
   |some p=>cases q with
    |none=>exact aI trivial
    |some q=>exact ew hx.ptr λz=>ew (.inl hy.ptr) λz'=>CH h00 hinj hP1 (.inl (.inr rfl)) (.inr rfl)
  all_goals first
   |(rename_i p q;cases p<;>cases q<;>first
     |exact aI trivial
     |exact ew hx.ptr λz=>ew (.inl hy.ptr) λz'=>CJ h00 hinj hP1 (.inl (.inr rfl)) (.inr rfl)
     |(done))
   |(rename_i p _;cases p<;>exact aI trivial)
   |(rename_i p _ _;cases p<;>exact aI trivial)
   |(rename_i p _ _ _;cases p<;>exact aI trivial)
theorem LV {op:UnOp}{x:Φ}:∀{π:Nat->Nat},ba P π N V (RV π) (Op.unary op x) (Op.unary op (Value.ren π x)):=by
 intro π;unfold Op.unary;cases x with
 |int k n=>simp only[cA];cases op<;>first|exact aj|exact dP (uw _ _ _ _)|exact dP (wX _ _ _ _)
 |float k n=>simp only[du];cases op<;>first|exact aj|exact dP (mK trivial)
 |complex k n m=>simp only[cV];cases op<;>first|exact aj|exact dP (mK trivial)
 |bool b=>simp only[dK];cases op<;>first|exact aj|exact dP (mK trivial)
 |pointer a=>cases a<;>cases op<;>first|exact aj|exact aI trivial
 |_=>cases op<;>exact aj
theorem CE {op:BinOp}{n:Nat}{t:η}{x y:aa8}{a b:Φ}(hq:op= .eql\/op= .neq->((eqTy P n t=true\/lI P t=true)/\P.eqGuardType P.depth t=false)\/a= .pointer none\/b= .pointer none):
  ba P π N V Eq (eqGuard op t x y a b) (eqGuard op t x y (Value.ren π a) (Value.ren π b)):=by
 unfold eqGuard;cases op<;>first|exact al rfl|skip
 all_goals
  rcases hq (by simp) with⟨h1,h2⟩|rfl|rfl
  .cases a with
   |nilIface=>cases b with
    |nilIface=>
     simp only[cM];refine cI (al rfl) (cI (al rfl) ?_)
     .rw[show Op.maxDepth=9999+1 from rfl]
      unfold Op.eqGuardIn;rw[bind_assoc];refine(aE t).bind' λu u' h=>?_
      obtain⟨rfl,hu⟩:=h;cases u<;>first|exact al rfl|(cases n<;>simp[eqTy,lI,hu] at h1)
    |_=>simp only[dK,cA,du,cV,bF,aU,dG,cM,bK,dA,dX,cR,dm,cQ,di];exact al rfl
   |agg xs=>cases b with
    |agg ys=>
     simp only[dm];refine cD.bind' λz z' h=>?_
     rw[h.1,h.2];refine cD.bind' λz z' h=>?_
     rw[h.1,h.2,h2];exact al rfl
    |_=>simp only[dK,cA,du,cV,bF,aU,dG,cM,bK,dA,dX,cR,dm,cQ,di];exact al rfl
   |_=>simp only[dK,cA,du,cV,bF,aU,dG,cM,bK,dA,dX,cR,dm,cQ,di];exact al rfl
  .simp only[aU];exact al rfl
  .cases a<;>(simp only[dK,cA,du,cV,bF,aU,dG,cM,bK,dA,dX,cR,dm,cQ,di];exact al rfl)
end
end
end
end Go.Proofs.YtchcmhodnkgojaaGreat
