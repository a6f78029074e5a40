/- On the way to the last text; put together and shortened by program. -/
import Derived.Test.YtchcmhodnkgojaaGreatPart3
set_option linter.all false
set_option maxRecDepth 100000
set_option maxHeartbeats 8000000
namespace Go.Proofs.YtchcmhodnkgojaaGreat
noncomputable section
section
open Go.Conc
section
variable {P:Program}{π:Nat->Nat}{N V:Nat->Prop}
theorem qy {r:Nat}(hv:V r):bg P π N V (λa b=>b=a.map λx=>(aZ π x.1,x.2)) (viewAt r) (viewAt (π r)):=by
 unfold viewAt;refine bg.shape (k:=λx=>_) hv λx=>?_
 cases x with
 |some y=>exact au rfl
 |none=>
  refine bg.getObj (k:=λx=>_) λo ho=>?_
  cases o<;>first|exact ho.elim|exact au rfl
theorem As {r:Nat}(hv:V r):bg P π N V (λa b=>b=a.map λx=>(aZ π x.1,x.2)) (numberAt r) (numberAt (π r)):=by
 unfold numberAt;refine bg.shape (k:=λx=>_) hv λx=>?_
 cases x with
 |some y=>exact au rfl
 |none=>
  refine bg.getObj (k:=λx=>_) λo ho=>?_
  cases o<;>first|exact ho.elim|exact au rfl
theorem Ew {r:Nat}(hv:V r)(a:Addr)(ha:a.block=r):bg P π N V Eq (noView a) (noView (aZ π a)):=by
 unfold noView;subst ha;refine(qy hv).bind' λx y h=>?_
 subst h;cases x with
 |none=>exact au rfl
 |some z=>exact aH trivial
theorem cB {α:Type}{R:α->α->Prop}{c:Prop}[Decidable c]{s₁ s₁' s₂ s₂':Sem α}(h1:bg P π N V R s₁ s₁')(h2:bg P π N V R s₂ s₂'):bg P π N V R (if c then s₁ else s₂) (if c then s₁' else s₂'):=by
 split
 .exact h1
 .exact h2
inductive PQ (P:Program){α:Type}(Q:α->Prop):Sem α->Prop
 |pure {a:α} (h:Q a):PQ P Q (.pure a)
 |halt {h:Halt} (hh:kS h):PQ P Q (.halt h)
 |choose {q:Question} {k:Nat->Sem α} (h:∀n,PQ P Q (k n)):PQ P Q (.choose q k)
 |program {k:Program->Sem α} (h:PQ P Q (k P)):PQ P Q (.program k)
theorem PQ.bind {α β:Type}{Q:α->Prop}{Q':β->Prop}{s:Sem α}(h:PQ P Q s){f:α->Sem β}(hf:∀a,Q a->PQ P Q' (f a)):PQ P Q' (s.bind f):=by
 induction h with
 |pure h=>exact hf _ h
 |halt h=>exact .halt h
 |choose _ ih=>exact .choose λn=>ih n
 |program _ ih=>exact .program ih
theorem gy {α β:Type}{Q:α->Prop}{Q':β->Prop}{s:Sem α}(h:PQ P Q s){f:α->Sem β}(hf:∀a,Q a->PQ P Q' (f a)):PQ P Q' (s>>=f):=h.bind hf
theorem mE {α:Type}{Q:α->Prop}{a:α}(h:Q a):PQ P Q (Pure.pure a):= .pure h
theorem Kx {α:Type}{Q:α->Prop}{m:String}:PQ P Q (stuck m:Sem α):= .halt trivial
theorem agC {α β:Type}{Q:β->Prop}{m:String}{f:α->Sem β}:PQ P Q ((stuck m:Sem α)>>=f):= .halt trivial
theorem pqc {q:Question}:PQ P (λ_=>True) (choose q):= .choose λ_=> .pure trivial
theorem Up {α:Type}{Q:α->Prop}{s:Sem α}(h:PQ P Q s):bg P π N V (λa b=>a=b/\Q a) s s:=by
 induction h with
 |pure h=>exact .pure ⟨rfl,h⟩
 |halt h=>exact .dead (.halt h)
 |choose _ ih=>exact .choose λn=>ih n
 |program _ ih=>exact .program ih
def eT:Value->Prop
 |.bool _|.int _ _|.float _ _|.complex _ _ _|.string _=>True
 |_=>False
theorem IU {v:Value}(h:eT v):Value.ren π v=v:=by cases v<;>first|exact h.elim|simp
theorem dJ {s:Sem Value}(h:PQ P eT s):bg P π N V (RV π) s s:=(Up h).mono λa b h=>by rw[RV,IU h.2];exact h.1.symm
theorem p9 (op:BinOp)(k:FloatKind)(x y:Nat):PQ P eT (Op.floatArith op k x y):=by
 unfold Op.floatArith;have tail:∀r:Option Nat,PQ P eT (match r with|some r=>Pure.pure (Value.float k r)|none=>(do let c <-choose (.nanBits k x y);Pure.pure (.float k c))):=by
  intro r;cases r with
  |none=>exact gy pqc λn _=>mE trivial
  |some r=>exact mE trivial
 cases op<;>first|exact tail _|exact agC
theorem uv (op:BinOp)(k:FloatKind)(x y:Nat):PQ P eT (Op.floatCmp op k x y):=by
 unfold Op.floatCmp;cases op<;>first|exact Kx|exact mE trivial
theorem V9 (s:FloatKind)(b:Nat)(d:FloatKind):PQ P eT (Conv.floatToFloat s b d):=by
 unfold Conv.floatToFloat;split
 .exact mE trivial
 .split
  .exact gy pqc λn _=>mE trivial
  .exact mE trivial
  .dsimp only
   split
   .exact gy pqc λn _=>mE trivial
   .exact mE trivial
theorem V8 (s:FloatKind)(b:Nat)(d:IntKind):PQ P eT (Conv.floatToInt s b d):=by
 unfold Conv.floatToInt;have any:PQ P eT (do Pure.pure (.int d (d.wrap (<-choose (.floatToInt s b d)))):Sem Value):=gy pqc λn _=>mE trivial
 dsimp only;split
 .split
  .exact mE trivial
  .exact any
 .exact any
theorem br (op:BinOp)(k:FloatKind)(x y:Nat):PQ P (λ_=>True) (Op.Complex.arith op k x y):=by
 unfold Op.Complex.arith;refine gy (p9 op k x y) λv hv=>?_
 cases v<;>first|exact Kx|exact mE trivial
theorem zL (v:Value):PQ P (λ_=>True) (asBool v):=by cases v<;>first|exact Kx|exact mE trivial
theorem xe (op:BinOp)(k:FloatKind)(x y:Nat):PQ P (λ_=>True) (Op.Complex.cmp op k x y):=gy (uv op k x y) λv _=>zL v
theorem ia (s:FloatKind)(x:Nat)(d:FloatKind):PQ P (λ_=>True) (Op.Complex.conv s x d):=by
 unfold Op.Complex.conv;split
 .exact mE trivial
 .refine gy (V9 s x d) λv hv=>?_
  cases v<;>first|exact Kx|exact mE trivial
theorem ES (a b c d:Nat):PQ P (λ_=>True) (Op.Complex.product a b c d):=
 gy (br _ _ _ _) λ_ _=>gy (br _ _ _ _) λ_ _=>gy (br _ _ _ _) λ_ _=>gy (br _ _ _ _) λ_ _=>gy (br _ _ _ _) λ_ _=>gy (br _ _ _ _) λ_ _=>mE trivial
theorem rR (s a b c d:Nat):PQ P (λ_=>True) (Op.Complex.corrected s a b c d):=
 gy (br _ _ _ _) λ_ _=>gy (br _ _ _ _) λ_ _=>gy (br _ _ _ _) λ_ _=>gy (br _ _ _ _) λ_ _=>gy (br _ _ _ _) λ_ _=>gy (br _ _ _ _) λ_ _=>gy (br _ _ _ _) λ_ _=>gy (br _ _ _ _) λ_ _=>mE trivial
theorem CR (a b c d:Nat):PQ P (λ_=>True) (Op.Complex.quotient a b c d):=by
 unfold Op.Complex.quotient;have tail:∀p:Nat×Nat,PQ P (λ_=>True) (do
   let zero:=(<-Op.Complex.cmp .eql .f64 c 0)&&(<-Op.Complex.cmp .eql .f64 d 0)
   if !(Op.Complex.isNaN p.1&&Op.Complex.isNaN p.2) then Pure.pure p
   else if zero&&(!Op.Complex.isNaN a||!Op.Complex.isNaN b) then
    Pure.pure (<-Op.Complex.mul (Op.Complex.copysign Op.Complex.inf c) a,<-Op.Complex.mul (Op.Complex.copysign Op.Complex.inf c) b)
   else if(Op.Complex.isInf a||Op.Complex.isInf b)&&Op.Complex.isFinite c&&Op.Complex.isFinite d then
    Op.Complex.corrected Op.Complex.inf (Op.Complex.inf2one a) (Op.Complex.inf2one b) c d
   else if(Op.Complex.isInf c||Op.Complex.isInf d)&&Op.Complex.isFinite a&&Op.Complex.isFinite b then
    Op.Complex.corrected 0 a b (Op.Complex.inf2one c) (Op.Complex.inf2one d)
   else Pure.pure p):=by
  intro p;refine gy (xe _ _ _ _) λ_ _=>gy (xe _ _ _ _) λ_ _=>?_
  dsimp only;split
  .exact mE trivial
  .split
   .exact gy (br _ _ _ _) λ_ _=>gy (br _ _ _ _) λ_ _=>mE trivial
   .split
    .exact rR _ _ _ _ _
    .split
     .exact rR _ _ _ _ _
     .exact mE trivial
 refine gy (xe _ _ _ _) λt _=>?_
 cases t
 .exact gy (br _ _ _ _) λ_ _=>gy (br _ _ _ _) λ_ _=>gy (br _ _ _ _) λ_ _=>gy (br _ _ _ _) λ_ _=>gy (br _ _ _ _) λ_ _=>gy (br _ _ _ _) λ_ _=>gy (br _ _ _ _) λ_ _=>gy (br _ _ _ _) λ_ _=>gy (br _ _ _ _) λ_ _=>gy (Q:=λ_=>True) (mE trivial) λp _=>tail p
 .exact gy (br _ _ _ _) λ_ _=>gy (br _ _ _ _) λ_ _=>gy (br _ _ _ _) λ_ _=>gy (br _ _ _ _) λ_ _=>gy (br _ _ _ _) λ_ _=>gy (br _ _ _ _) λ_ _=>gy (br _ _ _ _) λ_ _=>gy (br _ _ _ _) λ_ _=>gy (br _ _ _ _) λ_ _=>gy (Q:=λ_=>True) (mE trivial) λp _=>tail p
theorem AL (op:BinOp)(k:FloatKind)(a b c d:Nat):PQ P eT (Op.complexOp op k a b c d):=by
 unfold Op.complexOp;have two:∀o,PQ P eT (do Pure.pure (.complex k (<-Op.Complex.arith o k a c) (<-Op.Complex.arith o k b d)):Sem Value):=λo=>gy (br _ _ _ _) λ_ _=>gy (br _ _ _ _) λ_ _=>mE trivial
 cases op<;>first|exact Kx|exact two _|exact gy (xe _ _ _ _) λ_ _=>gy (xe _ _ _ _) λ_ _=>mE trivial|skip
 .refine gy (ia _ _ _) λ_ _=>gy (ia _ _ _) λ_ _=>gy (ia _ _ _) λ_ _=>gy (ia _ _ _) λ_ _=>?_
  exact gy (ES _ _ _ _) λ_ _=>gy (ia _ _ _) λ_ _=>gy (ia _ _ _) λ_ _=>mE trivial
 .refine gy (ia _ _ _) λ_ _=>gy (ia _ _ _) λ_ _=>gy (ia _ _ _) λ_ _=>gy (ia _ _ _) λ_ _=>?_
  exact gy (CR _ _ _ _) λ_ _=>gy (ia _ _ _) λ_ _=>gy (ia _ _ _) λ_ _=>mE trivial
def Hx {β:Type}(R:β->β->Prop):ForInStep β->ForInStep β->Prop
 |.done a,.done b|.yield a,.yield b=>R a b
 |_,_=>False
theorem kN {α β:Type}{R:β->β->Prop}{f f':α->β->Sem (ForInStep β)}:∀(l:List α),(∀a∈l,∀b b',R b b'->bg P π N V (Hx R) (f a b) (f' a b'))->∀b b',R b b'->bg P π N V R (forIn l b f) (forIn l b' f')
 |[],_,b,b',h=>by simp only[List.forIn_nil];exact au h
 |a::l,hf,b,b',h=>by
  simp only[List.forIn_cons];refine(hf a (by simp) b b' h).bind' λx x' hx=>?_
  cases x<;>cases x'<;>first|exact hx.elim|exact au hx|exact kN l (λa ha=>hf a (by simp[ha])) _ _ hx
theorem ve {α β:Type}{R:β->β->Prop}{f f':α->β->Sem (ForInStep β)}(xs:Array α)(hf:∀a∈xs,∀b b',R b b'->bg P π N V (Hx R) (f a b) (f' a b'))(b b':β)(h:R b b'):bg P π N V R (forIn xs b f) (forIn xs b' f'):=by
 rw[<-Array.forIn_toList,<-Array.forIn_toList];exact kN _ (λa ha=>hf a (by simpa using ha)) b b' h
theorem vd {β:Type}{R:β->β->Prop}{f f':Nat->β->Sem (ForInStep β)}(r:Std.Legacy.Range)(hf:∀a,∀b b',R b b'->bg P π N V (Hx R) (f a b) (f' a b'))(b b':β)(h:R b b'):bg P π N V R (forIn r b f) (forIn r b' f'):=by
 rw[Std.Legacy.Range.forIn_eq_forIn_range',Std.Legacy.Range.forIn_eq_forIn_range'];exact kN _ (λa _=>hf a) b b' h
def eqTy (P:Program):Nat->TypeId->Bool
 |0,_=>false
 |n+1,t=>match P.underlying t with
  |some .bool|some (.int _)|some .string=>(match(P.info? t).map (·.desc) with|some (TypeDesc.named s _)=>s != "sync.copyChecker"|_=>true)
  |some (.struct fs)=>fs.all λf=>eqTy P n f.type
  |some (.array _ e)=>eqTy P n e
  |_=>false
theorem VV.AK {p:Option Addr}(h:VV V (.pointer p)){a:Addr}(e:p=some a):V a.block:=by subst e;exact h.ptr
theorem eh {β:Type}{R:β->β->Prop}{a:Addr}(hv:V a.block){f f':Addr×Bool->Sem β}(hf:∀x:Addr×Bool,bg P π N (λi=>V i\/i=x.1.block) R (f x) (f' (aZ π x.1,x.2))):
  bg P π N V R (behindNumber a>>=f) (behindNumber (aZ π a)>>=f'):=by
 have here:bg P π N V R (f (a,false)) (f' (aZ π a,false)):=(hf (a,false)).weak λi hi=>hi.elim id λe=>e▸hv
 unfold behindNumber numberAt;rw[bind_assoc,bind_assoc,bind_assoc,bind_assoc];refine bg.shape (k:=λx=>_) hv λx=>?_
 cases x with
 |some y=>exact here
 |none=>
  refine bg.getObj (k:=λx=>_) λo ho=>?_
  cases o with
  |number b l=>exact(hf (b,l)).weak λi hi=>hi.elim .inl λe=> .inr (.inr e)
  |_=>first|exact ho.elim|exact here.weak λi hi=> .inl hi
theorem n6 {a:Addr}(hv:V a.block):bg P π N V Eq (noView a) (noView (aZ π a)):=Ew hv a rfl
theorem qA {a:Addr}(hv:V a.block):bg P π N V Eq (byteOf a) (byteOf (aZ π a)):=by
 unfold byteOf;obtain⟨b,off,sp⟩:=a;cases sp with
 |some s=>exact au rfl
 |none=>
  simp only[pure_bind];refine cu.bind' λz z' h=>?_
  rw[h.1,h.2];refine(n6 hv).bind' λ_ _ _=>?_
  refine bg.shape (k:=λx=>_) hv λx=>?_
  cases x with
  |none=>exact aj
  |some e=>
   obtain⟨e,n⟩:=e;dsimp only[Sem.bind];show bg P π N V Eq (if P.cellsOf e=0 then _ else _) (if P.cellsOf e=0 then _ else _)
   by_cases h0:P.cellsOf e=0
   .rw[if_pos h0,if_pos h0];exact au rfl
   .rw[if_neg h0,if_neg h0]
    show bg P π N V Eq (match byteOfCell P P.depth e (off%P.cellsOf e) with|some b=>_|_=>_) (match byteOfCell P P.depth e (off%P.cellsOf e) with|some b=>_|_=>_);cases byteOfCell P P.depth e (off%P.cellsOf e) with
    |none=>exact aj
    |some b=>exact au rfl
theorem Cw (h0:π 0=0)(hi:∀i j,π i=π j->i=j)(hP1:P.globals.size<=1)(a b:Nat):(π a==π b&&decide (π a<P.globals.size))=(a==b&&decide (a<P.globals.size)):=by
 have e1:(π a==π b)=(a==b):=by
  rw[Bool.eq_iff_iff,beq_iff_eq,beq_iff_eq];exact⟨hi _ _,λh=>by rw[h]⟩
 have e2:decide (π a<P.globals.size)=decide (a<P.globals.size):=by
  rw[decide_eq_decide];constructor
  .intro h
   have:a=0:=hi a 0 (by rw[h0];omega);rw[this] at h⊢;rw[h0] at h;exact h
  .intro h
   have:a=0:=by omega
   rw[this] at h⊢;rw[h0];exact h
 rw[e1,e2]
theorem zE (V:Nat->Prop){a b:Addr}(ha:V a.block)(hb:V b.block){β:Type}{R:β->β->Prop}{f:Nat->Nat->Sem β}{f':Nat->Nat->Sem β}(hf:∀x y,bg P π N V R (f x y) (f' x y)):
  bg P π N V R (byteOf a>>=λx=>byteOf b>>=λy=>f x y) (byteOf (aZ π a)>>=λx=>byteOf (aZ π b)>>=λy=>f' x y):=
 (qA ha).bind' λx _ h=>by subst h;exact(qA hb).bind' λy _ h=>by subst h;exact hf x y
theorem wS (hi:∀i j,π i=π j->i=j){a b:Addr}(h:aZ π a=aZ π b):a=b:=by
 obtain⟨b1,o1,s1⟩:=a;obtain⟨b2,o2,s2⟩:=b;simp only[aZ,Addr.mk.injEq] at h;obtain⟨h1,h2,h3⟩:=h;rw[hi _ _ h1,h2,h3]
theorem pX {a:Addr}(hN:∀r,V r->¬N r)(hv:V a.block):bg P π N V Eq (stringish a) (stringish (aZ π a)):=by
 unfold stringish;refine bg.frozen (k:=λx=>_) hv (hN _ hv) λx=>?_
 cases x with
 |true=>exact au rfl
 |false=>
  refine bg.shape (k:=λx=>_) hv λx=>?_
  cases x with
  |none=>exact au rfl
  |some y=>exact bg.frozen (a:={block:=a.block,off:=y.2}) hv (hN _ hv) λx=> .pure rfl
theorem Av {a b:Addr}(hN:∀r,V r->¬N r)(ha:V a.block)(hb:V b.block):bg P π N V Eq (mayBeOne a b) (mayBeOne (aZ π a) (aZ π b)):=by
 unfold mayBeOne;refine(pX hN ha).bind' λx _ h=>?_
 subst h;refine(pX hN hb).bind' λy _ h=>?_
 subst h;refine bg.shape (k:=λx=>_) ha λu=>?_
 refine bg.shape (k:=λx=>_) hb λv=>?_
 exact au rfl
theorem Ar {a b:Addr}(hinj:∀i j,π i=π j->i=j)(hN:∀r,V r->¬N r)(ha:V a.block)(hb:V b.block):bg P π N V Eq (sameAddr a b) (sameAddr (aZ π a) (aZ π b)):=by
 unfold sameAddr;have e1:((aZ π a).block==(aZ π b).block)=(a.block==b.block):=by
  rw[Bool.eq_iff_iff,beq_iff_eq,beq_iff_eq];exact⟨hinj _ _,λh=>congrArg π h⟩
 have e2:(aZ π a==aZ π b)=(a==b):=by
  rw[Bool.eq_iff_iff,beq_iff_eq,beq_iff_eq];exact⟨wS hinj,λh=>by rw[h]⟩
 rw[e1,e2];refine cB (au rfl) ?_;refine bg.frozen (k:=λx=>_) ha (hN _ ha) λx=>?_
 refine bg.frozen (k:=λx=>_) hb (hN _ hb) λy=>?_
 refine cB (aH trivial) ?_;refine(n6 ha).bind' λ_ _ _=>?_
 refine(n6 hb).bind' λ_ _ _=>?_
 refine(Av hN ha hb).bind' λz _ h=>?_
 subst h;refine cB (io.bind' λn _ h=>?_) (au rfl);subst h;exact au rfl
def lB (P:Program)(t:TypeId):Bool:=match P.underlying t with|some (.pointer _)=>true|_=>false
theorem oh {pe:Bool}(hN:pe=true->∀r,V r->¬N r)(h00:π 0=0)(hinj:∀i j,π i=π j->i=j)(hP1:P.globals.size<=1):∀(d n:Nat) (t:TypeId) (x y:Value),(eqTy P n t=true\/(x= .pointer none\/y= .pointer none)\/(pe&&lB P t)=true)->VV V x->VV V y->
  bg P π N V Eq (Op.equalIn d t x y) (Op.equalIn d t (Value.ren π x) (Value.ren π y))
 |0,_,_,_,_,_,_,_=>aH trivial
 |d+1,n,t,x,y,ht,hx,hy=>by
  unfold Op.equalIn;refine(aE t).bind' λu u' h=>?_
  obtain⟨rfl,hu⟩:=h;cases u with
  |bool=>
   cases x with
   |bool a=>cases y with
    |bool b=>simp only[dE];exact au rfl
    |_=>exact aj
   |_=>exact aj
  |string=>
   cases x with
   |string a=>cases y with
    |string b=>simp only[bn];exact au rfl
    |_=>exact aj
   |_=>exact aj
  |int ki=>
   cases x with
   |int k a=>cases y with
    |int k' b=>
     simp only[cj]
     by_cases hk:k=k'
     .simp only[hk,if_true];exact au rfl
     .simp only[hk,if_false];exact aj
    |pointer b=>
     cases b with
     |none=>cases a with
      |ofNat m=>cases m<;>exact aH trivial
      |negSucc m=>exact aH trivial
     |some b=>cases a with
      |ofNat m=>cases m with
       |zero=>simp only[cj,aU,Option.map_some];exact au rfl
       |succ m=>exact aH trivial
      |negSucc m=>exact aH trivial
    |_=>exact aj
   |pointer a=>cases a with
    |none=>cases y<;>exact aH trivial
    |some a=>cases y with
     |int k' b=>cases b with
      |ofNat m=>cases m with
       |zero=>simp only[cj,aU,Option.map_some];exact au rfl
       |succ m=>exact aH trivial
      |negSucc m=>exact aH trivial
     |pointer b=>cases b with
      |none=>exact aH trivial
      |some b=>
       simp only[aU,Option.map_some];refine eh hx.ptr λp=>eh (.inl hy.ptr) λq=>?_
       dsimp only;refine cu.bind' λz z' h=>?_
       obtain⟨rfl,rfl⟩:=h;have e2:=Cw (P:=z') h00 hinj hP1 p.1.block q.1.block;rw[show(aZ π p.1).block=π p.1.block from rfl,show(aZ π q.1).block=π q.1.block from rfl,e2];refine cB ?_ ?_
       .exact zE _ (.inl (.inr rfl)) (.inr rfl) λx y=>au rfl
       .refine(d9 t).bind' λi i' h=>?_
        obtain⟨rfl,hi⟩:=h;have ht':eqTy z' n t=true:=by simpa [lB,hu] using ht
        have hd:∀s u,i.desc= .named s u->s≠ "sync.copyChecker":=λs u e=>by
         cases n with
         |zero=>simp[eqTy] at ht'
         |succ n=>simpa [eqTy,hu,hi,e] using ht'
        refine .dead ?_;split
        .rename_i e
         exact absurd rfl (hd _ _ e)
        .exact Dead.halt trivial
     |_=>exact aH trivial
   |_=>cases y<;>first|exact aj|exact aH trivial
  |pointer el=>
   have ht':=ht.resolve_left (by cases n<;>simp[eqTy,hu]);rcases ht' with(rfl|rfl)|hpe
   .cases y with
    |pointer b=>simp only[aU];exact au (by cases b<;>rfl)
    |_=>exact aj
   .cases x with
    |pointer a=>cases a<;>(simp only[aU];exact au rfl)
    |_=>exact aj
   .have hN':=hN (by simp only[Bool.and_eq_true] at hpe;exact hpe.1)
    cases x with
    |pointer a=>cases a with
     |none=>cases y with
      |pointer b=>simp only[aU];exact au (by cases b<;>rfl)
      |_=>exact aj
     |some a=>cases y with
      |pointer b=>cases b with
       |none=>simp only[aU];exact au rfl
       |some b=>
        simp only[aU,Option.map_some];refine(cE el).bind' λm _ h=>?_
        obtain⟨rfl,_⟩:=h;have e2:(aZ π a==aZ π b)=(a==b):=by
         rw[Bool.eq_iff_iff,beq_iff_eq,beq_iff_eq];exact⟨wS hinj,λh=>by rw[h]⟩
        rw[e2];refine cB (Ar hinj hN' hx.ptr hy.ptr) (cB (au rfl) (io.bind' λn _ h=>?_));subst h;exact au rfl
      |_=>exact aj
    |_=>exact aj
  |unsafePointer=>
   have ht':x= .pointer none\/y= .pointer none:=(ht.resolve_left (by cases n<;>simp[eqTy,hu])).resolve_right (by simp[lB,hu]);rcases ht' with rfl|rfl
   .cases y with
    |pointer b=>cases b<;>(simp only[aU];exact au rfl)
    |_=>exact aj
   .cases x with
    |pointer a=>cases a<;>(simp only[aU];exact au rfl)
    |_=>exact aj
  |struct fs=>
   cases x with
   |agg xs=>
     cases y with
    |agg ys=>
     have ht':eqTy P n t=true:=by simpa [lB,hu] using ht
     cases n with
     |zero=>simp[eqTy] at ht'
     |succ n=>
      simp only[eqTy,hu,Array.all_eq_true_iff_forall_mem] at ht';simp only[dj];refine cu.bind' λz z' h=>?_
      rw[h.1,h.2];split
      .exact aH trivial
      .refine(ve (R:=Eq) fs (λf hf b b' hb=>?_) _ _ rfl).bind' λr r' h=>?_
       .subst hb
        by_cases hn:f.name≠ "_"
        .simp only[hn,ne_eq,not_false_eq_true,if_true]
         refine(kK f.type xs f.offset).bind' λu u' h=>?_
         obtain⟨rfl,h1⟩:=h;refine(kK f.type ys f.offset).bind' λv v' h=>?_
         obtain⟨rfl,h2⟩:=h;refine(oh hN h00 hinj hP1 d n f.type u v (.inl (ht' f hf)) (hx.part h1) (hy.part h2)).bind' λc c' h=>?_
         subst h;cases c<;>exact au rfl
        .simp only[hn,if_false]
         exact au rfl
       .subst h
        obtain⟨r1,r2⟩:=r;cases r1<;>exact au rfl
    |_=>exact aj
   |_=>exact aj
  |array len e=>
   cases x with
   |agg xs=>cases y with
    |agg ys=>
     have ht':eqTy P n t=true:=by simpa [lB,hu] using ht
     cases n with
     |zero=>simp[eqTy] at ht'
     |succ n=>
      simp only[eqTy,hu] at ht';simp only[dj];refine(cE e).bind' λm m' h=>?_
      obtain⟨rfl,_⟩:=h;refine(vd (R:=Eq) _ (λa b b' hb=>?_) _ _ rfl).bind' λr r' h=>?_
      .subst hb
       refine(kK e xs _).bind' λu u' h=>?_
       obtain⟨rfl,h1⟩:=h;refine(kK e ys _).bind' λv v' h=>?_
       obtain⟨rfl,h2⟩:=h;refine(oh hN h00 hinj hP1 d n e u v (.inl ht') (hx.part h1) (hy.part h2)).bind' λc c' h=>?_
       subst h;cases c<;>exact au rfl
      .subst h
       obtain⟨r1,r2⟩:=r;cases r1<;>exact au rfl
    |_=>exact aj
   |_=>exact aj
  |slice e=>
   have ht':x= .pointer none\/y= .pointer none:=(ht.resolve_left (by cases n<;>simp[eqTy,hu])).resolve_right (by simp[lB,hu]);rcases ht' with rfl|rfl
   .exact aj
   .cases x with
    |slice a _ _=>cases a<;>exact aj
    |_=>exact aj
  |map ke e=>
   have ht':x= .pointer none\/y= .pointer none:=(ht.resolve_left (by cases n<;>simp[eqTy,hu])).resolve_right (by simp[lB,hu]);rcases ht' with rfl|rfl
   .exact aj
   .cases x with
    |map a=>cases a<;>exact aj
    |_=>exact aj
  |_=>
   have ht':x= .pointer none\/y= .pointer none:=(ht.resolve_left (by cases n<;>simp[eqTy,hu])).resolve_right (by simp[lB,hu]);rcases ht' with rfl|rfl
   .exact aj
   .cases x<;>exact aj
theorem n4 (h00:π 0=0)(hinj:∀i j,π i=π j->i=j)(hP1:P.globals.size<=1){a b:Addr}(ha:V a.block)(hb:V b.block){β:Type}{R:β->β->Prop}{f f':Nat×Nat->Sem β}(hf:∀x,bg P π N V R (f x) (f' x)):
  bg P π N V R (Op.twoPlaces a b>>=f) (Op.twoPlaces (aZ π a) (aZ π b)>>=f'):=by
 have e2:=Cw (P:=P) h00 hinj hP1 a.block b.block;have e3:(π a.block !=π b.block||decide (π a.block>=P.globals.size))=(a.block !=b.block||decide (a.block>=P.globals.size)):=by
  have:=congrArg (!·) e2;simp only[Bool.not_and] at this;have d1:∀x:Nat,(!decide (x<P.globals.size))=decide (x>=P.globals.size):=λx=>by
   rw[<-decide_not];exact decide_eq_decide.2 (by omega)
  rw[d1,d1] at this;exact this
 unfold Op.twoPlaces;simp only[bind_assoc];refine cu.bind' λz z' h=>?_
 rw[h.1,h.2,show(aZ π a).block=π a.block from rfl,show(aZ π b).block=π b.block from rfl,e3]
 by_cases hc:(a.block !=b.block||decide (a.block>=P.globals.size))=true
 .rw[if_pos hc];exact il trivial
 .rw[if_neg hc,if_neg hc]
  simp only[bind_assoc,pure_bind];exact zE _ ha hb λx y=>hf (x,y)
theorem Cq (h00:π 0=0)(hinj:∀i j,π i=π j->i=j)(hP1:P.globals.size<=1){k:IntKind}{a b:Addr}(ha:V a.block)(hb:V b.block):bg P π N V (RV π) (Op.addrSub k a b) (Op.addrSub k (aZ π a) (aZ π b)):=by
 unfold Op.addrSub;exact n4 h00 hinj hP1 ha hb λx=>au (by simp[RV])
theorem Cr (h00:π 0=0)(hinj:∀i j,π i=π j->i=j)(hP1:P.globals.size<=1){op:BinOp}{a b:Addr}(ha:V a.block)(hb:V b.block):bg P π N V (RV π) (Op.addrCmp op a b) (Op.addrCmp op (aZ π a) (aZ π b)):=by
 unfold Op.addrCmp;refine n4 h00 hinj hP1 ha hb λx=>?_
 cases op<;>first|exact aH trivial|exact au (by simp[RV])
theorem ot {k:IntKind}{a:Addr}{n:Int}(hv:V a.block):bg P π N V (RV π) (Op.addrMod k a n) (Op.addrMod k (aZ π a) n):=by
 unfold Op.addrMod;refine bg.shape (k:=λx=>_) hv λx=>?_
 cases x with
 |none=>exact aH trivial
 |some e=>
  obtain⟨e,m⟩:=e;refine(d9 e).bind' λi i' h=>?_
  obtain⟨rfl,_⟩:=h;dsimp only;split
  .exact aH trivial
  .refine(qA hv).bind' λb b' h=>?_
   subst h;exact au (by simp[RV])
theorem lV (t:TypeId)(ats:Array TypeId)(p:Option Addr)(y:Value)(hp:∀a,p=some a->V a.block):
  bg P π N V (λv v'=>v'=Value.ren π v/\∀b,v= .pointer (some b)->∃a,p=some a/\b.block=a.block) (Builtin.unsafeAdd_ ats t #[.pointer p,y]) (Builtin.unsafeAdd_ ats t #[.pointer (p.map (aZ π)),Value.ren π y]):=by
 unfold Builtin.unsafeAdd_;dsimp only;refine(kz y).bind' λn n' h=>?_
 subst h
 by_cases h0:n=0
 .simp only[h0,if_true]
  cases p with
  |none=>exact aH trivial
  |some a=>
   simp only[Option.map_some];refine(qy (hp a rfl)).bind' λx x' h=>?_
   subst h;cases x with
   |some z=>exact aH trivial
   |none=>exact au ⟨by simp,λb hb=>⟨a,rfl,by cases hb;rfl⟩⟩
 .simp only[h0,if_false]
  split
  .exact aH trivial
  .cases p with
   |none=>exact aH trivial
   |some a=>
    simp only[Option.map_some];refine bg.shape (k:=λx=>_) (hp a rfl) λx=>?_
    cases x with
    |none=>exact aH trivial
    |some e=>
     obtain⟨e,m⟩:=e;refine cu.bind' λz z' h=>?_
     rw[h.1,h.2];show bg P π N V _ (match cellAtBytes P P.depth e (m/P.cellsOf e) a.off n with|some off=>_|none=>_) (match cellAtBytes P P.depth e (m/P.cellsOf e) a.off n with|some off=>_|none=>_);cases cellAtBytes P P.depth e (m/P.cellsOf e) a.off n with
     |none=>exact aH trivial
     |some o=>exact au ⟨by simp[aZ],λb hb=>⟨a,rfl,by cases hb;rfl⟩⟩
theorem Az {a:Addr}{l:Bool}(hv:V a.block):bg P π N V (RV π) (asNumber a l) (asNumber (aZ π a) l):=by
 unfold asNumber newObj;exact bg.new (o:= .number a l) trivial (λi hi=>by rw[show i=a.block from hi];exact hv) λb _=> .pure (by simp[RV,aZ])
theorem jY {t:TypeId}{p:Option Addr}{y:Value}(hp:∀a,p=some a->V a.block):bg P π N V (RV π) (movedNumber t (.pointer p) y) (movedNumber t (.pointer (p.map (aZ π))) (Value.ren π y)):=by
 unfold movedNumber;refine(aE t).bind' λu u' h=>?_
 obtain⟨rfl,hu⟩:=h;cases p with
 |none=>
  have tail:=(lV (P:=P) (π:=π) (N:=N) (V:=V) t #[] none y (λa h=>by cases h)).mono (R':=RV π) λ_ _ h=>h.1
  cases u<;>first|exact aH trivial|exact tail
 |some a=>
  have tail:bg P π N V (RV π) (behindNumber a>>=λx=>Builtin.unsafeAdd_ #[] t #[.pointer (some x.1),y]>>=λv=>match v with|.pointer (some b)=>asNumber b x.2|v=>Pure.pure v)
    (behindNumber (aZ π a)>>=λx=>Builtin.unsafeAdd_ #[] t #[.pointer (some x.1),Value.ren π y]>>=λv=>match v with|.pointer (some b)=>asNumber b x.2|v=>Pure.pure v):=by
   refine eh (hp a rfl) λx=>?_
   obtain⟨x,l⟩:=x;dsimp only;refine(lV t #[] (some x) y (λa h=>by cases h;exact .inr rfl)).bind' λv v' h=>?_
   obtain⟨rfl,h⟩:=h;cases v with
   |pointer b=>cases b with
    |none=>simp only[aU];exact au (by simp[RV])
    |some b=>
     obtain⟨a',ha,hb⟩:=h b rfl;cases ha;simp only[aU,Option.map_some];exact Az (.inr hb)
   |_=>simp only[dE,cj,dk,cP,bn,dB,cG,bA,dn,dS,cN,dj,cM,db];exact au (by simp[RV])
  cases u<;>first|exact aH trivial|exact tail
theorem tu {t:TypeId}{p:Option Addr}{y:Value}(hp:∀a,p=some a->V a.block):bg P π N V (RV π) (movedPointer t (.pointer p) y) (movedPointer t (.pointer (p.map (aZ π))) (Value.ren π y)):=by
 unfold movedPointer;have tail:=(lV (P:=P) (π:=π) (N:=N) (V:=V) t #[] p y hp).mono (R':=RV π) λ_ _ h=>h.1
 cases p with
 |none=>exact tail
 |some a=>
  simp only[Option.map_some];refine(As (hp a rfl)).bind' λx x' h=>?_
  subst h;cases x with
  |some z=>exact aH trivial
  |none=>exact tail
theorem IF {pe:Bool}(hN:pe=true->∀r,V r->¬N r)(h00:π 0=0)(hinj:∀i j,π i=π j->i=j)(hP1:P.globals.size<=1){n:Nat}{t:TypeId}{x y:Value}(ht:eqTy P n t=true\/(x= .pointer none\/y= .pointer none)\/(pe&&lB P t)=true)(hx:VV V x)(hy:VV V y):
  bg P π N V Eq (Op.equal t x y) (Op.equal t (Value.ren π x) (Value.ren π y)):=oh hN h00 hinj hP1 _ n t x y ht hx hy
theorem LQ {α:Type}{Q:α->Prop}(m:String):PQ P Q (runtimePanic (.error m):Sem α):= .program (.halt trivial)
theorem LP (op:BinOp)(k:IntKind)(a:Int)(k':IntKind)(b:Int):PQ P eT (Op.shift op k a k' b):=by
 unfold Op.shift;split
 .exact LQ _
 .cases op<;>first|exact Kx|exact mE trivial
theorem uu (op:BinOp)(k:IntKind)(a b:Int):PQ P eT (Op.intArith op k a b):=by
 unfold Op.intArith;cases op<;>first|exact Kx|exact mE trivial
theorem IZ (op:BinOp)(k:IntKind)(a b:Int):PQ P eT (Op.intDiv op k a b):=by
 unfold Op.intDiv;split
 .exact LQ _
 .cases op<;>first|exact Kx|exact mE trivial
theorem xc (op:BinOp)(k:IntKind)(a b:Int):PQ P eT (Op.intBits op k a b):=by
 unfold Op.intBits;cases op<;>first|exact Kx|exact mE trivial
theorem I0 (op:BinOp)(a b:Int):PQ P eT (Op.intCmp op a b):=by
 unfold Op.intCmp;cases op<;>first|exact Kx|exact mE trivial
theorem ut (op:BinOp)(a b:ByteArray):PQ P eT (Op.stringOp op a b):=by
 unfold Op.stringOp;cases op<;>first|exact Kx|exact mE trivial|skip
 dsimp only;split
 .exact .halt trivial
 .exact mE trivial
theorem xd {α:Type}{Q:α->Prop}{p:Prop}[Decidable p]{m:String}{s:Sem α}(h:PQ P Q s):PQ P Q (if p then stuck m else s):=by
 split
 .exact Kx
 .exact h
theorem Qc (op:BinOp)(t:TypeId)(k k':IntKind)(a b:Int):PQ P eT (binOp op t (.int k a) (.int k' b)):=by
 unfold binOp;cases op<;>first|exact LP _ _ _ _ _|exact xd (uu _ _ _ _)|exact xd (IZ _ _ _ _)|exact xd (xc _ _ _ _)|exact xd (I0 _ _ _)
theorem I1 (op:BinOp)(t:TypeId)(k k':FloatKind)(a b:Nat):PQ P eT (binOp op t (.float k a) (.float k' b)):=by
 unfold binOp;cases op<;>first|exact xd (p9 _ _ _ _)|exact xd (uv _ _ _ _)
theorem CT (op:BinOp)(t:TypeId)(k k':FloatKind)(a b c d:Nat):PQ P eT (binOp op t (.complex k a b) (.complex k' c d)):=by
 unfold binOp;cases op<;>exact xd (AL _ _ _ _ _ _)
theorem ER (op:BinOp)(t:TypeId)(a b:ByteArray):PQ P eT (binOp op t (.string a) (.string b)):=by
 unfold binOp;cases op<;>exact ut _ _ _
theorem Gs {s s':Sem Bool}(h:bg P π N V Eq s s'):bg P π N V (RV π) (do Pure.pure (.bool (<-s)):Sem Value) (do Pure.pure (.bool (<-s')):Sem Value):=h.bind' λb b' e=>by subst e;exact au (by simp[RV])
theorem Gr {s s':Sem Bool}(h:bg P π N V Eq s s'):bg P π N V (RV π) (do Pure.pure (.bool (!(<-s))):Sem Value) (do Pure.pure (.bool (!(<-s'))):Sem Value):=h.bind' λb b' e=>by subst e;exact au (by simp[RV])
def jh:Value->Bool
 |.int _ _|.float _ _|.complex _ _ _|.string _|.pointer _=>false
 |_=>true
theorem DA {v:Value}(h:jh v=true):jh (Value.ren π v)=true:=by cases v<;>simp_all [jh]
theorem ph {t:TypeId}{x y:Value}(h:jh x=true\/jh y=true):binOp .eql t x y=(do Pure.pure (.bool (<-Op.equal t x y))):=by
 unfold binOp;cases x<;>cases y<;>first|rfl|simp[jh] at h
theorem pg {t:TypeId}{x y:Value}(h:jh x=true\/jh y=true):binOp .neq t x y=(do Pure.pure (.bool (!(<-Op.equal t x y)))):=by
 unfold binOp;cases x<;>cases y<;>first|rfl|simp[jh] at h
theorem JW {op:BinOp}{t:TypeId}{x y:Value}(h:jh x=true\/jh y=true)(h1:op≠.eql)(h2:op≠.neq):Dead P (binOp op t x y):=by
 unfold binOp;cases op<;>first|exact absurd rfl h1|exact absurd rfl h2|skip
 all_goals (cases x with
  |pointer a=>cases a<;>cases y<;>first|exact Dead.halt trivial|(simp[jh] at h;done)
  |_=>cases y with
   |pointer b=>cases b<;>first|exact Dead.halt trivial|(simp[jh] at h;done)
   |_=>first|exact Dead.halt trivial|(simp[jh] at h;done))
theorem IJ {pe:Bool}(hN:pe=true->∀r,V r->¬N r)(h00:π 0=0)(hinj:∀i j,π i=π j->i=j)(hP1:P.globals.size<=1){op:BinOp}{n:Nat}{t:TypeId}{x y:Value}
  (hq:op= .eql\/op= .neq->eqTy P n t=true\/(x= .pointer none\/y= .pointer none)\/(pe&&lB P t)=true) (hx:VV V x) (hy:VV V y):
  bg P π N V (RV π) (binOp op t x y) (binOp op t (Value.ren π x) (Value.ren π y)):=by
 have hE:(op= .eql\/op= .neq)->bg P π N V Eq (Op.equal t x y) (Op.equal t (Value.ren π x) (Value.ren π y)):=λh=>IF hN h00 hinj hP1 (hq h) hx hy
 by_cases hd:jh x=true\/jh y=true
 .have hd':jh (Value.ren π x)=true\/jh (Value.ren π y)=true:=hd.imp DA DA
  by_cases h1:op= .eql
  .subst h1
   rw[ph hd,ph hd'];exact Gs (hE (.inl rfl))
  .by_cases h2:op= .neq
   .subst h2
    rw[pg hd,pg hd'];exact Gr (hE (.inr rfl))
   .exact .dead (JW hd h1 h2)
 .cases x<;>first|exact absurd (.inl rfl) hd|skip
  all_goals (cases y<;>first|exact absurd (.inr rfl) hd|skip)
  all_goals (simp only[cj,dk,cP,bn,aU] at hE⊢)
  all_goals first
   |exact dJ (Qc _ _ _ _ _ _)
   |exact dJ (I1 _ _ _ _ _ _)
   |exact dJ (CT _ _ _ _ _ _ _ _)
   |exact dJ (ER _ _ _ _)
   |skip
  all_goals unfold binOp
  all_goals (cases op<;>first|exact aj|exact aH trivial|exact Gs (hE (.inl rfl))|exact Gr (hE (.inr rfl))|skip)
  case neg.int.pointer.add k a p=>
   have:=jY (P:=P) (π:=π) (N:=N) (V:=V) (t:=t) (p:=p) (y:= .int k a) λb e=>hy.AK e
   rw[cj] at this;exact this
  case neg.int.pointer.and k a p=>
   cases p with
   |none=>exact aH trivial
   |some p=>exact eh hy.ptr λz=>ot (.inr rfl)
  case neg.pointer.int.add p k a=>
   have h1:=jY (P:=P) (π:=π) (N:=N) (V:=V) (t:=t) (p:=p) (y:= .int k a) λb e=>hx.AK e
   have h2:=tu (P:=P) (π:=π) (N:=N) (V:=V) (t:=t) (p:=p) (y:= .int k a) λb e=>hx.AK e
   rw[cj] at h1 h2;refine(aE t).bind' λu u' h=>?_
   obtain⟨rfl,_⟩:=h;cases u<;>first|exact h2|exact h1
  case neg.pointer.int.sub p k a=>
   have h1:=jY (P:=P) (π:=π) (N:=N) (V:=V) (t:=t) (p:=p) (y:= .int k (-a)) λb e=>hx.AK e
   rw[cj] at h1;exact h1
  case neg.pointer.int.rem p k a=>
   cases p with
   |none=>exact aH trivial
   |some p=>exact eh hx.ptr λz=>ot (.inr rfl)
  case neg.pointer.int.and p k a=>
   cases p with
   |none=>exact aH trivial
   |some p=>exact eh hx.ptr λz=>ot (.inr rfl)
  case neg.pointer.pointer.sub p q=>
   cases p with
   |none=>cases q<;>exact aH trivial
   |some p=>cases q with
    |none=>exact aH trivial
    |some q=>exact eh hx.ptr λz=>eh (.inl hy.ptr) λz'=>Cq h00 hinj hP1 (.inl (.inr rfl)) (.inr rfl)
  all_goals first
   |(rename_i p q;cases p<;>cases q<;>first
     |exact aH trivial
     |exact eh hx.ptr λz=>eh (.inl hy.ptr) λz'=>Cr h00 hinj hP1 (.inl (.inr rfl)) (.inr rfl)
     |(done))
   |(rename_i p _;cases p<;>exact aH trivial)
   |(rename_i p _ _;cases p<;>exact aH trivial)
   |(rename_i p _ _ _;cases p<;>exact aH trivial)
theorem LO {op:UnOp}{x:Value}:∀{π:Nat->Nat},bg P π N V (RV π) (Op.unary op x) (Op.unary op (Value.ren π x)):=by
 intro π;unfold Op.unary;cases x with
 |int k n=>simp only[cj];cases op<;>first|exact aj|exact dJ (uu _ _ _ _)|exact dJ (xc _ _ _ _)
 |float k n=>simp only[dk];cases op<;>first|exact aj|exact dJ (mE trivial)
 |complex k n m=>simp only[cP];cases op<;>first|exact aj|exact dJ (mE trivial)
 |bool b=>simp only[dE];cases op<;>first|exact aj|exact dJ (mE trivial)
 |pointer a=>cases a<;>cases op<;>first|exact aj|exact aH trivial
 |_=>cases op<;>exact aj
theorem Cm {op:BinOp}{n:Nat}{t:TypeId}{x y:Operand}{a b:Value}(hq:op= .eql\/op= .neq->((eqTy P n t=true\/lB P t=true)/\P.eqGuardType P.depth t=false)\/a= .pointer none\/b= .pointer none):
  bg P π N V Eq (eqGuard op t x y a b) (eqGuard op t x y (Value.ren π a) (Value.ren π b)):=by
 unfold eqGuard;cases op<;>first|exact au rfl|skip
 all_goals
  rcases hq (by simp) with⟨h1,h2⟩|rfl|rfl
  .cases a with
   |nilIface=>cases b with
    |nilIface=>
     simp only[cG];refine cB (au rfl) (cB (au rfl) ?_)
     .rw[show Op.maxDepth=9999+1 from rfl]
      unfold Op.eqGuardIn;rw[bind_assoc];refine(aE t).bind' λu u' h=>?_
      obtain⟨rfl,hu⟩:=h;cases u<;>first|exact au rfl|(cases n<;>simp[eqTy,lB,hu] at h1)
    |_=>simp only[dE,cj,dk,cP,bn,aU,dB,cG,bA,dn,dS,cN,dj,cM,db];exact au rfl
   |agg xs=>cases b with
    |agg ys=>
     simp only[dj];refine cu.bind' λz z' h=>?_
     rw[h.1,h.2];refine cu.bind' λz z' h=>?_
     rw[h.1,h.2,h2];exact au rfl
    |_=>simp only[dE,cj,dk,cP,bn,aU,dB,cG,bA,dn,dS,cN,dj,cM,db];exact au rfl
   |_=>simp only[dE,cj,dk,cP,bn,aU,dB,cG,bA,dn,dS,cN,dj,cM,db];exact au rfl
  .simp only[aU];exact au rfl
  .cases a<;>(simp only[dE,cj,dk,cP,bn,aU,dB,cG,bA,dn,dS,cN,dj,cM,db];exact au rfl)
end
end
end
end Go.Proofs.YtchcmhodnkgojaaGreat
