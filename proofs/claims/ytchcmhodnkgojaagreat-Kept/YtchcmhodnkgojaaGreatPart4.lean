/- On the way to the last text; put together and shortened by program. -/
import Derived.Test.YtchcmhodnkgojaaGreatPart3
set_option linter.all false
set_option maxRecDepth 100000
set_option maxHeartbeats 8000000
namespace Go.Proofs.YtchcmhodnkgojaaGreat
noncomputable section
section
open Go.Conc
section
variable {P:Program}{π:Nat->Nat}{N V:Nat->Prop}
theorem pZ {r:Nat}(hv:V r):bj P π N V (fun a b=>b=a.map fun x=>(bh π x.1,x.2)) (viewAt r) (viewAt (π r)):=by
 unfold viewAt;refine bj.shape (k:=fun x=>_) hv fun x=>?_
 cases x with
 |some y=>exact aj rfl
 |none=>
  refine bj.getObj (k:=fun x=>_) fun o ho=>?_
  cases o<;>first|exact ho.elim|exact aj rfl
theorem zQ {r:Nat}(hv:V r):bj P π N V (fun a b=>b=a.map fun x=>(bh π x.1,x.2)) (numberAt r) (numberAt (π r)):=by
 unfold numberAt;refine bj.shape (k:=fun x=>_) hv fun x=>?_
 cases x with
 |some y=>exact aj rfl
 |none=>
  refine bj.getObj (k:=fun x=>_) fun o ho=>?_
  cases o<;>first|exact ho.elim|exact aj rfl
theorem DT {r:Nat}(hv:V r)(a:Addr)(ha:a.block=r):bj P π N V Eq (noView a) (noView (bh π a)):=by
 unfold noView;subst ha;refine(pZ hv).bind' fun x y h=>?_
 subst h;cases x with
 |none=>exact aj rfl
 |some z=>exact aG trivial
theorem cD {α:Type}{R:α->α->Prop}{c:Prop}[Decidable c]{s₁ s₁' s₂ s₂':Sem α}(h1:bj P π N V R s₁ s₁')(h2:bj P π N V R s₂ s₂'):bj P π N V R (if c then s₁ else s₂) (if c then s₁' else s₂'):=by
 split
 .exact h1
 .exact h2
inductive PQ (P:Program){α:Type}(Q:α->Prop):Sem α->Prop
 |pure {a:α} (h:Q a):PQ P Q (.pure a)
 |halt {h:Halt} (hh:ky h):PQ P Q (.halt h)
 |choose {q:Question} {k:Nat->Sem α} (h:∀n,PQ P Q (k n)):PQ P Q (.choose q k)
 |program {k:Program->Sem α} (h:PQ P Q (k P)):PQ P Q (.program k)
theorem PQ.bind {α β:Type}{Q:α->Prop}{Q':β->Prop}{s:Sem α}(h:PQ P Q s){f:α->Sem β}(hf:∀a,Q a->PQ P Q' (f a)):PQ P Q' (s.bind f):=by
 induction h with
 |pure h=>exact hf _ h
 |halt h=>exact .halt h
 |choose _ ih=>exact .choose fun n=>ih n
 |program _ ih=>exact .program ih
theorem gp {α β:Type}{Q:α->Prop}{Q':β->Prop}{s:Sem α}(h:PQ P Q s){f:α->Sem β}(hf:∀a,Q a->PQ P Q' (f a)):PQ P Q' (s>>=f):=h.bind hf
theorem lZ {α:Type}{Q:α->Prop}{a:α}(h:Q a):PQ P Q (Pure.pure a):= .pure h
theorem JC {α:Type}{Q:α->Prop}{m:String}:PQ P Q (stuck m:Sem α):= .halt trivial
theorem afJ {α β:Type}{Q:β->Prop}{m:String}{f:α->Sem β}:PQ P Q ((stuck m:Sem α)>>=f):= .halt trivial
theorem pqc {q:Question}:PQ P (fun _=>True) (choose q):= .choose fun _=> .pure trivial
theorem Tf {α:Type}{Q:α->Prop}{s:Sem α}(h:PQ P Q s):bj P π N V (fun a b=>a=b/\Q a) s s:=by
 induction h with
 |pure h=>exact .pure ⟨rfl,h⟩
 |halt h=>exact .dead (.halt h)
 |choose _ ih=>exact .choose fun n=>ih n
 |program _ ih=>exact .program ih
def eP:Value->Prop
 |.bool _|.int _ _|.float _ _|.complex _ _ _|.string _=>True
 |_=>False
theorem Ib {v:Value}(h:eP v):Value.ren π v=v:=by cases v<;>first|exact h.elim|simp
theorem dD {s:Sem Value}(h:PQ P eP s):bj P π N V (RV π) s s:=(Tf h).mono fun a b h=>by rw[RV,Ib h.2];exact h.1.symm
theorem pF (op:BinOp)(k:FloatKind)(x y:Nat):PQ P eP (Op.floatArith op k x y):=by
 unfold Op.floatArith;have tail:∀r:Option Nat,PQ P eP (match r with|some r=>Pure.pure (Value.float k r)|none=>(do let c <-choose (.nanBits k x y);Pure.pure (.float k c))):=by
  intro r;cases r with
  |none=>exact gp pqc fun n _=>lZ trivial
  |some r=>exact lZ trivial
 cases op<;>first|exact tail _|exact afJ
theorem tC (op:BinOp)(k:FloatKind)(x y:Nat):PQ P eP (Op.floatCmp op k x y):=by
 unfold Op.floatCmp;cases op<;>first|exact JC|exact lZ trivial
theorem Ve (s:FloatKind)(b:Nat)(d:FloatKind):PQ P eP (Conv.floatToFloat s b d):=by
 unfold Conv.floatToFloat;split
 .exact lZ trivial
 .split
  .exact gp pqc fun n _=>lZ trivial
  .exact lZ trivial
  .dsimp only
   split
   .exact gp pqc fun n _=>lZ trivial
   .exact lZ trivial
theorem Vd (s:FloatKind)(b:Nat)(d:IntKind):PQ P eP (Conv.floatToInt s b d):=by
 unfold Conv.floatToInt;have any:PQ P eP (do Pure.pure (.int d (d.wrap (<-choose (.floatToInt s b d)))):Sem Value):=gp pqc fun n _=>lZ trivial
 dsimp only;split
 .split
  .exact lZ trivial
  .exact any
 .exact any
theorem bC (op:BinOp)(k:FloatKind)(x y:Nat):PQ P (fun _=>True) (Op.Complex.arith op k x y):=by
 unfold Op.Complex.arith;refine gp (pF op k x y) fun v hv=>?_
 cases v<;>first|exact JC|exact lZ trivial
theorem y4 (v:Value):PQ P (fun _=>True) (asBool v):=by cases v<;>first|exact JC|exact lZ trivial
theorem vX (op:BinOp)(k:FloatKind)(x y:Nat):PQ P (fun _=>True) (Op.Complex.cmp op k x y):=gp (tC op k x y) fun v _=>y4 v
theorem ia (s:FloatKind)(x:Nat)(d:FloatKind):PQ P (fun _=>True) (Op.Complex.conv s x d):=by
 unfold Op.Complex.conv;split
 .exact lZ trivial
 .refine gp (Ve s x d) fun v hv=>?_
  cases v<;>first|exact JC|exact lZ trivial
theorem Ek (a b c d:Nat):PQ P (fun _=>True) (Op.Complex.product a b c d):=
 gp (bC _ _ _ _) fun _ _=>gp (bC _ _ _ _) fun _ _=>gp (bC _ _ _ _) fun _ _=>gp (bC _ _ _ _) fun _ _=>gp (bC _ _ _ _) fun _ _=>gp (bC _ _ _ _) fun _ _=>lZ trivial
theorem qR (s a b c d:Nat):PQ P (fun _=>True) (Op.Complex.corrected s a b c d):=
 gp (bC _ _ _ _) fun _ _=>gp (bC _ _ _ _) fun _ _=>gp (bC _ _ _ _) fun _ _=>gp (bC _ _ _ _) fun _ _=>gp (bC _ _ _ _) fun _ _=>gp (bC _ _ _ _) fun _ _=>gp (bC _ _ _ _) fun _ _=>gp (bC _ _ _ _) fun _ _=>lZ trivial
theorem Ci (a b c d:Nat):PQ P (fun _=>True) (Op.Complex.quotient a b c d):=by
 unfold Op.Complex.quotient;have tail:∀p:Nat×Nat,PQ P (fun _=>True) (do
   let zero:=(<-Op.Complex.cmp .eql .f64 c 0)&&(<-Op.Complex.cmp .eql .f64 d 0)
   if !(Op.Complex.isNaN p.1&&Op.Complex.isNaN p.2) then Pure.pure p
   else if zero&&(!Op.Complex.isNaN a||!Op.Complex.isNaN b) then
    Pure.pure (<-Op.Complex.mul (Op.Complex.copysign Op.Complex.inf c) a,<-Op.Complex.mul (Op.Complex.copysign Op.Complex.inf c) b)
   else if(Op.Complex.isInf a||Op.Complex.isInf b)&&Op.Complex.isFinite c&&Op.Complex.isFinite d then
    Op.Complex.corrected Op.Complex.inf (Op.Complex.inf2one a) (Op.Complex.inf2one b) c d
   else if(Op.Complex.isInf c||Op.Complex.isInf d)&&Op.Complex.isFinite a&&Op.Complex.isFinite b then
    Op.Complex.corrected 0 a b (Op.Complex.inf2one c) (Op.Complex.inf2one d)
   else Pure.pure p):=by
  intro p;refine gp (vX _ _ _ _) fun _ _=>gp (vX _ _ _ _) fun _ _=>?_
  dsimp only;split
  .exact lZ trivial
  .split
   .exact gp (bC _ _ _ _) fun _ _=>gp (bC _ _ _ _) fun _ _=>lZ trivial
   .split
    .exact qR _ _ _ _ _
    .split
     .exact qR _ _ _ _ _
     .exact lZ trivial
 refine gp (vX _ _ _ _) fun t _=>?_
 cases t
 .exact gp (bC _ _ _ _) fun _ _=>gp (bC _ _ _ _) fun _ _=>gp (bC _ _ _ _) fun _ _=>gp (bC _ _ _ _) fun _ _=>gp (bC _ _ _ _) fun _ _=>gp (bC _ _ _ _) fun _ _=>gp (bC _ _ _ _) fun _ _=>gp (bC _ _ _ _) fun _ _=>gp (bC _ _ _ _) fun _ _=>gp (Q:=fun _=>True) (lZ trivial) fun p _=>tail p
 .exact gp (bC _ _ _ _) fun _ _=>gp (bC _ _ _ _) fun _ _=>gp (bC _ _ _ _) fun _ _=>gp (bC _ _ _ _) fun _ _=>gp (bC _ _ _ _) fun _ _=>gp (bC _ _ _ _) fun _ _=>gp (bC _ _ _ _) fun _ _=>gp (bC _ _ _ _) fun _ _=>gp (bC _ _ _ _) fun _ _=>gp (Q:=fun _=>True) (lZ trivial) fun p _=>tail p
theorem Ac (op:BinOp)(k:FloatKind)(a b c d:Nat):PQ P eP (Op.complexOp op k a b c d):=by
 unfold Op.complexOp;have two:∀o,PQ P eP (do Pure.pure (.complex k (<-Op.Complex.arith o k a c) (<-Op.Complex.arith o k b d)):Sem Value):=fun o=>gp (bC _ _ _ _) fun _ _=>gp (bC _ _ _ _) fun _ _=>lZ trivial
 cases op<;>first|exact JC|exact two _|exact gp (vX _ _ _ _) fun _ _=>gp (vX _ _ _ _) fun _ _=>lZ trivial|skip
 .refine gp (ia _ _ _) fun _ _=>gp (ia _ _ _) fun _ _=>gp (ia _ _ _) fun _ _=>gp (ia _ _ _) fun _ _=>?_
  exact gp (Ek _ _ _ _) fun _ _=>gp (ia _ _ _) fun _ _=>gp (ia _ _ _) fun _ _=>lZ trivial
 .refine gp (ia _ _ _) fun _ _=>gp (ia _ _ _) fun _ _=>gp (ia _ _ _) fun _ _=>gp (ia _ _ _) fun _ _=>?_
  exact gp (Ci _ _ _ _) fun _ _=>gp (ia _ _ _) fun _ _=>gp (ia _ _ _) fun _ _=>lZ trivial
def GO {β:Type}(R:β->β->Prop):ForInStep β->ForInStep β->Prop
 |.done a,.done b|.yield a,.yield b=>R a b
 |_,_=>False
theorem kq {α β:Type}{R:β->β->Prop}{f f':α->β->Sem (ForInStep β)}:∀(l:List α),(∀a∈l,∀b b',R b b'->bj P π N V (GO R) (f a b) (f' a b'))->∀b b',R b b'->bj P π N V R (forIn l b f) (forIn l b' f')
 |[],_,b,b',h=>by simp only[List.forIn_nil];exact aj h
 |a::l,hf,b,b',h=>by
  simp only[List.forIn_cons];refine(hf a (by simp) b b' h).bind' fun x x' hx=>?_
  cases x<;>cases x'<;>first|exact hx.elim|exact aj hx|exact kq l (fun a ha=>hf a (by simp[ha])) _ _ hx
theorem ub {α β:Type}{R:β->β->Prop}{f f':α->β->Sem (ForInStep β)}(xs:Array α)(hf:∀a∈xs,∀b b',R b b'->bj P π N V (GO R) (f a b) (f' a b'))(b b':β)(h:R b b'):bj P π N V R (forIn xs b f) (forIn xs b' f'):=by
 rw[<-Array.forIn_toList,<-Array.forIn_toList];exact kq _ (fun a ha=>hf a (by simpa using ha)) b b' h
theorem ua {β:Type}{R:β->β->Prop}{f f':Nat->β->Sem (ForInStep β)}(r:Std.Legacy.Range)(hf:∀a,∀b b',R b b'->bj P π N V (GO R) (f a b) (f' a b'))(b b':β)(h:R b b'):bj P π N V R (forIn r b f) (forIn r b' f'):=by
 rw[Std.Legacy.Range.forIn_eq_forIn_range',Std.Legacy.Range.forIn_eq_forIn_range'];exact kq _ (fun a _=>hf a) b b' h
def eqTy (P:Program):Nat->TypeId->Bool
 |0,_=>false
 |n+1,t=>match P.underlying t with
  |some .bool|some (.int _)|some .string=>(match(P.info? t).map (·.desc) with|some (TypeDesc.named s _)=>s != "sync.copyChecker"|_=>true)
  |some (.struct fs)=>fs.all fun f=>eqTy P n f.type
  |some (.array _ e)=>eqTy P n e
  |_=>false
theorem VV.Ab {p:Option Addr}(h:VV V (.pointer p)){a:Addr}(e:p=some a):V a.block:=by subst e;exact h.ptr
theorem ee {β:Type}{R:β->β->Prop}{a:Addr}(hv:V a.block){f f':Addr×Bool->Sem β}(hf:∀x:Addr×Bool,bj P π N (fun i=>V i\/i=x.1.block) R (f x) (f' (bh π x.1,x.2))):
  bj P π N V R (behindNumber a>>=f) (behindNumber (bh π a)>>=f'):=by
 have here:bj P π N V R (f (a,false)) (f' (bh π a,false)):=(hf (a,false)).weak fun i hi=>hi.elim id fun e=>e▸hv
 unfold behindNumber numberAt;rw[bind_assoc,bind_assoc,bind_assoc,bind_assoc];refine bj.shape (k:=fun x=>_) hv fun x=>?_
 cases x with
 |some y=>exact here
 |none=>
  refine bj.getObj (k:=fun x=>_) fun o ho=>?_
  cases o with
  |number b l=>exact(hf (b,l)).weak fun i hi=>hi.elim .inl fun e=> .inr (.inr e)
  |_=>first|exact ho.elim|exact here.weak fun i hi=> .inl hi
theorem nE {a:Addr}(hv:V a.block):bj P π N V Eq (noView a) (noView (bh π a)):=DT hv a rfl
theorem p6 {a:Addr}(hv:V a.block):bj P π N V Eq (byteOf a) (byteOf (bh π a)):=by
 unfold byteOf;obtain⟨b,off,sp⟩:=a;cases sp with
 |some s=>exact aj rfl
 |none=>
  simp only[pure_bind];refine cy.bind' fun z z' h=>?_
  rw[h.1,h.2];refine(nE hv).bind' fun _ _ _=>?_
  refine bj.shape (k:=fun x=>_) hv fun x=>?_
  cases x with
  |none=>exact ai
  |some e=>
   obtain⟨e,n⟩:=e;dsimp only[Sem.bind];show bj P π N V Eq (if P.cellsOf e=0 then _ else _) (if P.cellsOf e=0 then _ else _)
   by_cases h0:P.cellsOf e=0
   .rw[if_pos h0,if_pos h0];exact aj rfl
   .rw[if_neg h0,if_neg h0]
    show bj P π N V Eq (match byteOfCell P P.depth e (off%P.cellsOf e) with|some b=>_|_=>_) (match byteOfCell P P.depth e (off%P.cellsOf e) with|some b=>_|_=>_);cases byteOfCell P P.depth e (off%P.cellsOf e) with
    |none=>exact ai
    |some b=>exact aj rfl
theorem BS (h0:π 0=0)(hi:∀i j,π i=π j->i=j)(hP1:P.globals.size<=1)(a b:Nat):(π a==π b&&decide (π a<P.globals.size))=(a==b&&decide (a<P.globals.size)):=by
 have e1:(π a==π b)=(a==b):=by
  rw[Bool.eq_iff_iff,beq_iff_eq,beq_iff_eq];exact⟨hi _ _,fun h=>by rw[h]⟩
 have e2:decide (π a<P.globals.size)=decide (a<P.globals.size):=by
  rw[decide_eq_decide];constructor
  .intro h
   have:a=0:=hi a 0 (by rw[h0];omega);rw[this] at h⊢;rw[h0] at h;exact h
  .intro h
   have:a=0:=by omega
   rw[this] at h⊢;rw[h0];exact h
 rw[e1,e2]
theorem yT (V:Nat->Prop){a b:Addr}(ha:V a.block)(hb:V b.block){β:Type}{R:β->β->Prop}{f:Nat->Nat->Sem β}{f':Nat->Nat->Sem β}(hf:∀x y,bj P π N V R (f x y) (f' x y)):
  bj P π N V R (byteOf a>>=fun x=>byteOf b>>=fun y=>f x y) (byteOf (bh π a)>>=fun x=>byteOf (bh π b)>>=fun y=>f' x y):=
 (p6 ha).bind' fun x _ h=>by subst h;exact(p6 hb).bind' fun y _ h=>by subst h;exact hf x y
theorem vM (hi:∀i j,π i=π j->i=j){a b:Addr}(h:bh π a=bh π b):a=b:=by
 obtain⟨b1,o1,s1⟩:=a;obtain⟨b2,o2,s2⟩:=b;simp only[bh,Addr.mk.injEq] at h;obtain⟨h1,h2,h3⟩:=h;rw[hi _ _ h1,h2,h3]
theorem py {a:Addr}(hN:∀r,V r->¬N r)(hv:V a.block):bj P π N V Eq (stringish a) (stringish (bh π a)):=by
 unfold stringish;refine bj.frozen (k:=fun x=>_) hv (hN _ hv) fun x=>?_
 cases x with
 |true=>exact aj rfl
 |false=>
  refine bj.shape (k:=fun x=>_) hv fun x=>?_
  cases x with
  |none=>exact aj rfl
  |some y=>exact bj.frozen (a:={block:=a.block,off:=y.2}) hv (hN _ hv) fun x=> .pure rfl
theorem zS {a b:Addr}(hN:∀r,V r->¬N r)(ha:V a.block)(hb:V b.block):bj P π N V Eq (mayBeOne a b) (mayBeOne (bh π a) (bh π b)):=by
 unfold mayBeOne;refine(py hN ha).bind' fun x _ h=>?_
 subst h;refine(py hN hb).bind' fun y _ h=>?_
 subst h;refine bj.shape (k:=fun x=>_) ha fun u=>?_
 refine bj.shape (k:=fun x=>_) hb fun v=>?_
 exact aj rfl
theorem zP {a b:Addr}(hinj:∀i j,π i=π j->i=j)(hN:∀r,V r->¬N r)(ha:V a.block)(hb:V b.block):bj P π N V Eq (sameAddr a b) (sameAddr (bh π a) (bh π b)):=by
 unfold sameAddr;have e1:((bh π a).block==(bh π b).block)=(a.block==b.block):=by
  rw[Bool.eq_iff_iff,beq_iff_eq,beq_iff_eq];exact⟨hinj _ _,fun h=>congrArg π h⟩
 have e2:(bh π a==bh π b)=(a==b):=by
  rw[Bool.eq_iff_iff,beq_iff_eq,beq_iff_eq];exact⟨vM hinj,fun h=>by rw[h]⟩
 rw[e1,e2];refine cD (aj rfl) ?_;refine bj.frozen (k:=fun x=>_) ha (hN _ ha) fun x=>?_
 refine bj.frozen (k:=fun x=>_) hb (hN _ hb) fun y=>?_
 refine cD (aG trivial) ?_;refine(nE ha).bind' fun _ _ _=>?_
 refine(nE hb).bind' fun _ _ _=>?_
 refine(zS hN ha hb).bind' fun z _ h=>?_
 subst h;refine cD (io.bind' fun n _ h=>?_) (aj rfl);subst h;exact aj rfl
def k9 (P:Program)(t:TypeId):Bool:=match P.underlying t with|some (.pointer _)=>true|_=>false
theorem nL {pe:Bool}(hN:pe=true->∀r,V r->¬N r)(h00:π 0=0)(hinj:∀i j,π i=π j->i=j)(hP1:P.globals.size<=1):∀(d n:Nat) (t:TypeId) (x y:Value),(eqTy P n t=true\/(x= .pointer none\/y= .pointer none)\/(pe&&k9 P t)=true)->VV V x->VV V y->
  bj P π N V Eq (Op.equalIn d t x y) (Op.equalIn d t (Value.ren π x) (Value.ren π y))
 |0,_,_,_,_,_,_,_=>aG trivial
 |d+1,n,t,x,y,ht,hx,hy=>by
  unfold Op.equalIn;refine(aE t).bind' fun u u' h=>?_
  obtain⟨rfl,hu⟩:=h;cases u with
  |bool=>
   cases x with
   |bool a=>cases y with
    |bool b=>simp only[dA];exact aj rfl
    |_=>exact ai
   |_=>exact ai
  |string=>
   cases x with
   |string a=>cases y with
    |string b=>simp only[bv];exact aj rfl
    |_=>exact ai
   |_=>exact ai
  |int ki=>
   cases x with
   |int k a=>cases y with
    |int k' b=>
     simp only[cq]
     by_cases hk:k=k'
     .simp only[hk,if_true];exact aj rfl
     .simp only[hk,if_false];exact ai
    |pointer b=>
     cases b with
     |none=>cases a with
      |ofNat m=>cases m<;>exact aG trivial
      |negSucc m=>exact aG trivial
     |some b=>cases a with
      |ofNat m=>cases m with
       |zero=>simp only[cq,aT,Option.map_some];exact aj rfl
       |succ m=>exact aG trivial
      |negSucc m=>exact aG trivial
    |_=>exact ai
   |pointer a=>cases a with
    |none=>cases y<;>exact aG trivial
    |some a=>cases y with
     |int k' b=>cases b with
      |ofNat m=>cases m with
       |zero=>simp only[cq,aT,Option.map_some];exact aj rfl
       |succ m=>exact aG trivial
      |negSucc m=>exact aG trivial
     |pointer b=>cases b with
      |none=>exact aG trivial
      |some b=>
       simp only[aT,Option.map_some];refine ee hx.ptr fun p=>ee (.inl hy.ptr) fun q=>?_
       dsimp only;refine cy.bind' fun z z' h=>?_
       obtain⟨rfl,rfl⟩:=h;have e2:=BS (P:=z') h00 hinj hP1 p.1.block q.1.block;rw[show(bh π p.1).block=π p.1.block from rfl,show(bh π q.1).block=π q.1.block from rfl,e2];refine cD ?_ ?_
       .exact yT _ (.inl (.inr rfl)) (.inr rfl) fun x y=>aj rfl
       .refine(d7 t).bind' fun i i' h=>?_
        obtain⟨rfl,hi⟩:=h;have ht':eqTy z' n t=true:=by simpa [k9,hu] using ht
        have hd:∀s u,i.desc= .named s u->s≠ "sync.copyChecker":=fun s u e=>by
         cases n with
         |zero=>simp[eqTy] at ht'
         |succ n=>simpa [eqTy,hu,hi,e] using ht'
        refine .dead ?_;split
        .rename_i e
         exact absurd rfl (hd _ _ e)
        .exact Dead.halt trivial
     |_=>exact aG trivial
   |_=>cases y<;>first|exact ai|exact aG trivial
  |pointer el=>
   have ht':=ht.resolve_left (by cases n<;>simp[eqTy,hu]);rcases ht' with(rfl|rfl)|hpe
   .cases y with
    |pointer b=>simp only[aT];exact aj (by cases b<;>rfl)
    |_=>exact ai
   .cases x with
    |pointer a=>cases a<;>(simp only[aT];exact aj rfl)
    |_=>exact ai
   .have hN':=hN (by simp only[Bool.and_eq_true] at hpe;exact hpe.1)
    cases x with
    |pointer a=>cases a with
     |none=>cases y with
      |pointer b=>simp only[aT];exact aj (by cases b<;>rfl)
      |_=>exact ai
     |some a=>cases y with
      |pointer b=>cases b with
       |none=>simp only[aT];exact aj rfl
       |some b=>
        simp only[aT,Option.map_some];refine(cH el).bind' fun m _ h=>?_
        obtain⟨rfl,_⟩:=h;have e2:(bh π a==bh π b)=(a==b):=by
         rw[Bool.eq_iff_iff,beq_iff_eq,beq_iff_eq];exact⟨vM hinj,fun h=>by rw[h]⟩
        rw[e2];refine cD (zP hinj hN' hx.ptr hy.ptr) (cD (aj rfl) (io.bind' fun n _ h=>?_));subst h;exact aj rfl
      |_=>exact ai
    |_=>exact ai
  |unsafePointer=>
   have ht':x= .pointer none\/y= .pointer none:=(ht.resolve_left (by cases n<;>simp[eqTy,hu])).resolve_right (by simp[k9,hu]);rcases ht' with rfl|rfl
   .cases y with
    |pointer b=>cases b<;>(simp only[aT];exact aj rfl)
    |_=>exact ai
   .cases x with
    |pointer a=>cases a<;>(simp only[aT];exact aj rfl)
    |_=>exact ai
  |struct fs=>
   cases x with
   |agg xs=>
     cases y with
    |agg ys=>
     have ht':eqTy P n t=true:=by simpa [k9,hu] using ht
     cases n with
     |zero=>simp[eqTy] at ht'
     |succ n=>
      simp only[eqTy,hu,Array.all_eq_true_iff_forall_mem] at ht';simp only[di];refine cy.bind' fun z z' h=>?_
      rw[h.1,h.2];split
      .exact aG trivial
      .refine(ub (R:=Eq) fs (fun f hf b b' hb=>?_) _ _ rfl).bind' fun r r' h=>?_
       .subst hb
        by_cases hn:f.name≠ "_"
        .simp only[hn,ne_eq,not_false_eq_true,if_true]
         refine(kj f.type xs f.offset).bind' fun u u' h=>?_
         obtain⟨rfl,h1⟩:=h;refine(kj f.type ys f.offset).bind' fun v v' h=>?_
         obtain⟨rfl,h2⟩:=h;refine(nL hN h00 hinj hP1 d n f.type u v (.inl (ht' f hf)) (hx.part h1) (hy.part h2)).bind' fun c c' h=>?_
         subst h;cases c<;>exact aj rfl
        .simp only[hn,if_false]
         exact aj rfl
       .subst h
        obtain⟨r1,r2⟩:=r;cases r1<;>exact aj rfl
    |_=>exact ai
   |_=>exact ai
  |array len e=>
   cases x with
   |agg xs=>cases y with
    |agg ys=>
     have ht':eqTy P n t=true:=by simpa [k9,hu] using ht
     cases n with
     |zero=>simp[eqTy] at ht'
     |succ n=>
      simp only[eqTy,hu] at ht';simp only[di];refine(cH e).bind' fun m m' h=>?_
      obtain⟨rfl,_⟩:=h;refine(ua (R:=Eq) _ (fun a b b' hb=>?_) _ _ rfl).bind' fun r r' h=>?_
      .subst hb
       refine(kj e xs _).bind' fun u u' h=>?_
       obtain⟨rfl,h1⟩:=h;refine(kj e ys _).bind' fun v v' h=>?_
       obtain⟨rfl,h2⟩:=h;refine(nL hN h00 hinj hP1 d n e u v (.inl ht') (hx.part h1) (hy.part h2)).bind' fun c c' h=>?_
       subst h;cases c<;>exact aj rfl
      .subst h
       obtain⟨r1,r2⟩:=r;cases r1<;>exact aj rfl
    |_=>exact ai
   |_=>exact ai
  |slice e=>
   have ht':x= .pointer none\/y= .pointer none:=(ht.resolve_left (by cases n<;>simp[eqTy,hu])).resolve_right (by simp[k9,hu]);rcases ht' with rfl|rfl
   .exact ai
   .cases x with
    |slice a _ _=>cases a<;>exact ai
    |_=>exact ai
  |map ke e=>
   have ht':x= .pointer none\/y= .pointer none:=(ht.resolve_left (by cases n<;>simp[eqTy,hu])).resolve_right (by simp[k9,hu]);rcases ht' with rfl|rfl
   .exact ai
   .cases x with
    |map a=>cases a<;>exact ai
    |_=>exact ai
  |_=>
   have ht':x= .pointer none\/y= .pointer none:=(ht.resolve_left (by cases n<;>simp[eqTy,hu])).resolve_right (by simp[k9,hu]);rcases ht' with rfl|rfl
   .exact ai
   .cases x<;>exact ai
theorem nD (h00:π 0=0)(hinj:∀i j,π i=π j->i=j)(hP1:P.globals.size<=1){a b:Addr}(ha:V a.block)(hb:V b.block){β:Type}{R:β->β->Prop}{f f':Nat×Nat->Sem β}(hf:∀x,bj P π N V R (f x) (f' x)):
  bj P π N V R (Op.twoPlaces a b>>=f) (Op.twoPlaces (bh π a) (bh π b)>>=f'):=by
 have e2:=BS (P:=P) h00 hinj hP1 a.block b.block;have e3:(π a.block !=π b.block||decide (π a.block>=P.globals.size))=(a.block !=b.block||decide (a.block>=P.globals.size)):=by
  have:=congrArg (!·) e2;simp only[Bool.not_and] at this;have d1:∀x:Nat,(!decide (x<P.globals.size))=decide (x>=P.globals.size):=fun x=>by
   rw[<-decide_not];exact decide_eq_decide.2 (by omega)
  rw[d1,d1] at this;exact this
 unfold Op.twoPlaces;simp only[bind_assoc];refine cy.bind' fun z z' h=>?_
 rw[h.1,h.2,show(bh π a).block=π a.block from rfl,show(bh π b).block=π b.block from rfl,e3]
 by_cases hc:(a.block !=b.block||decide (a.block>=P.globals.size))=true
 .rw[if_pos hc];exact il trivial
 .rw[if_neg hc,if_neg hc]
  simp only[bind_assoc,pure_bind];exact yT _ ha hb fun x y=>hf (x,y)
theorem BM (h00:π 0=0)(hinj:∀i j,π i=π j->i=j)(hP1:P.globals.size<=1){k:IntKind}{a b:Addr}(ha:V a.block)(hb:V b.block):bj P π N V (RV π) (Op.addrSub k a b) (Op.addrSub k (bh π a) (bh π b)):=by
 unfold Op.addrSub;exact nD h00 hinj hP1 ha hb fun x=>aj (by simp[RV])
theorem BN (h00:π 0=0)(hinj:∀i j,π i=π j->i=j)(hP1:P.globals.size<=1){op:BinOp}{a b:Addr}(ha:V a.block)(hb:V b.block):bj P π N V (RV π) (Op.addrCmp op a b) (Op.addrCmp op (bh π a) (bh π b)):=by
 unfold Op.addrCmp;refine nD h00 hinj hP1 ha hb fun x=>?_
 cases op<;>first|exact aG trivial|exact aj (by simp[RV])
theorem nP {k:IntKind}{a:Addr}{n:Int}(hv:V a.block):bj P π N V (RV π) (Op.addrMod k a n) (Op.addrMod k (bh π a) n):=by
 unfold Op.addrMod;refine bj.shape (k:=fun x=>_) hv fun x=>?_
 cases x with
 |none=>exact aG trivial
 |some e=>
  obtain⟨e,m⟩:=e;refine(d7 e).bind' fun i i' h=>?_
  obtain⟨rfl,_⟩:=h;dsimp only;split
  .exact aG trivial
  .refine(p6 hv).bind' fun b b' h=>?_
   subst h;exact aj (by simp[RV])
theorem lF (t:TypeId)(ats:Array TypeId)(p:Option Addr)(y:Value)(hp:∀a,p=some a->V a.block):
  bj P π N V (fun v v'=>v'=Value.ren π v/\∀b,v= .pointer (some b)->∃a,p=some a/\b.block=a.block) (Builtin.unsafeAdd_ ats t #[.pointer p,y]) (Builtin.unsafeAdd_ ats t #[.pointer (p.map (bh π)),Value.ren π y]):=by
 unfold Builtin.unsafeAdd_;dsimp only;refine(j9 y).bind' fun n n' h=>?_
 subst h
 by_cases h0:n=0
 .simp only[h0,if_true]
  cases p with
  |none=>exact aG trivial
  |some a=>
   simp only[Option.map_some];refine(pZ (hp a rfl)).bind' fun x x' h=>?_
   subst h;cases x with
   |some z=>exact aG trivial
   |none=>exact aj ⟨by simp,fun b hb=>⟨a,rfl,by cases hb;rfl⟩⟩
 .simp only[h0,if_false]
  split
  .exact aG trivial
  .cases p with
   |none=>exact aG trivial
   |some a=>
    simp only[Option.map_some];refine bj.shape (k:=fun x=>_) (hp a rfl) fun x=>?_
    cases x with
    |none=>exact aG trivial
    |some e=>
     obtain⟨e,m⟩:=e;refine cy.bind' fun z z' h=>?_
     rw[h.1,h.2];show bj P π N V _ (match cellAtBytes P P.depth e (m/P.cellsOf e) a.off n with|some off=>_|none=>_) (match cellAtBytes P P.depth e (m/P.cellsOf e) a.off n with|some off=>_|none=>_);cases cellAtBytes P P.depth e (m/P.cellsOf e) a.off n with
     |none=>exact aG trivial
     |some o=>exact aj ⟨by simp[bh],fun b hb=>⟨a,rfl,by cases hb;rfl⟩⟩
theorem zW {a:Addr}{l:Bool}(hv:V a.block):bj P π N V (RV π) (asNumber a l) (asNumber (bh π a) l):=by
 unfold asNumber newObj;exact bj.new (o:= .number a l) trivial (fun i hi=>by rw[show i=a.block from hi];exact hv) fun b _=> .pure (by simp[RV,bh])
theorem jN {t:TypeId}{p:Option Addr}{y:Value}(hp:∀a,p=some a->V a.block):bj P π N V (RV π) (movedNumber t (.pointer p) y) (movedNumber t (.pointer (p.map (bh π))) (Value.ren π y)):=by
 unfold movedNumber;refine(aE t).bind' fun u u' h=>?_
 obtain⟨rfl,hu⟩:=h;cases p with
 |none=>
  have tail:=(lF (P:=P) (π:=π) (N:=N) (V:=V) t #[] none y (fun a h=>by cases h)).mono (R':=RV π) fun _ _ h=>h.1
  cases u<;>first|exact aG trivial|exact tail
 |some a=>
  have tail:bj P π N V (RV π) (behindNumber a>>=fun x=>Builtin.unsafeAdd_ #[] t #[.pointer (some x.1),y]>>=fun v=>match v with|.pointer (some b)=>asNumber b x.2|v=>Pure.pure v)
    (behindNumber (bh π a)>>=fun x=>Builtin.unsafeAdd_ #[] t #[.pointer (some x.1),Value.ren π y]>>=fun v=>match v with|.pointer (some b)=>asNumber b x.2|v=>Pure.pure v):=by
   refine ee (hp a rfl) fun x=>?_
   obtain⟨x,l⟩:=x;dsimp only;refine(lF t #[] (some x) y (fun a h=>by cases h;exact .inr rfl)).bind' fun v v' h=>?_
   obtain⟨rfl,h⟩:=h;cases v with
   |pointer b=>cases b with
    |none=>simp only[aT];exact aj (by simp[RV])
    |some b=>
     obtain⟨a',ha,hb⟩:=h b rfl;cases ha;simp only[aT,Option.map_some];exact zW (.inr hb)
   |_=>simp only[dA,cq,dj,cQ,bv,dy,cI,bF,dl,dN,cP,di,cO,da];exact aj (by simp[RV])
  cases u<;>first|exact aG trivial|exact tail
theorem sj {t:TypeId}{p:Option Addr}{y:Value}(hp:∀a,p=some a->V a.block):bj P π N V (RV π) (movedPointer t (.pointer p) y) (movedPointer t (.pointer (p.map (bh π))) (Value.ren π y)):=by
 unfold movedPointer;have tail:=(lF (P:=P) (π:=π) (N:=N) (V:=V) t #[] p y hp).mono (R':=RV π) fun _ _ h=>h.1
 cases p with
 |none=>exact tail
 |some a=>
  simp only[Option.map_some];refine(zQ (hp a rfl)).bind' fun x x' h=>?_
  subst h;cases x with
  |some z=>exact aG trivial
  |none=>exact tail
theorem Hp {pe:Bool}(hN:pe=true->∀r,V r->¬N r)(h00:π 0=0)(hinj:∀i j,π i=π j->i=j)(hP1:P.globals.size<=1){n:Nat}{t:TypeId}{x y:Value}(ht:eqTy P n t=true\/(x= .pointer none\/y= .pointer none)\/(pe&&k9 P t)=true)(hx:VV V x)(hy:VV V y):
  bj P π N V Eq (Op.equal t x y) (Op.equal t (Value.ren π x) (Value.ren π y)):=nL hN h00 hinj hP1 _ n t x y ht hx hy
theorem KQ {α:Type}{Q:α->Prop}(m:String):PQ P Q (runtimePanic (.error m):Sem α):= .program (.halt trivial)
theorem KP (op:BinOp)(k:IntKind)(a:Int)(k':IntKind)(b:Int):PQ P eP (Op.shift op k a k' b):=by
 unfold Op.shift;split
 .exact KQ _
 .cases op<;>first|exact JC|exact lZ trivial
theorem tB (op:BinOp)(k:IntKind)(a b:Int):PQ P eP (Op.intArith op k a b):=by
 unfold Op.intArith;cases op<;>first|exact JC|exact lZ trivial
theorem Ig (op:BinOp)(k:IntKind)(a b:Int):PQ P eP (Op.intDiv op k a b):=by
 unfold Op.intDiv;split
 .exact KQ _
 .cases op<;>first|exact JC|exact lZ trivial
theorem vV (op:BinOp)(k:IntKind)(a b:Int):PQ P eP (Op.intBits op k a b):=by
 unfold Op.intBits;cases op<;>first|exact JC|exact lZ trivial
theorem Ih (op:BinOp)(a b:Int):PQ P eP (Op.intCmp op a b):=by
 unfold Op.intCmp;cases op<;>first|exact JC|exact lZ trivial
theorem tA (op:BinOp)(a b:ByteArray):PQ P eP (Op.stringOp op a b):=by
 unfold Op.stringOp;cases op<;>first|exact JC|exact lZ trivial|skip
 dsimp only;split
 .exact .halt trivial
 .exact lZ trivial
theorem vW {α:Type}{Q:α->Prop}{p:Prop}[Decidable p]{m:String}{s:Sem α}(h:PQ P Q s):PQ P Q (if p then stuck m else s):=by
 split
 .exact JC
 .exact h
theorem Pb (op:BinOp)(t:TypeId)(k k':IntKind)(a b:Int):PQ P eP (binOp op t (.int k a) (.int k' b)):=by
 unfold binOp;cases op<;>first|exact KP _ _ _ _ _|exact vW (tB _ _ _ _)|exact vW (Ig _ _ _ _)|exact vW (vV _ _ _ _)|exact vW (Ih _ _ _)
theorem Ii (op:BinOp)(t:TypeId)(k k':FloatKind)(a b:Nat):PQ P eP (binOp op t (.float k a) (.float k' b)):=by
 unfold binOp;cases op<;>first|exact vW (pF _ _ _ _)|exact vW (tC _ _ _ _)
theorem Cj (op:BinOp)(t:TypeId)(k k':FloatKind)(a b c d:Nat):PQ P eP (binOp op t (.complex k a b) (.complex k' c d)):=by
 unfold binOp;cases op<;>exact vW (Ac _ _ _ _ _ _)
theorem Ej (op:BinOp)(t:TypeId)(a b:ByteArray):PQ P eP (binOp op t (.string a) (.string b)):=by
 unfold binOp;cases op<;>exact tA _ _ _
theorem FF {s s':Sem Bool}(h:bj P π N V Eq s s'):bj P π N V (RV π) (do Pure.pure (.bool (<-s)):Sem Value) (do Pure.pure (.bool (<-s')):Sem Value):=h.bind' fun b b' e=>by subst e;exact aj (by simp[RV])
theorem FE {s s':Sem Bool}(h:bj P π N V Eq s s'):bj P π N V (RV π) (do Pure.pure (.bool (!(<-s))):Sem Value) (do Pure.pure (.bool (!(<-s'))):Sem Value):=h.bind' fun b b' e=>by subst e;exact aj (by simp[RV])
def jc:Value->Bool
 |.int _ _|.float _ _|.complex _ _ _|.string _|.pointer _=>false
 |_=>true
theorem C5 {v:Value}(h:jc v=true):jc (Value.ren π v)=true:=by cases v<;>simp_all [jc]
theorem oD {t:TypeId}{x y:Value}(h:jc x=true\/jc y=true):binOp .eql t x y=(do Pure.pure (.bool (<-Op.equal t x y))):=by
 unfold binOp;cases x<;>cases y<;>first|rfl|simp[jc] at h
theorem oC {t:TypeId}{x y:Value}(h:jc x=true\/jc y=true):binOp .neq t x y=(do Pure.pure (.bool (!(<-Op.equal t x y)))):=by
 unfold binOp;cases x<;>cases y<;>first|rfl|simp[jc] at h
theorem I7 {op:BinOp}{t:TypeId}{x y:Value}(h:jc x=true\/jc y=true)(h1:op≠.eql)(h2:op≠.neq):Dead P (binOp op t x y):=by
 unfold binOp;cases op<;>first|exact absurd rfl h1|exact absurd rfl h2|skip
 all_goals (cases x with
  |pointer a=>cases a<;>cases y<;>first|exact Dead.halt trivial|(simp[jc] at h;done)
  |_=>cases y with
   |pointer b=>cases b<;>first|exact Dead.halt trivial|(simp[jc] at h;done)
   |_=>first|exact Dead.halt trivial|(simp[jc] at h;done))
theorem Hs {pe:Bool}(hN:pe=true->∀r,V r->¬N r)(h00:π 0=0)(hinj:∀i j,π i=π j->i=j)(hP1:P.globals.size<=1){op:BinOp}{n:Nat}{t:TypeId}{x y:Value}
  (hq:op= .eql\/op= .neq->eqTy P n t=true\/(x= .pointer none\/y= .pointer none)\/(pe&&k9 P t)=true) (hx:VV V x) (hy:VV V y):
  bj P π N V (RV π) (binOp op t x y) (binOp op t (Value.ren π x) (Value.ren π y)):=by
 have hE:(op= .eql\/op= .neq)->bj P π N V Eq (Op.equal t x y) (Op.equal t (Value.ren π x) (Value.ren π y)):=fun h=>Hp hN h00 hinj hP1 (hq h) hx hy
 by_cases hd:jc x=true\/jc y=true
 .have hd':jc (Value.ren π x)=true\/jc (Value.ren π y)=true:=hd.imp C5 C5
  by_cases h1:op= .eql
  .subst h1
   rw[oD hd,oD hd'];exact FF (hE (.inl rfl))
  .by_cases h2:op= .neq
   .subst h2
    rw[oC hd,oC hd'];exact FE (hE (.inr rfl))
   .exact .dead (I7 hd h1 h2)
 .cases x<;>first|exact absurd (.inl rfl) hd|skip
  all_goals (cases y<;>first|exact absurd (.inr rfl) hd|skip)
  all_goals (simp only[cq,dj,cQ,bv,aT] at hE⊢)
  all_goals first
   |exact dD (Pb _ _ _ _ _ _)
   |exact dD (Ii _ _ _ _ _ _)
   |exact dD (Cj _ _ _ _ _ _ _ _)
   |exact dD (Ej _ _ _ _)
   |skip
  all_goals unfold binOp
  all_goals (cases op<;>first|exact ai|exact aG trivial|exact FF (hE (.inl rfl))|exact FE (hE (.inr rfl))|skip)
  case neg.int.pointer.add k a p=>
   have:=jN (P:=P) (π:=π) (N:=N) (V:=V) (t:=t) (p:=p) (y:= .int k a) fun b e=>hy.Ab e
   rw[cq] at this;exact this
  case neg.int.pointer.and k a p=>
   cases p with
   |none=>exact aG trivial
   |some p=>exact ee hy.ptr fun z=>nP (.inr rfl)
  case neg.pointer.int.add p k a=>
   have h1:=jN (P:=P) (π:=π) (N:=N) (V:=V) (t:=t) (p:=p) (y:= .int k a) fun b e=>hx.Ab e
   have h2:=sj (P:=P) (π:=π) (N:=N) (V:=V) (t:=t) (p:=p) (y:= .int k a) fun b e=>hx.Ab e
   rw[cq] at h1 h2;refine(aE t).bind' fun u u' h=>?_
   obtain⟨rfl,_⟩:=h;cases u<;>first|exact h2|exact h1
  case neg.pointer.int.sub p k a=>
   have h1:=jN (P:=P) (π:=π) (N:=N) (V:=V) (t:=t) (p:=p) (y:= .int k (-a)) fun b e=>hx.Ab e
   rw[cq] at h1;exact h1
  case neg.pointer.int.rem p k a=>
   cases p with
   |none=>exact aG trivial
   |some p=>exact ee hx.ptr fun z=>nP (.inr rfl)
  case neg.pointer.int.and p k a=>
   cases p with
   |none=>exact aG trivial
   |some p=>exact ee hx.ptr fun z=>nP (.inr rfl)
  case neg.pointer.pointer.sub p q=>
   cases p with
   |none=>cases q<;>exact aG trivial
   |some p=>cases q with
    |none=>exact aG trivial
    |some q=>exact ee hx.ptr fun z=>ee (.inl hy.ptr) fun z'=>BM h00 hinj hP1 (.inl (.inr rfl)) (.inr rfl)
  all_goals first
   |(rename_i p q;cases p<;>cases q<;>first
     |exact aG trivial
     |exact ee hx.ptr fun z=>ee (.inl hy.ptr) fun z'=>BN h00 hinj hP1 (.inl (.inr rfl)) (.inr rfl)
     |(done))
   |(rename_i p _;cases p<;>exact aG trivial)
   |(rename_i p _ _;cases p<;>exact aG trivial)
   |(rename_i p _ _ _;cases p<;>exact aG trivial)
theorem KO {op:UnOp}{x:Value}:∀{π:Nat->Nat},bj P π N V (RV π) (Op.unary op x) (Op.unary op (Value.ren π x)):=by
 intro π;unfold Op.unary;cases x with
 |int k n=>simp only[cq];cases op<;>first|exact ai|exact dD (tB _ _ _ _)|exact dD (vV _ _ _ _)
 |float k n=>simp only[dj];cases op<;>first|exact ai|exact dD (lZ trivial)
 |complex k n m=>simp only[cQ];cases op<;>first|exact ai|exact dD (lZ trivial)
 |bool b=>simp only[dA];cases op<;>first|exact ai|exact dD (lZ trivial)
 |pointer a=>cases a<;>cases op<;>first|exact ai|exact aG trivial
 |_=>cases op<;>exact ai
theorem BI {op:BinOp}{n:Nat}{t:TypeId}{x y:Operand}{a b:Value}(hq:op= .eql\/op= .neq->((eqTy P n t=true\/k9 P t=true)/\P.eqGuardType P.depth t=false)\/a= .pointer none\/b= .pointer none):
  bj P π N V Eq (eqGuard op t x y a b) (eqGuard op t x y (Value.ren π a) (Value.ren π b)):=by
 unfold eqGuard;cases op<;>first|exact aj rfl|skip
 all_goals
  rcases hq (by simp) with⟨h1,h2⟩|rfl|rfl
  .cases a with
   |nilIface=>cases b with
    |nilIface=>
     simp only[cI];refine cD (aj rfl) (cD (aj rfl) ?_)
     .rw[show Op.maxDepth=9999+1 from rfl]
      unfold Op.eqGuardIn;rw[bind_assoc];refine(aE t).bind' fun u u' h=>?_
      obtain⟨rfl,hu⟩:=h;cases u<;>first|exact aj rfl|(cases n<;>simp[eqTy,k9,hu] at h1)
    |_=>simp only[dA,cq,dj,cQ,bv,aT,dy,cI,bF,dl,dN,cP,di,cO,da];exact aj rfl
   |agg xs=>cases b with
    |agg ys=>
     simp only[di];refine cy.bind' fun z z' h=>?_
     rw[h.1,h.2];refine cy.bind' fun z z' h=>?_
     rw[h.1,h.2,h2];exact aj rfl
    |_=>simp only[dA,cq,dj,cQ,bv,aT,dy,cI,bF,dl,dN,cP,di,cO,da];exact aj rfl
   |_=>simp only[dA,cq,dj,cQ,bv,aT,dy,cI,bF,dl,dN,cP,di,cO,da];exact aj rfl
  .simp only[aT];exact aj rfl
  .cases a<;>(simp only[dA,cq,dj,cQ,bv,aT,dy,cI,bF,dl,dN,cP,di,cO,da];exact aj rfl)
end
end
end
end Go.Proofs.YtchcmhodnkgojaaGreat
