/- On the way to the last text; put together and shortened by program. -/
import Derived.Test.YtchcmhodnkgojaaGreatPart3
set_option linter.all false
set_option maxRecDepth 100000
set_option maxHeartbeats 8000000
namespace Go.Proofs.YtchcmhodnkgojaaGreat
noncomputable section
section
open Go.Conc
section
variable {P:Program}{π:Nat->Nat}{N V:Nat->Prop}
theorem p4 {r:Nat}(hv:V r):bk P π N V (fun a b=>b=a.map fun x=>(bi π x.1,x.2)) (viewAt r) (viewAt (π r)):=by
 unfold viewAt;refine bk.shape (k:=fun x=>_) hv fun x=>?_
 cases x with
 |some y=>exact al rfl
 |none=>
  refine bk.getObj (k:=fun x=>_) fun o ho=>?_
  cases o<;>first|exact ho.elim|exact al rfl
theorem zR {r:Nat}(hv:V r):bk P π N V (fun a b=>b=a.map fun x=>(bi π x.1,x.2)) (numberAt r) (numberAt (π r)):=by
 unfold numberAt;refine bk.shape (k:=fun x=>_) hv fun x=>?_
 cases x with
 |some y=>exact al rfl
 |none=>
  refine bk.getObj (k:=fun x=>_) fun o ho=>?_
  cases o<;>first|exact ho.elim|exact al rfl
theorem DI {r:Nat}(hv:V r)(a:Addr)(ha:a.block=r):bk P π N V Eq (noView a) (noView (bi π a)):=by
 unfold noView;subst ha;refine(p4 hv).bind' fun x y h=>?_
 subst h;cases x with
 |none=>exact al rfl
 |some z=>exact aH trivial
theorem cD {α:Type}{R:α->α->Prop}{c:Prop}[Decidable c]{s₁ s₁' s₂ s₂':Sem α}(h1:bk P π N V R s₁ s₁')(h2:bk P π N V R s₂ s₂'):bk P π N V R (if c then s₁ else s₂) (if c then s₁' else s₂'):=by
 split
 .exact h1
 .exact h2
inductive PQ (P:Program){α:Type}(Q:α->Prop):Sem α->Prop
 |pure {a:α} (h:Q a):PQ P Q (.pure a)
 |halt {h:Halt} (hh:kr h):PQ P Q (.halt h)
 |choose {q:Question} {k:Nat->Sem α} (h:∀n,PQ P Q (k n)):PQ P Q (.choose q k)
 |program {k:Program->Sem α} (h:PQ P Q (k P)):PQ P Q (.program k)
theorem PQ.bind {α β:Type}{Q:α->Prop}{Q':β->Prop}{s:Sem α}(h:PQ P Q s){f:α->Sem β}(hf:∀a,Q a->PQ P Q' (f a)):PQ P Q' (s.bind f):=by
 induction h with
 |pure h=>exact hf _ h
 |halt h=>exact .halt h
 |choose _ ih=>exact .choose fun n=>ih n
 |program _ ih=>exact .program ih
theorem gn {α β:Type}{Q:α->Prop}{Q':β->Prop}{s:Sem α}(h:PQ P Q s){f:α->Sem β}(hf:∀a,Q a->PQ P Q' (f a)):PQ P Q' (s>>=f):=h.bind hf
theorem lU {α:Type}{Q:α->Prop}{a:α}(h:Q a):PQ P Q (Pure.pure a):= .pure h
theorem Jm {α:Type}{Q:α->Prop}{m:String}:PQ P Q (stuck m:Sem α):= .halt trivial
theorem afp {α β:Type}{Q:β->Prop}{m:String}{f:α->Sem β}:PQ P Q ((stuck m:Sem α)>>=f):= .halt trivial
theorem pqc {q:Question}:PQ P (fun _=>True) (choose q):= .choose fun _=> .pure trivial
theorem SR {α:Type}{Q:α->Prop}{s:Sem α}(h:PQ P Q s):bk P π N V (fun a b=>a=b/\Q a) s s:=by
 induction h with
 |pure h=>exact .pure ⟨rfl,h⟩
 |halt h=>exact .dead (.halt h)
 |choose _ ih=>exact .choose fun n=>ih n
 |program _ ih=>exact .program ih
def eR:Value->Prop
 |.bool _|.int _ _|.float _ _|.complex _ _ _|.string _=>True
 |_=>False
theorem Hr {v:Value}(h:eR v):Value.ren π v=v:=by cases v<;>first|exact h.elim|simp
theorem dJ {s:Sem Value}(h:PQ P eR s):bk P π N V (RV π) s s:=(SR h).mono fun a b h=>by rw[RV,Hr h.2];exact h.1.symm
theorem pG (op:BinOp)(k:FloatKind)(x y:Nat):PQ P eR (Op.floatArith op k x y):=by
 unfold Op.floatArith;have tail:∀r:Option Nat,PQ P eR (match r with|some r=>Pure.pure (Value.float k r)|none=>(do let c <-choose (.nanBits k x y);Pure.pure (.float k c))):=by
  intro r;cases r with
  |none=>exact gn pqc fun n _=>lU trivial
  |some r=>exact lU trivial
 cases op<;>first|exact tail _|exact afp
theorem tP (op:BinOp)(k:FloatKind)(x y:Nat):PQ P eR (Op.floatCmp op k x y):=by
 unfold Op.floatCmp;cases op<;>first|exact Jm|exact lU trivial
theorem US (s:FloatKind)(b:Nat)(d:FloatKind):PQ P eR (Conv.floatToFloat s b d):=by
 unfold Conv.floatToFloat;split
 .exact lU trivial
 .split
  .exact gn pqc fun n _=>lU trivial
  .exact lU trivial
  .dsimp only
   split
   .exact gn pqc fun n _=>lU trivial
   .exact lU trivial
theorem UR (s:FloatKind)(b:Nat)(d:IntKind):PQ P eR (Conv.floatToInt s b d):=by
 unfold Conv.floatToInt;have any:PQ P eR (do Pure.pure (.int d (d.wrap (<-choose (.floatToInt s b d)))):Sem Value):=gn pqc fun n _=>lU trivial
 dsimp only;split
 .split
  .exact lU trivial
  .exact any
 .exact any
theorem bF (op:BinOp)(k:FloatKind)(x y:Nat):PQ P (fun _=>True) (Op.Complex.arith op k x y):=by
 unfold Op.Complex.arith;refine gn (pG op k x y) fun v hv=>?_
 cases v<;>first|exact Jm|exact lU trivial
theorem y6 (v:Value):PQ P (fun _=>True) (asBool v):=by cases v<;>first|exact Jm|exact lU trivial
theorem v6 (op:BinOp)(k:FloatKind)(x y:Nat):PQ P (fun _=>True) (Op.Complex.cmp op k x y):=gn (tP op k x y) fun v _=>y6 v
theorem hY (s:FloatKind)(x:Nat)(d:FloatKind):PQ P (fun _=>True) (Op.Complex.conv s x d):=by
 unfold Op.Complex.conv;split
 .exact lU trivial
 .refine gn (US s x d) fun v hv=>?_
  cases v<;>first|exact Jm|exact lU trivial
theorem D8 (a b c d:Nat):PQ P (fun _=>True) (Op.Complex.product a b c d):=
 gn (bF _ _ _ _) fun _ _=>gn (bF _ _ _ _) fun _ _=>gn (bF _ _ _ _) fun _ _=>gn (bF _ _ _ _) fun _ _=>gn (bF _ _ _ _) fun _ _=>gn (bF _ _ _ _) fun _ _=>lU trivial
theorem qT (s a b c d:Nat):PQ P (fun _=>True) (Op.Complex.corrected s a b c d):=
 gn (bF _ _ _ _) fun _ _=>gn (bF _ _ _ _) fun _ _=>gn (bF _ _ _ _) fun _ _=>gn (bF _ _ _ _) fun _ _=>gn (bF _ _ _ _) fun _ _=>gn (bF _ _ _ _) fun _ _=>gn (bF _ _ _ _) fun _ _=>gn (bF _ _ _ _) fun _ _=>lU trivial
theorem Cc (a b c d:Nat):PQ P (fun _=>True) (Op.Complex.quotient a b c d):=by
 unfold Op.Complex.quotient;have tail:∀p:Nat×Nat,PQ P (fun _=>True) (do
   let zero:=(<-Op.Complex.cmp .eql .f64 c 0)&&(<-Op.Complex.cmp .eql .f64 d 0)
   if !(Op.Complex.isNaN p.1&&Op.Complex.isNaN p.2) then Pure.pure p
   else if zero&&(!Op.Complex.isNaN a||!Op.Complex.isNaN b) then
    Pure.pure (<-Op.Complex.mul (Op.Complex.copysign Op.Complex.inf c) a,<-Op.Complex.mul (Op.Complex.copysign Op.Complex.inf c) b)
   else if(Op.Complex.isInf a||Op.Complex.isInf b)&&Op.Complex.isFinite c&&Op.Complex.isFinite d then
    Op.Complex.corrected Op.Complex.inf (Op.Complex.inf2one a) (Op.Complex.inf2one b) c d
   else if(Op.Complex.isInf c||Op.Complex.isInf d)&&Op.Complex.isFinite a&&Op.Complex.isFinite b then
    Op.Complex.corrected 0 a b (Op.Complex.inf2one c) (Op.Complex.inf2one d)
   else Pure.pure p):=by
  intro p;refine gn (v6 _ _ _ _) fun _ _=>gn (v6 _ _ _ _) fun _ _=>?_
  dsimp only;split
  .exact lU trivial
  .split
   .exact gn (bF _ _ _ _) fun _ _=>gn (bF _ _ _ _) fun _ _=>lU trivial
   .split
    .exact qT _ _ _ _ _
    .split
     .exact qT _ _ _ _ _
     .exact lU trivial
 refine gn (v6 _ _ _ _) fun t _=>?_
 cases t
 .exact gn (bF _ _ _ _) fun _ _=>gn (bF _ _ _ _) fun _ _=>gn (bF _ _ _ _) fun _ _=>gn (bF _ _ _ _) fun _ _=>gn (bF _ _ _ _) fun _ _=>gn (bF _ _ _ _) fun _ _=>gn (bF _ _ _ _) fun _ _=>gn (bF _ _ _ _) fun _ _=>gn (bF _ _ _ _) fun _ _=>gn (Q:=fun _=>True) (lU trivial) fun p _=>tail p
 .exact gn (bF _ _ _ _) fun _ _=>gn (bF _ _ _ _) fun _ _=>gn (bF _ _ _ _) fun _ _=>gn (bF _ _ _ _) fun _ _=>gn (bF _ _ _ _) fun _ _=>gn (bF _ _ _ _) fun _ _=>gn (bF _ _ _ _) fun _ _=>gn (bF _ _ _ _) fun _ _=>gn (bF _ _ _ _) fun _ _=>gn (Q:=fun _=>True) (lU trivial) fun p _=>tail p
theorem Ad (op:BinOp)(k:FloatKind)(a b c d:Nat):PQ P eR (Op.complexOp op k a b c d):=by
 unfold Op.complexOp;have two:∀o,PQ P eR (do Pure.pure (.complex k (<-Op.Complex.arith o k a c) (<-Op.Complex.arith o k b d)):Sem Value):=fun o=>gn (bF _ _ _ _) fun _ _=>gn (bF _ _ _ _) fun _ _=>lU trivial
 cases op<;>first|exact Jm|exact two _|exact gn (v6 _ _ _ _) fun _ _=>gn (v6 _ _ _ _) fun _ _=>lU trivial|skip
 .refine gn (hY _ _ _) fun _ _=>gn (hY _ _ _) fun _ _=>gn (hY _ _ _) fun _ _=>gn (hY _ _ _) fun _ _=>?_
  exact gn (D8 _ _ _ _) fun _ _=>gn (hY _ _ _) fun _ _=>gn (hY _ _ _) fun _ _=>lU trivial
 .refine gn (hY _ _ _) fun _ _=>gn (hY _ _ _) fun _ _=>gn (hY _ _ _) fun _ _=>gn (hY _ _ _) fun _ _=>?_
  exact gn (Cc _ _ _ _) fun _ _=>gn (hY _ _ _) fun _ _=>gn (hY _ _ _) fun _ _=>lU trivial
def GC {β:Type}(R:β->β->Prop):ForInStep β->ForInStep β->Prop
 |.done a,.done b|.yield a,.yield b=>R a b
 |_,_=>False
theorem kh {α β:Type}{R:β->β->Prop}{f f':α->β->Sem (ForInStep β)}:∀(l:List α),(∀a∈l,∀b b',R b b'->bk P π N V (GC R) (f a b) (f' a b'))->∀b b',R b b'->bk P π N V R (forIn l b f) (forIn l b' f')
 |[],_,b,b',h=>by simp only[List.forIn_nil];exact al h
 |a::l,hf,b,b',h=>by
  simp only[List.forIn_cons];refine(hf a (by simp) b b' h).bind' fun x x' hx=>?_
  cases x<;>cases x'<;>first|exact hx.elim|exact al hx|exact kh l (fun a ha=>hf a (by simp[ha])) _ _ hx
theorem uv {α β:Type}{R:β->β->Prop}{f f':α->β->Sem (ForInStep β)}(xs:Array α)(hf:∀a∈xs,∀b b',R b b'->bk P π N V (GC R) (f a b) (f' a b'))(b b':β)(h:R b b'):bk P π N V R (forIn xs b f) (forIn xs b' f'):=by
 rw[<-Array.forIn_toList,<-Array.forIn_toList];exact kh _ (fun a ha=>hf a (by simpa using ha)) b b' h
theorem uu {β:Type}{R:β->β->Prop}{f f':Nat->β->Sem (ForInStep β)}(r:Std.Legacy.Range)(hf:∀a,∀b b',R b b'->bk P π N V (GC R) (f a b) (f' a b'))(b b':β)(h:R b b'):bk P π N V R (forIn r b f) (forIn r b' f'):=by
 rw[Std.Legacy.Range.forIn_eq_forIn_range',Std.Legacy.Range.forIn_eq_forIn_range'];exact kh _ (fun a _=>hf a) b b' h
def eqTy (P:Program):Nat->TypeId->Bool
 |0,_=>false
 |n+1,t=>match P.underlying t with
  |some .bool|some (.int _)|some .string=>(match(P.info? t).map (·.desc) with|some (TypeDesc.named s _)=>s != "sync.copyChecker"|_=>true)
  |some (.struct fs)=>fs.all fun f=>eqTy P n f.type
  |some (.array _ e)=>eqTy P n e
  |_=>false
theorem VV.Ac {p:Option Addr}(h:VV V (.pointer p)){a:Addr}(e:p=some a):V a.block:=by subst e;exact h.ptr
theorem ei {β:Type}{R:β->β->Prop}{a:Addr}(hv:V a.block){f f':Addr×Bool->Sem β}(hf:∀x:Addr×Bool,bk P π N (fun i=>V i\/i=x.1.block) R (f x) (f' (bi π x.1,x.2))):
  bk P π N V R (behindNumber a>>=f) (behindNumber (bi π a)>>=f'):=by
 have here:bk P π N V R (f (a,false)) (f' (bi π a,false)):=(hf (a,false)).weak fun i hi=>hi.elim id fun e=>e▸hv
 unfold behindNumber numberAt;rw[bind_assoc,bind_assoc,bind_assoc,bind_assoc];refine bk.shape (k:=fun x=>_) hv fun x=>?_
 cases x with
 |some y=>exact here
 |none=>
  refine bk.getObj (k:=fun x=>_) fun o ho=>?_
  cases o with
  |number b l=>exact(hf (b,l)).weak fun i hi=>hi.elim .inl fun e=> .inr (.inr e)
  |_=>first|exact ho.elim|exact here.weak fun i hi=> .inl hi
theorem nC {a:Addr}(hv:V a.block):bk P π N V Eq (noView a) (noView (bi π a)):=DI hv a rfl
theorem p6 {a:Addr}(hv:V a.block):bk P π N V Eq (byteOf a) (byteOf (bi π a)):=by
 unfold byteOf;obtain⟨b,off,sp⟩:=a;cases sp with
 |some s=>exact al rfl
 |none=>
  simp only[pure_bind];refine cx.bind' fun z z' h=>?_
  rw[h.1,h.2];refine(nC hv).bind' fun _ _ _=>?_
  refine bk.shape (k:=fun x=>_) hv fun x=>?_
  cases x with
  |none=>exact ai
  |some e=>
   obtain⟨e,n⟩:=e;dsimp only[Sem.bind];show bk P π N V Eq (if P.cellsOf e=0 then _ else _) (if P.cellsOf e=0 then _ else _)
   by_cases h0:P.cellsOf e=0
   .rw[if_pos h0,if_pos h0];exact al rfl
   .rw[if_neg h0,if_neg h0]
    show bk P π N V Eq (match byteOfCell P P.depth e (off%P.cellsOf e) with|some b=>_|_=>_) (match byteOfCell P P.depth e (off%P.cellsOf e) with|some b=>_|_=>_);cases byteOfCell P P.depth e (off%P.cellsOf e) with
    |none=>exact ai
    |some b=>exact al rfl
theorem BK (h0:π 0=0)(hi:∀i j,π i=π j->i=j)(hP1:P.globals.size<=1)(a b:Nat):(π a==π b&&decide (π a<P.globals.size))=(a==b&&decide (a<P.globals.size)):=by
 have e1:(π a==π b)=(a==b):=by
  rw[Bool.eq_iff_iff,beq_iff_eq,beq_iff_eq];exact⟨hi _ _,fun h=>by rw[h]⟩
 have e2:decide (π a<P.globals.size)=decide (a<P.globals.size):=by
  rw[decide_eq_decide];constructor
  .intro h
   have:a=0:=hi a 0 (by rw[h0];omega);rw[this] at h⊢;rw[h0] at h;exact h
  .intro h
   have:a=0:=by omega
   rw[this] at h⊢;rw[h0];exact h
 rw[e1,e2]
theorem yX (V:Nat->Prop){a b:Addr}(ha:V a.block)(hb:V b.block){β:Type}{R:β->β->Prop}{f:Nat->Nat->Sem β}{f':Nat->Nat->Sem β}(hf:∀x y,bk P π N V R (f x y) (f' x y)):
  bk P π N V R (byteOf a>>=fun x=>byteOf b>>=fun y=>f x y) (byteOf (bi π a)>>=fun x=>byteOf (bi π b)>>=fun y=>f' x y):=
 (p6 ha).bind' fun x _ h=>by subst h;exact(p6 hb).bind' fun y _ h=>by subst h;exact hf x y
theorem vR (hi:∀i j,π i=π j->i=j){a b:Addr}(h:bi π a=bi π b):a=b:=by
 obtain⟨b1,o1,s1⟩:=a;obtain⟨b2,o2,s2⟩:=b;simp only[bi,Addr.mk.injEq] at h;obtain⟨h1,h2,h3⟩:=h;rw[hi _ _ h1,h2,h3]
theorem py {a:Addr}(hN:∀r,V r->¬N r)(hv:V a.block):bk P π N V Eq (stringish a) (stringish (bi π a)):=by
 unfold stringish;refine bk.frozen (k:=fun x=>_) hv (hN _ hv) fun x=>?_
 cases x with
 |true=>exact al rfl
 |false=>
  refine bk.shape (k:=fun x=>_) hv fun x=>?_
  cases x with
  |none=>exact al rfl
  |some y=>exact bk.frozen (a:={block:=a.block,off:=y.2}) hv (hN _ hv) fun x=> .pure rfl
theorem zT {a b:Addr}(hN:∀r,V r->¬N r)(ha:V a.block)(hb:V b.block):bk P π N V Eq (mayBeOne a b) (mayBeOne (bi π a) (bi π b)):=by
 unfold mayBeOne;refine(py hN ha).bind' fun x _ h=>?_
 subst h;refine(py hN hb).bind' fun y _ h=>?_
 subst h;refine bk.shape (k:=fun x=>_) ha fun u=>?_
 refine bk.shape (k:=fun x=>_) hb fun v=>?_
 exact al rfl
theorem zQ {a b:Addr}(hinj:∀i j,π i=π j->i=j)(hN:∀r,V r->¬N r)(ha:V a.block)(hb:V b.block):bk P π N V Eq (sameAddr a b) (sameAddr (bi π a) (bi π b)):=by
 unfold sameAddr;have e1:((bi π a).block==(bi π b).block)=(a.block==b.block):=by
  rw[Bool.eq_iff_iff,beq_iff_eq,beq_iff_eq];exact⟨hinj _ _,fun h=>congrArg π h⟩
 have e2:(bi π a==bi π b)=(a==b):=by
  rw[Bool.eq_iff_iff,beq_iff_eq,beq_iff_eq];exact⟨vR hinj,fun h=>by rw[h]⟩
 rw[e1,e2];refine cD (al rfl) ?_;refine bk.frozen (k:=fun x=>_) ha (hN _ ha) fun x=>?_
 refine bk.frozen (k:=fun x=>_) hb (hN _ hb) fun y=>?_
 refine cD (aH trivial) ?_;refine(nC ha).bind' fun _ _ _=>?_
 refine(nC hb).bind' fun _ _ _=>?_
 refine(zT hN ha hb).bind' fun z _ h=>?_
 subst h;refine cD (il.bind' fun n _ h=>?_) (al rfl);subst h;exact al rfl
def kW (P:Program)(t:TypeId):Bool:=match P.underlying t with|some (.pointer _)=>true|_=>false
theorem nJ {pe:Bool}(hN:pe=true->∀r,V r->¬N r)(h00:π 0=0)(hinj:∀i j,π i=π j->i=j)(hP1:P.globals.size<=1):∀(d n:Nat) (t:TypeId) (x y:Value),(eqTy P n t=true\/(x= .pointer none\/y= .pointer none)\/(pe&&kW P t)=true)->VV V x->VV V y->
  bk P π N V Eq (Op.equalIn d t x y) (Op.equalIn d t (Value.ren π x) (Value.ren π y))
 |0,_,_,_,_,_,_,_=>aH trivial
 |d+1,n,t,x,y,ht,hx,hy=>by
  unfold Op.equalIn;refine(aE t).bind' fun u u' h=>?_
  obtain⟨rfl,hu⟩:=h;cases u with
  |bool=>
   cases x with
   |bool a=>cases y with
    |bool b=>simp only[dC];exact al rfl
    |_=>exact ai
   |_=>exact ai
  |string=>
   cases x with
   |string a=>cases y with
    |string b=>simp only[bB];exact al rfl
    |_=>exact ai
   |_=>exact ai
  |int ki=>
   cases x with
   |int k a=>cases y with
    |int k' b=>
     simp only[cq]
     by_cases hk:k=k'
     .simp only[hk,if_true];exact al rfl
     .simp only[hk,if_false];exact ai
    |pointer b=>
     cases b with
     |none=>cases a with
      |ofNat m=>cases m<;>exact aH trivial
      |negSucc m=>exact aH trivial
     |some b=>cases a with
      |ofNat m=>cases m with
       |zero=>simp only[cq,aT,Option.map_some];exact al rfl
       |succ m=>exact aH trivial
      |negSucc m=>exact aH trivial
    |_=>exact ai
   |pointer a=>cases a with
    |none=>cases y<;>exact aH trivial
    |some a=>cases y with
     |int k' b=>cases b with
      |ofNat m=>cases m with
       |zero=>simp only[cq,aT,Option.map_some];exact al rfl
       |succ m=>exact aH trivial
      |negSucc m=>exact aH trivial
     |pointer b=>cases b with
      |none=>exact aH trivial
      |some b=>
       simp only[aT,Option.map_some];refine ei hx.ptr fun p=>ei (.inl hy.ptr) fun q=>?_
       dsimp only;refine cx.bind' fun z z' h=>?_
       obtain⟨rfl,rfl⟩:=h;have e2:=BK (P:=z') h00 hinj hP1 p.1.block q.1.block;rw[show(bi π p.1).block=π p.1.block from rfl,show(bi π q.1).block=π q.1.block from rfl,e2];refine cD ?_ ?_
       .exact yX _ (.inl (.inr rfl)) (.inr rfl) fun x y=>al rfl
       .refine(d9 t).bind' fun i i' h=>?_
        obtain⟨rfl,hi⟩:=h;have ht':eqTy z' n t=true:=by simpa [kW,hu] using ht
        have hd:∀s u,i.desc= .named s u->s≠ "sync.copyChecker":=fun s u e=>by
         cases n with
         |zero=>simp[eqTy] at ht'
         |succ n=>simpa [eqTy,hu,hi,e] using ht'
        refine .dead ?_;split
        .rename_i e
         exact absurd rfl (hd _ _ e)
        .exact Dead.halt trivial
     |_=>exact aH trivial
   |_=>cases y<;>first|exact ai|exact aH trivial
  |pointer el=>
   have ht':=ht.resolve_left (by cases n<;>simp[eqTy,hu]);rcases ht' with(rfl|rfl)|hpe
   .cases y with
    |pointer b=>simp only[aT];exact al (by cases b<;>rfl)
    |_=>exact ai
   .cases x with
    |pointer a=>cases a<;>(simp only[aT];exact al rfl)
    |_=>exact ai
   .have hN':=hN (by simp only[Bool.and_eq_true] at hpe;exact hpe.1)
    cases x with
    |pointer a=>cases a with
     |none=>cases y with
      |pointer b=>simp only[aT];exact al (by cases b<;>rfl)
      |_=>exact ai
     |some a=>cases y with
      |pointer b=>cases b with
       |none=>simp only[aT];exact al rfl
       |some b=>
        simp only[aT,Option.map_some];refine(cH el).bind' fun m _ h=>?_
        obtain⟨rfl,_⟩:=h;have e2:(bi π a==bi π b)=(a==b):=by
         rw[Bool.eq_iff_iff,beq_iff_eq,beq_iff_eq];exact⟨vR hinj,fun h=>by rw[h]⟩
        rw[e2];refine cD (zQ hinj hN' hx.ptr hy.ptr) (cD (al rfl) (il.bind' fun n _ h=>?_));subst h;exact al rfl
      |_=>exact ai
    |_=>exact ai
  |unsafePointer=>
   have ht':x= .pointer none\/y= .pointer none:=(ht.resolve_left (by cases n<;>simp[eqTy,hu])).resolve_right (by simp[kW,hu]);rcases ht' with rfl|rfl
   .cases y with
    |pointer b=>cases b<;>(simp only[aT];exact al rfl)
    |_=>exact ai
   .cases x with
    |pointer a=>cases a<;>(simp only[aT];exact al rfl)
    |_=>exact ai
  |struct fs=>
   cases x with
   |agg xs=>
     cases y with
    |agg ys=>
     have ht':eqTy P n t=true:=by simpa [kW,hu] using ht
     cases n with
     |zero=>simp[eqTy] at ht'
     |succ n=>
      simp only[eqTy,hu,Array.all_eq_true_iff_forall_mem] at ht';simp only[di];refine cx.bind' fun z z' h=>?_
      rw[h.1,h.2];split
      .exact aH trivial
      .refine(uv (R:=Eq) fs (fun f hf b b' hb=>?_) _ _ rfl).bind' fun r r' h=>?_
       .subst hb
        by_cases hn:f.name≠ "_"
        .simp only[hn,ne_eq,not_false_eq_true,if_true]
         refine(kf f.type xs f.offset).bind' fun u u' h=>?_
         obtain⟨rfl,h1⟩:=h;refine(kf f.type ys f.offset).bind' fun v v' h=>?_
         obtain⟨rfl,h2⟩:=h;refine(nJ hN h00 hinj hP1 d n f.type u v (.inl (ht' f hf)) (hx.part h1) (hy.part h2)).bind' fun c c' h=>?_
         subst h;cases c<;>exact al rfl
        .simp only[hn,if_false]
         exact al rfl
       .subst h
        obtain⟨r1,r2⟩:=r;cases r1<;>exact al rfl
    |_=>exact ai
   |_=>exact ai
  |array len e=>
   cases x with
   |agg xs=>cases y with
    |agg ys=>
     have ht':eqTy P n t=true:=by simpa [kW,hu] using ht
     cases n with
     |zero=>simp[eqTy] at ht'
     |succ n=>
      simp only[eqTy,hu] at ht';simp only[di];refine(cH e).bind' fun m m' h=>?_
      obtain⟨rfl,_⟩:=h;refine(uu (R:=Eq) _ (fun a b b' hb=>?_) _ _ rfl).bind' fun r r' h=>?_
      .subst hb
       refine(kf e xs _).bind' fun u u' h=>?_
       obtain⟨rfl,h1⟩:=h;refine(kf e ys _).bind' fun v v' h=>?_
       obtain⟨rfl,h2⟩:=h;refine(nJ hN h00 hinj hP1 d n e u v (.inl ht') (hx.part h1) (hy.part h2)).bind' fun c c' h=>?_
       subst h;cases c<;>exact al rfl
      .subst h
       obtain⟨r1,r2⟩:=r;cases r1<;>exact al rfl
    |_=>exact ai
   |_=>exact ai
  |slice e=>
   have ht':x= .pointer none\/y= .pointer none:=(ht.resolve_left (by cases n<;>simp[eqTy,hu])).resolve_right (by simp[kW,hu]);rcases ht' with rfl|rfl
   .exact ai
   .cases x with
    |slice a _ _=>cases a<;>exact ai
    |_=>exact ai
  |map ke e=>
   have ht':x= .pointer none\/y= .pointer none:=(ht.resolve_left (by cases n<;>simp[eqTy,hu])).resolve_right (by simp[kW,hu]);rcases ht' with rfl|rfl
   .exact ai
   .cases x with
    |map a=>cases a<;>exact ai
    |_=>exact ai
  |_=>
   have ht':x= .pointer none\/y= .pointer none:=(ht.resolve_left (by cases n<;>simp[eqTy,hu])).resolve_right (by simp[kW,hu]);rcases ht' with rfl|rfl
   .exact ai
   .cases x<;>exact ai
theorem nB (h00:π 0=0)(hinj:∀i j,π i=π j->i=j)(hP1:P.globals.size<=1){a b:Addr}(ha:V a.block)(hb:V b.block){β:Type}{R:β->β->Prop}{f f':Nat×Nat->Sem β}(hf:∀x,bk P π N V R (f x) (f' x)):
  bk P π N V R (Op.twoPlaces a b>>=f) (Op.twoPlaces (bi π a) (bi π b)>>=f'):=by
 have e2:=BK (P:=P) h00 hinj hP1 a.block b.block;have e3:(π a.block !=π b.block||decide (π a.block>=P.globals.size))=(a.block !=b.block||decide (a.block>=P.globals.size)):=by
  have:=congrArg (!·) e2;simp only[Bool.not_and] at this;have d1:∀x:Nat,(!decide (x<P.globals.size))=decide (x>=P.globals.size):=fun x=>by
   rw[<-decide_not];exact decide_eq_decide.2 (by omega)
  rw[d1,d1] at this;exact this
 unfold Op.twoPlaces;simp only[bind_assoc];refine cx.bind' fun z z' h=>?_
 rw[h.1,h.2,show(bi π a).block=π a.block from rfl,show(bi π b).block=π b.block from rfl,e3]
 by_cases hc:(a.block !=b.block||decide (a.block>=P.globals.size))=true
 .rw[if_pos hc];exact ik trivial
 .rw[if_neg hc,if_neg hc]
  simp only[bind_assoc,pure_bind];exact yX _ ha hb fun x y=>hf (x,y)
theorem BF (h00:π 0=0)(hinj:∀i j,π i=π j->i=j)(hP1:P.globals.size<=1){k:IntKind}{a b:Addr}(ha:V a.block)(hb:V b.block):bk P π N V (RV π) (Op.addrSub k a b) (Op.addrSub k (bi π a) (bi π b)):=by
 unfold Op.addrSub;exact nB h00 hinj hP1 ha hb fun x=>al (by simp[RV])
theorem BG (h00:π 0=0)(hinj:∀i j,π i=π j->i=j)(hP1:P.globals.size<=1){op:BinOp}{a b:Addr}(ha:V a.block)(hb:V b.block):bk P π N V (RV π) (Op.addrCmp op a b) (Op.addrCmp op (bi π a) (bi π b)):=by
 unfold Op.addrCmp;refine nB h00 hinj hP1 ha hb fun x=>?_
 cases op<;>first|exact aH trivial|exact al (by simp[RV])
theorem nN {k:IntKind}{a:Addr}{n:Int}(hv:V a.block):bk P π N V (RV π) (Op.addrMod k a n) (Op.addrMod k (bi π a) n):=by
 unfold Op.addrMod;refine bk.shape (k:=fun x=>_) hv fun x=>?_
 cases x with
 |none=>exact aH trivial
 |some e=>
  obtain⟨e,m⟩:=e;refine(d9 e).bind' fun i i' h=>?_
  obtain⟨rfl,_⟩:=h;dsimp only;split
  .exact aH trivial
  .refine(p6 hv).bind' fun b b' h=>?_
   subst h;exact al (by simp[RV])
theorem lA (t:TypeId)(ats:Array TypeId)(p:Option Addr)(y:Value)(hp:∀a,p=some a->V a.block):
  bk P π N V (fun v v'=>v'=Value.ren π v/\∀b,v= .pointer (some b)->∃a,p=some a/\b.block=a.block) (Builtin.unsafeAdd_ ats t #[.pointer p,y]) (Builtin.unsafeAdd_ ats t #[.pointer (p.map (bi π)),Value.ren π y]):=by
 unfold Builtin.unsafeAdd_;dsimp only;refine(j5 y).bind' fun n n' h=>?_
 subst h
 by_cases h0:n=0
 .simp only[h0,if_true]
  cases p with
  |none=>exact aH trivial
  |some a=>
   simp only[Option.map_some];refine(p4 (hp a rfl)).bind' fun x x' h=>?_
   subst h;cases x with
   |some z=>exact aH trivial
   |none=>exact al ⟨by simp,fun b hb=>⟨a,rfl,by cases hb;rfl⟩⟩
 .simp only[h0,if_false]
  split
  .exact aH trivial
  .cases p with
   |none=>exact aH trivial
   |some a=>
    simp only[Option.map_some];refine bk.shape (k:=fun x=>_) (hp a rfl) fun x=>?_
    cases x with
    |none=>exact aH trivial
    |some e=>
     obtain⟨e,m⟩:=e;refine cx.bind' fun z z' h=>?_
     rw[h.1,h.2];show bk P π N V _ (match cellAtBytes P P.depth e (m/P.cellsOf e) a.off n with|some off=>_|none=>_) (match cellAtBytes P P.depth e (m/P.cellsOf e) a.off n with|some off=>_|none=>_);cases cellAtBytes P P.depth e (m/P.cellsOf e) a.off n with
     |none=>exact aH trivial
     |some o=>exact al ⟨by simp[bi],fun b hb=>⟨a,rfl,by cases hb;rfl⟩⟩
theorem zX {a:Addr}{l:Bool}(hv:V a.block):bk P π N V (RV π) (asNumber a l) (asNumber (bi π a) l):=by
 unfold asNumber newObj;exact bk.new (o:= .number a l) trivial (fun i hi=>by rw[show i=a.block from hi];exact hv) fun b _=> .pure (by simp[RV,bi])
theorem jK {t:TypeId}{p:Option Addr}{y:Value}(hp:∀a,p=some a->V a.block):bk P π N V (RV π) (movedNumber t (.pointer p) y) (movedNumber t (.pointer (p.map (bi π))) (Value.ren π y)):=by
 unfold movedNumber;refine(aE t).bind' fun u u' h=>?_
 obtain⟨rfl,hu⟩:=h;cases p with
 |none=>
  have tail:=(lA (P:=P) (π:=π) (N:=N) (V:=V) t #[] none y (fun a h=>by cases h)).mono (R':=RV π) fun _ _ h=>h.1
  cases u<;>first|exact aH trivial|exact tail
 |some a=>
  have tail:bk P π N V (RV π) (behindNumber a>>=fun x=>Builtin.unsafeAdd_ #[] t #[.pointer (some x.1),y]>>=fun v=>match v with|.pointer (some b)=>asNumber b x.2|v=>Pure.pure v)
    (behindNumber (bi π a)>>=fun x=>Builtin.unsafeAdd_ #[] t #[.pointer (some x.1),Value.ren π y]>>=fun v=>match v with|.pointer (some b)=>asNumber b x.2|v=>Pure.pure v):=by
   refine ei (hp a rfl) fun x=>?_
   obtain⟨x,l⟩:=x;dsimp only;refine(lA t #[] (some x) y (fun a h=>by cases h;exact .inr rfl)).bind' fun v v' h=>?_
   obtain⟨rfl,h⟩:=h;cases v with
   |pointer b=>cases b with
    |none=>simp only[aT];exact al (by simp[RV])
    |some b=>
     obtain⟨a',ha,hb⟩:=h b rfl;cases ha;simp only[aT,Option.map_some];exact zX (.inr hb)
   |_=>simp only[dC,cq,dl,cR,bB,dA,cI,bH,dn,dP,cQ,di,cP,da];exact al (by simp[RV])
  cases u<;>first|exact aH trivial|exact tail
theorem su {t:TypeId}{p:Option Addr}{y:Value}(hp:∀a,p=some a->V a.block):bk P π N V (RV π) (movedPointer t (.pointer p) y) (movedPointer t (.pointer (p.map (bi π))) (Value.ren π y)):=by
 unfold movedPointer;have tail:=(lA (P:=P) (π:=π) (N:=N) (V:=V) t #[] p y hp).mono (R':=RV π) fun _ _ h=>h.1
 cases p with
 |none=>exact tail
 |some a=>
  simp only[Option.map_some];refine(zR (hp a rfl)).bind' fun x x' h=>?_
  subst h;cases x with
  |some z=>exact aH trivial
  |none=>exact tail
theorem Ha {pe:Bool}(hN:pe=true->∀r,V r->¬N r)(h00:π 0=0)(hinj:∀i j,π i=π j->i=j)(hP1:P.globals.size<=1){n:Nat}{t:TypeId}{x y:Value}(ht:eqTy P n t=true\/(x= .pointer none\/y= .pointer none)\/(pe&&kW P t)=true)(hx:VV V x)(hy:VV V y):
  bk P π N V Eq (Op.equal t x y) (Op.equal t (Value.ren π x) (Value.ren π y)):=nJ hN h00 hinj hP1 _ n t x y ht hx hy
theorem Ky {α:Type}{Q:α->Prop}(m:String):PQ P Q (runtimePanic (.error m):Sem α):= .program (.halt trivial)
theorem Kx (op:BinOp)(k:IntKind)(a:Int)(k':IntKind)(b:Int):PQ P eR (Op.shift op k a k' b):=by
 unfold Op.shift;split
 .exact Ky _
 .cases op<;>first|exact Jm|exact lU trivial
theorem tO (op:BinOp)(k:IntKind)(a b:Int):PQ P eR (Op.intArith op k a b):=by
 unfold Op.intArith;cases op<;>first|exact Jm|exact lU trivial
theorem Hy (op:BinOp)(k:IntKind)(a b:Int):PQ P eR (Op.intDiv op k a b):=by
 unfold Op.intDiv;split
 .exact Ky _
 .cases op<;>first|exact Jm|exact lU trivial
theorem vY (op:BinOp)(k:IntKind)(a b:Int):PQ P eR (Op.intBits op k a b):=by
 unfold Op.intBits;cases op<;>first|exact Jm|exact lU trivial
theorem Hz (op:BinOp)(a b:Int):PQ P eR (Op.intCmp op a b):=by
 unfold Op.intCmp;cases op<;>first|exact Jm|exact lU trivial
theorem tN (op:BinOp)(a b:ByteArray):PQ P eR (Op.stringOp op a b):=by
 unfold Op.stringOp;cases op<;>first|exact Jm|exact lU trivial|skip
 dsimp only;split
 .exact .halt trivial
 .exact lU trivial
theorem vZ {α:Type}{Q:α->Prop}{p:Prop}[Decidable p]{m:String}{s:Sem α}(h:PQ P Q s):PQ P Q (if p then stuck m else s):=by
 split
 .exact Jm
 .exact h
theorem OM (op:BinOp)(t:TypeId)(k k':IntKind)(a b:Int):PQ P eR (binOp op t (.int k a) (.int k' b)):=by
 unfold binOp;cases op<;>first|exact Kx _ _ _ _ _|exact vZ (tO _ _ _ _)|exact vZ (Hy _ _ _ _)|exact vZ (vY _ _ _ _)|exact vZ (Hz _ _ _)
theorem HU (op:BinOp)(t:TypeId)(k k':FloatKind)(a b:Nat):PQ P eR (binOp op t (.float k a) (.float k' b)):=by
 unfold binOp;cases op<;>first|exact vZ (pG _ _ _ _)|exact vZ (tP _ _ _ _)
theorem Cd (op:BinOp)(t:TypeId)(k k':FloatKind)(a b c d:Nat):PQ P eR (binOp op t (.complex k a b) (.complex k' c d)):=by
 unfold binOp;cases op<;>exact vZ (Ad _ _ _ _ _ _)
theorem D7 (op:BinOp)(t:TypeId)(a b:ByteArray):PQ P eR (binOp op t (.string a) (.string b)):=by
 unfold binOp;cases op<;>exact tN _ _ _
theorem Fw {s s':Sem Bool}(h:bk P π N V Eq s s'):bk P π N V (RV π) (do Pure.pure (.bool (<-s)):Sem Value) (do Pure.pure (.bool (<-s')):Sem Value):=h.bind' fun b b' e=>by subst e;exact al (by simp[RV])
theorem Fv {s s':Sem Bool}(h:bk P π N V Eq s s'):bk P π N V (RV π) (do Pure.pure (.bool (!(<-s))):Sem Value) (do Pure.pure (.bool (!(<-s'))):Sem Value):=h.bind' fun b b' e=>by subst e;exact al (by simp[RV])
def iZ:Value->Bool
 |.int _ _|.float _ _|.complex _ _ _|.string _|.pointer _=>false
 |_=>true
theorem CZ {v:Value}(h:iZ v=true):iZ (Value.ren π v)=true:=by cases v<;>simp_all [iZ]
theorem oD {t:TypeId}{x y:Value}(h:iZ x=true\/iZ y=true):binOp .eql t x y=(do Pure.pure (.bool (<-Op.equal t x y))):=by
 unfold binOp;cases x<;>cases y<;>first|rfl|simp[iZ] at h
theorem oC {t:TypeId}{x y:Value}(h:iZ x=true\/iZ y=true):binOp .neq t x y=(do Pure.pure (.bool (!(<-Op.equal t x y)))):=by
 unfold binOp;cases x<;>cases y<;>first|rfl|simp[iZ] at h
theorem IS {op:BinOp}{t:TypeId}{x y:Value}(h:iZ x=true\/iZ y=true)(h1:op≠.eql)(h2:op≠.neq):Dead P (binOp op t x y):=by
 unfold binOp;cases op<;>first|exact absurd rfl h1|exact absurd rfl h2|skip
 all_goals (cases x with
  |pointer a=>cases a<;>cases y<;>first|exact Dead.halt trivial|(simp[iZ] at h;done)
  |_=>cases y with
   |pointer b=>cases b<;>first|exact Dead.halt trivial|(simp[iZ] at h;done)
   |_=>first|exact Dead.halt trivial|(simp[iZ] at h;done))
theorem Hd {pe:Bool}(hN:pe=true->∀r,V r->¬N r)(h00:π 0=0)(hinj:∀i j,π i=π j->i=j)(hP1:P.globals.size<=1){op:BinOp}{n:Nat}{t:TypeId}{x y:Value}
  (hq:op= .eql\/op= .neq->eqTy P n t=true\/(x= .pointer none\/y= .pointer none)\/(pe&&kW P t)=true) (hx:VV V x) (hy:VV V y):
  bk P π N V (RV π) (binOp op t x y) (binOp op t (Value.ren π x) (Value.ren π y)):=by
 have hE:(op= .eql\/op= .neq)->bk P π N V Eq (Op.equal t x y) (Op.equal t (Value.ren π x) (Value.ren π y)):=fun h=>Ha hN h00 hinj hP1 (hq h) hx hy
 by_cases hd:iZ x=true\/iZ y=true
 .have hd':iZ (Value.ren π x)=true\/iZ (Value.ren π y)=true:=hd.imp CZ CZ
  by_cases h1:op= .eql
  .subst h1
   rw[oD hd,oD hd'];exact Fw (hE (.inl rfl))
  .by_cases h2:op= .neq
   .subst h2
    rw[oC hd,oC hd'];exact Fv (hE (.inr rfl))
   .exact .dead (IS hd h1 h2)
 .cases x<;>first|exact absurd (.inl rfl) hd|skip
  all_goals (cases y<;>first|exact absurd (.inr rfl) hd|skip)
  all_goals (simp only[cq,dl,cR,bB,aT] at hE⊢)
  all_goals first
   |exact dJ (OM _ _ _ _ _ _)
   |exact dJ (HU _ _ _ _ _ _)
   |exact dJ (Cd _ _ _ _ _ _ _ _)
   |exact dJ (D7 _ _ _ _)
   |skip
  all_goals unfold binOp
  all_goals (cases op<;>first|exact ai|exact aH trivial|exact Fw (hE (.inl rfl))|exact Fv (hE (.inr rfl))|skip)
  case neg.int.pointer.add k a p=>
   have:=jK (P:=P) (π:=π) (N:=N) (V:=V) (t:=t) (p:=p) (y:= .int k a) fun b e=>hy.Ac e
   rw[cq] at this;exact this
  case neg.int.pointer.and k a p=>
   cases p with
   |none=>exact aH trivial
   |some p=>exact ei hy.ptr fun z=>nN (.inr rfl)
  case neg.pointer.int.add p k a=>
   have h1:=jK (P:=P) (π:=π) (N:=N) (V:=V) (t:=t) (p:=p) (y:= .int k a) fun b e=>hx.Ac e
   have h2:=su (P:=P) (π:=π) (N:=N) (V:=V) (t:=t) (p:=p) (y:= .int k a) fun b e=>hx.Ac e
   rw[cq] at h1 h2;refine(aE t).bind' fun u u' h=>?_
   obtain⟨rfl,_⟩:=h;cases u<;>first|exact h2|exact h1
  case neg.pointer.int.sub p k a=>
   have h1:=jK (P:=P) (π:=π) (N:=N) (V:=V) (t:=t) (p:=p) (y:= .int k (-a)) fun b e=>hx.Ac e
   rw[cq] at h1;exact h1
  case neg.pointer.int.rem p k a=>
   cases p with
   |none=>exact aH trivial
   |some p=>exact ei hx.ptr fun z=>nN (.inr rfl)
  case neg.pointer.int.and p k a=>
   cases p with
   |none=>exact aH trivial
   |some p=>exact ei hx.ptr fun z=>nN (.inr rfl)
  case neg.pointer.pointer.sub p q=>
   cases p with
   |none=>cases q<;>exact aH trivial
   |some p=>cases q with
    |none=>exact aH trivial
    |some q=>exact ei hx.ptr fun z=>ei (.inl hy.ptr) fun z'=>BF h00 hinj hP1 (.inl (.inr rfl)) (.inr rfl)
  all_goals first
   |(rename_i p q;cases p<;>cases q<;>first
     |exact aH trivial
     |exact ei hx.ptr fun z=>ei (.inl hy.ptr) fun z'=>BG h00 hinj hP1 (.inl (.inr rfl)) (.inr rfl)
     |(done))
   |(rename_i p _;cases p<;>exact aH trivial)
   |(rename_i p _ _;cases p<;>exact aH trivial)
   |(rename_i p _ _ _;cases p<;>exact aH trivial)
theorem Kw {op:UnOp}{x:Value}:∀{π:Nat->Nat},bk P π N V (RV π) (Op.unary op x) (Op.unary op (Value.ren π x)):=by
 intro π;unfold Op.unary;cases x with
 |int k n=>simp only[cq];cases op<;>first|exact ai|exact dJ (tO _ _ _ _)|exact dJ (vY _ _ _ _)
 |float k n=>simp only[dl];cases op<;>first|exact ai|exact dJ (lU trivial)
 |complex k n m=>simp only[cR];cases op<;>first|exact ai|exact dJ (lU trivial)
 |bool b=>simp only[dC];cases op<;>first|exact ai|exact dJ (lU trivial)
 |pointer a=>cases a<;>cases op<;>first|exact ai|exact aH trivial
 |_=>cases op<;>exact ai
theorem BC {op:BinOp}{n:Nat}{t:TypeId}{x y:Operand}{a b:Value}(hq:op= .eql\/op= .neq->((eqTy P n t=true\/kW P t=true)/\P.eqGuardType P.depth t=false)\/a= .pointer none\/b= .pointer none):
  bk P π N V Eq (eqGuard op t x y a b) (eqGuard op t x y (Value.ren π a) (Value.ren π b)):=by
 unfold eqGuard;cases op<;>first|exact al rfl|skip
 all_goals
  rcases hq (by simp) with⟨h1,h2⟩|rfl|rfl
  .cases a with
   |nilIface=>cases b with
    |nilIface=>
     simp only[cI];refine cD (al rfl) (cD (al rfl) ?_)
     .rw[show Op.maxDepth=9999+1 from rfl]
      unfold Op.eqGuardIn;rw[bind_assoc];refine(aE t).bind' fun u u' h=>?_
      obtain⟨rfl,hu⟩:=h;cases u<;>first|exact al rfl|(cases n<;>simp[eqTy,kW,hu] at h1)
    |_=>simp only[dC,cq,dl,cR,bB,aT,dA,cI,bH,dn,dP,cQ,di,cP,da];exact al rfl
   |agg xs=>cases b with
    |agg ys=>
     simp only[di];refine cx.bind' fun z z' h=>?_
     rw[h.1,h.2];refine cx.bind' fun z z' h=>?_
     rw[h.1,h.2,h2];exact al rfl
    |_=>simp only[dC,cq,dl,cR,bB,aT,dA,cI,bH,dn,dP,cQ,di,cP,da];exact al rfl
   |_=>simp only[dC,cq,dl,cR,bB,aT,dA,cI,bH,dn,dP,cQ,di,cP,da];exact al rfl
  .simp only[aT];exact al rfl
  .cases a<;>(simp only[dC,cq,dl,cR,bB,aT,dA,cI,bH,dn,dP,cQ,di,cP,da];exact al rfl)
end
end
end
end Go.Proofs.YtchcmhodnkgojaaGreat
