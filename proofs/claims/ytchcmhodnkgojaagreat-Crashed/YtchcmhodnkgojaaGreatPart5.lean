/- On the way to the last text; put together and shortened by program. -/
import Derived.Test.YtchcmhodnkgojaaGreatPart4
import GoSem.Dispatch
import Derived.Conc.Own5
import Derived.Conc.CompanyDraw
import Derived.Conc.Listed
import Derived.Control
import Derived.Conc.Own2
set_option linter.all false
set_option maxRecDepth 100000
set_option maxHeartbeats 8000000
namespace Go.Proofs.YtchcmhodnkgojaaGreat
open Value (ren)
open Region (wanted)
open Op (operands)
open MemOp (ofEvents)
open List (range)
noncomputable section
section
open Go.Conc
section
variable {P:ω}{π:Nat->Nat}{N V:Nat->Prop}
def EO {a:Type}{R:a->a->Prop}{r:Nat}(hv:V r){f f':Option (Addr×η)->Sem a}(h0:br P π N V R (f none) (f' none))(h1:∀b u,br P π N (λi=>V i\/i=b.block) R (f (some (b,u))) (f' (some (bn π b,u)))):
  br P π N V R (viewAt r>>=f) (viewAt (π r)>>=f'):=by
 unfold viewAt;rw[bind_assoc,bind_assoc];refine br.shape (k:=λx=>_) hv λx=>?_
 cases x with
 |some y=>exact h0
 |none=>
  refine br.getObj (k:=λx=>_) λo d=>?_
  cases o with
  |view b u=>exact(h1 b u).weak λi c=>c.elim .inl λe=> .inr (.inr e)
  |_=>first|exact d.elim|exact h0.weak λi c=> .inl c
def wV {d:Type}{R:d->d->Prop}{a:Addr}(hv:V a.block){f f':Addr->Sem d}(g:∀s:Addr,br P π N (λi=>V i\/i=s.block) R (f s) (f' (bn π s))):
  br P π N V R (Conv.seenAt a>>=f) (Conv.seenAt (bn π a)>>=f'):=by
 unfold Conv.seenAt;simp only[bind_assoc];refine EO hv ?_ λb u=>?_
 .exact(g a).weak λi m=>m.elim id λe=>e▸hv
 .dsimp only
  have e1:(bn π a).off=a.off:=rfl;have e2:(bn π a).spot=a.spot:=rfl;have n:(bn π b).spot=b.spot:=rfl;have l:(bn π b).block=π b.block:=rfl;have j:(bn π b).off=b.off:=rfl;rw[e1,e2,n,l,j];split
  .exact g b
  .split
   .exact jC trivial
   .simp only[pure_bind,bind_assoc]
    refine cV.bind' λz o h=>?_
    rw[h.1,h.2];cases byteOfCell P P.depth u a.off with
    |none=>exact jC trivial
    |some d=>
     dsimp only;simp only[bind_assoc];refine br.shape (k:=λx=>_) (.inr rfl) λx=>?_
     cases x with
     |none=>exact jC (α:=Addr) (f:=f) trivial
     |some e=>
      have⟨e,cells⟩:=e;show br P π N _ R ((if P.cellsOf e=0 then _ else _)>>=f) ((if P.cellsOf e=0 then _ else _)>>=f')
      by_cases h0:P.cellsOf e=0
      .rw[φ h0];exact jC trivial
      .rw[ζ h0,ζ h0]
       cases cellAtBytes P P.depth e (cells/P.cellsOf e) b.off d with
       |none=>exact jC (α:=Addr) (f:=f) trivial
       |some c=>exact g {b with off:=c}
def EY {r:Nat}(hv:V r):br P π N V Eq (cellsIn r) (cellsIn (π r)):=by
 unfold cellsIn;refine br.shape (k:=λx=>_) hv λx=>?_
 cases x with
 |some y=>exact ay rfl
 |none=>
  refine br.getObj (k:=λx=>_) λo a=>?_
  cases o<;>first|exact a.elim|exact ay rfl
def pL {a:Addr}{u:η}{n:Nat}(hv:V a.block):br P π N V Eq (variablesAt a u n) (variablesAt (bn π a) u n):=by
 unfold variablesAt;refine cV.bind' λz b h=>?_
 rw[h.1,h.2];refine br.shape (k:=λx=>_) hv λx=>?_
 cases x with
 |some y=>exact ay rfl
 |none=>exact ay rfl
def qh {s:Addr}{t:η}(hv:V s.block):br P π N V (RV π) (do Pure.pure (.pointer (some ⟨<-newObj (.view s t),0,none⟩)):Sem Φ) (do Pure.pure (.pointer (some ⟨<-newObj (.view (bn π s) t),0,none⟩)):Sem Φ):=by
 unfold newObj;exact br.new (o:= .view s t) trivial (λi a=>by rw[show i=s.block from a];exact hv) λb _=> .pure (by simp[RV,bn])
def mR {src b:η}{x:Φ}(q:∀k,P.underlying b≠some (.int k))(f:VV V x):br P π N V (RV π) (Conv.unsafePointer src b x) (Conv.unsafePointer src b (ren π x)):=by
 unfold Conv.unsafePointer;refine(aH src).bind' λe r h=>?_
 obtain⟨rfl,v⟩:=h;refine(aH b).bind' λd o h=>?_
 obtain⟨rfl,hd⟩:=h;cases x with
 |pointer p=>
  simp only[bi];cases e with
  |pointer t=>cases d with
   |unsafePointer=>cases p with
    |none=>exact ay (by simp[RV])
    |some a=>
     simp only[ξ];refine wV f.ptr λs=>?_
     refine(EY (.inr rfl)).bind' λc g h=>?_
     subst h;refine(dh t).bind' λm j h=>?_
     obtain⟨rfl,_⟩:=h;exact dc (qh (.inr rfl)) (ay (by simp[RV]))
   |_=>cases p<;>exact al
  |unsafePointer=>cases d with
   |pointer u=>cases p with
    |none=>exact ay (by simp[RV])
    |some a=>
     simp only[ξ];refine wV f.ptr λs=>?_
     refine(dh u).bind' λm j h=>?_
     obtain⟨rfl,_⟩:=h;refine(pL (.inr rfl)).bind' λc g h=>?_
     subst h;refine dc (ay (by simp[RV])) ?_;refine br.shape (k:=λx=>_) (.inr rfl) λx=>?_
     cases x with
     |none=>exact aM trivial
     |some y=>
      refine cV.bind' λz n h=>?_
      rw[h.1,h.2];refine cV.bind' λz n h=>?_
      rw[h.1,h.2];have l:=qh (P:=P) (π:=π) (N:=N) (V:=λi=>V i\/i=s.block) (t:=u) (.inr rfl);split
      .exact jC trivial
      .exact l
   |unsafePointer=>exact ay (by cases p<;>simp[RV])
   |int k=>exact absurd hd (q k)
   |_=>cases p<;>exact al
  |int k=>cases d with
   |unsafePointer=>cases p with
    |none=>exact al
    |some a=>exact aM trivial
   |_=>cases p<;>exact al
  |_=>cases d<;>first|exact al|(cases p<;>exact al)
 |int k a=>
  cases e with
  |int k=>cases d with
   |unsafePointer=>cases a with
    |ofNat m=>cases m<;>exact aM trivial
    |negSucc m=>exact aM trivial
   |_=>exact al
  |_=>cases d<;>exact al
 |_=>cases e<;>first|exact al|(cases d<;>exact al)
def sr {α d:Type}{R:d->d->Prop}{f f':α->d->Sem (ForInStep d)}{g:α->α}:∀(l:List α),(∀a∈l,∀b c,R b c->br P π N V (KV R) (f a b) (f' (g a) c))->∀b c,R b c->br P π N V R (forIn l b f) (forIn (l.map g) c f')
 |[],_,b,c,h=>by simp only[List.forIn_nil,Ϙ2];exact ay h
 |a::l,hf,b,c,h=>by
  simp only[List.forIn_cons,ϴ];refine(hf a ϛ b c h).bind' λx x' e=>?_
  cases x<;>cases x'<;>first|exact e.elim|exact ay e|exact sr l (λa ha=>hf a (by simp[ha])) _ _ e
def uf (x:Φ):br P π N V (RV π) (Conv.bytesToString x) (Conv.bytesToString (ren π x)):=by
 unfold Conv.bytesToString;cases x with
 |slice a n c=>
  simp only[bU];cases a with
  |none=>exact ay (by simp[RV])
  |some a=>
   simp only[ξ];refine(nD a n).bind' λcs d h=>?_
   rw[show d=_ from h,<-Array.forIn_toList,<-Array.forIn_toList,ϑ4];refine(sr (R:=Eq) _ (λv hv b f e=>?_) _ _ rfl).bind' λr g h=>?_
   .subst e
    cases v with
    |int k m=>simp only[cR];cases k<;>first|exact al|exact ay rfl
    |_=>exact al
   .subst h
    exact ay (by simp[RV])
 |_=>exact al
def t8 (e:η)(s:Ξ):br P π N V (RV π) (Conv.stringToBytes e s) (Conv.stringToBytes e s):=by
 unfold Conv.stringToBytes;refine jD.bind' λc f h=>?_
 subst h;dsimp only;have hr:(s.data.map (λb:Γ=>Value.int .u8 b.toNat)++Array.replicate (c-s.size) (Value.int .u8 0)).map (ren π)=s.data.map (λb:Γ=>Value.int .u8 b.toNat)++Array.replicate (c-s.size) (Value.int .u8 0):=by
  refine cP λv hv=>?_
  rcases ai4.1 hv with h|h
  .obtain⟨b,_,rfl⟩:=Ϙ4.1 h;simp
  .rw[(Ϙ1.1 h).2];simp
 generalize s.data.map (λb:Γ=>Value.int .u8 b.toNat)++Array.replicate (c-s.size) (Value.int .u8 0)=cells at hr⊢;unfold newRow newObj markStringish;have:=br.new (P:=P) (π:=π) (N:=N) (V:=V) (R:=RV π) (o:= .cells cells e) (k:=λb=>shape b>>=λx=>(match x with|some (_,n)=>freeze {block:=b,off:=n} 1|_=>Pure.pure ())>>=λ_=>Pure.pure (.slice (some ⟨b,0,none⟩) s.size c))
  (k':=λb=>shape b>>=λx=>(match x with|some (_,n)=>freeze {block:=b,off:=n} 1|_=>Pure.pure ())>>=λ_=>Pure.pure (.slice (some ⟨b,0,none⟩) s.size c)) trivial (λ_ h=>h.elim) λb d=>by
  refine br.shape (k:=λx=>_) (.inr rfl) λx=>?_
  cases x with
  |none=>exact ay (by simp[RV,bn])
  |some y=>exact br.freeze (a:={block:=b,off:=y.2}) (.inr rfl) d (ay (by simp[RV,bn]))
 rw[show ep π (.cells cells e)= .cells cells e by simp only[ep,hr]] at this;exact this
def aca (P:ω)(src a:η):Bool:=match P.underlying src,P.underlying a with
 |some (.int _),some (.int _)|some (.int _),some .string|some .string,some .string=>true
 |some (.slice e),some .string|some .string,some (.slice e)=>(match P.underlying e with|some (.int .u8)=>true|_=>false)
 |some (.pointer _),some .unsafePointer|some .unsafePointer,some (.pointer _)=>true
 |_,_=>false
def EX {src f:η}{x:Φ}(g:aca P src f=true)(q:VV V x):br P π N V (RV π) (convert src f x) (convert src f (ren π x)):=by
 unfold convert;refine(aH src).bind' λD A h=>?_
 obtain⟨rfl,r⟩:=h;refine(aH f).bind' λy z h=>?_
 obtain⟨rfl,hd⟩:=h;simp only[aca,r,hd] at g;have i:br P π N V (RV π) (Pure.pure x) (Pure.pure (ren π x)):=ay rfl;have v:∀k n,br P π N V (RV π) (Conv.intToInt k n) (Conv.intToInt k n):=λk n=>eI (oa trivial)
 have w:∀s b k,br P π N V (RV π) (Conv.floatToInt s b k) (Conv.floatToInt s b k):=λs b k=>eI (Zf ..)
 have p:∀n,br P π N V (RV π) (Conv.intToString n) (Conv.intToString n):=λn=>eI (oa trivial)
 cases D<;>cases y<;>first|(exfalso;simp at g;done)|skip
 case int.int k k'=>
  cases x with
  |int j n=>simp only[cR];exact v ..
  |float j n=>simp only[dZ];exact w ..
  |pointer a=>cases a<;>exact aM trivial
  |_=>exact aM trivial
 case int.string k=>
  cases x with
  |int j n=>simp only[cR];exact p _
  |string s=>simp only[bN] at i⊢;exact i
  |pointer a=>cases a<;>exact aM trivial
  |_=>exact aM trivial
 case string.string=>
  cases x with
  |int j n=>simp only[cR];exact p _
  |string s=>simp only[bN] at i⊢;exact i
  |pointer a=>cases a<;>exact aM trivial
  |_=>exact aM trivial
 case slice.string e=>
  have l:P.underlying e=some (.int .u8):=by
   cases d:P.underlying e with
   |none=>simp[d] at g
   |some o=>cases o with
    |int k=>cases k<;>first|rfl|(simp[d] at g;done)
    |_=>simp[d] at g
  have m:=uf (P:=P) (π:=π) (N:=N) (V:=V) x;cases x with
  |int j n=>simp only[cR];exact p _
  |string s=>simp only[bN] at i⊢;exact i
  |slice a n c=>
   simp only[bU] at m⊢;cases a<;>exact(aH e).bind' λu C h=>by
    obtain⟨rfl,d⟩:=h;rw[l] at d;cases d;exact m
  |_=>
   simp only[eF,cR,dZ,dr,bN,bi,et,di,bU,ec,eS,dk,dV,dj,dO] at m⊢;exact(aH e).bind' λu C h=>by
    obtain⟨rfl,d⟩:=h;rw[l] at d;cases d;exact m
 case string.slice e=>
  cases x with
  |string s=>
   simp only[bN];refine(aH e).bind' λo B h=>?_
   obtain⟨rfl,d⟩:=h;simp only[d] at g;cases o with
   |int k=>cases k<;>first|exact t8 e s|(exfalso;simp at g;done)
   |_=>exfalso;simp at g
  |slice a n c=>cases a<;>exact aM trivial
  |pointer a=>cases a<;>exact aM trivial
  |_=>exact aM trivial
 case pointer.unsafePointer t=>
  have:=mR (N:=N) (π:=π) (src:=src) (x:=x) (λk h=>by rw[hd] at h;cases h) q;cases x<;>exact this
 case unsafePointer.pointer t=>
  have:=mR (N:=N) (π:=π) (src:=src) (x:=x) (λk h=>by rw[hd] at h;cases h) q;cases x<;>exact this
end
section
variable {P:ω}{π:Nat->Nat}{N V:Nat->Prop}
def Ja {α:Type}{r:Nat}{k:Option (η×Nat)->Sem α}(h:∀x,Dead P (k x)):Dead P (.shape r k):=λw a=>h _ w a
def GF {α:Type}{a:Addr}{k:Bool->Sem α}(h:∀x,Dead P (k x)):Dead P (.frozen a k):=λw b=>h _ w b
def Nj {α:Type}{m:Mark}{k:Sem α}(h:Dead P k):Dead P (.mark m k):=λw a=>h w a
def D3 {α:Type}{k:ω->Sem α}(h:Dead P (k P)):Dead P (.program k):=λw a=>h w a
def GD {α:Type}{c:Prop}[Decidable c]{s t:Sem α}(h1:Dead P s)(h2:Dead P t):Dead P (if c then s else t):=by
 split
 .exact h1
 .exact h2
def CH {α a:Type}{c:Prop}[Decidable c]{s t:Sem α}{k:α->Sem a}(h1:Dead P (s>>=k))(h2:Dead P (t>>=k)):Dead P ((if c then s else t)>>=k):=by
 split
 .exact h1
 .exact h2
def Bo {α:Type}{size c n:Nat}{base:Ϡ}{x:Φ}{k:Bool->Sem α}(h:∀b,Dead P (k b)):Dead P (Builtin.mayShare size c n base x>>=k):=by
 have Cq:∀(a:Addr)(m:Nat)(f:Bool->Sem α),(∀b,Dead P (f b))->Dead P (Builtin.holdsCells a m>>=f):=by
  intro a m f d;unfold Builtin.holdsCells;refine Ja λy=>?_
  cases y<;>exact d _
 unfold Builtin.mayShare;simp only[bind_assoc,pure_bind];cases base with
 |none=>
  simp only[pure_bind];refine CH (h _) ?_;cases x with
  |slice a _ _=>cases a with
   |none=>exact h _
   |some b=>simp only[bind_assoc,pure_bind];exact Cq _ _ _ λ_=>h _
  |_=>exact h _
 |some a=>
  simp only[bind_assoc,pure_bind];refine Cq _ _ _ λz=>GF λe=>?_
  refine CH (h _) ?_;cases x with
  |slice a _ _=>cases a with
   |none=>exact h _
   |some b=>simp only[bind_assoc,pure_bind];exact Cq _ _ _ λ_=>h _
  |_=>exact h _
def BX (x:Φ):br P π N V Eq (Builtin.lenOf x) (Builtin.lenOf (ren π x)):=by
 unfold Builtin.lenOf;cases x with
 |slice a n c=>simp only[bU];exact ay rfl
 |string s=>simp only[bN];exact ay rfl
 |_=>exact al
def jT (size n:Nat)(x:Φ):br P π N V (RC π) (Builtin.firstCells size n x) (Builtin.firstCells size n (ren π x)):=by
 unfold Builtin.firstCells;cases x with
 |slice a m c=>
  simp only[bU];cases a with
  |none=>exact ay (by simp[RC])
  |some a=>exact nD a _
 |string s=>
  simp only[bN];refine ay ?_;show _=_;exact(cP λv hv=>by obtain⟨b,_,rfl⟩:=Ϙ4.1 hv;simp).symm
 |_=>exact al
def si (z:ϐ)(a:z.map (ren π)=z)(n:Nat):(Builtin.zeroCells z n).map (ren π)=Builtin.zeroCells z n:=by
 unfold Builtin.zeroCells;exact mi z a ..
def acu (P:ω)(a:ϫ):Bool:=(match a[0]? with
  |some t=>RU P t
  |none=>true)&&(match a[1]? with
  |some t=>(match P.underlying t with|some (.int _)=>false|_=>true)
  |none=>false)
def qo (n:Nat):br P π N V Eq (askRoom n) (askRoom n):=by
 unfold askRoom;split
 .exact .mark trivial (.pure rfl)
 .exact ay rfl
def Ib {f:ϫ}{t:η}{args:ϐ}(B:acu P f=true):br P π N V (RV π) (Builtin.append_ f t args) (Builtin.append_ f t (args.map (ren π))):=by
 unfold Builtin.append_;simp only[ai0];cases h0:f[0]? with
 |none=>exact al
 |some D=>
  cases h1:args[0]? with
  |none=>exact al
  |some s=>
    cases h2:args[1]? with
   |none=>exact al
   |some x=>
    simp only[ξ];refine(aH D).bind' λu I h=>?_
    obtain⟨rfl,H⟩:=h;cases u with
    |slice d=>cases s with
     |slice base g m=>
      simp only[bU];refine(dh d).bind' λsize p h=>?_
      obtain⟨rfl,_⟩:=h;simp only[acu,h0,ε] at B;have⟨v,i⟩:=B;have r:zf P d=true:=by simpa [RU,H] using v
      have o:=jT (P:=P) (π:=π) (N:=N) (V:=V) size g (.slice base g m);rw[bU] at o;cases C:f[1]? with
      |none=>simp[C] at i
      |some G=>
       simp only[bind_assoc];simp only[C] at i;refine(aH G).bind' λu I h=>?_
       obtain⟨rfl,w⟩:=h;have y:∀k,u≠.int k:=λk e=>by simp[w,e] at i
       cases u
       case int k=>exact absurd rfl (y k)
       all_goals
        simp only[pure_bind,Bool.not_false,if_true,ν,if_false,false_or];refine(BX x).bind' λn K h=>?_
        subst h;refine dc ?_ ?_
        .refine(jT size n x).bind' λc q h=>?_
         rw[show q=_ from h];cases base with
         |none=>exact ay (by simp[RV])
         |some a=>
          simp only[ξ];rw[<-jV,ϑ4];exact(iL _ _ 0).bind' λ_ _ _=>ay (by simp[RV])
        .refine(fo d).bind' λ_ _ h=>?_
         obtain⟨rfl,_⟩:=h;refine dc t9 ((fo d).bind' λ_ _ h=>?_);obtain⟨rfl,_⟩:=h;refine dc (.dead (Dead.bind _ (Bo λb=>GD (Nj (Dead.halt trivial)) (Dead.halt trivial)))) ?_;refine jD.bind' λE _ h=>?_
         subst h;refine(fo d).bind' λ_ _ h=>?_
         obtain⟨rfl,_⟩:=h;refine(qo _).bind' λ_ _ _=>?_
         refine o.bind' λA j h=>?_
         rw[show j=_ from h];refine(jT size n x).bind' λc q h=>?_
         rw[show q=_ from h];refine(fv r).bind' λz _ h=>?_
         obtain⟨rfl,J,F⟩:=h;have l:=mb (P:=P) (π:=π) (N:=N) (V:=V) d (A++c++Builtin.zeroCells z.cells (E-(g+n)));rw[Array.map_append,Array.map_append,si (π:=π) z.cells (by rw[<-jN,fA F])] at l;refine l.bind' λa a' h=>?_
         rw[show a'=_ from h];exact ay (by simp[RV])
     |_=>exact al
    |_=>exact al
def OF {b:ϫ}{t:η}{args:ϐ}:br P π N V (RV π) (Builtin.copy_ b t args) (Builtin.copy_ b t (args.map (ren π))):=by
 unfold Builtin.copy_;simp only[ai0];cases h0:b[0]? with
 |none=>exact al
 |some g=>
  cases h1:args[0]? with
  |none=>exact al
  |some s=>cases h2:args[1]? with
   |none=>exact al
   |some x=>
    simp only[ξ];refine(aH g).bind' λu k h=>?_
    obtain⟨rfl,j⟩:=h;cases u with
    |slice d=>cases s with
     |slice base e c=>
      simp only[bU];refine(BX x).bind' λn i h=>?_
      subst h;refine(dh d).bind' λsize _ h=>?_
      obtain⟨rfl,_⟩:=h;refine(jT size _ x).bind' λc f h=>?_
      rw[show f=_ from h];cases base with
      |none=>exact ay (by simp[RV,goInt])
      |some a=>
       simp only[ξ];rw[ϑ4];exact(iL _ _ 0).bind' λ_ _ _=>ay (by simp[RV,goInt])
     |_=>exact al
    |_=>exact al
def SM {i:ϫ}{t:η}{args:ϐ}:br P π N V (RV π) (Builtin.len_ i t args) (Builtin.len_ i t (args.map (ren π))):=by
 unfold Builtin.len_;simp only[ai0];cases h0:i[0]? with
 |none=>exact al
 |some m=>
  cases h1:args[0]? with
  |none=>exact al
  |some s=>
   simp only[ξ];refine(aH m).bind' λu v h=>?_
   obtain⟨rfl,q⟩:=h;cases u with
   |string=>cases s with
    |string b=>simp only[bN];exact ay (by simp[RV,goInt])
    |_=>exact al
   |array n e=>cases s<;>(simp only[eF,cR,dZ,dr,bN,bi,et,di,bU,ec,eS,dk,dV,dj,dO];exact ay (by simp[RV,goInt]))
   |pointer g=>
    have p:∀{α:Type}(f:TypeDesc->Sem Φ),(∀d,br P π N V (RV π) (f d) (f d))->br P π N V (RV π) (underlying g>>=f) (underlying g>>=f):=λf l=>(aH g).bind' λd _ h=>by obtain⟨rfl,_⟩:=h;exact l d
    cases s<;>(simp only[eF,cR,dZ,dr,bN,bi,et,di,bU,ec,eS,dk,dV,dj,dO];refine p (α:=Unit) _ λd=>?_;cases d<;>first|exact al|exact ay (by simp[RV,goInt]))
   |slice e=>cases s with
    |slice a n c=>simp only[bU];exact ay (by simp[RV,goInt])
    |_=>exact al
   |map k e=>cases s with
    |map r=>cases r with
     |none=>simp only[ec];exact ay (by simp[RV,goInt])
     |some r=>
      simp only[ec,ξ];refine br.getObj (k:=λx=>_) λo j=>?_
      cases o<;>first|exact j.elim|exact al|exact ay (by simp[RV,goInt])
    |_=>exact al
   |chan d e=>cases s with
    |chan r=>cases r with
     |none=>simp only[eS];exact ay (by simp[RV,goInt])
     |some r=>
      simp only[eS,ξ];refine br.getObj (k:=λx=>_) λo j=>?_
      cases o<;>first|exact j.elim|exact al
    |_=>exact al
   |_=>exact al
def SN {g:ϫ}{t:η}{args:ϐ}:br P π N V (RV π) (Builtin.cap_ g t args) (Builtin.cap_ g t (args.map (ren π))):=by
 unfold Builtin.cap_;simp only[ai0];cases h0:g[0]? with
 |none=>exact al
 |some j=>
  cases h1:args[0]? with
  |none=>exact al
  |some s=>
   simp only[ξ];refine(aH j).bind' λu q h=>?_
   obtain⟨rfl,p⟩:=h;cases u with
   |array n e=>cases s<;>(simp only[eF,cR,dZ,dr,bN,bi,et,di,bU,ec,eS,dk,dV,dj,dO];exact ay (by simp[RV,goInt]))
   |pointer b=>
    have l:∀{α:Type}(f:TypeDesc->Sem Φ),(∀d,br P π N V (RV π) (f d) (f d))->br P π N V (RV π) (underlying b>>=f) (underlying b>>=f):=λf i=>(aH b).bind' λd _ h=>by obtain⟨rfl,_⟩:=h;exact i d
    cases s<;>(simp only[eF,cR,dZ,dr,bN,bi,et,di,bU,ec,eS,dk,dV,dj,dO];refine l (α:=Unit) _ λd=>?_;cases d<;>first|exact al|exact ay (by simp[RV,goInt]))
   |slice e=>cases s with
    |slice a n c=>simp only[bU];exact ay (by simp[RV,goInt])
    |_=>exact al
   |chan d e=>cases s with
    |chan r=>cases r with
     |none=>simp only[eS];exact ay (by simp[RV,goInt])
     |some r=>
      simp only[eS,ξ];refine br.getObj (k:=λx=>_) λo m=>?_
      cases o<;>first|exact m.elim|exact al
    |_=>exact al
   |_=>exact al
def LC {d:ϫ}{t:η}{args:ϐ}(l:(match d[0]? with|some t=>RU P t|none=>true)=true):br P π N V (RV π) (Builtin.clear_ d t args) (Builtin.clear_ d t (args.map (ren π))):=by
 unfold Builtin.clear_;simp only[ai0];cases h0:d[0]? with
 |none=>exact al
 |some m=>
  cases h1:args[0]? with
  |none=>exact al
  |some s=>
   simp only[ξ];rw[h0] at l;refine(aH m).bind' λu w h=>?_
   obtain⟨rfl,v⟩:=h;have b:∀V:Nat->Prop,br P π N V (RV π) (Pure.pure (.tuple #[])) (Pure.pure (.tuple #[])):=λ_=>ay (by simp[RV])
   cases s with
   |map r=>cases r with
    |none=>simp only[ec];cases u<;>exact b _
    |some r=>
     simp only[ec,ξ];cases u<;>
     .refine br.getObj (k:=λx=>_) λo p=>?_
      cases o with
      |map es c=>
       have e:=br.setObj (P:=P) (π:=π) (N:=N) (V:=λi=>V i\/i=r\/inner (.map es c) i) (R:=RV π) (r:=r) (o:= .map #[] c) (k:=Pure.pure (.tuple #[])) (k':=Pure.pure (.tuple #[])) trivial (λ_ h=>h.elim) (b _);simp only[ep,Array.map_empty] at e;exact e
      |_=>first|exact p.elim|exact al
   |slice a n y=>cases a with
    |none=>simp only[bU];cases u<;>exact b _
    |some a=>cases n with
     |zero=>simp only[bU];cases u<;>exact b _
     |succ n=>
      simp only[bU,ξ];cases u with
      |slice f=>
       have j:zf P f=true:=by simpa [RU,v] using l
       refine(fv j).bind' λz _ h=>?_
       obtain⟨rfl,k,q⟩:=h;have g:=iL (P:=P) (π:=π) (N:=N) (V:=V) a (Builtin.zeroCells z.cells (n+1)).toList 0;rw[<-Array.toList_map,si (π:=π) z.cells (by rw[<-jN,fA q])] at g;exact g.bind' λ_ _ _=>b _
      |_=>exact al
   |_=>cases u<;>exact al
end
section
variable {P:ω}{π:Nat->Nat}{N V:Nat->Prop}
def G4 (c:∀i j,π i=π j->i=j)(a b:Ϡ):(a.map (bn π)==b.map (bn π))=(a==b):=by
 rw[ϐ2];simp only[ai7];constructor
 .intro h
  cases a<;>cases b<;>simp_all;exact zm c h
 .intro h;rw[h]
def G3 (c:∀i j,π i=π j->i=j)(a b:ϣ):(a.map π==b.map π)=(a==b):=by
 rw[ϐ2];simp only[ai7];constructor
 .intro h
  cases a<;>cases b<;>simp_all;exact c _ _ h
 .intro h;rw[h]
def xP {α c γ:Type}(f:α->c)(g:γ->c)(p:c->c->Bool)(q:α->γ->Bool):∀(l:List α)(m:List γ),(∀a∈l,∀b∈m,p (f a) (g b)=q a b)->(((l.map f).zip (m.map g)).all λx=>p x.1 x.2)=((l.zip m).all λx=>q x.1 x.2)
 |[],_,_=>ϛ
 |_::_,[],_=>ϛ
 |a::l,b::m,h=>by
  simp only[ϴ,List.zip_cons_cons,ϒ8];rw[h a ϛ b ϛ,xP f g p q l m λa ha b d=>h a (by simp[ha]) b (by simp[d])]
def Dc (c:∀i j,π i=π j->i=j):∀(n:Nat)(v w:Φ),Instr.sameBits n (ren π v) (ren π w)=Instr.sameBits n v w:=by
 intro n
 induction n with
 |zero=>
  intro v w;cases v<;>cases w<;>simp[Instr.sameBits,G4 c,G3 c]
 |succ n d=>
  intro v w;cases v<;>cases w<;>simp[Instr.sameBits,G4 c,G3 c,d];rw[xP (ren π) (ren π) (Instr.sameBits n) (Instr.sameBits n) _ _ λa _ b _=>d a b]
def wR (P:ω)(t:η):Bool:=match P.underlying t with|some .string=>true|_=>false
def C8 {t:η}(c:wR P t=true)(x y:Φ):br P π N V Eq (Op.equal t x y) (Op.equal t (ren π x) (ren π y)):=by
 unfold Op.equal;rw[show Op.maxDepth=9999+1 from rfl];unfold Op.equalIn;refine(aH t).bind' λu e h=>?_
 obtain⟨rfl,d⟩:=h;simp only[wR,d] at c;cases u with
 |string=>
  cases x with
  |string a=>cases y with
   |string b=>simp only[bN];exact ay rfl
   |_=>exact al
  |_=>exact al
 |_=>simp at c
def oQ {empty:Bool}{t:η}(a:wR P t=true)(k:Φ):br P π N V Eq (Instr.checkKey empty 10000 t k) (Instr.checkKey empty 10000 t (ren π k)):=by
 unfold Instr.checkKey;refine(aH t).bind' λu c h=>?_
 obtain⟨rfl,b⟩:=h;simp only[wR,b] at a;cases u with
 |string=>exact ay rfl
 |_=>simp at a
def E9 (a b:Φ):Instr.sameNow .string (ren π a) (ren π b)=Instr.sameNow .string a b:=by
 cases a<;>cases b<;>simp[Instr.sameNow]
def xF (k:Φ):∀(es:List ai3)(i:Nat),Instr.findNow .string (ren π k) (es.map (nF π)) i=(Instr.findNow .string k es i).map (Option.map λp=>(p.1,ren π p.2))
 |[],i=>rfl
 |e::es,i=>by
  simp only[ϴ,Instr.findNow];rw[show(nF π e).key=ren π e.key from rfl,E9];cases Instr.sameNow .string k e.key with
  |none=>rfl
  |some b=>cases b with
   |true=>rfl
   |false=>exact xF k es (i+1)
def ql {t:η}(a:wR P t=true)(k:Φ):∀(es:List ai3)(i:Nat),br P π N V (λr c=>c=r.map λp=>(p.1,ren π p.2)) (Instr.findAsking t k es i) (Instr.findAsking t (ren π k) (es.map (nF π)) i)
 |[],i=>ay rfl
 |e::es,i=>by
  simp only[ϴ,Instr.findAsking];refine(C8 a k e.key).bind' λb d h=>?_
  subst h;exact dc (ay rfl) (ql a k es (i+1))
def qk {t:η}(b:wR P t=true)(k:Φ)(es:List ai3):br P π N V (λr c=>c=r.map λp=>(p.1,ren π p.2)) (Instr.findKey t k es) (Instr.findKey t (ren π k) (es.map (nF π))):=by
 unfold Instr.findKey;refine(aH t).bind' λu e h=>?_
 obtain⟨rfl,d⟩:=h;have a:=b;simp only[wR,d] at a;cases u with
 |string=>
  rw[xF];cases Instr.findNow .string k es 0 with
  |some r=>exact ay rfl
  |none=>exact ql b k es 0
 |_=>simp at a
def PH (P:ω)(t:η):Bool:=match P.underlying t with
 |some (.map k e)=>wR P k&&zf P e
 |_=>true
def Hz {t:η}(hm:PH P t=true)(x k:Φ)(ok:Bool):br P π N V (RV π) (Instr.lookup t x k ok) (Instr.lookup t (ren π x) (ren π k) ok):=by
 unfold Instr.lookup;refine(aH t).bind' λu i h=>?_
 obtain⟨rfl,g⟩:=h;simp only[PH,g] at hm;cases u with
 |map kt e=>
  simp only[ε] at hm;cases x with
  |map r=>cases r with
   |none=>
    simp only[ec,Option.map_none,pure_bind];refine(oQ hm.1 k).bind' λ_ _ _=>?_
    refine(qk hm.1 k #[].toList).bind' λr f h=>?_
    subst h;cases r with
    |some p=>exact ay (by cases ok<;>simp[RV])
    |none=>
     refine(fv hm.2).bind' λz d h=>?_
     obtain⟨rfl,n,a⟩:=h;exact ay (by cases ok<;>simp[RV,fA a])
   |some r=>
    simp only[ec,ξ];refine br.getObj (k:=λx=>_) λo b=>?_
    cases o with
    |map es c=>
     have e1:(es.map (nF π)).isEmpty=es.isEmpty:=by simp[Array.isEmpty]
     have e2:(es.map (nF π)).toList=es.toList.map (nF π):=ϑ4;simp only[ep,Sem.bind,pure_bind,e1,e2];refine(oQ hm.1 k).bind' λ_ _ _=>?_
     refine(qk hm.1 k _).bind' λr f h=>?_
     subst h;cases r with
     |some p=>exact ay (by cases ok<;>simp[RV])
     |none=>
      refine(fv hm.2).bind' λz d h=>?_
      obtain⟨rfl,n,a⟩:=h;exact ay (by cases ok<;>simp[RV,fA a])
    |_=>first|exact b.elim|exact al
  |_=>exact al
 |_=>exact al
theorem vM (hi:∀i j,π i=π j->i=j)(old new:Φ):br P π N V (RV π) (Instr.keyThatStays old new) (Instr.keyThatStays (Value.ren π old) (Value.ren π new)):=by
 unfold Instr.keyThatStays;rw[Dc hi];refine dc (ay rfl) (jD.bind' λc c' h=>?_);subst h;exact ay (by by_cases h:c=0<;>simp[RV,h])
def IC (es:Ϧ)(i:Nat)(k v:Φ):(es.modify i λe=>{e with key:=k,val:=v}).map (nF π)=(es.map (nF π)).modify i λe=>{e with key:=ren π k,val:=ren π v}:=by
 apply Array.ext
 .simp
 .intro j h1 h2
  simp only[Array.getElem_map,Array.getElem_modify];split<;>rfl
def A0 (b:∀i j,π i=π j->i=j){t:η}(hm:PH P t=true)(x k v:Φ):br P π N V Eq (Instr.mapUpdate t x k v) (Instr.mapUpdate t (ren π x) (ren π k) (ren π v)):=by
 unfold Instr.mapUpdate;refine(aH t).bind' λu s h=>?_
 obtain⟨rfl,l⟩:=h;simp only[PH,l] at hm;cases u with
 |map kt e=>
  simp only[ε] at hm;cases x with
  |map r=>cases r with
   |none=>simp only[ec];exact vK
   |some r=>
    simp only[ec,ξ];refine br.getObj (k:=λx=>_) λo f=>?_
    cases o with
    |map es c=>
     have e2:(es.map (nF π)).toList=es.toList.map (nF π):=ϑ4;simp only[ep,Sem.bind,e2];refine(oQ hm.1 k).bind' λ_ _ _=>?_
     refine(qk hm.1 k _).bind' λq n h=>?_
     subst h;cases q with
     |some p=>
      have⟨i,m⟩:=p;have g:(((es.map (nF π))[i]?).map (·.key)).getD (ren π k)=ren π (((es[i]?).map (·.key)).getD k):=by
       rw[ai0];cases es[i]? <;>rfl
      simp only[ξ,g];refine(vM b _ k).bind' λd a h=>?_
      rw[show a=_ from h,<-IC];exact br.setObj (o:= .map (es.modify i λe=>{e with key:=d,val:=v}) c) trivial (λ_ h=>h.elim) (.pure rfl)
     |none=>
      simp only[Option.map_none];have:=br.setObj (P:=P) (π:=π) (N:=N) (V:=λi=>V i\/i=r\/inner (.map es c) i) (R:=Eq) (r:=r) (o:= .map (es.push {key:=k,val:=v,born:=c}) (c+1)) (k:=Sem.pure ()) (k':=Sem.pure ()) trivial (λ_ h=>h.elim) (.pure rfl);simp only[ep,Array.map_push] at this;exact this
    |_=>first|exact f.elim|exact al
  |_=>exact al
 |_=>exact al
def Ly {t:η}(x:Φ):br P π N V (RV π) (Instr.range t x) (Instr.range t (ren π x)):=by
 unfold Instr.range;refine(aH t).bind' λu g h=>?_
 obtain⟨rfl,f⟩:=h;have a:∀(V:ϒ)(o:Obj),pO o->(∀i,¬inner o i)->br P π N V (RV π) (newObj o>>=λb=>Pure.pure (.pointer (some ⟨b,0,none⟩)):Sem Φ) (newObj (ep π o)>>=λb=>Pure.pure (.pointer (some ⟨b,0,none⟩)):Sem Φ):=λV o h1 h2=>
  br.new (o:=o) h1 (λi h=>(h2 i h).elim) λb _=> .pure (by simp[RV,bn])
 cases u with
 |string=>cases x with
  |string s=>simp only[bN,pure_bind];exact a _ (.stringIter s 0) trivial (λ_ h=>h)
  |_=>exact iK
 |map k e=>cases x with
  |map r=>cases r with
   |none=>simp only[ec,pure_bind];exact a _ (.mapIter none 0 #[] 0) trivial (λ_ h=>h)
   |some r=>
    simp only[ec,ξ];refine br.getObj (k:=λx=>_) λo d=>?_
    cases o with
    |map es c=>simp only[ep,Sem.bind,pure_bind];exact a _ (.mapIter (some r) c #[] c) trivial (λ_ h=>h)
    |_=>first|exact d.elim|exact al
  |_=>exact iK
 |_=>exact iK
def OD (it:Φ)(t:η):br P π N V (RV π) (Instr.next it true t) (Instr.next (ren π it) true t):=by
 unfold Instr.next;have c:∀V:Nat->Prop,br P π N V (RV π) (Pure.pure (.tuple #[.bool false])) (Pure.pure (.tuple #[.bool false])):=λ_=>ay (by simp[RV])
 cases it with
 |pointer a=>cases a with
  |none=>exact al
  |some a=>
   have⟨r,off,f⟩:=a;cases off with
   |succ n=>exact al
   |zero=>
    simp only[bi,ξ,bn];refine br.getObj (k:=λx=>_) λo d=>?_
    cases o with
    |stringIter s pos=>
     simp only[ep,Sem.bind];refine dc ?_ (c _);exact br.setObj (o:= .stringIter s (pos+(Utf8.decode s pos).2)) trivial (λ_ h=>h.elim) (.pure (by simp[RV,goInt]))
    |mapIter m b seen e=>
     simp only[ep,Sem.bind];cases m<;>exact al
    |_=>first|exact d.elim|exact al
 |_=>exact al
end
section
variable {P:ω}{π:Nat->Nat}{N V:Nat->Prop}
def A1 {t:η}(j:RU P t=true)(l c:Φ):br P π N V (RV π) (Instr.makeSlice t l c) (Instr.makeSlice t (ren π l) (ren π c)):=by
 unfold Instr.makeSlice;refine(aH t).bind' λu p h=>?_
 obtain⟨rfl,o⟩:=h;cases u with
 |slice d=>
  have g:zf P d=true:=by simpa [RU,o] using j
  refine(lR l).bind' λa _ h=>?_
  subst h;refine(lR c).bind' λb _ h=>?_
  subst h;refine(fo d).bind' λi _ h=>?_
  obtain⟨rfl,_⟩:=h;dsimp only;refine dc ?_ ?_
  .refine dc t9 (dc t9 ?_)
   exact .dead (xI λn=>by simp only[Sem.bind];exact Dead.bind _ (eh _))
  .refine(qo _).bind' λ_ _ _=>?_
   refine(dh d).bind' λn _ h=>?_
   obtain⟨rfl,_⟩:=h;have f:∀z:Array Φ,z.map (ren π)=z->∀k x y,br P π N V (RV π) (newRow d ((Array.range k).map λi=>z[i%z.size]!)>>=λa=>Pure.pure (.slice (some a) x y)) (newRow d ((Array.range k).map λi=>z[i%z.size]!)>>=λa=>Pure.pure (.slice (some a) x y)):=by
    intro z j k x y;have e:=mb (P:=P) (π:=π) (N:=N) (V:=V) d ((Array.range k).map λi=>z[i%z.size]!);rw[mi z j] at e;exact e.bind' λa a' h=>by rw[show a'=_ from h];exact ay (by simp[RV])
   refine dc ?_ ?_
   .exact f #[] ϛ _ _ _
   .refine(fv g).bind' λz _ h=>?_
    obtain⟨rfl,k,m⟩:=h;exact f _ (by rw[<-jN,fA m]) _ _ _
 |_=>exact al
def OE (x y:Φ):br P π N V (RV π) (Builtin.min2 x y) (Builtin.min2 (ren π x) (ren π y)):=by
 unfold Builtin.min2;cases x with
 |int k a=>cases y with
  |int k' b=>simp only[cR];exact eI (oa trivial)
  |pointer p=>cases p<;>first|exact al|exact aM trivial
  |_=>exact al
 |float k a=>cases y with
  |float k' b=>
   simp only[dZ];refine eI ?_;split
   .exact jh pqc λ_ _=>oa trivial
   all_goals exact oa trivial
  |pointer p=>cases p<;>first|exact al|exact aM trivial
  |_=>exact al
 |string a=>cases y with
  |string b=>simp only[bN];exact eI (jh (xk ..) λv _=>jh (Cd v) λb _=>by cases b<;>exact oa trivial)
  |pointer p=>cases p<;>first|exact al|exact aM trivial
  |_=>exact al
 |pointer p=>cases p with
  |some a=>exact aM trivial
  |none=>cases y with
   |pointer p=>cases p<;>first|exact al|exact aM trivial
   |_=>exact al
 |_=>cases y with
  |pointer p=>cases p<;>first|exact al|exact aM trivial
  |_=>exact al
def yZ {f f':Φ->Φ->Sem Φ}(a:∀x y,br P π N V (RV π) (f x y) (f' (ren π x) (ren π y))):∀(l:ϡ)(x:Φ),br P π N V (RV π) (l.foldlM f x) ((l.map (ren π)).foldlM f' (ren π x))
 |[],x=>ay rfl
 |y::l,x=>by
  simp only[List.foldlM_cons,ϴ];refine(a x y).bind' λz b h=>?_
  rw[show b=_ from h];exact yZ a l z
def SL {a:ϫ}{t:η}{args:ϐ}:br P π N V (RV π) (Builtin.min_ a t args) (Builtin.min_ a t (args.map (ren π))):=by
 unfold Builtin.min_;rw[ϑ4];cases args.toList with
 |nil=>exact al
 |cons x l=>exact yZ OE l x
def sn:∀(n:Nat)(a:Addr)(acc:Ξ),br P π N V Eq (loadBytes a acc n) (loadBytes (bn π a) acc n)
 |0,a,acc=>ay rfl
 |n+1,a,acc=>by
  simp only[loadBytes];refine(qj a).bind' λv b h=>?_
  rw[show b=_ from h];cases v with
  |int k m=>
   simp only[cR];cases k<;>first|exact al|(rw[<-jV];exact sn n ..)
  |_=>exact al
def y7 {α:Type}{R:α->α->Prop}{f f':Array Φ->Sem α}{args:ϐ}(h1:∀x y,args=#[x,y]->br P π N V R (f #[x,y]) (f' #[ren π x,ren π y]))(h2:args.size≠2->br P π N V R (f args) (f' (args.map (ren π)))):br P π N V R (f args) (f' (args.map (ren π))):=by
 have⟨l⟩:=args
 match l with
 |[x,y]=>simpa using h1 x y rfl
 |[]=>exact h2 ϛ
 |[_]=>exact h2 ϛ
 |_::_::_::_=>exact h2 ϛ
def vJ {c:ϫ}{t:η}{args:ϐ}(i:∀r,V r->¬N r)(hv:∀v∈args,VV V v):br P π N V (RV π) (Builtin.unsafeString_ c t args) (Builtin.unsafeString_ c t (args.map (ren π))):=by
 refine y7 (f:=Builtin.unsafeString_ c t) (f':=Builtin.unsafeString_ c t) (λx y g=>?_) λh=>?_
 .subst g
  unfold Builtin.unsafeString_;cases x with
  |pointer p=>
   have e:ren π (.pointer p)= .pointer (p.map (bn π)):=bi _;rw[e];refine(lR y).bind' λn _ h=>?_
   subst h;cases c[0]? with
   |none=>exact al
   |some pt=>
    refine dc t9 (dc (aM trivial) ?_);cases p with
    |none=>exact dc (ay (by simp[RV])) vK
    |some a=>
     have d:V a.block:=(hv _ ϛ).ptr;refine dc (ay (by simp[RV])) ?_;refine(y4 pt).bind' λe _ h=>?_
     subst h;refine(pL d).bind' λb _ h=>?_
     subst h;refine dc ?_ (aM trivial);refine(sn _ a _).bind' λs _ h=>?_
     subst h;exact br.freeze d (i _ d) (ay (by simp[RV]))
  |_=>exact al
 .have⟨l⟩:=args
  match l,h with
  |[],_=>exact al
  |[_],_=>exact al
  |[_,_],h=>exact absurd rfl h
  |_::_::_::_,_=>exact al
def sc {d:ϫ}{t:η}{args:ϐ}(hv:∀v∈args,VV V v):br P π N V (RV π) (Builtin.unsafeSliceData_ d t args) (Builtin.unsafeSliceData_ d t (args.map (ren π))):=by
 have⟨l⟩:=args
 match l,hv with
 |[],_=>exact al
 |[x],hv=>
  cases x with
  |slice p n c=>
   have e:(Array.mk [Value.slice p n c]).map (ren π)=#[.slice (p.map (bn π)) n c]:=ϛ
   rw[e];unfold Builtin.unsafeSliceData_;cases p with
   |none=>exact ay (by simp[RV])
   |some a=>
    have b:V a.block:=hv (.slice (some a) n c) ϛ _ (.slice rfl);refine dc (ay (by simp[RV])) ?_;refine(tf b).bind' λx _ h=>?_
    subst h;cases x with
    |some z=>exact ay (by simp[RV])
    |none=>
     refine(y4 t).bind' λe _ h=>?_
     subst h;exact qh b
  |_=>exact al
 |_::_::_,_=>exact al
def AA {α:Type}:∀(a:Ask α)(w:Ω),(w.ask a).2.heap=w.heap
 |.done a,w=>rfl
 |.ask what range k,w=>by
  simp only[World.ask];split
  .exact AA ..
  .exact AA ..
def Q4 {α:Type}{c:Sys}{k:SysRet->Sem α}(h:∀r,Dead P (k r)):Dead P (.sys c k):=by
 intro w f;have e:(w.sys c).2.heap=w.heap:=by
  unfold World.sys;have:=AA (Kernel.perform c w.os) w;split
  .rfl
  .rename_i r os w' a
   rw[a] at this;exact this
 exact h _ _ λb o d=>f b o (by rw[<-e];exact d)
def Jb (v:Φ):Dead P (Instr.panic v):=by
 unfold Instr.panic;cases v with
 |iface t v=>exact Dead.halt trivial
 |nilIface=>
  unfold Instr.panicnil;simp only[bind_assoc];refine Q4 λr=>?_
  cases r with
  |strings a=>
   refine D3 ?_;simp only[pure_bind];exact GD (Dead.halt trivial) (eh _)
  |_=>exact Dead.halt trivial
 |_=>exact Dead.halt trivial
def jv:∀(l:List FieldStep)(t:η)(x:ϯ),br P π N V (λr c=>(∃b,r= .error b/\c= .error b)\/∃t y,r= .ok (t,y)/\c= .ok (t,y.map (ren π))) (followBlind l t x) (followBlind l t (x.map (ren π)))
 |[],t,x=>ay (.inr ⟨_,_,rfl,rfl⟩)
 |s::l,t,x=>by
  simp only[followBlind];refine(aH s.struct).bind' λu _ h=>?_
  obtain⟨rfl,_⟩:=h;cases u with
  |struct fs=>
   dsimp only;cases fs[s.index]? with
   |none=>exact al
   |some f=>
    dsimp only;cases s.deref with
    |true=>cases x with
     |none=>exact ay (.inl ⟨_,rfl,rfl⟩)
     |some x=>cases x with
      |pointer p=>cases p with
       |none=>simp only[ξ,bi];exact ay (.inl ⟨_,rfl,rfl⟩)
       |some a=>simp only[ξ,bi];exact jv l f.type none
      |_=>exact al
    |false=>cases x with
     |none=>exact jv l f.type none
     |some x=>cases x with
      |agg cs=>
       simp only[ξ,dV];refine(ma f.type cs f.offset).bind' λv d h=>?_
       obtain⟨rfl,_⟩:=h;exact jv l f.type (some v)
      |_=>exact al
  |_=>exact al
def ua:∀(n:Nat)(t:η)(v:Φ)(a:String),br P π N V Eq (nilAhead n t v a) (nilAhead n t (ren π v) a)
 |0,_,_,_=>ay rfl
 |n+1,t,v,a=>by
  simp only[nilAhead];refine(fo t).bind' λi _ h=>?_
  obtain⟨rfl,_⟩:=h;cases i.methods.find? (λx=>x.name==a) with
  |none=>exact al
  |some m=>
   dsimp only;refine(jv _ t (some v)).bind' λr c h=>?_
   rcases h with⟨b,rfl,rfl⟩|⟨xt,y,rfl,rfl⟩
   .exact ay rfl
   .dsimp only
    cases m.func with
    |none=>cases y with
     |none=>exact ay rfl
     |some y=>cases y with
      |iface t v=>simp only[ξ,dk];exact ua n t v a
      |nilIface=>simp only[ξ,di];exact ay rfl
      |_=>exact al
    |some q=>
     have⟨f,b⟩:=q;cases b with
     |true=>cases y<;>exact ay rfl
     |false=>
      refine(aH xt).bind' λu _ h=>?_
      obtain⟨rfl,_⟩:=h;cases u with
      |pointer e=>cases y with
       |none=>exact ay rfl
       |some y=>cases y with
        |pointer p=>cases p<;>(simp only[ξ,bi];exact ay rfl)
        |_=>simp only[ξ,eF,cR,dZ,dr,bN,bi,et,di,bU,ec,eS,dk,dV,dj,dO];exact ay rfl
      |_=>cases y<;>exact ay rfl
end
section
variable {P:ω}{π:Nat->Nat}{N V:Nat->Prop}
def HV (v:Φ):br P π N V Eq (Extern.Bytes.asByte v) (Extern.Bytes.asByte (ren π v)):=by
 unfold Extern.Bytes.asByte;cases v with
 |int k n=>simp only[cR];cases k<;>first|exact al|exact ay rfl
 |_=>exact al
def qi:∀(n:Nat)(a:Addr)(acc:Ξ),br P π N V Eq (Extern.Bytes.loadBytes a n acc) (Extern.Bytes.loadBytes (bn π a) n acc)
 |0,a,acc=>ay rfl
 |n+1,a,acc=>by
  simp only[Extern.Bytes.loadBytes];refine(qj a).bind' λv b h=>?_
  rw[show b=_ from h];cases v with
  |int k m=>
   simp only[cR];cases k<;>first|exact al|(rw[<-jV];exact qi n ..)
  |_=>exact al
def qn (v:Φ):br P π N V Eq (Extern.Bytes.bytesOf v) (Extern.Bytes.bytesOf (ren π v)):=by
 unfold Extern.Bytes.bytesOf;cases v with
 |string s=>simp only[bN];exact ay rfl
 |slice a n c=>
  simp only[bU];cases a with
  |none=>exact ay rfl
  |some a=>exact qi n a _
 |_=>exact al
def C5 (args:ϐ):br P π N V (RV π) (Extern.AbiNoEscape.same args) (Extern.AbiNoEscape.same (args.map (ren π))):=by
 have⟨l⟩:=args
 match l with
 |[]=>exact al
 |[x]=>
  have e:(Array.mk [x]).map (ren π)=#[ren π x]:=ϛ
  rw[e];exact ay rfl
 |_::_::_=>exact al
def A3 (args:ϐ):br P π N V (RV π) (Extern.BytealgIndexByte.indexByte args) (Extern.BytealgIndexByte.indexByte (args.map (ren π))):=by
 refine y7 (f:=Extern.BytealgIndexByte.indexByte) (f':=Extern.BytealgIndexByte.indexByte) (λx y a=>?_) λh=>?_
 .refine(qn x).bind' λb _ h=>?_
  subst h;refine(HV y).bind' λc _ h=>?_
  subst h;cases (range b.size).find? λi=>b[i]! ==c with
  |none=>exact ay (by simp[RV,goInt])
  |some i=>exact ay (by simp[RV,goInt])
 .have⟨l⟩:=args
  match l,h with
  |[],_=>exact al
  |[_],_=>exact al
  |[_,_],h=>exact absurd rfl h
  |_::_::_::_,_=>exact al
def yY (h0:π 0=0)(b:P.globals.size<=1)(a:String):br P π N V (RA π) (globalAddr a) (globalAddr a):=by
 unfold globalAddr;refine cV.bind' λz c h=>?_
 rw[h.1,h.2];cases h:P.globals.findIdx? λx=>x.name==a with
 |none=>exact al
 |some g=>
  have hg:g<P.globals.size:=by
   have:=Array.findIdx?_eq_some_iff_findIdx_eq.1 h;exact this.1
  have:g=0:=ϖ
  subst this;exact ay (by simp[RA,bn,h0])
def C7 (h0:π 0=0)(c:P.globals.size<=1)(args:ϐ):br P π N V (RV π) (Extern.BytealgIndex.index args) (Extern.BytealgIndex.index (args.map (ren π))):=by
 refine y7 (f:=Extern.BytealgIndex.index) (f':=Extern.BytealgIndex.index) (λx y e=>?_) λh=>?_
 .refine(qn x).bind' λa _ h=>?_
  subst h;refine(qn y).bind' λb _ h=>?_
  subst h;have hm:br P π N V Eq Extern.BytealgIndex.maxLen Extern.BytealgIndex.maxLen:=by
   unfold Extern.BytealgIndex.maxLen;refine(yY h0 c _).bind' λg g' h=>?_
   rw[show g'=_ from h];refine(qj g).bind' λv d h=>?_
   rw[show d=_ from h];exact lR v
  refine hm.bind' λm _ h=>?_
  subst h;refine dc (aM trivial) (dc (aM trivial) ?_);cases (range (a.size+1-b.size)).find? λi=>a.extract i (i+b.size)==b with
  |none=>exact ay (by simp[RV,goInt])
  |some i=>exact ay (by simp[RV,goInt])
 .have⟨l⟩:=args
  match l,h with
  |[],_=>exact al
  |[_],_=>exact al
  |[_,_],h=>exact absurd rfl h
  |_::_::_::_,_=>exact al
def Ae:∀(n t:Nat)(acc:ϐ),(Extern.BytealgMakeNoZero.digits n t acc).map (ren π)=Extern.BytealgMakeNoZero.digits n t (acc.map (ren π))
 |0,_,_=>rfl
 |n+1,t,acc=>by
  simp only[Extern.BytealgMakeNoZero.digits];rw[Ae n,Array.map_push,cR]
def yX (i g:ϫ)(args:ϐ):br P π N V (RV π) (Extern.BytealgMakeNoZero.makeNoZero i g args) (Extern.BytealgMakeNoZero.makeNoZero i g (args.map (ren π))):=by
 have⟨l⟩:=args
 match l with
 |[]=>exact al
 |[x]=>
  cases x with
  |int k n=>
   have e:(Array.mk [Value.int k n]).map (ren π)=#[.int k n]:=ϛ
   rw[e];cases k with
   |i64=>
    unfold Extern.BytealgMakeNoZero.makeNoZero;cases g[0]? with
    |none=>exact al
    |some t=>
     refine(aH t).bind' λu _ h=>?_
     obtain⟨rfl,_⟩:=h;cases u with
     |slice f=>
      refine dc t9 ?_;refine jD.bind' λc _ h=>?_
      subst h;refine(qo _).bind' λ_ _ _=>?_
      refine jD.bind' λb _ h=>?_
      subst h;have d:=mb (P:=P) (π:=π) (N:=N) (V:=V) f (Extern.BytealgMakeNoZero.digits c b #[]);rw[Ae,Array.map_empty] at d;refine d.bind' λa a' h=>?_
      rw[show a'=_ from h];exact ay (by simp[RV])
     |_=>exact al
   |_=>exact al
  |_=>exact al
 |_::_::_=>exact al
def RN (π:Ϛ)(S:Ϣ):Next->Next->Prop
 |.value v,n'=>n'= .value (ren π v)
 |.skip,n'=>n'= .skip
 |.enter f ae,n'=>n'= .enter f (ae.map (ren π))/\S f=true
 |_,_=>False
def oh:ab7->Bool
 |.tmp _|.func _=>true
 |.const v=>kf 8 v
 |.global _=>false
def DB:ab7->Bool
 |.const (.pointer none)=>true
 |_=>false
def Px (P:ω)(S E:Ϣ)(str:Bool)(c:Call):Bool:=match c.callee with
 |.builtin b=>(match b with
  |.len|.cap|.copy|.min=>true
  |.unsafeSliceData|.unsafeString=>str
  |.append=>acu P c.argTypes
  |.clear=>(match c.argTypes[0]? with|some t=>RU P t|none=>true)
  |_=>false)
 |.value (.func f)=>S f||E f
 |_=>false
def Pv (P:ω)(S E:Ϣ)(str:Bool):Op->Bool
 |.move _|.assign _|.pick _ _ _|.box _ _|.load _ _|.store _ _ _|.nilCheck _|.unOp _ _ _|.makeInterface _ _|.makeMap _ _
 |.field _ _ _|.indexAddr _ _ _|.index _ _ _|.range _ _|.extract _ _|.panic _=>true
 |.next _ b=>b
 |.alloc t|.build t _=>zf P t
 |.buildSlice t _ _|.makeSlice t _ _=>RU P t
 |.binOp a t x y _=>(match a with
  |.eql|.neq=>((eqTy P 20 t||(str&&mZ P t))&&!P.eqGuardType P.depth t)||DB x||DB y
  |_=>true)
 |.convert s d _=>aca P s d
 |.slice t _ _ _ _=>(match P.underlying t with|some (.pointer _)=>false|_=>true)
 |.fieldAddr s _ f=>Qo P s f
 |.lookup t _ _ _|.mapUpdate t _ _ _=>PH P t
 |.call c=>Px P S E str c
 |_=>false
def nI (P:ω)(S E:Ϣ)(str:Bool)(o:Oper):Bool:=Pv P S E str o.op&&o.op.operands.all oh
structure acw (P:ω)(π:Nat->Nat)(N:Nat->Prop)(S E:ac0->Bool)(str:Bool)(V:Nat->Prop):Prop where
 inj:∀i j,π i=π j->i=j
 zero:π 0=0
 Bg:P.globals.size<=1
 body:∀f,S f=true->∃fn,P.funcs[f]? =some fn/\(fn.name== "runtime.NumGoroutine")=false/\fn.body.isSome=true
 ext:∀f,E f=true->∀(args:Array Φ) (V:Nat->Prop),br P π N V (RN π S) (callFunc f args) (callFunc f (args.map (Value.ren π)))
 str:str=true->∀r,V r->¬N r
def gj {S:Ϣ}{s s':Sem Φ}(h:br P π N V (RV π) s s'):br P π N V (RN π S) (do Pure.pure (.value (<-s)):Sem Next) (do Pure.pure (.value (<-s')):Sem Next):=h.bind' λv a h=>by rw[show a=_ from h];exact ay rfl
def V9 {S:Ϣ}{s s':Sem Unit}(h:br P π N V Eq s s'):br P π N V (RN π S) (do s;Pure.pure .skip:Sem Next) (do s';Pure.pure .skip:Sem Next):=h.bind' λ_ _ _=>ay rfl
def C9 {S E:Ϣ}{str:Bool}(h:acw P π N S E str V){f:ac0}(a:S f=true\/E f=true)(args:ϐ):br P π N V (RN π S) (callFunc f args) (callFunc f (args.map (ren π))):=by
 rcases a with a|a
 .have⟨fn,h1,h2,d⟩:=h.body f a
  unfold callFunc;refine cV.bind' λz c h=>?_
  rw[h.1,h.2,h1];dsimp only;have b:fn.body.isNone=false:=by cases e:fn.body<;>simp_all
  rw[h2,b];exact ay ⟨rfl,a⟩
 .exact h.ext f a args V
def oP {S:Ϣ}{f:ac0}{fn:Func}{e:Array Φ->Sem Φ}(g:P.funcs[f]? =some fn)(h2:(fn.name== "runtime.NumGoroutine")=false)(c:fn.body.isNone=true)(d:Extern.findNext fn=none)(b:Extern.find fn=some e){args:ϐ}(h:br P π N V (RV π) (e args) (e (args.map (ren π)))):br P π N V (RN π S) (callFunc f args) (callFunc f (args.map (ren π))):=by
 unfold callFunc;refine cV.bind' λz i a=>?_
 rw[a.1,a.2,g];dsimp only;rw[h2,c,d];refine br.mark (m:= .extern f) trivial ?_;show br P π N V _ (match Extern.find fn with|some e=>_|none=>_) (match Extern.find fn with|some e=>_|none=>_);rw[b];exact gj h
def VL {xs:Array ab7}(h:xs.all oh=true){x:ab7}(a:x∈xs):oh x=true:=af8.1 h x a
def tg {S E:Ϣ}{str:Bool}(h:acw P π N S E str V){ρ j:ab7->Φ}{o:Oper}(F:nI P S E str o=true)(G:∀x∈o.op.operands,oh x=true->j x=ren π (ρ x)/\VV V (ρ x))(u:∀f,ρ (.func f)= .func (.func f) #[] #[]/\j (.func f)= .func (.func f) #[] #[])(hc:∀v,ρ (.const v)=v):
  br P π N V (RN π S) (execOp ρ o) (execOp j o):=by
 have⟨aa,D,ty,pos,after,R⟩:=o;simp only[nI,ε] at F;have⟨d,B⟩:=F;have g:∀x∈D.operands,j x=ren π (ρ x)/\VV V (ρ x):=λx g=>G x g (VL B g)
 clear G B;unfold execOp;cases D with
 |move x=>dsimp only;rw[(g x (by simp[operands])).1];exact ay rfl
 |assign x=>dsimp only;rw[(g x (by simp[operands])).1];exact ay rfl
 |pick c a b=>
  dsimp only;rw[(g c (by simp[operands])).1,(g a (by simp[operands])).1,(g b (by simp[operands])).1];refine(Ia _).bind' λt _ h=>?_
  subst h;exact ay (by cases t<;>rfl)
 |alloc t=>exact gj (LH d)
 |box t x=>dsimp only;rw[(g x (by simp[operands])).1];exact gj (SO t _)
 |build t H=>
  dsimp only;have:(H.map λp=>(p.1,j p.2))=(H.map λp=>(p.1,ρ p.2)).map λp=>(p.1,ren π p.2):=by
   rw[Ϙ3];exact ϸ λp q=>by simp only[Function.comp];rw[(g p.2 (by simp[operands];exact⟨p.1,q⟩)).1]
  rw[this];exact gj (LD d _)
 |buildSlice t n H=>
  dsimp only;have:(H.map λp=>(p.1,j p.2))=(H.map λp=>(p.1,ρ p.2)).map λp=>(p.1,ren π p.2):=by
   rw[Ϙ3];exact ϸ λp q=>by simp only[Function.comp];rw[(g p.2 (by simp[operands];exact⟨p.1,q⟩)).1]
  rw[this];exact gj (y5 d n _)
 |load t x=>dsimp only;rw[(g x (by simp[operands])).1];exact gj (HU t _)
 |store t x y=>dsimp only;rw[(g x (by simp[operands])).1,(g y (by simp[operands])).1];exact V9 (EP t ..)
 |nilCheck x=>
  dsimp only;rw[(g x (by simp[operands])).1];generalize ρ x=v;have q:∀v:Φ,br P π N V (RN π S) (Pure.pure (.value v)) (Pure.pure (.value (ren π v))):=λv=>ay rfl
  cases v with
  |pointer p=>cases p with
   |none=>exact vK
   |some a=>have:=q (.pointer (some a));simp only[bi,ξ] at this⊢;exact this
  |nilIface=>exact vK
  |nilFunc=>exact vK
  |func fn first Jr=>
   have u:=q (.func fn first Jr);cases fn with
   |method I=>
    simp only[dO,qz,ai0] at u⊢;cases first[0]? with
    |none=>exact u
    |some w=>
     simp only[ξ];cases w with
     |nilIface=>exact vK
     |iface t w=>
      simp only[dk];refine cV.bind' λz z' h=>?_
      rw[h.1,h.2];refine(ua _ t w I).bind' λr _ h=>?_
      subst h;exact dc (aM trivial) u
     |_=>simp only[eF,cR,dZ,dr,bN,bi,et,di,bU,ec,eS,dk,dV,dj,dO];exact u
   |_=>simp only[dO,qz] at u⊢;exact u
  |bool b=>have:=q (.bool b);simp only[eF] at this⊢;exact this
  |int k n=>have:=q (.int k n);simp only[cR] at this⊢;exact this
  |float k n=>have:=q (.float k n);simp only[dZ] at this⊢;exact this
  |complex k n m=>have:=q (.complex k n m);simp only[dr] at this⊢;exact this
  |string s=>have:=q (.string s);simp only[bN] at this⊢;exact this
  |slice a n m=>have:=q (.slice a n m);simp only[bU] at this⊢;exact this
  |map r=>have:=q (.map r);simp only[ec] at this⊢;exact this
  |chan r=>have:=q (.chan r);simp only[eS] at this⊢;exact this
  |iface t w=>have:=q (.iface t w);simp only[dk] at this⊢;exact this
  |agg cs=>have:=q (.agg cs);simp only[dV] at this⊢;exact this
  |tuple cs=>have:=q (.tuple cs);simp only[dj] at this⊢;exact this
 |binOp D t x y t2=>
  dsimp only;have U:=g x (by simp[operands]);have Y:=g y (by simp[operands]);have X:∀z,DB z=true->ρ z= .pointer none:=λz J=>by
   unfold DB at J;split at J
   .exact hc _
   .cases J
  have W:D= .eql\/D= .neq->((eqTy P 20 t=true\/(str&&mZ P t)=true)/\P.eqGuardType P.depth t=false)\/ρ x= .pointer none\/ρ y= .pointer none:=by
   rintro(rfl|rfl)
   all_goals
    simp only[Pv,Ϲ,ε,ϓ5] at d;rcases d with(h1|h1)|h1
    .exact .inl ⟨h1.1.imp id λh=>by simp[h.1,h.2],h1.2⟩
    .exact .inr (.inl (X x h1))
    .exact .inr (.inr (X y h1))
  rw[U.1,Y.1];refine gj ((EW (n:=20) λe=>(W e).imp (λh=>⟨h.1.imp id λh=>by simp only[ε] at h;exact h.2,h.2⟩) id).bind' λ_ _ _=>LF (pe:=str) (n:=20) h.str h.zero h.inj h.Bg (λe=>?_) U.2 Y.2);rcases W e with h1|h1
  .exact h1.1.imp id .inr
  .exact .inr (.inl h1)
 |unOp D t x=>dsimp only;rw[(g x (by simp[operands])).1];exact gj Pe
 |convert a b x=>dsimp only;rw[(g x (by simp[operands])).1];exact gj (EX d (g x (by simp[operands])).2)
 |makeInterface t x=>dsimp only;rw[(g x (by simp[operands])).1];exact gj (ub t _)
 |makeMap t r=>
  dsimp only;have:r.map j=(r.map ρ).map (ren π):=by
   cases r with
   |none=>rfl
   |some x=>simp[(g x (by simp[operands])).1]
  rw[this];exact gj (ES t _)
 |makeSlice t x y=>dsimp only;rw[(g x (by simp[operands])).1,(g y (by simp[operands])).1];exact gj (A1 d ..)
 |slice t x l T m=>
  dsimp only;have Q:∀z:Option ab7,(∀y,z=some y->y∈(Op.slice t x l T m).operands)->z.map j=(z.map ρ).map (ren π):=λz J=>by
   cases z with
   |none=>rfl
   |some y=>simp[(g y (J y rfl)).1]
  rw[(g x (by simp[operands])).1,Q l (λy e=>by simp[operands,e]),Q T (λy e=>by simp[operands,e]),Q m (λy e=>by simp[operands,e])];refine gj (EQ t _ _ _ _ λe Z=>?_);simp[Pv,Z] at d
 |fieldAddr t x f=>dsimp only;rw[(g x (by simp[operands])).1];exact gj (EU d _)
 |field t x f=>dsimp only;rw[(g x (by simp[operands])).1];exact gj (LA t _ f)
 |indexAddr t x y=>dsimp only;rw[(g x (by simp[operands])).1,(g y (by simp[operands])).1];exact gj (ET t ..)
 |index t x y=>dsimp only;rw[(g x (by simp[operands])).1,(g y (by simp[operands])).1];exact gj (Lz t ..)
 |lookup t x y ok=>dsimp only;rw[(g x (by simp[operands])).1,(g y (by simp[operands])).1];exact gj (Hz d _ _ ok)
 |mapUpdate t m k v=>dsimp only;rw[(g m (by simp[operands])).1,(g k (by simp[operands])).1,(g v (by simp[operands])).1];exact V9 (A0 h.inj d ..)
 |range t x=>dsimp only;rw[(g x (by simp[operands])).1];exact gj (Ly _)
 |next x b=>cases b with
  |false=>cases d
  |true=>dsimp only;rw[(g x (by simp[operands])).1];exact gj (OD ..)
 |entry _=>cases d
 |extract x i=>dsimp only;rw[(g x (by simp[operands])).1];exact gj (EV _ i)
 |panic x=>exact .dead (Dead.bind _ (Jb _))
 |call c=>
  have⟨A,K,ab⟩:=c;have ha:K.map j=(K.map ρ).map (ren π):=by
   rw[Ϙ3];exact ϸ λy O=>(g y (by simp[operands,Call.operands,O])).1
  have C:∀v∈K.map ρ,VV V v:=λv hv=>by
   obtain⟨y,O,rfl⟩:=Ϙ4.1 hv;exact(g y (by simp[operands,Call.operands,O])).2
  simp only[Pv,Px] at d;dsimp only;unfold resolve;rw[ha];generalize K.map ρ=M at C⊢;cases A with
  |invoke r m=>simp at d
  |builtin b=>
   dsimp only at d;cases b<;>first|(exfalso;simp at d;done)|skip
   case append=>exact gj (Ib d)
   case cap=>exact gj SN
   case clear=>exact gj (LC d)
   case copy=>exact gj OF
   case len=>exact gj SM
   case min=>exact gj SL
   case unsafeSliceData=>exact gj (sc C)
   case unsafeString=>exact gj (vJ (h.str d) C)
  |value f=>
   cases f with
   |func f=>
    dsimp only at d⊢;rw[(u f).1,(u f).2];have e1:∀L:Array Φ,#[]++L++#[]=L:=λL=>ϛ
    have:=C9 h (by simpa using d) M;show br P π N V _ (callFunc f (#[]++M++#[])) (callFunc f (#[]++M.map (ren π)++#[]));rw[e1,e1];exact this
   |_=>simp at d
 |_=>simp[Pv] at d
end
section
variable {π:Nat->Nat}
def gP:∀(v:Φ),(∀r,Value.Has r v->π r=r)->ren π v=v
 |.bool _,_|.int _ _,_|.float _ _,_|.complex _ _ _,_|.string _,_|.nilFunc,_|.nilIface,_=>ϛ
 |.pointer a,h=>by
  cases a with
  |none=>simp
  |some a=>simp[bn,h a.block (.ptr rfl)]
 |.slice a n c,h=>by
  cases a with
  |none=>simp
  |some a=>simp[bn,h a.block (.slice rfl)]
 |.map r,h=>by
  cases r with
  |none=>simp
  |some r=>simp[h r .map]
 |.chan r,h=>by
  cases r with
  |none=>simp
  |some r=>simp[h r .chan]
 |.iface t v,h=>by rw[dk,gP v λr x=>h r (.iface x)]
 |.agg cs,h=>by rw[dV,cP λv hv=>gP v λr x=>h r (.agg hv x)]
 |.tuple cs,h=>by rw[dj,cP λv hv=>gP v λr x=>h r (.tuple hv x)]
 |.func fn f c,h=>by
  rw[dO,cP λv hv=>gP v λr x=>h r (.first hv x),cP λv hv=>gP v λr x=>h r (.Jr hv x)];cases fn with
  |yield l=>simp[qz,h l .yield]
  |_=>rfl
termination_by v=>SizeOf.sizeOf v
decreasing_by
 all_goals first
  |(simp_wf;have:=ϔ6 ‹_∈_›;omega)
  |(simp_wf;omega)
def rJ {c:ϐ}{f:Φ->Φ}(h:c.map f=c){x:Φ}(a:x∈c):f x=x:=by
 obtain⟨i,b,rfl⟩:=ϑ6.1 a;have:=congrArg (·[i]?) h;simp[b] at this;exact this
def pp {r:Nat}{v:Φ}(hr:Value.Has r v):ren π v=v->π r=r:=by
 induction hr with
 |ptr h=>intro e;simp[bn] at e;rw[<-h];exact congrArg Addr.block e
 |slice h=>intro e;simp[bn] at e;rw[<-h];exact congrArg Addr.block e
 |map=>intro e;simpa using e
 |chan=>intro e;simpa using e
 |yield=>intro e;simp[qz] at e;exact e.1
 |first b _ a=>intro e;rw[dO] at e;injection e with _ e1 _;exact a (rJ e1 b)
 |Jr b _ a=>intro e;rw[dO] at e;injection e with _ _ e1;exact a (rJ e1 b)
 |iface _ a=>intro e;rw[dk] at e;injection e with _ e1;exact a e1
 |agg b _ a=>intro e;rw[dV] at e;injection e with e1;exact a (rJ e1 b)
 |tuple b _ a=>intro e;rw[dj] at e;injection e with e1;exact a (rJ e1 b)
inductive lz (r:Nat):Obj->Prop
 |cells {c:Array Φ} {t:η} {f:Nat×Nat} {v:Φ} (hv:v∈c) (h:Value.Has r v):lz r (.cells c t f)
 |key {es:Array ai3} {c:Nat} {e:ai3} (he:e∈es) (h:Value.Has r e.key):lz r (.map es c)
 |val {es:Array ai3} {c:Nat} {e:ai3} (he:e∈es) (h:Value.Has r e.val):lz r (.map es c)
 |iter {a:Nat} {b:Array Nat} {c:Nat}:lz r (.mapIter (some r) a b c)
 |view {a:Addr} {t:η} (h:a.block=r):lz r (.view a t)
 |number {a:Addr} {l:Bool} (h:a.block=r):lz r (.number a l)
def qy {o:Obj}(h:∀r,lz r o->π r=r):ep π o=o:=by
 cases o with
 |cells c t f=>simp only[ep];rw[cP λv hv=>gP v λr x=>h r (.cells hv x)]
 |map es c=>
  simp only[ep];have:es.map (nF π)=es:=by
   apply Array.ext
   .simp
   .intro i h1 h2
    rw[Array.getElem_map];unfold nF;rw[gP _ λr x=>h r (.key (ϓ7 _) x),gP _ λr x=>h r (.val (ϓ7 _) x)]
  rw[this]
 |mapIter m a b c=>cases m with
  |none=>rfl
  |some r=>simp[ep,h r .iter]
 |view a t=>simp[ep,bn,h a.block (.view rfl)]
 |number a l=>simp[ep,bn,h a.block (.number rfl)]
 |_=>rfl
def I3 {r:Nat}{o:Obj}(hr:lz r o)(h:ep π o=o):π r=r:=by
 cases hr with
 |cells hv x=>simp only[ep] at h;injection h with h1;exact pp x (rJ h1 hv)
 |key a x=>
  simp only[ep] at h;injection h with h1;obtain⟨i,b,rfl⟩:=ϑ6.1 a;have:=congrArg (·[i]?) h1;simp[b] at this;exact pp x (congrArg MapEntry.key this)
 |val a x=>
  simp only[ep] at h;injection h with h1;obtain⟨i,b,rfl⟩:=ϑ6.1 a;have:=congrArg (·[i]?) h1;simp[b] at this;exact pp x (congrArg MapEntry.val this)
 |iter=>simpa [ep] using h
 |view x=>simp[ep,bn] at h;rw[<-x];exact congrArg Addr.block h
 |number x=>simp[ep,bn] at h;rw[<-x];exact congrArg Addr.block h
def My {o:Obj}{i:Nat}(h:inner o i):lz i o:=by
 cases o<;>first|exact h.elim|exact .view h.symm|exact .number h.symm
def sg (r M:Nat)(x:Nat):Nat:=if x=r then M else if M<=x then x+1 else x
def Xw {r M:Nat}(hr:r<M):∀i j,sg r M i=sg r M j->i=j:=by
 intro i j h;unfold sg at h;split at h<;>split at h<;>(try split at h)<;>(try split at h)<;>omega
def Xx {r M x:Nat}(h:x≠r)(a:x<M):sg r M x=x:=by unfold sg;rw[ζ h,ζ ϖ]
def SQ {r M:Nat}(hr:r<M):sg r M r≠r:=by unfold sg;rw[φ rfl];omega
end
def iG (H:ϒ)(wL:Ω)(r:Nat):Prop:=r<wL.heap.size/\¬H r
structure LW (H Z:Nat->Prop)(wL:Ω):Prop where
 ok:∀(b:Nat) (o:Obj),wL.heap[b]? =some o->¬H b->¬Z b->pO o
 hid:∀(b:Nat) (o:Obj),wL.heap[b]? =some o->H b->o= .cells #[] 1000000 (0,0)
 pZ:∀(b:Nat) (o:Obj),wL.heap[b]? =some o->Z b->∃c t,o= .cells c t (0,c.size)
 low:∀b,H b\/Z b->b<wL.heap.size
 apart:∀b,Z b->¬H b
 zero:iG H wL 0
 Vm:∀(b:Nat) (o:Obj),wL.heap[b]? =some o->¬H b->∀r,lz r o->iG H wL r
section
variable {P:ω}{π:Nat->Nat}{H Z:Nat->Prop}{wL w:Ω}
def LW.Cj (h:LW H Z wL):fj wL:=by
 intro b o a
 by_cases e:H b
 .rw[h.hid b o a e];trivial
 .by_cases d:Z b
  .obtain⟨c,t,rfl⟩:=h.pZ b o a d;trivial
  .exact h.ok b o a e d
def LW.ax (h:LW H Z wL)(t:eL)(d:Nat):LW H Z (ax wL t d):=⟨h.ok,h.hid,h.pZ,h.low,h.apart,h.zero,h.Vm⟩
def LW.self (h:LW H Z wL){σ:Ϛ}(k:∀i j,σ i=σ j->i=j)(g:∀i,iG H wL i->σ i=i):WR σ H Z wL wL:=by
 have ob:∀(b:Nat)(o:Obj),wL.heap[b]? =some o->¬H b->σ b=b/\ep σ o=o:=λb o a d=>
  ⟨g b ⟨(Ψ.1 a).1,d⟩,qy λr hr=>g r (h.Vm b o a d r hr)⟩
 refine {inj:=k,tape:=rfl,drawn:=rfl,lt:=λb a d=>by rw[g b ⟨a,d⟩];exact a,ok:=λb o a d f=>⟨h.ok b o a d f,?_⟩,hid:=h.hid,pZ:=λb o a f=>?_,low:=h.low,AM:=λb o a i e=>?_}
 .have⟨e1,e2⟩:=ob b o a d
  rw[e1,e2];exact a
 .have⟨e1,e2⟩:=ob b o a (h.apart b f)
  obtain⟨c,t,rfl⟩:=h.pZ b o a f;refine⟨c,t,(0,c.size),rfl,?_⟩;rw[e1];simp only[ep] at e2;injection e2 with e3;rw[e3];exact a
 .by_cases d:H b
  .rw[h.hid b o a d] at e;exact e.elim
  .exact h.Vm b o a d i (My e)
def xK {α:Type}{R:(Nat->Nat)->α->α->Prop}{s:Sem α}(G:P.cellsOf 1000000=0)(h:LW H Z wL)(B:∀σ:Nat->Nat,(∀i j,σ i=σ j->i=j)->(∀i,iG H wL i->σ i=i)->br P σ (λb=>H b\/Z b) (iG H wL) (R σ) s s){x:α}{d:Ω}(hr:s.run P wL= .ok x d):
  LW H Z d/\wL.heap.size<=d.heap.size/\∀r,¬iG H d r->∃σ:Nat->Nat,σ r≠r/\R σ x x:=by
 have q:=(B id (λ_ _ h=>h) (λ_ _=>rfl)).nY h.Cj (λb a=>h.low b a) hr;have w:∀i,iG H wL i->iG H d i:=λi g=>⟨ψ g.1 q.1,g.2⟩
 have l:∀σ:Nat->Nat,(∀i j,σ i=σ j->i=j)->(∀i,iG H d i->σ i=i)->R σ x x/\WR σ H Z d d:=by
  intro σ g y;have E:=h.self g λi hv=>y i (w i hv)
  have⟨x',w',D,F,I,C,_,_⟩:=(B σ g λi hv=>y i (w i hv)).run G (λb=>Iff.rfl) E (λi hv=>hv) hr (λi z=>y _ ⟨z,λm=>by have:=h.low _ (.inl m);omega⟩) (es:=#[]);have v:=congrArg Prod.fst F;rw[Sem.runT_fst,hr] at v;simp only[Result.ok.injEq] at v;obtain⟨rfl,rfl⟩:=v;exact⟨I,C⟩
 have mv:∀r,¬iG H d r->∃σ:Nat->Nat,σ r≠r/\(∀i j,σ i=σ j->i=j)/\∀i,iG H d i->σ i=i:=by
  intro r k;refine⟨sg r (max (r+1) (d.heap.size+1)),SQ ϖ,Xw ϖ,λi g=>Xx (λe=>k (e▸g)) (by have:=g.1;omega)⟩
 have w0:=(l id (λ_ _ h=>h) (λ_ _=>rfl)).2;refine⟨⟨λb o a m n=>(w0.ok b o a m n).1,w0.hid,λb o a n=>?_,w0.low,h.apart,w 0 h.zero,λb o a m r k=>ac9 λhv=>?_⟩,q.1,λr hv=>?_⟩
 .have⟨c,t,f,e,_⟩:=w0.pZ b o a n
  exact⟨c,t,e⟩
 .have⟨σ,m1,m2,u⟩:=mv r hv
  have p:σ b=b:=u b ⟨(Ψ.1 a).1,m⟩;have A:=(l σ m2 u).2;refine m1 (I3 k ?_)
  by_cases n:Z b
  .obtain⟨c,t,f,rfl,e⟩:=A.pZ b o a n
   rw[p,a] at e;simp only[af5,Obj.cells.injEq] at e;simp only[ep];rw[<-e.1]
  .have:=(A.ok b o a m n).2
   rw[p,a] at this;exact(ac2 this).symm
 .have⟨σ,m1,m2,u⟩:=mv r hv
  exact⟨σ,m1,(l σ m2 u).1⟩
end
abbrev kU:=List (Nat×Φ)
def sl (D:kU):List Nat:=D.map (·.1)
def jY (σ:ϑ):ab7->Bool
 |.tmp t=>!σ.contains t
 |_=>true
def Dz (σ:ϑ)(o:Oper):Bool:=match o.dst with|some t=>!σ.contains t|none=>true
def ft (σ:ϑ)(P:ω)(S E:Ϣ)(str:Bool)(o:Oper):Bool:=nI P S E str o&&(σ.isEmpty||(o.op.operands.all (jY σ)&&Dz σ o))
def fN (σ:ϑ)(P:ω)(S E:Ϣ)(str:Bool):Code->Bool
 |.skip|.exit _|.label _|.ret=>true
 |.region _ ops _=>ops.all (ft σ P S E str)
 |.seq a b=>fN σ P S E str a&&fN σ P S E str b
 |.cond c a b=>(oh c&&jY σ c)&&fN σ P S E str a&&fN σ P S E str b
 |.block _ b|.loop b|.scope b=>fN σ P S E str b
 |.goto _|.refuse _=>true
 |_=>false
def Py (σ:ϑ)(ops:Ϙ)(o:Oper):Bool:=σ.isEmpty||match o.guard with
 |none=>true
 |some g=>(ops[g.1]?).all (Dz σ)
def cF (σ:ϑ)(P:ω)(S E:Ϣ)(str:Bool):Item->Bool
 |.code c|.inLoop c|.inScope c=>fN σ P S E str c
 |.inBlock _=>true
 |.inRegion ops todo=>todo.all λi=>(ops[i]?).all λo=>ft σ P S E str o&&Py σ ops o
 |_=>false
abbrev zC:=fN []
abbrev Dy:=cF []
def qG {σ:ϑ}{P:ω}{S E:Ϣ}{str:Bool}{ops:Ϙ}{i:Nat}{rest:ϑ}{o:Oper}(h:cF σ P S E str (.inRegion ops (i::rest))=true)(a:ops[i]? =some o):ft σ P S E str o=true:=by
 simp only[cF,ϒ8,ε] at h;have:=h.1;rw[a] at this;simp only[Option.all_some,ε] at this;exact this.1
def zB {σ:ϑ}{P:ω}{S E:Ϣ}{str:Bool}{ops:Ϙ}{i:Nat}{rest:ϑ}{o:Oper}(h:cF σ P S E str (.inRegion ops (i::rest))=true)(a:ops[i]? =some o):Py σ ops o=true:=by
 simp only[cF,ϒ8,ε] at h;have:=h.1;rw[a] at this;simp only[Option.all_some,ε] at this;exact this.2
def k6 {σ:ϑ}{P:ω}{S E:Ϣ}{str:Bool}{ops:Ϙ}{i:Nat}{rest:ϑ}(h:cF σ P S E str (.inRegion ops (i::rest))=true):cF σ P S E str (.inRegion ops rest)=true:=by
 simp only[cF,ϒ8,ε] at h⊢;exact h.2
def sI {σ:ϑ}{P:ω}{S E:Ϣ}{str:Bool}{ops:Ϙ}{id:Nat}{d:Bool}(h:cF σ P S E str (.code (.region id ops d))=true)(l:ϑ):cF σ P S E str (.inRegion ops l)=true:=by
 have h:ops.all (ft σ P S E str)=true:=h;have a:=af8.1 h;simp only[cF];refine ad6.2 λi _=>?_
 cases c:ops[i]? with
 |none=>rfl
 |some o=>
  simp only[Option.all_some,ε];refine⟨a o (ϵ c),?_⟩;unfold Py
  by_cases e:σ.isEmpty=true
  .rw[e];rfl
  .cases o.guard with
   |none=>simp
   |some g=>
    simp only[Ϲ];refine .inr ?_;cases b:ops[g.1]? with
    |none=>rfl
    |some p=>
     have:=a p (ϵ b);simp only[ft,ε,Ϲ] at this;exact(this.2.resolve_left e).2
structure Stat (P:ω)(S E:ac0->Bool)(str:Bool):Prop where
 Bg:P.globals.size<=1
 wF:P.cellsOf 1000000=0
 body:∀f,S f=true->∃fn c,P.funcs[f]? =some fn/\(fn.name== "runtime.NumGoroutine")=false/\fn.body=some c/\zC P S E str c=true
 ext:∀f,E f=true->∀(π:Nat->Nat),(∀i j,π i=π j->i=j)->π 0=0->∀(N V:Nat->Prop) (args:Array Φ),br P π N V (RN π S) (callFunc f args) (callFunc f (args.map (Value.ren π)))
def ym (D:kU)(c:ϐ):Array Φ:=D.foldl (λc p=>c.setIfInBounds p.1 p.2) c
def ba (π:Ϛ)(a:Act)(D:kU):Act:={tmps:=ym D (a.tmps.map (ren π)),defers:=[]}
def ux:∀(D:kU)(c:ϐ)(t:Nat),t∉sl D->(ym D c)[t]? =c[t]?
 |[],_,_,_=>rfl
 |p::D,c,t,h=>by
  have h1:t≠p.1:=λe=>h (by simp[sl,e])
  have h2:t∉sl D:=λe=>h (by simp only[sl,ϴ,ac1];exact .inr e)
  show(ym D (c.setIfInBounds p.1 p.2))[t]? =_;rw[ux D _ t h2,ab1 (λe=>h1 e.symm)]
def Dv:∀(D:kU)(c:ϐ)(t:Nat)(v:Φ),t∉sl D->(ym D c).setIfInBounds t v=ym D (c.setIfInBounds t v)
 |[],_,_,_,_=>rfl
 |p::D,c,t,v,h=>by
  have h1:t≠p.1:=λe=>h (by simp[sl,e])
  have h2:t∉sl D:=λe=>h (by simp only[sl,ϴ,ac1];exact .inr e)
  show(ym D (c.setIfInBounds p.1 p.2)).setIfInBounds t v=ym D ((c.setIfInBounds t v).setIfInBounds p.1 p.2);rw[Dv D _ t v h2,Array.setIfInBounds_comm _ _ (λe=>h1 e.symm)]
def Kb {σ:ϑ}{t:Nat}(h:jY σ (.tmp t)=true):t∉σ:=by simpa [jY] using h
def dG {σ:ϑ}{o:Oper}(h:Dz σ o=true):∀t,o.dst=some t->t∉σ:=λt e=>by
 unfold Dz at h;rw[e] at h;simpa using h
def mm {σ:ϑ}{P:ω}{S E:Ϣ}{str:Bool}{o:Oper}(h:ft σ P S E str o=true):nI P S E str o=true/\(∀x∈o.op.operands,jY σ x=true)/\∀t,o.dst=some t->t∉σ:=by
 simp only[ft,ε,Ϲ] at h;rcases h.2 with e|e
 .have:σ=[]:=by simpa using e
  subst this;exact⟨h.1,λx _=>by cases x<;>simp[jY],λt _=>ϛ⟩
 .exact⟨h.1,af8.1 e.1,dG e.2⟩
section
variable {P:ω}{S E:ac0->Bool}{str:Bool}{π:Nat->Nat}{H Z:Nat->Prop}{wL w:Ω}
def Stat.Xv (d:Stat P S E str)(e:∀i j,π i=π j->i=j)(h0:π 0=0)(l:str=true->∀b,¬Z b)(V:ϒ)(h:∀i,V i->¬H i):acw P π (λb=>H b\/Z b) S E str V:=
 {inj:=e,zero:=h0,Bg:=d.Bg
  body:=λf a=>by have⟨fn,c,h1,h2,k,_⟩:=d.body f a;exact⟨fn,h1,h2,by rw[k];rfl⟩
  ext:=λf a args V=>d.ext f a π e h0 _ V args
  str:=λg r hr m=>m.elim (h r hr) (l g r)}
def k8 (c:ϐ)(i:Nat):(c.map (ren π)).getD i undef=ren π (c.getD i undef):=by
 simp only[ac6,ai0];cases c[i]? <;>simp[undef]
def mI (a:Act)(D:kU){x:ab7}(b:oh x=true)(c:jY (sl D) x=true:=by rfl):(ba π a D).eval x=ren π (a.eval x):=by
 cases x with
 |tmp t=>
  show(ym D (a.tmps.map (ren π))).getD t ϗ=_;rw[ac6,ux D _ t (Kb c),<-ac6];exact k8 ..
 |const v=>exact(fA b).symm
 |global g=>cases b
 |func f=>simp[Act.eval,qz]
def Ql:∀{n:Nat}{v:Φ},kf n v=true->∀r,¬Value.Has r v:=by
 intro n v h r hr;have:=pp (π:=λx=>x+1) hr (fA h);omega
def j6 {V:ϒ}{a:Act}(ha:∀v∈a.tmps,VV V v){x:ab7}(b:oh x=true):VV V (a.eval x):=by
 cases x with
 |tmp t=>
  show VV V (a.tmps.getD t undef);rw[ac6];cases h:a.tmps[t]? with
  |none=>intro r hr;cases hr with|tuple b _=>simp[undef] at b
  |some v=>exact ha v (ϵ h)
 |const v=>exactλr hr=>absurd hr (Ql b r)
 |global g=>cases b
 |func f=>intro r hr;cases hr<;>simp_all
def jd (a:Act)(D:kU)(d:Ϩ)(v:Φ)(hd:∀t,d=some t->t∉sl D:=by intro _ _ h;cases h):(ba π a D).put d (ren π v)=ba π (a.put d v) D:=by
 cases d with
 |none=>rfl
 |some t=>
  simp only[Act.put,ba];rw[Dv D _ t _ (hd t rfl),ϔ2]
def jW {V:ϒ}{a:Act}(ha:∀v∈a.tmps,VV V v){d:Ϩ}{v:Φ}(hv:VV V v):∀u∈(a.put d v).tmps,VV V u:=by
 cases d with
 |none=>exact ha
 |some d=>
  intro u b;simp only[Act.put] at b;rcases Array.mem_or_eq_of_mem_setIfInBounds b with h|h
  .exact ha u h
  .rw[h];exact hv
def ik {V:ϒ}:VV V ϗ:=by intro r hr;cases hr with|tuple hx _=>simp at hx
def wM (ops:Ϙ)(c:ϐ):yielded ops (c.map (ren π))=yielded ops c:=by
 funext j
 unfold yielded;cases (ops[j]?).bind (·.dst) with
 |none=>rfl
 |some t=>
  simp only[ϒ6,ai0];cases c[t]? with
  |none=>rfl
  |some v=>cases v<;>simp
def yI {ops:Ϙ}{c:ϐ}{D:kU}{o:Oper}(h:Py (sl D) ops o=true):wanted o (yielded ops (ym D (c.map (ren π))))=wanted o (yielded ops c):=by
 unfold Py at h;simp only[Ϲ] at h;rcases h with h|h
 .cases D with
  |nil=>rw[show ym [] (c.map (ren π))=c.map (ren π) from rfl,wM]
  |cons p D=>simp[sl] at h
 .unfold wanted
  cases hg:o.guard with
  |none=>rfl
  |some g=>
   rw[hg] at h;simp only at h⊢;have e:yielded ops (ym D (c.map (ren π))) g.1=yielded ops c g.1:=by
    rw[<-wM (π:=π) ops c];unfold yielded;cases a:ops[g.1]? with
    |none=>rfl
    |some p=>
     rw[a] at h;simp only[ϒ6];cases hd:p.dst with
     |none=>rfl
     |some t=>
      simp only[ϒ6];rw[ux D _ t (dG (by simpa using h) t hd)]
   rw[e]
def pH (n:Stat P S E str)(h:∀i j,π i=π j->i=j)(h0:π 0=0)(L:str=true->∀b,¬Z b)(y:LW H Z wL)(J:WR π H Z wL w){a:Act}(D:kU)(ha:∀v∈a.tmps,VV (iG H wL) v){o:Oper}(q:ft (sl D) P S E str o=true){x:Next}{d:Ω}(hr:(execOp a.eval o).run P wL= .ok x d)(p:∀i,wL.heap.size+i<d.heap.size->π (wL.heap.size+i)=w.heap.size+i):
  LW H Z d/\wL.heap.size<=d.heap.size/\∃x' w',(execOp (ba π a D).eval o).run P w= .ok x' w'/\RN π S x x'/\WR π H Z d w'/\Eg π H Z wL d w w'/\(∀e∈(execOp (ba π a D).eval o).events P w #[],ri π H Z d.heap.size e)/\
   (match x with|.value v=>VV (iG H d) v|.enter f z=>(∀v∈z,VV (iG H d) v)|_=>True):=by
 have⟨G,c,_⟩:=mm q;have k:∀(π:Ϛ)(D:kU),(∀x∈o.op.operands,jY (sl D) x=true)->(∀i j,π i=π j->i=j)->π 0=0->br P π (λb=>H b\/Z b) (iG H wL) (RN π S) (execOp a.eval o) (execOp (ba π a D).eval o):=λπ D c h h0=>
  tg (n.Xv h h0 L _ λi hv=>hv.2) G (λx hm u=>⟨mI a D u (c x hm),j6 ha u⟩) (λf=>⟨rfl,rfl⟩) (λv=>rfl)
 have self:=xK (R:=λσ=>RN σ S) n.wF y (λσ h s=>by
  have e:ba σ a []={a with defers:=[]}:=by
   unfold ba;rw[show ym [] (a.tmps.map (ren σ))=a.tmps.map (ren σ) from rfl,cP λv hv=>gP v λr hr=>s r (ha v hv r hr)]
  have:=k σ [] (λx _=>by cases x<;>rfl) h (s 0 y.zero);rw[e] at this;exact this) hr
 have⟨l1,l2,B⟩:=self;have⟨x',w',m,A,K,C,F,I⟩:=(k π D c h h0).run n.wF (λb=>Iff.rfl) J (λi hv=>hv) hr p (es:=#[]);refine⟨l1,l2,x',w',?_,K,C,F,λe t=>?_,?_⟩
 .rw[<-Sem.runT_fst P _ w #[],A]
 .have:(execOp (ba π a D).eval o).events P w #[]=m:=congrArg Prod.snd A
  rw[this] at t;exact(I e t).resolve_left ϛ
 .cases x with
  |value v=>
   intro r g;refine ac9 λhv=>?_
   have⟨σ,m1,m2⟩:=B r hv;simp only[RN,Next.value.injEq] at m2;exact m1 (pp g m2.symm)
  |enter f z=>
   intro v hv r g;refine ac9 λl=>?_
   have⟨σ,m1,m2⟩:=B r l;simp only[RN,Next.enter.injEq,true_and] at m2;exact m1 (pp g (rJ m2.1.symm hv))
  |_=>trivial
def ER {N V:ϒ}{α:Type}{f f':α->Sem Φ}(d:∀x,br P π N V (RV π) (f x) (f' x)):∀l:List α,br P π N V (λa b=>b=a.map (ren π)) (l.mapM f) (l.mapM f')
 |[]=>by simp only[List.mapM_nil];exact ay rfl
 |x::l=>by
  simp only[List.mapM_cons];refine(d x).bind' λv e h=>?_
  rw[show e=_ from h];refine(ER d l).bind' λc g h=>?_
  subst h;exact ay ϛ
def mS {N V:ϒ}(fn:Func)(c:ϐ):br P π N V (RV π) (results fn c) (results fn (c.map (ren π))):=by
 unfold results;rw[ϕ7,ϕ7,map_eq_pure_bind,map_eq_pure_bind];simp only[bind_assoc,pure_bind];refine(ER (λr=>?_) _).bind' λd b h=>?_
 .cases r with
  |tmp t=>dsimp only;rw[k8];exact ay rfl
  |cell a t=>
   dsimp only;rw[k8];cases c.getD a ϗ with
   |pointer p=>cases p with
    |none=>exact .dead (Dead.bind (s:=asAddr (.pointer none)) _ (eh .nilDeref))
    |some p=>simp only[bi,ξ];exact wW t p
   |_=>exact .dead (Dead.bind _ (Dead.halt trivial))
 .subst h
  refine ay ?_
  match d with
  |[]=>simp[RV]
  |[v]=>simp[RV]
  |_::_::_=>simp[RV]
def pG (l:Stat P S E str)(o:∀i j,π i=π j->i=j)(t:LW H Z wL)(y:WR π H Z wL w){c:ϐ}(s:∀v∈c,VV (iG H wL) v)(fn:Func){x:Φ}{a:Ω}(hr:(results fn c).run P wL= .ok x a)(h:∀i,wL.heap.size+i<a.heap.size->π (wL.heap.size+i)=w.heap.size+i):
  LW H Z a/\wL.heap.size<=a.heap.size/\∃w',(results fn (c.map (ren π))).run P w= .ok (ren π x) w'/\WR π H Z a w'/\Eg π H Z wL a w w'/\(∀e∈(results fn (c.map (ren π))).events P w #[],ri π H Z a.heap.size e)/\VV (iG H a) x:=by
 have self:=xK (R:=λσ=>RV σ) l.wF t (λσ o q=>by
  have e:c.map (ren σ)=c:=cP λv hv=>gP v λr hr=>q r (s v hv r hr)
  have:=mS (P:=P) (π:=σ) (N:=λb=>H b\/Z b) (V:=iG H wL) fn c;rw[e] at this;exact this) hr
 have⟨l1,l2,A⟩:=self;have⟨x',w',f,m,z,n,p,u⟩:=(mS (P:=P) (π:=π) (N:=λb=>H b\/Z b) (V:=iG H wL) fn c).run l.wF (λb=>Iff.rfl) y (λi hv=>hv) hr h (es:=#[]);have g:x'=ren π x:=z;subst g;refine⟨l1,l2,w',?_,n,p,λe k=>?_,?_⟩
 .rw[<-Sem.runT_fst P _ w #[],m]
 .have:(results fn (c.map (ren π))).events P w #[]=f:=congrArg Prod.snd m
  rw[this] at k;exact(u e k).resolve_left ϛ
 .intro r d
  refine ac9 λhv=>?_
  have⟨σ,m1,m2⟩:=A r hv;exact m1 (pp d (show x=_ from m2).symm)
end
structure Ctx where
 f0:ac0
 gf:κ
 B:κ
 D0:kU
 CS:List κ
 Tl:List Item->List Item->Prop
 fn:B.fn=f0
 kind:B.kind≠.early
 stop:∀x y,Tl x y->∃l r,x= .inRangeFunc l::r
 exit:∀x y id x',Tl x y->exitTo id x=some x'->∃y',exitTo id y=some y'/\Tl x' y'
 bare:∀x y l,Tl x y->gotoIn l x=none
section
variable (P:ω)(S E:ac0->Bool)(str:Bool)(π:Nat->Nat)(c:Ctx)
inductive tN (V:Nat->Prop):ac0->Act->List Item->List Item->List κ->κ->kU->List Item->List κ->Prop
 |bot {a:Act} {t x y:List Item} (ht:∀it∈t,cF (sl c.D0) P S E str it=true) (ha:∀v∈a.tmps,VV V v) (hd:a.defers=[]) (hxy:c.Tl x y):tN V c.f0 a t x [c.gf] c.B c.D0 y c.CS
 |up {f f1:ac0} {a a1:Act} {t t1 x1 y1:List Item} {ops:Array Oper} {i:Nat} {rest:List Nat} {cs1 Nl:List κ} {B1:κ} {D1:kU} (hf:S f=true)
   (ht:∀it∈t,Dy P S E str it=true) (ha:∀v∈a.tmps,VV V v) (hd:a.defers=[]) (hs:tN V f1 a1 (.inRegion ops (i::rest)::t1) x1 cs1 B1 D1 y1 Nl):
   tN V f a t [] ((base f1).at a1 (.inRegion ops (i::rest)::(t1++x1))::cs1) (base f) [] [] (B1.at (ba π a1 D1) (.inRegion ops (i::rest)::(t1++y1))::Nl)
inductive ji (H:Nat->Prop)(wL:Ω):Θ->Θ->Prop
 |run {f:ac0} {a:Act} {t x:List Item} {cs:List κ} {B:κ} {D:kU} {y:List Item} {cs':List κ} (h:tN P S E str π c (iG H wL) f a t x cs B D y cs'):
   ji H wL (G ((base f).at a (t++x)) cs) (G (B.at (ba π a D) (t++y)) cs')
 |ret {f:ac0} {a:Act} {t x:List Item} {cs:List κ} {B:κ} {D:kU} {y:List Item} {cs':List κ} {todo todo':List Item} (h:tN P S E str π c (iG H wL) f a t x cs B D y cs'):
   ji H wL (G {(base f).at a todo with mode:= .returning} cs) (G {B.at (ba π a D) todo' with mode:= .returning} cs')
end
section
variable {σ:List Nat}{P:ω}{S E:ac0->Bool}{str:Bool}{π:Nat->Nat}{c:Ctx}{H Z:Nat->Prop}{wL w:Ω}
def tN.mono {V g:ϒ}(j:∀i,V i->g i){f:ac0}{a:Act}{t x:ϕ}{cs:ϙ}{B:κ}{D:kU}{y:ϕ}{b:ϙ}(h:tN P S E str π c V f a t x cs B D y b):tN P S E str π c g f a t x cs B D y b:=by
 induction h with
 |bot e ha hd d=>exact .bot e (λv hv=>(ha v hv).weak j) hd d
 |up l e ha hd _ k=>exact .up l e (λv hv=>(ha v hv).weak j) hd k
def tN.base {V:ϒ}{f:ac0}{a:Act}{t x:ϕ}{cs:ϙ}{B:κ}{D:kU}{y:ϕ}{b:ϙ}(h:tN P S E str π c V f a t x cs B D y b):
  B.fn=f/\B.kind≠.early/\a.defers=[]/\(∀it∈t,cF (sl D) P S E str it=true)/\(∀v∈a.tmps,VV V v):=by
 cases h with
 |bot d ha hd e=>exact⟨c.fn,c.kind,hd,d,ha⟩
 |up g d ha hd _=>exact⟨rfl,by simp[Go.Conc.base],hd,d,ha⟩
def tN.top {V:ϒ}{f:ac0}{a:Act}{t x:ϕ}{cs:ϙ}{B:κ}{D:kU}{y:ϕ}{b:ϙ}(h:tN P S E str π c V f a t x cs B D y b){a':Act}{t':ϕ}(e:∀it∈t',cF (sl D) P S E str it=true)(ha:∀v∈a'.tmps,VV V v)(hd:a'.defers=[]):tN P S E str π c V f a' t' x cs B D y b:=by
 cases h with
 |bot _ _ _ d=>exact .bot e ha hd d
 |up i _ _ _ g=>exact .up i e ha hd g
def kS {id:Nat}:∀(t k:ϕ),exitTo id (t++k)=match exitTo id t with|some t'=>some (t'++k)|none=>exitTo id k
 |[],k=>rfl
 |it::t,k=>by
  cases it<;>simp only[ϒ3,exitTo]<;>first|exact kS t k|skip
  split
  .rfl
  .exact kS t k
def tD {id:Nat}:∀{t t':ϕ},exitTo id t=some t'->∀it∈t',it∈t
 |[],_,h=>by simp[exitTo] at h
 |it::t,t',h=>by
  intro x a;cases it<;>simp only[exitTo] at h<;>first|exact ak9 _ (tD h x a)|skip
  split at h
  .cases h;exact ak9 _ a
  .exact ak9 _ (tD h x a)
def pu {l:Nat}:∀{b r:Code},fN σ P S E str b=true->findLabel b l=some r->fN σ P S E str r=true
 |.seq x y,r,h,hf=>by
  simp only[fN,ε] at h;simp only[findLabel] at hf;cases a:findLabel x l with
  |none=>rw[a] at hf;exact pu h.2 hf
  |some rest=>
   rw[a] at hf;cases hf;simp only[fN,ε];exact⟨pu h.1 a,h.2⟩
 |.label l',r,_,hf=>by
  simp only[findLabel] at hf;split at hf
  .cases hf;rfl
  .cases hf
 |.skip,_,_,hf|.region _ _ _,_,_,hf|.cond _ _ _,_,_,hf|.block _ _,_,_,hf|.loop _,_,_,hf|.rangeFunc _ _ _ _,_,_,hf|.exit _,_,_,hf|.scope _,_,_,hf|.goto _,_,_,hf|.ret,_,_,hf|.refuse _,_,_,hf=>by simp[findLabel] at hf
def sO {l:Nat}:∀(t k:ϕ),(∀it∈t,cF σ P S E str it=true)->(∃t2,(∀it∈t2,cF σ P S E str it=true)/\∀k,gotoIn l (t++k)=some (t2++k))\/∀k,gotoIn l (t++k)=gotoIn l k
 |[],k,_=> .inr λ_=>rfl
 |it::t,k,h=>by
  have d:=sO (l:=l) t k λx b=>h x (by simp[b])
  cases it with
  |inScope a=>
   cases c:findLabel a l with
   |some r=>
    have e:fN σ P S E str a=true:=h (.inScope a) ϛ;refine .inl ⟨.code r::.inScope a::t,λx b=>?_,λk=>by simp[gotoIn,c]⟩;simp only[ac1] at b;rcases b with rfl|rfl|b
    .exact pu e c
    .exact e
    .exact h x (by simp[b])
   |none=>
    rcases d with⟨t2,h1,h2⟩|h2
    .exact .inl ⟨t2,h1,λk=>by simp only[ϒ3,gotoIn,c];exact h2 k⟩
    .exact .inr λk=>by simp only[ϒ3,gotoIn,c];exact h2 k
  |_=>
   rcases d with⟨t2,h1,h2⟩|h2
   .exact .inl ⟨t2,h1,λk=>by simp only[ϒ3,gotoIn];exact h2 k⟩
   .exact .inr λk=>by simp only[ϒ3,gotoIn];exact h2 k
def qa {main:Bool}{b:κ}{a:Act}{k:ϕ}{cs:ϙ}{p:Code}:stepG P main (G (b.at a (.code (.scope p)::k)) cs) w= .go (G (b.at a (.code p::.inScope p::k)) cs) w:=by simp[G,stepG,stepG.exec,Frame.at]
def nA {main:Bool}{b:κ}{a:Act}{k:ϕ}{cs:ϙ}{p:Code}:stepG P main (G (b.at a (.inScope p::k)) cs) w= .go (G (b.at a k) cs) w:=by simp[G,stepG,stepG.exec,Frame.at]
def ta {main:Bool}{b:κ}{a:Act}{k k':ϕ}{cs:ϙ}{l:Nat}(h:gotoIn l k=some k'):stepG P main (G (b.at a (.code (.goto l)::k)) cs) w= .go (G (b.at a k') cs) w:=by simp[G,stepG,stepG.exec,Frame.at,h]
def Res (P:ω)(S E:Ϣ)(str:Bool)(π:Ϛ)(c:Ctx)(main:Bool)(H Z:ϒ)(wL w:Ω)(g d:Θ)(a:Ω):Prop:=
 ∃g' w' b,stepG P main g w= .go g' w' b/\ji P S E str π c H a d g'/\LW H Z a/\wL.heap.size<=a.heap.size/\WR π H Z a w'/\Eg π H Z wL a w w'/\∀e∈b,ri π H Z a.heap.size e
def cZ {main:Bool}{g g' a:Θ}(d:LW H Z wL)(b:WR π H Z wL w)(h:stepG P main g w= .go g' w)(hr:ji P S E str π c H wL a g'):Res P S E str π c main H Z wL w g a wL:=
 ⟨g',w,#[],h,hr,d,ι _,b,Eg.refl ..,ϛ⟩
def all_cons {it:Item}{t:ϕ}(h:∀x∈it::t,cF σ P S E str x=true):cF σ P S E str it=true/\∀x∈t,cF σ P S E str x=true:=⟨h it ϛ,λx a=>h x (by simp[a])⟩
def eG {it:Item}{t:ϕ}(h1:cF σ P S E str it=true)(h:∀x∈t,cF σ P S E str x=true):∀x∈it::t,cF σ P S E str x=true:=by
 intro x a;rcases ac1.1 a with rfl|a
 .exact h1
 .exact h x a
def put_defers (a:Act)(d:Ϩ)(v:Φ):(a.put d v).defers=a.defers:=by cases d<;>rfl
def SB (C:Stat P S E str)(hi:∀i j,π i=π j->i=j)(h0:π 0=0)(V:str=true->∀b,¬Z b)(p:LW H Z wL)(O:WR π H Z wL w){main:Bool}{f:ac0}{a:Act}{t x y:ϕ}{cs A:ϙ}{B:κ}{D:kU}{ops:Ϙ}{i:Nat}{rest:ϑ}(h:tN P S E str π c (iG H wL) f a (.inRegion ops (i::rest)::t) x cs B D y A){X:Θ}{I:Ω}{es:Ϝ}(l:stepG P true (G ((base f).at a (.inRegion ops (i::rest)::(t++x))) cs) wL= .go X I es)(hn:sf X)(z:∀i,wL.heap.size+i<I.heap.size->π (wL.heap.size+i)=w.heap.size+i):Res P S E str π c main H Z wL w (G (B.at (ba π a D) (.inRegion ops (i::rest)::(t++y))) A) X I:=by
 have⟨hB,hk,hd,ht,ha⟩:=h.base;have⟨d,q⟩:=all_cons ht;cases k:ops[i]? with
 |none=>
  simp[G,stepG,stepG.exec,Frame.at,k] at l;obtain⟨rfl,rfl,rfl⟩:=l;refine cZ (g':=G (B.at (ba π a D) (.inRegion ops rest::(t++y))) A) p O ?_ ?_
  .simp[G,stepG,stepG.exec,Frame.at,k,Frame.finish,ba]
  .have:=ji.run (P:=P) (S:=S) (E:=E) (str:=str) (π:=π) (c:=c) (H:=H) (wL:=wL) (h.top (t':= .inRegion ops rest::t) (a':=a) (eG (k6 d) q) ha hd)
   simpa [G,Frame.at,Frame.finish,k] using this
 |some o=>
  have tO:ft (sl D) P S E str o=true:=qG d k;have⟨Q,T,n⟩:=mm tO;cases g:wanted o (yielded ops a.tmps) with
  |false=>
   rw[stepG_unwanted k g] at l;cases l;refine cZ p O (stepG_unwanted k (by rw[show(ba π a D).tmps=ym D (a.tmps.map (ren π)) from rfl,yI (zB d k)];exact g)) ?_;have e:(ba π a D).put o.dst undef=ba π (a.put o.dst undef) D:=by
    have:=jd (π:=π) a D o.dst undef n
    rwa [show ren π undef=undef by simp[undef]] at this
   rw[e];exact ji.run (t:= .inRegion ops rest::t) (h.top (eG (k6 d) q) (jW ha ik) ((put_defers ..).trans hd))
  |true=>
   have r:wanted o (yielded ops (ba π a D).tmps)=true:=by rw[show(ba π a D).tmps=ym D (a.tmps.map (ren π)) from rfl,yI (zB d k)];exact g
   have s:(base f).kind≠.early:=by simp[base]
   cases hr:(execOp a.eval o).run P wL with
   |halt hh u=>
    exfalso;have M:mn hh:=by
     have Gb:br P id (λb=>H b\/Z b) (iG H wL) (RN id S) (execOp a.eval o) (execOp (ba id a D).eval o):=
      tg (C.Xv (λ_ _ h=>h) rfl V _ λi hv=>hv.2) Q (λx hm hx=>⟨mI a D hx (T x hm),j6 ha hx⟩) (λf=>⟨rfl,rfl⟩) (λv=>rfl)
     exact Gb.WB p.Cj (λb hb=>p.low b hb) hr
    rw[stepG_oper k g] at l;have ac:(CallKind.normal==CallKind.early)=false:=rfl;cases hh with
    |panic v=>
     simp[stepG.apply,hr,Frame.at,GStep.after] at l;obtain⟨rfl,_⟩:=l;exact hn.calm _ rfl
    |stuck m=>simp[stepG.apply,hr,Frame.at,GStep.after] at l
    |unsupported u=>cases u<;>first|exact M.elim|(simp[stepG.apply,hr,Frame.at,GStep.after] at l;done)
    |_=>exact M.elim
   |ok nx u=>
    have ab:∃Y,nx=Y:=⟨nx,rfl⟩
    cases nx with
    |value v=>
     rw[stepG_value k g s hr] at l;cases l;have⟨l1,l2,x',w',e1,e2,R,K,J,W⟩:=pH C hi h0 V p O D ha tO hr z;cases e2;refine⟨_,w',_,stepG_value k r hk e1,?_,l1,l2,R,K,λe N=>J e (mem_listed N)⟩;rw[jd _ _ _ _ n];have hm:∀i,iG H wL i->iG H I i:=λi hv=>⟨ψ hv.1 l2,hv.2⟩
     exact ji.run (t:= .inRegion ops rest::t) ((h.mono hm).top (eG (k6 d) q) (jW (λv hv=>(ha v hv).weak hm) W) ((put_defers ..).trans hd))
    |skip=>
     rw[stepG_none k g s hr] at l;cases l;have⟨l1,l2,x',w',e1,e2,R,K,J,W⟩:=pH C hi h0 V p O D ha tO hr z;cases e2;refine⟨_,w',_,stepG_none k r hk e1,?_,l1,l2,R,K,λe N=>J e (mem_listed N)⟩;have e:(ba π a D).put o.dst undef=ba π (a.put o.dst undef) D:=by
      have:=jd (π:=π) a D o.dst undef n
      rwa [show ren π undef=undef by simp[undef]] at this
     rw[e];have hm:∀i,iG H wL i->iG H I i:=λi hv=>⟨ψ hv.1 l2,hv.2⟩
     exact ji.run (t:= .inRegion ops rest::t) ((h.mono hm).top (eG (k6 d) q) (jW (λv hv=>(ha v hv).weak hm) ik) ((put_defers ..).trans hd))
    |enter f2 F=>
     rw[stepG_enter k g s hr] at l;cases l;have⟨l1,l2,x',w',e1,e2,R,K,J,W⟩:=pH C hi h0 V p O D ha tO hr z;obtain⟨rfl,L⟩:=e2;have⟨fn,cd,b1,b2,b3,b4⟩:=C.body f2 L;refine⟨_,w',_,stepG_enter k r hk e1,?_,l1,l2,R,K,λe N=>J e (mem_listed N)⟩;have hm:∀i,iG H wL i->iG H I i:=λi hv=>⟨ψ hv.1 l2,hv.2⟩
     have aa:=tN.up (f:=f2) (a:={tmps:=F++Array.replicate (fn.ntmps-F.size) undef,defers:=[]}) (t:=[.code cd]) L (λit U=>by simp at U;subst U;exact b4)
      (λv hv=>by
       rcases ai4.1 hv with hv|hv
       .exact W v hv
       .rw[(Ϙ1.1 hv).2];exact ik) rfl (h.mono hm)
     have:=ji.run aa;rw[enter_at _ b1 b3,enter_at _ b1 b3];have er:ba π {tmps:=F++Array.replicate (fn.ntmps-F.size) undef,defers:=[]} []={tmps:=F.map (ren π)++Array.replicate (fn.ntmps-(F.map (ren π)).size) undef,defers:=[]}:=by
      simp[ba,ym,undef]
     rw[er] at this;exact this
    |_=>
     exfalso;have:=pH C (λ_ _ h=>h) rfl V p (p.self (σ:=id) (λ_ _ h=>h) λ_ _=>rfl) D ha tO hr (λi _=>rfl);have⟨_,_,x',w',_,e2,_⟩:=this;exact e2.elim
def WR.draw (a:WR π H Z wL w):WR π H Z {wL with drawn:=wL.drawn+1} {w with drawn:=w.drawn+1}:=
 {inj:=a.inj,tape:=a.tape,drawn:=by show w.drawn+1=wL.drawn+1;rw[a.drawn],lt:=a.lt,ok:=a.ok,hid:=a.hid,pZ:=a.pZ,low:=a.low,AM:=a.AM}
def LW.draw (a:LW H Z wL):LW H Z {wL with drawn:=wL.drawn+1}:=⟨a.ok,a.hid,a.pZ,a.low,a.apart,a.zero,a.Vm⟩
def EF (V:Stat P S E str)(T:∀i j,π i=π j->i=j)(h0:π 0=0)(X:str=true->∀b,¬Z b)(k:LW H Z wL)(g:WR π H Z wL w){main:Bool}{f:ac0}{a:Act}{t x y:ϕ}{cs z:ϙ}{B:κ}{D:kU}(h:tN P S E str π c (iG H wL) f a t x cs B D y z){K:Θ}{J:Ω}{es:Ϝ}(d:stepG P true (G ((base f).at a (t++x)) cs) wL= .go K J es)(Y:sf K)(N:∀i,wL.heap.size+i<J.heap.size->π (wL.heap.size+i)=w.heap.size+i):Res P S E str π c main H Z wL w (G (B.at (ba π a D) (t++y)) z) K J:=by
 have⟨R,hk,hd,Q,ha⟩:=h.base;cases t with
 |nil=>
  cases h with
  |bot _ _ _ m=>
   obtain⟨L,r,rfl⟩:=c.stop _ _ m;simp[G,stepG,stepG.exec,Frame.at] at d
  |up O _ _ _ v=>
   simp only[ϓ8] at d⊢;rw[stepG_end] at d;cases d;exact cZ k g stepG_end (ji.ret (.up O Q ha hd v))
 |cons it t=>
  have⟨h1,e⟩:=all_cons Q;simp only[ϒ3] at d⊢;cases it with
  |code U=>
   cases U with
   |skip=>rw[stepG_skip] at d;cases d;exact cZ k g stepG_skip (.run (h.top e ha hd))
   |label l=>rw[stepG_label] at d;cases d;exact cZ k g stepG_label (.run (h.top e ha hd))
   |ret=>rw[stepG_ret'] at d;cases d;exact cZ k g stepG_ret' (.ret h)
   |seq p q=>
    simp only[cF,fN,ε] at h1;rw[stepG_seq] at d;cases d;exact cZ k g stepG_seq (ji.run (t:= .code p::.code q::t) (h.top (eG h1.1 (eG h1.2 e)) ha hd))
   |cond o p q=>
    simp only[cF,fN,ε] at h1;have C:=mI (π:=π) a D h1.1.1.1 h1.1.1.2;cases I:a.eval o with
    |bool b=>
     rw[I,eF] at C;rw[stepG_cond I] at d;cases d;exact cZ k g (stepG_cond C) (ji.run (t:= .code (if b then p else q)::t) (h.top (eG (by cases b;exact h1.2;exact h1.1.2) e) ha hd))
    |_=>
     exfalso;have s:=Frame.eval_at (base f) a (.code (.cond o p q)::(t++x)) o;simp only[Frame.at] at s;simp[G,stepG,stepG.exec,Frame.at,s,I] at d
   |block id p=>rw[stepG_block] at d;cases d;exact cZ k g stepG_block (ji.run (t:= .code p::.inBlock id::t) (h.top (eG h1 (eG rfl e)) ha hd))
   |loop p=>rw[stepG_loop] at d;cases d;exact cZ k g stepG_loop (ji.run (t:= .code p::.inLoop p::t) (h.top (eG h1 (eG h1 e)) ha hd))
   |exit id=>
    have n:=kS (id:=id) t x;have u:=kS (id:=id) t y;cases s:exitTo id t with
    |some t2=>
     rw[s] at n u;rw[stepG_exit n] at d;cases d;exact cZ k g (stepG_exit u) (.run (h.top (λit F=>e it (tD s it F)) ha hd))
    |none=>
     rw[s] at n u;dsimp only at n u;cases h with
     |bot _ _ _ m=>
      cases A:exitTo id x with
      |none=>
       exfalso;rw[A] at n;simp[G,stepG,stepG.exec,Frame.at,n,base] at d
      |some x2=>
       have⟨y2,W,M⟩:=c.exit _ _ _ _ m A;rw[A] at n;rw[W] at u;rw[stepG_exit n] at d;cases d;exact cZ k g (stepG_exit u) (ji.run (t:=[]) (.bot ϛ ha hd M))
     |up O _ _ _ v=>
      exfalso;simp[exitTo] at n;simp[G,stepG,stepG.exec,Frame.at,s,base] at d
   |region id ops draw=>
    cases draw with
    |false=>rw[stepG_region] at d;cases d;exact cZ k g stepG_region (ji.run (t:= .inRegion ops (range ops.size)::t) (h.top (eG (sI h1 _) e) ha hd))
    |true=>
     rw[stepG_region_draw] at d;cases d;refine⟨_,_,#[],stepG_region_draw,?_,k.draw,ι _,g.draw,⟨ι _,ϛ,λ_ _ _=>rfl,rfl,rfl,rfl,Nat.le_succ _⟩,ϛ⟩;rw[show w.tape w.drawn (.order B.fn id)=wL.tape wL.drawn (.order (base f).fn id) by rw[g.tape,g.drawn,R];rfl]
     exact ji.run (t:= .inRegion ops _::t) (tN.top (h.mono λi hv=>hv) (eG (sI h1 _) e) ha hd)
   |scope p=>rw[qa] at d;cases d;exact cZ k g qa (ji.run (t:= .code p::.inScope p::t) (h.top (eG h1 (eG h1 e)) ha hd))
   |refuse L=>simp[G,stepG,stepG.exec,Frame.at] at d
   |goto l=>
    rcases sO (l:=l) t x e with⟨t2,ht2,hg⟩|hg
    .rw[ta (hg x)] at d;cases d
     exact cZ k g (ta (hg y)) (ji.run (t:=t2) (h.top ht2 ha hd))
    .exfalso
     have A:gotoIn l x=none:=by
      cases h with
      |bot _ _ _ m=>exact c.bare _ _ _ m
      |up=>rfl
     have:=hg x;rw[A] at this;simp[G,stepG,stepG.exec,Frame.at,this,base] at d
   |_=>simp[cF,fN] at h1
  |inBlock id=>rw[stepG_inBlock] at d;cases d;exact cZ k g stepG_inBlock (.run (h.top e ha hd))
  |inScope p=>rw[nA] at d;cases d;exact cZ k g nA (.run (h.top e ha hd))
  |inLoop p=>rw[stepG_inLoop] at d;cases d;exact cZ k g stepG_inLoop (ji.run (t:= .code p::.inLoop p::t) (h.top (eG h1 (eG h1 e)) ha hd))
  |inRegion ops todo=>
   cases todo with
   |nil=>rw[stepG_region_end] at d;cases d;exact cZ k g stepG_region_end (.run (h.top e ha hd))
   |cons i rest=>exact SB V T h0 X k g h d Y N
  |_=>simp[cF] at h1
def step_ret (M:Stat P S E str)(R:∀i j,π i=π j->i=j)(W:LW H Z wL)(Y:WR π H Z wL w){main:Bool}{f:ac0}{a:Act}{t x y:ϕ}{cs m:ϙ}{B:κ}{D:kU}{todo todo':ϕ}(h:tN P S E str π c (iG H wL) f a t x cs B D y m)(J:cs≠[c.gf]){N:Θ}{A:Ω}{es:Ϝ}(l:stepG P true (G {(base f).at a todo with mode:= .returning} cs) wL= .go N A es)(K:∀i,wL.heap.size+i<A.heap.size->π (wL.heap.size+i)=w.heap.size+i):Res P S E str π c main H Z wL w (G {B.at (ba π a D) todo' with mode:= .returning} m) N A:=by
 cases h with
 |bot=>exact absurd rfl J
 |@up f f1 a a1 t t1 x1 y1 ops i rest cs1 Nl B1 D1 hf n ha hd hst=>
  have⟨fn,cd,b1,b2,b3,b4⟩:=M.body f hf;have⟨T,V,F,z,I⟩:=hst.base;have⟨d,p⟩:=all_cons z;have g:∀(b:κ)(a:Act)(k:ϕ)(v:Φ),(b.at a (.inRegion ops (i::rest)::k)).finish v=b.at (a.put ((ops[i]?).bind (·.dst)) v) (.inRegion ops rest::k):=λb a k v=>Frame.finish_at b a ops i rest k v
  have q:∀(main:Bool)(b:κ)(a:Act)(todo:ϕ)(cr:κ)(Hf:ϙ)(w:Ω),b.kind= .normal->a.defers=[]->b.fn=f->stepG P main (G {b.at a todo with mode:= .returning} (cr::Hf)) w=
    GStep.after (seen P f ((results fn a.tmps).events P w #[])) (match(results fn a.tmps).run P w with
     |.ok v w=> .go (G (cr.finish v) Hf) w
     |.halt (.stuck s) w=> .ended (.stuck s (Frame.pos P {b.at a todo with mode:= .returning})) w
     |.halt _ w=> .ended (.stuck "return: the result variables cannot be read" (Frame.pos P {b.at a todo with mode:= .returning})) w):=by
   intro main b a todo cr Hf w e1 e2 L;subst L;simp[G,stepG,unwind,doReturn,Frame.at,e1,e2,b1];cases (results fn a.tmps).run P w with
   |ok v u=>rfl
   |halt h u=>cases h<;>rfl
  rw[q true (base f) a todo _ cs1 wL rfl hd rfl] at l;cases hr:(results fn a.tmps).run P wL with
  |halt h u=>rw[hr] at l;cases h<;>simp[GStep.after] at l
  |ok v u=>
   rw[hr] at l;simp only[GStep.after,GStep.go.injEq] at l;obtain⟨rfl,rfl,_⟩:=l;have⟨l1,l2,w',e1,L,Q,O,X⟩:=pG M R W Y ha fn hr K;have r:=q main (base f) (ba π a []) todo' (B1.at (ba π a1 D1) (.inRegion ops (i::rest)::(t1++y1))) Nl w rfl rfl rfl;rw[show(ba π a []).tmps=a.tmps.map (ren π) from rfl,e1] at r;simp only[GStep.after] at r
   refine⟨_,w',_,r,?_,l1,l2,L,Q,λe U=>O e (by simpa using mem_seen (by simpa using U))⟩;rw[g,g,jd _ _ _ _ (λt n=>by
    cases C:ops[i]? with
    |none=>rw[C] at n;cases n
    |some o=>rw[C] at n;exact(mm (qG d C)).2.2 t n)]
   have hm:∀i,iG H wL i->iG H u i:=λi hv=>⟨ψ hv.1 l2,hv.2⟩
   exact ji.run (t:= .inRegion ops rest::t1) ((hst.mono hm).top (eG (k6 d) p) (jW (λv hv=>(I v hv).weak hm) X) ((put_defers ..).trans F))
end
def eA (P:ω):κ:=(base 0).at {tmps:=#[],defers:=[{target:= .fn (.func P.funcs.size) #[],args:=#[]}]} [.code (.refuse "")]
inductive NM (P:ω):κ->List κ->Prop
 |top {fr:κ} {ch:List PanicEntry} (hm:fr.mode= .panicking ch) (hf:fr.defers=(eA P).defers):NM P fr []
 |up {fr cr:κ} {cs:List κ} {ch:List PanicEntry} (hm:fr.mode= .panicking ch) (hd:fr.defers=[]) (hf:fr.catches P=false) (h:∀ch,NM P (cr.raise ch) cs):NM P fr (cr::cs)
section
variable {P:ω}{S E:ac0->Bool}{str:Bool}{c:Ctx}{H Z:Nat->Prop}{w:Ω}
def Jn (P:ω)(S E:Ϣ)(str:Bool)(c:Ctx)(H Z:ϒ)(gL:Θ)(w:Ω):Prop:=
 LW H Z w/\((∃g,ji P S E str id c H w gL g)\/gL=G (eA P) [])
def Hd (P:ω)(J:Θ->Ω->Prop)(gL:Θ)(w:Ω)(t:eL)(d:Nat):Prop:=
 (∃o u es,stepG P true gL (ax w t d)= .ended o u es)\/
 (∃fr cs u es,stepG P true gL (ax w t d)= .go (G fr cs) u es/\NM P fr cs)\/
 ∃fr cs u es k,stepG P true gL (ax w t d)= .go (G fr cs) u es/\sf (G fr cs)/\J (G fr cs) u/\u=ax u t (d+k)/\
  ∀t2 d2,(∀i,i<k->t2 (d2+i)=t (d+i))->stepG P true gL (ax w t2 d2)= .go (G fr cs) (ax u t2 (d2+k)) es
def ot {fr:κ}{cs:ϙ}(h:∀a,fr.mode≠.panicking a):sf (G fr cs):=⟨rfl,rfl,rfl,h⟩
def tj {J:Θ->Ω->Prop}{gL:Θ}{fr:κ}{cs:ϙ}(t:eL)(d:Nat)(h:∀w,stepG P true gL w= .go (G fr cs) w)(hm:∀b,fr.mode≠.panicking b)(a:J (G fr cs) (ax w t d)):Hd P J gL w t d:=
 .inr (.inr ⟨fr,cs,_,#[],0,h _,ot hm,a,rfl,λt2 d2 _=>h _⟩)
def tN.lost (l:Stat P S E str)(j:c.gf=eA P)(h0:∃fn,P.funcs[c.f0]? =some fn){π:Ϛ}{V:ϒ}{f:ac0}{a:Act}{t x:ϕ}{cs:ϙ}{B:κ}{D:kU}{y:ϕ}{i:ϙ}(h:tN P S E str π c V f a t x cs B D y i):
  ∀(todo:ϕ)(b:List PanicEntry),NM P {(Go.Conc.base f).at a todo with mode:= .panicking b} cs:=by
 have d:∀(f:ac0)(a:Act)(todo:ϕ)(b:List PanicEntry),(∃fn,P.funcs[f]? =some fn)->Frame.catches P {(Go.Conc.base f).at a todo with mode:= .panicking b}=false:=by
  rintro f a todo b ⟨fn,g⟩;simp[Frame.catches,Frame.at,Go.Conc.base,g]
 induction h with
 |bot n ha hd m=>
  intro todo b;refine .up rfl hd (d _ _ _ _ h0) λe=>?_
  rw[j];exact .top rfl rfl
 |up g n ha hd _ k=>
  intro todo b;have⟨fn,o,b1,_⟩:=l.body _ g;exact .up rfl hd (d _ _ _ _ ⟨fn,b1⟩) λe=>k _ e
def P0 (k:Stat P S E str)(m:str=true->∀b,¬Z b){w:Ω}(g:LW H Z w){f:ac0}{a:Act}{t x y:ϕ}{cs d:ϙ}{B:κ}{D:kU}(h:tN P S E str id c (iG H w) f a t x cs B D y d){e:Θ}{w':Ω}{es:Ϝ}(j:stepG P true (G ((base f).at a (t++x)) cs) w= .go e w' es)(n:sf e):Jn P S E str c H Z e w':=by
 have⟨g',_,_,_,hr,l,_⟩:=EF k (λ_ _ h=>h) rfl m g (g.self (σ:=id) (λ_ _ h=>h) λ_ _=>rfl) (main:=true) h j n λi _=>rfl
 exact⟨l,.inl ⟨g',hr⟩⟩
def Zp (F:Stat P S E str)(R:str=true->∀b,¬Z b)(Q:c.gf=eA P)(h0:∃fn,P.funcs[c.f0]? =some fn)(I:LW H Z w)(t0:eL)(n:Nat){f:ac0}{a:Act}{t x y:ϕ}{cs J:ϙ}{B:κ}{D:kU}{ops:Ϙ}{i:Nat}{rest:ϑ}(h:tN P S E str id c (iG H w) f a (.inRegion ops (i::rest)::t) x cs B D y J):
  Hd P (Jn P S E str c H Z) (G ((base f).at a (.inRegion ops (i::rest)::(t++x))) cs) w t0 n:=by
 have⟨hB,hk,hd,Y,ha⟩:=h.base;have⟨z,X⟩:=all_cons Y;have A:∀{O:Θ}{w':Ω}{es:Ϝ},stepG P true (G ((base f).at a (.inRegion ops (i::rest)::(t++x))) cs) (ax w t0 n)= .go O w' es->sf O->Jn P S E str c H Z O w':=λW hn=>
  P0 F R (I.ax t0 n) (h.mono λi hv=>hv) W hn
 cases l:ops[i]? with
 |none=>
  have e:∀w,stepG P true (G ((base f).at a (.inRegion ops (i::rest)::(t++x))) cs) w= .go (G ((base f).at a (.inRegion ops rest::(t++x))) cs) w:=λw=>by
   simp[G,stepG,stepG.exec,Frame.at,l,Frame.finish]
  exact tj _ _ e (λq=>by simp[Frame.at]) (A (e _) (ot λq=>by simp[Frame.at]))
 |some o=>
  have C:ft (sl D) P S E str o=true:=qG z l;have tO:nI P S E str o=true:=(mm C).1;cases d:wanted o (yielded ops a.tmps) with
  |false=>
   have e:∀w,stepG P true (G ((base f).at a (.inRegion ops (i::rest)::(t++x))) cs) w= .go (G ((base f).at (a.put o.dst ϗ) (.inRegion ops rest::(t++x))) cs) w #[]:=λw=>stepG_unwanted l d
   exact tj _ _ e (λq=>by simp[Frame.at]) (A (e _) (ot λq=>by simp[Frame.at]))
  |true=>
   have j:(base f).kind≠.early:=by simp[base]
   have U:br P id (λb=>H b\/Z b) (iG H w) (RN id S) (execOp a.eval o) (execOp (ba id a []).eval o):=
    tg (F.Xv (λ_ _ h=>h) rfl R _ λi hv=>hv.2) tO (λx _ V=>⟨mI a [] V (by cases x<;>rfl),j6 ha V⟩) (λf=>⟨rfl,rfl⟩) (λv=>rfl)
   have p:=I.ax t0 n;cases hr:(execOp a.eval o).run P (ax w t0 n) with
   |halt T u=>
    have s:mn T:=U.WB p.Cj (λb M=>p.low b M) hr;unfold Hd;rw[stepG_oper l d];cases T with
    |panic v=>
     refine .inr (.inl ⟨_,cs,u,listed P f a o (ax w t0 n),?_,h.lost F Q h0 (.inRegion ops (i::rest)::(t++x)) [{v,recovered:=false}]⟩);simp[stepG.apply,hr,Frame.at,GStep.after,base,G,listed,Frame.raise]
    |stuck m=>exact .inl ⟨_,_,_,by simp[stepG.apply,hr,Frame.at,GStep.after,base];exact⟨rfl,rfl,rfl⟩⟩
    |unsupported u=>cases u<;>first|exact s.elim|exact .inl ⟨_,_,_,by simp[stepG.apply,hr,Frame.at,GStep.after,base];exact⟨rfl,rfl,rfl⟩⟩
    |_=>exact s.elim
   |ok L u=>
    have K:(execOp a.eval o).runT P (ax w t0 n) #[]=(.ok L u,(execOp a.eval o).events P (ax w t0 n) #[]):=by rw[Sem.runT_eq,hr]
    have⟨k,r,N⟩:=U.Id I.Cj (λb M=>I.low b M) K;have sh:∀t2 d2,(∀i,i<k->t2 (d2+i)=t0 (n+i))->(execOp a.eval o).run P (ax w t2 d2)= .ok L (ax u t2 (d2+k))/\listed P f a o (ax w t2 d2)=listed P f a o (ax w t0 n):=λt2 d2 g=>by
     have:=N t2 d2 g;refine⟨by rw[<-Sem.runT_fst P _ _ #[],this],?_⟩;unfold listed;rw[show(execOp a.eval o).events P (ax w t2 d2) #[]=_ from congrArg Prod.snd this]
    cases L with
    |value v=>
     have e:=stepG_value (main:=true) (cs:=cs) (k:=t++x) (rest:=rest) l d j hr;refine .inr (.inr ⟨_,_,u,_,k,e,ot λq=>by simp[Frame.at],A e (ot λq=>by simp[Frame.at]),r,λt2 d2 g=>?_⟩);have⟨s1,s2⟩:=sh t2 d2 g;rw[stepG_value l d j s1];rw[show listed P (base f).fn a o (ax w t2 d2)=_ from s2];rfl
    |skip=>
     have e:=stepG_none (main:=true) (cs:=cs) (k:=t++x) (rest:=rest) l d j hr;refine .inr (.inr ⟨_,_,u,_,k,e,ot λq=>by simp[Frame.at],A e (ot λq=>by simp[Frame.at]),r,λt2 d2 g=>?_⟩);have⟨s1,s2⟩:=sh t2 d2 g;rw[stepG_none l d j s1];rw[show listed P (base f).fn a o (ax w t2 d2)=_ from s2];rfl
    |enter f2 ae=>
     have e:=stepG_enter (main:=true) (cs:=cs) (k:=t++x) (rest:=rest) l d j hr;refine .inr (.inr ⟨_,_,u,_,k,e,ot λq=>by simp[Frame.enter],A e (ot λq=>by simp[Frame.enter]),r,λt2 d2 g=>?_⟩);have⟨s1,s2⟩:=sh t2 d2 g;rw[stepG_enter l d j s1];rw[show listed P (base f).fn a o (ax w t2 d2)=_ from s2];rfl
    |_=>
     exfalso;have:=pH F (λ_ _ h=>h) rfl R p (p.self (σ:=id) (λ_ _ h=>h) λ_ _=>rfl) D ha C hr (λi _=>rfl);have⟨_,_,x',w',_,e2,_⟩:=this;exact e2.elim
def Tz (F:Stat P S E str)(K:str=true->∀b,¬Z b)(A:c.gf=eA P)(h0:∃fn,P.funcs[c.f0]? =some fn)(J:LW H Z w)(t0:eL)(m:Nat){f:ac0}{a:Act}{t x y:ϕ}{cs n:ϙ}{B:κ}{D:kU}(h:tN P S E str id c (iG H w) f a t x cs B D y n):
  Hd P (Jn P S E str c H Z) (G ((base f).at a (t++x)) cs) w t0 m:=by
 have⟨T,V,hd,Q,ha⟩:=h.base;have s:∀{u:Θ}{w':Ω}{es:Ϝ},stepG P true (G ((base f).at a (t++x)) cs) (ax w t0 m)= .go u w' es->sf u->Jn P S E str c H Z u w':=λL R=>
  P0 F K (J.ax t0 m) (h.mono λi hv=>hv) L R
 have g:∀{fr:κ},(∀w,stepG P true (G ((base f).at a (t++x)) cs) w= .go (G fr cs) w)->(∀d,fr.mode≠.panicking d)->Hd P (Jn P S E str c H Z) (G ((base f).at a (t++x)) cs) w t0 m:=λe hm=>
  tj _ _ e hm (s (e _) (ot hm))
 cases t with
 |nil=>
  cases h with
  |bot _ _ _ v=>
   obtain⟨z,r,rfl⟩:=c.stop _ _ v;exact .inl ⟨_,_,_,by simp[G,stepG,stepG.exec,Frame.at];exact⟨rfl,rfl,rfl⟩⟩
  |up U _ _ _ M=>exact g (λw=>stepG_end) (λd=>ϛ)
 |cons it t=>
  have⟨h1,O⟩:=all_cons Q;simp only[ϒ3] at s g⊢;cases it with
  |code N=>
   cases N with
   |skip=>exact g (λw=>stepG_skip) (λd=>by simp[Frame.at])
   |label l=>exact g (λw=>stepG_label) (λd=>by simp[Frame.at])
   |ret=>exact g (λw=>stepG_ret') (λd=>ϛ)
   |seq p q=>exact g (λw=>stepG_seq) (λd=>by simp[Frame.at])
   |cond o p q=>
    cases I:a.eval o with
    |bool b=>exact g (λw=>stepG_cond I) (λd=>by simp[Frame.at])
    |_=>
     have j:=Frame.eval_at (base f) a (.code (.cond o p q)::(t++x)) o;simp only[Frame.at] at j;exact .inl ⟨_,_,_,by simp[G,stepG,stepG.exec,Frame.at,j,I];exact⟨rfl,rfl,rfl⟩⟩
   |block id p=>exact g (λw=>stepG_block) (λd=>by simp[Frame.at])
   |loop p=>exact g (λw=>stepG_loop) (λd=>by simp[Frame.at])
   |exit id=>
    cases j:exitTo id (t++x) with
    |some k'=>exact g (λw=>stepG_exit j) (λd=>by simp[Frame.at])
    |none=>exact .inl ⟨_,_,_,by simp[G,stepG,stepG.exec,Frame.at,j,base];exact⟨rfl,rfl,rfl⟩⟩
   |region id ops draw=>
    cases draw with
    |false=>exact g (λw=>stepG_region) (λd=>by simp[Frame.at])
    |true=>
     have e:=stepG_region_draw (P:=P) (main:=true) (b:=base f) (a:=a) (k:=t++x) (cs:=cs) (w:=ax w t0 m) (id:=id) (ops:=ops);refine .inr (.inr ⟨_,_,_,_,1,e,ot λd=>by simp[Frame.at],s e (ot λd=>by simp[Frame.at]),rfl,λt2 d2 C=>?_⟩);rw[stepG_region_draw];have:=C 0 ϖ;simp only[ϕ1] at this
     show GStep.go (G ((base f).at a (.inRegion ops (Region.schedule (P.follows .mixedOrders) ops (t2 d2 (.order f id)))::(t++x))) cs) _ _=_;rw[this];rfl
   |scope p=>exact g (λw=>qa) (λd=>by simp[Frame.at])
   |refuse z=>exact .inl ⟨_,_,_,by simp[G,stepG,stepG.exec,Frame.at];exact⟨rfl,rfl,rfl⟩⟩
   |goto l=>
    cases j:gotoIn l (t++x) with
    |some k'=>exact g (λw=>ta j) (λd=>by simp[Frame.at])
    |none=>exact .inl ⟨_,_,_,by simp[G,stepG,stepG.exec,Frame.at,j,base];exact⟨rfl,rfl,rfl⟩⟩
   |_=>simp[cF,fN] at h1
  |inScope p=>exact g (λw=>nA) (λd=>by simp[Frame.at])
  |inBlock id=>exact g (λw=>stepG_inBlock) (λd=>by simp[Frame.at])
  |inLoop p=>exact g (λw=>stepG_inLoop) (λd=>by simp[Frame.at])
  |inRegion ops todo=>
   cases todo with
   |nil=>exact g (λw=>stepG_region_end) (λd=>by simp[Frame.at])
   |cons i rest=>exact Zp F K A h0 J t0 m h
  |_=>simp[cF] at h1
def DT {f:ac0}{fn:Func}(d:P.funcs[f]? =some fn){main:Bool}{b:κ}{a:Act}{todo:ϕ}{cr:κ}{Hf:ϙ}{w:Ω}(e1:b.kind= .normal)(e2:a.defers=[])(c:b.fn=f):
  stepG P main (G {b.at a todo with mode:= .returning} (cr::Hf)) w=
    GStep.after (seen P f ((results fn a.tmps).events P w #[])) (match(results fn a.tmps).run P w with
     |.ok v w=> .go (G (cr.finish v) Hf) w
     |.halt (.stuck s) w=> .ended (.stuck s (Frame.pos P {b.at a todo with mode:= .returning})) w
     |.halt _ w=> .ended (.stuck "return: the result variables cannot be read" (Frame.pos P {b.at a todo with mode:= .returning})) w):=by
 subst c;simp[G,stepG,unwind,doReturn,Frame.at,e1,e2,d];cases (results fn a.tmps).run P w with
 |ok v u=>rfl
 |halt h u=>cases h<;>rfl
def TA (p:Stat P S E str)(hz:str=true->∀b,¬Z b)(n:c.gf=eA P)(h0:∃fn,P.funcs[c.f0]? =some fn)(z:LW H Z w)(t0:eL)(d:Nat){f:ac0}{a:Act}{t x y:ϕ}{cs q:ϙ}{B:κ}{D:kU}{todo:ϕ}(h:tN P S E str id c (iG H w) f a t x cs B D y q):
  Hd P (Jn P S E str c H Z) (G {(base f).at a todo with mode:= .returning} cs) w t0 d:=by
 have⟨W,Y,hd,T,ha⟩:=h.base;have j:∃fn,P.funcs[f]? =some fn:=by
  cases h with
  |bot=>exact h0
  |up o=>have⟨fn,X,b1,_⟩:=p.body _ o;exact⟨fn,b1⟩
 have⟨fn,j⟩:=j;have g:=z.ax t0 d;have main:∀cr Hf,cs=cr::Hf->(∀v C,(cr.finish v).mode≠.panicking C)->(∀v u es,stepG P true (G {(base f).at a todo with mode:= .returning} cs) (ax w t0 d)= .go (G (cr.finish v) Hf) u es->LW H Z u->Jn P S E str c H Z (G (cr.finish v) Hf) u)->
   Hd P (Jn P S E str c H Z) (G {(base f).at a todo with mode:= .returning} cs) w t0 d:=by
  intro cr Hf F hm M;subst F;have m:∀w,_:=λw=>DT (P:=P) j (main:=true) (b:=base f) (a:=a) (todo:=todo) (cr:=cr) (Hf:=Hf) (w:=w) rfl hd rfl
  cases hr:(results fn a.tmps).run P (ax w t0 d) with
  |halt J u=>
   refine .inl ?_;rw[m,hr];cases J<;>exact⟨_,_,_,rfl⟩
  |ok v u=>
   have K:=mS (P:=P) (π:=id) (N:=λb=>H b\/Z b) (V:=iG H w) fn a.tmps;have s:(results fn a.tmps).runT P (ax w t0 d) #[]=(.ok v u,(results fn a.tmps).events P (ax w t0 d) #[]):=by rw[Sem.runT_eq,hr]
   have⟨k,r,A⟩:=K.Id z.Cj (λb O=>z.low b O) s;have⟨l1,_⟩:=pG p (π:=id) (λ_ _ h=>h) g (g.self (σ:=id) (λ_ _ h=>h) λ_ _=>rfl) (λv hv=>ha v hv) fn hr λi _=>rfl
   have e:stepG P true (G {(base f).at a todo with mode:= .returning} (cr::Hf)) (ax w t0 d)= .go (G (cr.finish v) Hf) u (seen P f ((results fn a.tmps).events P (ax w t0 d) #[])):=by
    rw[m,hr];simp[GStep.after]
   refine .inr (.inr ⟨_,_,u,_,k,e,ot (hm v),M v u _ e l1,r,λt2 d2 I=>?_⟩);have h2:=A t2 d2 I;have U:(results fn a.tmps).run P (ax w t2 d2)= .ok v (ax u t2 (d2+k)):=by rw[<-Sem.runT_fst P _ _ #[],h2]
   have Q:(results fn a.tmps).events P (ax w t2 d2) #[]=(results fn a.tmps).events P (ax w t0 d) #[]:=by
    show((results fn a.tmps).runT P (ax w t2 d2) #[]).2=_;rw[h2]
   rw[m,U,Q];simp[GStep.after]
 cases h with
 |bot _ _ _ R=>
  refine main c.gf [] rfl (λv C=>by rw[n];simp[eA,Frame.finish,Frame.at]) λv u es _ l=>⟨l,.inr ?_⟩
  rw[n];simp[eA,Frame.finish,Frame.at]
 |@up _ f1 _ a1 _ t1 x1 y1 ops i rest cs1 Nl B1 D1 o _ _ _ hst=>
  refine main _ cs1 rfl (λv C=>by rw[Frame.finish_at];simp[Frame.at]) λv u es L l=>?_
  have⟨g',_,_,_,hr,l2,_⟩:=step_ret p (π:=id) (c:=c) (main:=true) (todo':=[]) (λ_ _ h=>h) g (g.self (σ:=id) (λ_ _ h=>h) λ_ _=>rfl) (tN.mono (λi hv=>hv) (.up o T ha hd hst)) (by
   intro e;cases hst<;>simp at e) L λi _=>rfl
  exact⟨l2,.inl ⟨g',hr⟩⟩
def afb (e:Stat P S E str)(f:str=true->∀b,¬Z b)(a:c.gf=eA P)(h0:∃fn,P.funcs[c.f0]? =some fn){gL:Θ}(h:Jn P S E str c H Z gL w)(t0:eL)(d:Nat):Hd P (Jn P S E str c H Z) gL w t0 d:=by
 obtain⟨i,⟨g,hr⟩|rfl⟩:=h
 .cases hr with
  |run h=>exact Tz e f a h0 i t0 d h
  |ret h=>exact TA e f a h0 i t0 d h
 .exact .inl ⟨_,_,_,by simp[G,eA,stepG,stepG.exec,Frame.at];exact⟨rfl,rfl,rfl⟩⟩
end
section
variable {P:ω}{S E:ac0->Bool}{str:Bool}{c:Ctx}{H Z:Nat->Prop}
def ji.ax {π:Ϛ}{wL:Ω}{gL g:Θ}(h:ji P S E str π c H wL gL g)(t:eL)(d:Nat):ji P S E str π c H (ax wL t d) gL g:=by
 cases h with
 |run h=>exact .run (h.mono λi hv=>hv)
 |ret h=>exact .ret (h.mono λi hv=>hv)
def shifts (j:Stat P S E str)(l:str=true->∀b,¬Z b)(e:c.gf=eA P)(h0:∃fn,P.funcs[c.f0]? =some fn):Shifts P (Jn P S E str c H Z):=by
 intro g w t d g' w' es i a f;rcases afb j l e h0 i t d with⟨o,u,es2,h⟩|⟨fr,cs,u,es2,h,hl⟩|⟨fr,cs,u,es2,k,h,_,hj',hk,hk2⟩
 .rw[h] at a;cases a
 .rw[h] at a
  cases a;exfalso;cases hl with
  |top hm _=>exact f.calm _ hm
  |up hm _ _ _=>exact f.calm _ hm
 .rw[h] at a
  cases a;exact⟨hj',k,hk,hk2⟩
def zJ:∀(n:Nat){fr:κ}{cs:ϙ}{w:Ω}{a:κ}{b:ϙ}{w':Ω},NM P fr cs->runN P n (lone fr cs w)= .next (lone a b w')->∃c,a.mode= .panicking c
 |0,fr,cs,w,a,b,w',h,hr=>by
  simp only[runN,Stepped.next.injEq,lone,Machine.mk.injEq] at hr;have h1:=hr.2.1;simp at h1;obtain⟨rfl,_⟩:=h1;cases h with
  |top hm _=>exact⟨_,hm⟩
  |up hm _ _ _=>exact⟨_,hm⟩
 |n+1,fr,cs,w,a,b,w',h,hr=>by
  simp only[runN] at hr;cases h with
  |top hm d=>
   have:step P (lone fr [] w)= .ended (.stuck "call: no such function" (Frame.pos P {fr with defers:=[]})) w:=by
    refine step_lone_ended ?_;simp[stepG,unwind,hm,d,eA,callDeferred,Frame.at,invoke,callFunc,program,stuck,bind,Sem.bind,Sem.run,GStep.after]
   rw[this] at hr;cases hr
  |@up _ cr cs c hm hd hc h=>
   have:step P (lone fr (cr::cs) w)= .next (lone (cr.raise c) cs w):=by
    refine step_lone_go ?_;simp[stepG,unwind,hm,hd,hc]
   rw[this] at hr;exact zJ n (h c) hr
def mW (g:Stat P S E str)(i:str=true->∀b,¬Z b)(e:c.gf=eA P)(h0:∃fn,P.funcs[c.f0]? =some fn):∀(n:Nat){fr:κ}{cs:ϙ}{w:Ω}{a:κ}{d:ϙ}{w':Ω},
  Jn P S E str c H Z (G fr cs) w->runN P n (lone fr cs w)= .next (lone a d w')->(∀f,a.mode≠.panicking f)->Run P n (G fr cs) w (G a d) w'/\Jn P S E str c H Z (G a d) w'
 |0,fr,cs,w,a,d,w',hj,hr,_=>by
  simp only[runN,Stepped.next.injEq,lone,Machine.mk.injEq] at hr;have h1:=hr.2.1;simp at h1;obtain⟨rfl,rfl⟩:=h1;obtain rfl:=hr.1;exact⟨⟨rfl,rfl⟩,hj⟩
 |n+1,fr,cs,w,a,d,w',hj,hr,hm=>by
  simp only[runN] at hr;rcases afb g i e h0 hj w.tape w.drawn with⟨o,u,es2,h⟩|⟨fr2,cs2,u,es2,h,hl⟩|⟨fr2,cs2,u,es2,k,h,hn,hj',_,_⟩
  .rw[qu] at h
   have:step P (lone fr cs w)= .ended o u:=step_lone_ended (by
    show(stepG P true (G fr cs) w).bare=_;rw[h];rfl)
   rw[this] at hr;cases hr
  .rw[qu] at h
   have:step P (lone fr cs w)= .next (lone fr2 cs2 u):=step_lone_go (by
    show(stepG P true (G fr cs) w).bare=_;rw[h];rfl)
   rw[this] at hr;have⟨f,j⟩:=zJ n hl hr;exact absurd j (hm f)
  .rw[qu] at h
   have:step P (lone fr cs w)= .next (lone fr2 cs2 u):=step_lone_go (by
    show(stepG P true (G fr cs) w).bare=_;rw[h];rfl)
   rw[this] at hr;have⟨r1,r2⟩:=mW g i e h0 n hj' hr hm;exact⟨⟨_,u,es2,h,hn,r1⟩,r2⟩
def kL:Option Nat->List Item
 |none=>[.inRangeFunc 0]
 |some id=>[.inRangeFunc 0,.inBlock id,.inRangeFunc 0]
def WL (f0:ac0)(P:ω)(b:ϣ):Exit->Act->Θ->Prop
 |.normal,a,g=>g=G ((base f0).at a (kL b)) [eA P]
 |.exit id,a,g=>b=some id/\g=G ((base f0).at a [.inRangeFunc 0]) [eA P]
 |.ret,a,g=>∃todo,g=G {(base f0).at a todo with mode:= .returning} [eA P]
 |_,_,_=>False
def amT (f0:ac0)(P:ω)(b:ϣ)(Q:ϔ)(g:Θ)(w:Ω):Prop:=∃e a,Q e a w/\WL f0 P b e a g
structure QOk (i6:Option Nat)(Q:Exit->Act->Ω->Prop):Prop where
 tape:∀e a w t d,Q e a (ax w t d)↔Q e a w
 out:∀e a w,Q e a w->e= .normal\/e= .ret\/∃id,e= .exit id/\i6=some id
def WpT (P:ω)(t:ϕ)(Q:ϔ)(a:Act)(w:Ω):Prop:=∀(b:κ)(k:ϕ)(cs:ϙ),∃e a' w',Q e a' w'/\Arrives P (lone (b.at a (t++k)) cs w) b k cs e a' w'
def I8 (m:Stat P S E str)(o:str=true->∀b,¬Z b)(j:c.gf=eA P)(h0:∃fn,P.funcs[c.f0]? =some fn){t0:ϕ}{Q:ϔ}{a:Act}{wL:Ω}{k:ϣ}(u:QOk k Q)(p:Jn P S E str c H Z (G ((base c.f0).at a (t0++kL k)) [eA P]) wL)(h:∀t d,WpT P t0 Q a (ax wL t d)):Ends P (amT c.f0 P k Q) (G ((base c.f0).at a (t0++kL k)) [eA P]) wL:=by
 intro t d;have⟨e,a',w',q,f⟩:=h t d (base c.f0) (kL k) [eA P];have i:Jn P S E str c H Z (G ((base c.f0).at a (t0++kL k)) [eA P]) (ax wL t d):=⟨p.1.ax t d,p.2.imp (λ⟨g,h⟩=>⟨g,h.ax t d⟩) id⟩
 rcases u.out e a' w' q with rfl|rfl|⟨id,rfl,s⟩
 .have⟨n,l⟩:=f
  exact⟨n,_,w',(mW m o j h0 n i l λr=>by simp[Frame.at]).1,.normal,a',q,rfl⟩
 .have⟨todo,n,l⟩:=f
  exact⟨n,_,w',(mW m o j h0 n i l λr=>ϛ).1,.ret,a',q,todo,rfl⟩
 .subst s
  have⟨n,l⟩:=f [.inRangeFunc 0] (by simp[kL,exitTo]);exact⟨n,_,w',(mW m o j h0 n i l λr=>by simp[Frame.at]).1,.exit id,a',q,rfl,rfl⟩
end
def WY (O RO:ϒ)(n c:Nat)(e:Event):Prop:=
 (∃b,(O b\/(n<=b/\b<c)\/(RO b/\e.write=false))/\((∃a:Addr,e.loc= .cell a/\a.block=b)\/e.loc= .obj b))\/∃m,e.loc= .mark m/\qH m
structure lO (O RO:Nat->Prop)(w w':Ω)(es:Array Event):Prop where
 size:w.heap.size<=w'.heap.size
 keep:∀k,k<w.heap.size->¬O k->w'.heap[k]? =w.heap[k]?
 os:w'.os=w.os
 output:w'.output=w.output
 tape:w'.tape=w.tape
 ev:∀e∈es,WY O RO w.heap.size w'.heap.size e
structure RP {S0:Type}(C:Co S0)(own:S0->Nat->Prop)(RO:Nat->Prop):Prop where
 rel:∀s w w₁,C.R s w w₁->w.heap.size<=w₁.heap.size/\w₁.tape=w.tape/\∀b,b<w.heap.size->own s b\/RO b->w₁.heap[b]? =w.heap[b]?
 guar:∀s w w' es,lO (own s) RO w w' es->C.D s w w' es
 up:∀s w w' b,own (C.up s w w') b↔own s b\/(w.heap.size<=b/\b<w'.heap.size)
structure Link (H Z:Nat->Prop)(O RO:Nat->Prop)(π:Nat->Nat)(wL w:Ω):Prop where
 inj:∀i j,π i=π j->i=j
 zero:π 0=0
 lt:∀b,b<wL.heap.size->π b<w.heap.size
 lw:LW H Z wL
 wr:WR π H Z (ax wL w.tape w.drawn) w
 own:∀b,iG H wL b->¬Z b->O (π b)
 ro:∀b,Z b->RO (π b)
section
variable {P:ω}{S E:ac0->Bool}{str:Bool}{c:Ctx}{H Z:Nat->Prop}{O RO:Nat->Prop}{π cA:Nat->Nat}{wL w w₁:Ω}
def vQ {v:Φ}:∀(h:∀r,Value.Has r v->π r=cA r),ren π v=ren cA v:=by
 suffices h:∀n (v:Φ),SizeOf.sizeOf v<n->(∀r,Value.Has r v->π r=cA r)->ren π v=ren cA v from h _ v (Nat.lt_succ_self _)
 intro n
 induction n with
 |zero=>intro v h;omega
 |succ n e=>
  intro v hv h;have d:∀(cs:ϐ),SizeOf.sizeOf cs<n->(∀x∈cs,∀r,Value.Has r x->π r=cA r)->cs.map (ren π)=cs.map (ren cA):=by
   intro cs i g;exact ϸ λx b=>e x (by have:=ϔ6 b;omega) (g x b)
  cases v with
  |pointer a=>cases a with
   |none=>simp
   |some a=>simp[bn,h a.block (.ptr rfl)]
  |slice a _ _=>cases a with
   |none=>simp
   |some a=>simp[bn,h a.block (.slice rfl)]
  |map r=>cases r with
   |none=>simp
   |some r=>simp[h r .map]
  |chan r=>cases r with
   |none=>simp
   |some r=>simp[h r .chan]
  |iface t v=>rw[dk,dk,e v (by simp at hv;omega) λr x=>h r (.iface x)]
  |agg cs=>rw[dV,dV,d cs (by simp at hv;omega) λx b r y=>h r (.agg b y)]
  |tuple cs=>rw[dj,dj,d cs (by simp at hv;omega) λx b r y=>h r (.tuple b y)]
  |func fn f c=>
   rw[dO,dO,d f (by simp at hv;omega) λx b r y=>h r (.first b y),d c (by simp at hv;omega) λx b r y=>h r (.Jr b y)];cases fn with
   |yield l=>simp[qz,h l .yield]
   |_=>rfl
  |_=>simp
def mo {cs:ϐ}(h:∀x∈cs,∀r,Value.Has r x->π r=cA r):cs.map (ren π)=cs.map (ren cA):=ϸ λx a=>vQ (h x a)
def zl {o:Obj}(h:∀r,lz r o->π r=cA r):ep π o=ep cA o:=by
 cases o with
 |cells c t f=>simp only[ep];rw[mo λv hv r x=>h r (.cells hv x)]
 |map es c=>
  simp only[ep];have:es.map (nF π)=es.map (nF cA):=ϸ λe d=>by
   unfold nF;rw[vQ λr x=>h r (.key d x),vQ λr x=>h r (.val d x)]
  rw[this]
 |mapIter m a b c=>cases m with
  |none=>rfl
  |some r=>simp[ep,h r .iter]
 |view a t=>simp[ep,bn,h a.block (.view rfl)]
 |number a l=>simp[ep,bn,h a.block (.number rfl)]
 |_=>rfl
def tN.congr {V:ϒ}(j:∀i,V i->π i=cA i){f:ac0}{a:Act}{t x:ϕ}{cs:ϙ}{B:κ}{D:kU}{y:ϕ}{b:ϙ}(h:tN P S E str π c V f a t x cs B D y b):tN P S E str cA c V f a t x cs B D y b:=by
 induction h with
 |bot g ha hd d=>exact .bot g ha hd d
 |@up f f1 a a1 t t1 x1 y1 ops i rest cs1 Nl B1 D1 hf g ha hd hs ih=>
  have e:ba π a1 D1=ba cA a1 D1:=by
   unfold ba;rw[mo λv hv r x=>j r (hs.base.2.2.2.2 v hv r x)]
  rw[e];exact .up hf g ha hd ih
def ji.congr (b:∀i,iG H wL i->π i=cA i){gL g:Θ}(h:ji P S E str π c H wL gL g):ji P S E str cA c H wL gL g:=by
 cases h with
 |@run f a t x cs B D y cs' h=>
  have e:ba π a D=ba cA a D:=by
   unfold ba;rw[mo λv hv r x=>b r (h.base.2.2.2.2 v hv r x)]
  rw[e];exact .run (h.congr b)
 |@ret f a t x cs B D y cs' todo todo' h=>
  have e:ba π a D=ba cA a D:=by
   unfold ba;rw[mo λv hv r x=>b r (h.base.2.2.2.2 v hv r x)]
  rw[e];exact .ret (h.congr b)
def Link.rely (h:Link H Z O RO π wL w)(u:w.heap.size<=w₁.heap.size)(v:w₁.tape=w.tape)(s:∀b,b<w.heap.size->O b\/RO b->w₁.heap[b]? =w.heap[b]?):
  ∃cA,Link H Z O RO cA wL w₁/\(∀b,b<wL.heap.size->π b=cA b)/\∀i,cA (wL.heap.size+i)=w₁.heap.size+i:=by
 refine⟨λi=>if i<wL.heap.size then π i else w₁.heap.size+(i-wL.heap.size),?_,λb a=>(φ a).symm,λi=>by show(if wL.heap.size+i<wL.heap.size then π (wL.heap.size+i) else w₁.heap.size+(wL.heap.size+i-wL.heap.size))=_;rw[ζ ϖ];omega⟩;have e:∀b,b<wL.heap.size->(if b<wL.heap.size then π b else w₁.heap.size+(b-wL.heap.size))=π b:=λb a=>φ a
 have q:∀b,H b\/Z b->b<wL.heap.size:=h.lw.low;have n:0<wL.heap.size:=h.lw.zero.1;have p:∀(b:Nat)(o:Obj),wL.heap[b]? =some o->¬H b->ep (λi=>if i<wL.heap.size then π i else w₁.heap.size+(i-wL.heap.size)) o=ep π o:=λb o a l=>zl λr hr=>e r (h.lw.Vm b o a l r hr).1
 have at_:∀b,iG H wL b->w₁.heap[π b]? =w.heap[π b]? :=λb a=>s _ (h.lt b a.1) (by
  by_cases g:Z b
  .exact .inr (h.ro b g)
  .exact .inl (h.own b a g))
 refine {inj:=λi j d=>?_,zero:=by rw[e 0 n];exact h.zero,lt:=λb a=>by rw[e b a];have:=h.lt b a;omega,lw:=h.lw,wr:=?_,own:=λb a g=>by rw[e b a.1];exact h.own b a g,ro:=λb g=>by rw[e b (q b (.inr g))];exact h.ro b g}
 .split at d<;>split at d
  .exact h.inj _ _ d
  .have:=h.lt i (by assumption);omega
  .have:=h.lt j (by assumption);omega
  .omega
 .have m:=h.wr
  refine {inj:=?_,tape:=rfl,drawn:=rfl,lt:=λb a l=>?_,ok:=λb o a l g=>?_,hid:=m.hid,pZ:=λb o a g=>?_,low:=m.low,AM:=m.AM}
  .intro i j d
   split at d<;>split at d
   .exact h.inj _ _ d
   .have:=h.lt i (by assumption);omega
   .have:=h.lt j (by assumption);omega
   .omega
  .rw[e b a]
   have:=h.lt b a;omega
  .have k:=(Ψ.1 a).1
   refine⟨(m.ok b o a l g).1,?_⟩;rw[e b k,at_ b ⟨k,l⟩,p b o a l];exact(m.ok b o a l g).2
  .have k:=(Ψ.1 a).1
   obtain⟨c,t,f,rfl,h2⟩:=m.pZ b o a g;refine⟨c,t,f,rfl,?_⟩;have l:=h.lw.apart b g;rw[e b k,at_ b ⟨k,l⟩];have:=p b _ a l;simp only[ep,Obj.cells.injEq] at this;rw[this.1];exact h2
def Link.uv (h:Link H Z O RO π wL w){a w':Ω}{es:Ϝ}(q:∀i,wL.heap.size+i<a.heap.size->π (wL.heap.size+i)=w.heap.size+i)(l:LW H Z a)(v:wL.heap.size<=a.heap.size)(o:WR π H Z a w')(f:Eg π H Z (ax wL w.tape w.drawn) a w w')(t:∀e∈es,ri π H Z a.heap.size e):
  lO O RO w w' es/\∀p:Nat->Prop,(∀b,p b↔O b\/(w.heap.size<=b/\b<w'.heap.size))->Link H Z p RO π a w':=by
 have y:w'.heap.size=w.heap.size+(a.heap.size-wL.heap.size):=f.size;have new:∀b,wL.heap.size<=b->b<a.heap.size->w.heap.size<=π b/\π b<w'.heap.size:=λb h1 h2=>by
  have:=q (b-wL.heap.size) ϖ;rw[show wL.heap.size+(b-wL.heap.size)=b by omega] at this;omega
 refine⟨⟨ϖ,λk u x=>f.keep k u λb d n g e=>x (e▸h.own b ⟨d,n⟩ g),f.os,f.output,f.tape,λe s=>?_⟩,λp m=>?_⟩
 .rcases t e s with⟨b,d,n,g,hloc⟩|hm
  .refine .inl ⟨π b,?_,hloc⟩
   by_cases c:b<wL.heap.size
   .by_cases r:Z b
    .refine .inr (.inr ⟨h.ro b r,?_⟩)
     cases j:e.write with
     |false=>rfl
     |true=>exact absurd r (g j)
    .exact .inl (h.own b ⟨c,n⟩ r)
   .exact .inr (.inl (new b ϖ d))
  .exact .inr hm
 .refine {inj:=h.inj,zero:=h.zero,lt:=λb d=>?_,lw:=l,wr:=?_,own:=λb d g=>?_,ro:=h.ro}
  .by_cases c:b<wL.heap.size
   .have:=h.lt b c;omega
   .exact(new b ϖ d).2
  .have e:ax a w'.tape w'.drawn=a:=by
    unfold ax;rw[o.tape,o.drawn]
   rw[e];exact o
  .rw[m]
   by_cases c:b<wL.heap.size
   .exact .inl (h.own b ⟨c,d.2⟩ g)
   .exact .inr (new b ϖ d.1)
inductive TlX (i6:Option Nat)(kT:List Item):List Item->List Item->Prop
 |nil:TlX i6 kT (kL i6) kT
 |exit {id:Nat} {y:List Item} (h:i6=some id) (hy:exitTo id kT=some y):TlX i6 kT [.inRangeFunc 0] y
def ahM (B:κ)(kT:ϕ)(CS:ϙ):Exit->Act->Θ->Prop
 |.normal,a,g=>g=G (B.at a kT) CS
 |.exit id,a,g=>∃y,exitTo id kT=some y/\g=G (B.at a y) CS
 |.ret,a,g=>∃todo,g=G {B.at a todo with mode:= .returning} CS
 |_,_,_=>False
def StopA {S0:Type}(own:S0->Nat->Prop)(RO:ϒ)(H Z:ϒ)(B:κ)(D0:kU)(kT:ϕ)(CS:ϙ)(Q:ϔ)(d:Ϛ)(c:Nat)(s:S0)(g:Θ)(w:Ω):Prop:=
 ∃e a wL π,Q e a wL/\Link H Z (own s) RO π wL w/\a.defers=[]/\(∀v∈a.tmps,VV (iG H wL) v)/\ahM B kT CS e (ba π a D0) g/\(∀b,b<c->π b=d b)/\c<=wL.heap.size
def ahX (P:ω)(f0:ac0)(B:κ)(D0:kU)(CS:ϙ)(c:ϣ)(kT:ϕ)(d:B.fn=f0)(g:B.kind≠.early)(f:∀id,c=some id->∃y,exitTo id kT=some y):Ctx where
 f0:=f0
 gf:=eA P
 B:=B
 D0:=D0
 CS:=CS
 Tl:=TlX c kT
 fn:=d
 kind:=g
 stop:=λx y h=>by
  cases h with
  |nil=>cases c<;>exact⟨_,_,rfl⟩
  |exit=>exact⟨_,_,rfl⟩
 exit:=λx y id x' h a=>by
  cases h with
  |nil=>
   cases c with
   |none=>simp[kL,exitTo] at a
   |some i=>
    simp only[kL,exitTo] at a;split at a
    .rename_i e
     have:i=id:=by simpa using e
     subst this;cases a;have⟨j,b⟩:=f i rfl;exact⟨j,b,.exit rfl b⟩
    .cases a
  |exit=>simp[exitTo] at a
 bare:=λx y l h=>by
  cases h with
  |nil=>cases c<;>rfl
  |exit=>rfl
def CZ {V:ϒ}{f:ac0}{a:Act}{t x:ϕ}{gf:κ}{B:κ}{D:kU}{y:ϕ}{b:ϙ}(h:tN P S E str π c V f a t x [gf] B D y b):f=c.f0/\B=c.B/\D=c.D0/\b=c.CS/\c.Tl x y:=by
 cases h with
 |bot _ _ _ d=>exact⟨rfl,rfl,rfl,rfl,d⟩
 |up _ _ _ _ e=>cases e
def xf {gL g:Θ}(h:ji P S E str π c H wL gL g){f0:ac0}{b:Act}{todo:ϕ}{gf:κ}(e:gL=G ((base f0).at b todo) [gf]):
  ∃t x y,todo=t++x/\(∀it∈t,cF (sl c.D0) P S E str it=true)/\c.Tl x y/\b.defers=[]/\(∀v∈b.tmps,VV (iG H wL) v)/\g=G (c.B.at (ba π b c.D0) (t++y)) c.CS:=by
 cases h with
 |@run f a t x cs B D y cs' h=>
  simp only[G,Frame.at,base,Goroutine.mk.injEq,Frame.mk.injEq] at e;have⟨⟨e1,e2,n,i,_⟩,j,_⟩:=e;subst j;have⟨_,_,hd,l,ha⟩:=h.base;obtain⟨_,rfl,rfl,rfl,d⟩:=CZ h;have⟨p,o⟩:=a;have⟨m,k⟩:=b;simp only at e2 i;subst e2;subst i;exact⟨t,x,y,n.symm,l,d,hd,ha,rfl⟩
 |ret h=>
  simp only[G,Frame.at,base,Goroutine.mk.injEq,Frame.mk.injEq] at e;exact absurd e.1.2.2.2.2.1 ϛ
def Fp {gL g:Θ}(h:ji P S E str π c H wL gL g){f0:ac0}{b:Act}{todo:ϕ}{gf:κ}(e:gL=G {(base f0).at b todo with mode:= .returning} [gf]):
  b.defers=[]/\(∀v∈b.tmps,VV (iG H wL) v)/\∃todo',g=G {c.B.at (ba π b c.D0) todo' with mode:= .returning} c.CS:=by
 cases h with
 |run h=>
  simp only[G,Frame.at,base,Goroutine.mk.injEq,Frame.mk.injEq] at e;exact absurd e.1.2.2.2.2.1 ϛ
 |@ret f a t x cs B D y cs' td td' h=>
  simp only[G,Frame.at,base,Goroutine.mk.injEq,Frame.mk.injEq] at e;have⟨⟨e1,e2,p,d,_⟩,i,_⟩:=e;subst i;have⟨_,_,hd,o,ha⟩:=h.base;obtain⟨_,rfl,rfl,rfl,k⟩:=CZ h;have⟨n,m⟩:=a;have⟨l,j⟩:=b;simp only at e2 d;subst e2;subst d;exact⟨hd,ha,td',rfl⟩
def Ul (a:ϣ):∃r,kL a= .inRangeFunc 0::r:=by cases a<;>exact⟨_,rfl⟩
def tail_nil {σ:ϑ}{t x:ϕ}{r:ϕ}(h:Item.inRangeFunc 0::r=t++x)(a:∀it∈t,cF σ P S E str it=true):t=[]:=by
 cases t with
 |nil=>rfl
 |cons it t=>
  simp only[ϒ3,List.cons.injEq] at h;have:=a it ϛ;rw[<-h.1] at this;simp[cF] at this
def PR (X:Stat P S E str)(hz:str=true->∀b,¬Z b){f0:ac0}(h0:∃fn,P.funcs[f0]? =some fn){S0:Type}{C:Co S0}{own:S0->Nat->Prop}(hC:RP C own RO){n:ϣ}{Q:ϔ}(hQ:QOk n Q){B:κ}{D0:kU}{CS:ϙ}{kT:ϕ}(hf:B.fn=f0)(hk:B.kind≠.early)(hx:∀id,n=some id->∃y,exitTo id kT=some y){t0:ϕ}(Ci:∀it∈t0,cF (sl D0) P S E str it=true){a:Act}{s:S0}(I:Link H Z (own s) RO π wL w)(ha:∀v∈a.tmps,VV (iG H wL) v)(hd:a.defers=[])(an:∀t d,WpT P t0 Q a (ax wL t d)){main:Bool}:
  aG P main C (StopA own RO H Z B D0 kT CS Q π wL.heap.size) s (G (B.at (ba π a D0) (t0++kT)) CS) w:=by
 let c:=ahX P f0 B D0 CS n kT hf hk hx
 have hj:Jn P S E str c H Z (G ((base f0).at a (t0++kL n)) [eA P]) wL:=
  ⟨I.lw,.inl ⟨_,ji.run (t:=t0) (x:=kL n) (tN.bot (c:=c) Ci ha hd (.nil (kT:=kT)))⟩⟩
 have ak:=I8 X hz (c:=c) (Z:=Z) rfl h0 hQ hj an;have aq:=CW (shifts X hz (c:=c) (H:=H) (Z:=Z) rfl h0) (λg w t d=>by
  constructor
  .rintro⟨e,a,q,x⟩;exact⟨e,a,(hQ.tape e a w t d).1 q,x⟩
  .rintro⟨e,a,q,x⟩;exact⟨e,a,(hQ.tape e a w t d).2 q,x⟩) hj ak
 refine FP (λs gL L g w=>∃cA,Link H Z (own s) RO cA L w/\ji P S E str cA c H L gL g/\(∀b,b<wL.heap.size->cA b=π b)/\wL.heap.size<=L.heap.size) ?_ ?_ ?_ aq ⟨π,I,ji.run (t:=t0) (x:=kL n) (tN.bot (c:=c) Ci ha hd (.nil (kT:=kT))),λ_ _=>rfl,ι _⟩
 ·
  rintro s gL wL g w ⟨π,I,hr,K,k⟩ ⟨e,aL,q,hg⟩ w₁ hR;have⟨r1,r2,r3⟩:=hC.rel s w w₁ hR;have⟨cA,l,T,_⟩:=I.rely r1 r2 r3;have m:=hr.congr (cA:=cA) λi hv=>T i hv.1
  have Y:=λb (M:b<_)=>(T b (ψ M k)).symm.trans (K b M)
  refine⟨e,aL,wL,cA,q,l,?_⟩;rcases hQ.out e aL wL q with rfl|rfl|⟨id,rfl,ao⟩
  .obtain⟨t,x,y,e1,ht,J,h1,h2,rfl⟩:=xf m hg
   have⟨r,ac⟩:=Ul n;obtain rfl:=tail_nil (ac▸e1) ht;refine⟨h1,h2,?_⟩;have j:TlX n kT x y:=J;simp only[ϓ8] at e1⊢;subst e1;cases O:n with
   |none=>
    rw[O] at j;generalize o:kL none=z at j;cases j with
    |nil=>exact⟨rfl,Y,k⟩
    |exit h _=>cases h
   |some i=>
    rw[O] at j;generalize o:kL (some i)=z at j;cases j with
    |nil=>exact⟨rfl,Y,k⟩
    |exit _ _=>simp[kL] at o
  .have⟨todo,hg⟩:=hg
   obtain⟨h1,h2,todo',rfl⟩:=Fp m hg;exact⟨h1,h2,⟨todo',rfl⟩,Y,k⟩
  .obtain⟨t,x,y,e1,ht,J,h1,h2,rfl⟩:=xf m hg.2
   obtain rfl:=tail_nil e1 ht;refine⟨h1,h2,?_⟩;have j:TlX n kT x y:=J;simp only[ϓ8] at e1⊢;subst e1;subst ao;generalize o:[Item.inRangeFunc 0]=z at j;cases j with
   |nil=>simp[kL] at o
   |exit h hy=>
    cases h;exact⟨⟨_,hy,rfl⟩,Y,k⟩
 .rintro s gL wL g w ⟨π,I,hr,_⟩
  cases hr<;>rfl
 .rintro s gL wL g w ⟨π,I,hr,K,k⟩ w₁ hR rM L es p hn hk
  have⟨r1,r2,r3⟩:=hC.rel s w w₁ hR;have⟨cA,l,T,R⟩:=I.rely r1 r2 r3;have m:=hr.congr (cA:=cA) λi hv=>T i hv.1
  have F:∀i,(ax wL w₁.tape w₁.drawn).heap.size+i<L.heap.size->cA ((ax wL w₁.tape w₁.drawn).heap.size+i)=w₁.heap.size+i:=λi _=>R i
  have ab:Res P S E str cA c main H Z (ax wL w₁.tape w₁.drawn) w₁ g rM L:=by
   have N:LW H Z (ax wL w₁.tape w₁.drawn):=l.lw.ax ..;cases m with
   |run h=>exact EF X l.inj l.zero hz N l.wr (h.mono λi hv=>hv) p hn F
   |@ret f a t x cs B D y cs' todo todo' h=>
    by_cases U:cs=[eA P]
    .exfalso
     subst U;have⟨_,_,ag,_,_⟩:=h.base;have⟨ae,_⟩:=CZ h;have ad:f=f0:=ae;subst ad;have⟨fn,aa⟩:=h0;rw[DT aa rfl ag rfl] at p;cases A:(results fn a.tmps).run P (ax wL w₁.tape w₁.drawn) with
     |halt hh u=>rw[A] at p;cases hh<;>simp[GStep.after] at p
     |ok v u=>
      rw[A] at p;simp only[GStep.after,GStep.go.injEq] at p;obtain⟨rfl,rfl,_⟩:=p;have W:(eA P).finish v=eA P:=by simp[eA,Frame.finish,Frame.at]
      rw[W] at hk;cases hk with
      |stop hF=>
       have⟨e,a2,q,x⟩:=hF;cases e<;>simp[WL,G] at x
      |step nx am _ _=>
       have:=am (λ_ _=>0) 0;simp[G,eA,stepG,stepG.exec,Frame.at] at this
    .exact step_ret X l.inj N l.wr (h.mono λi hv=>hv) U p F
  have⟨g',w',V,e1,e2,e3,e4,e5,e6,e7⟩:=ab;have⟨o1,o2⟩:=l.uv (λi hi=>R i) e3 e4 e5 e6 e7;exact⟨g',w',V,e1,hC.guar s w₁ w' V o1,cA,o2 _ (hC.up s w₁ w'),e2,λb M=>(T b (ψ M k)).symm.trans (K b M),ac7 k e4⟩
end
end
section
open Go.Conc
open Go.ConcM (OsLater)
namespace aI
def x6:bB->Bool
 |.m=>true
 |_=>false
def DK {n0:Nat}(h:0<n0)(r:bB):(gid n0 r==0)=x6 r:=by cases r<;>simp[gid,x6];omega
structure Cx (Δ:Type) where
 Fd:Nat
 M:Nat
 Wg:Nat
 tF:η
 tW:η
 Dat:Δ->Δ->Obj->Prop
 fin:bB->Δ
 c0:bB->Δ
 N:bB->Nat
structure Gh (Δ:Type) where
 ro:Nat->Prop
 own:Nat->Prop
 mine:Δ
 other:Δ
section
variable {Δ:Type}(X:Cx Δ)
def mA:Addr:=⟨X.Fd,0,none⟩
def msA:Addr:=⟨X.Fd,1,none⟩
def wA:Addr:=⟨X.Wg,0,none⟩
def NP:Addr:=⟨X.Wg,1,none⟩
def ShAt (w:Ω)(s:Sh):Prop:=w.heap[X.Fd]? =some (.cells #[.int .i32 s.mu,.int .u32 s.ms,.map (some X.M)] X.tF)/\w.heap[X.Wg]? =some (.cells #[.int .u64 s.wg,.int .u32 s.ws] X.tW)
def Ef (r:bB)(mine other:Δ)(o:Obj):Prop:=match r with
 |.a=>X.Dat mine other o
 |_=>X.Dat other mine o
structure RX (ro own:Nat->Prop)(w w₁:Ω):Prop where
 tape:w₁.tape=w.tape
 output:w₁.output=w.output
 size:w.heap.size<=w₁.heap.size
 os:OsLater w.os w₁.os
 keep:∀b,b<w.heap.size->own b\/ro b->w₁.heap[b]? =w.heap[b]?
 live:(∃s,ShAt X w s)->∃s,ShAt X w₁ s
def EvX (ro own:ϒ)(n a:Nat)(e:Event):Prop:=
 (∃c,(own c\/(n<=c/\c<a)\/(ro c/\e.write=false))/\mP c e.loc)\/(e.loc= .cell ⟨X.Fd,2,none⟩/\e.write=false/\e.sync=false)\/∃m,e.loc= .mark m/\qH m
structure DX (deaf:Bool)(ro own:Nat->Prop)(w w':Ω)(es:Array Event):Prop where
 tape:w'.tape=w.tape
 output:w'.output=w.output
 size:w.heap.size<=w'.heap.size
 os:OsLater w.os w'.os
 keep:∀b,b<w.heap.size->¬own b->w'.heap[b]? =w.heap[b]?
 ev:∀e∈es,EvX X ro own w.heap.size w'.heap.size e
 mute:deaf=true->es=#[]
def RX.refl (ro own:ϒ)(w:Ω):RX X ro own w w:=⟨rfl,rfl,ι _,.refl _,λ_ _ _=>rfl,id⟩
def RX.trans {ro own:ϒ}{a b c:Ω}(h:RX X ro own a b)(k:RX X ro own b c):RX X ro own a c:=
 ⟨k.tape.trans h.tape,k.output.trans h.output,ac7 h.size k.size,h.os.trans k.os,λx d e=>(k.keep x (ψ d h.size) e).trans (h.keep x d e),λl=>k.live (h.live l)⟩
def RX.at (ro own:ϒ)(w:Ω)(d:Nat):RX X ro own w (w.at d):=⟨rfl,rfl,ι _,.refl _,λ_ _ _=>rfl,id⟩
def gX (a:Bool)(ro:ϒ):Co (Nat->Prop) where
 R:=λown w w₁=>RX X ro own w w₁
 D:=λown w w' es=>DX X a ro own w w' es
 up:=λown w w' b=>own b\/(w.heap.size<=b/\b<w'.heap.size)
 refl:=λown w=>RX.refl X ro own w
 trans:=λ_ _ _ _ h k=>h.trans X k
def iW:Pc->Nat
 |.un|.out|.la|.ur|.ud|.wk|.k1|.g1|.k2|.g2|.kw|.aq|.fin|.bad=>0
 |_=>1
def fS (p:Pc):Bool:=decide (iW p≠0)||p== .wk
inductive EvK where
 |dis|en|aie|aeC|aeB|aid|Wc|Wb|book
def kb (T T':Lo):EvK:=match T.pc with
 |.out=>if T'.pc= .l0 then .dis else .aeB
 |.le|.ue|.e1|.e2|.ke=> .en
 |.la=> .aie
 |.ur=> .aeC
 |.ud|.wk|.k1|.k2|.kw=> .dis
 |.aq=> .aid
 |.p1|.p2=> .Wc
 |.pw=> .Wb
 |_=> .book
def sK (m:Mark):Event:=⟨.mark m,false,true⟩
def EvStop (T T':Lo)(es:Ϝ):Prop:=match kb T T' with
 |.dis=>es=#[sK .disable]
 |.en=>es=#[sK .enable]
 |.aie=>es=#[sK (.acquire (mA X))]
 |.aeC=>es=#[sK (.releaseMerge (mA X))]
 |.aeB=>es=#[sK (.releaseMerge (wA X))]
 |.aid=>es=#[sK (.acquire (wA X))]
 |.Wc=>es=#[sK (.read (NP X))]
 |.Wb=>es=#[sK (.write (NP X))]
 |.book=>ConcM.BookOK X.Fd X.Wg 1 1 es/\∀e∈es,∀a:Addr,e.loc= .cell a->a.block=X.Fd->a.off≠2
variable (P:ω)
def jZ (a:Pc)(own:ϒ):Nat->Prop:=match a with
 |.la=>λb=>own b\/b=X.M
 |.ur=>λb=>own b/\b≠X.M
 |_=>own
def eK (Nx:Lo->Gh Δ->Θ->Ω->Prop)(T':Lo)(γ:Gh Δ):(Nat->Prop)->Θ->Ω->Prop:=
 λown g w=>∃c,(T'.pc≠.ur->c=γ.mine)/\Nx T' {γ with own:=own,mine:=c} g w
def After (Nx:Lo->Gh Δ->Θ->Ω->Prop)(r:bB)(T':Lo)(γ:Gh Δ)(g:Θ)(w:Ω):Prop:=
 if T'.pc= .quit then ∃q,QuitsD P q 1 g else aG P (x6 r) (gX X (fS T'.pc) γ.ro) (eK Nx T' γ) γ.own g w
def Law (Nx:Lo->Gh Δ->Θ->Ω->Prop)(r:bB)(T:Lo)(γ:Gh Δ)(g:Θ)(w:Ω):Prop:=
 g.status= .running/\g.offers=none/\((T.pc= .us\/T.pc= .d4)->mayWake P g=true)/\
 (T.pc= .ur->∃o,w.heap[X.M]? =some o/\Ef X r γ.mine γ.other o)/\
 ∀s,ShAt X w s->s.fits->
  (mv T s=[]->stepG P (x6 r) g w= .go {g with status:= .blocked} w #[])/\
  ∀d:Δ,(T.pc= .la->∃o,w.heap[X.M]? =some o/\Ef X r γ.mine d o)->mv T s≠[]->
   ∃q∈mv T s,q.1.pc≠.bad->(q.1.pc= .wk->γ.mine=X.fin r)/\∃g' w' es,stepG P (x6 r) g w= .go g' w' es/\ShAt X w' q.2/\ConcM.Eff X.Fd X.Wg w w'/\EvStop X T q.1 es/\
    After X P Nx r q.1 {γ with own:=jZ X T.pc γ.own,other:=if T.pc= .la then d else γ.other} g' w'
def KX:Nat->bB->Lo->Gh Δ->Θ->Ω->Prop
 |0,_,_,_,_,_=>True
 |k+1,r,T,γ,g,w=>Law X P (KX k r) r T γ g w
def given (γ:Gh Δ):Gh Δ:={γ with ro:=λb=>γ.ro b\/γ.own b,own:=λ_=>False}
def gB:Pc->bB
 |.g1=> .a
 |_=> .b
def ju:Pc->Lo
 |.g1=>at_ .k2 0
 |_=>at_ .kw 0
def RL (Nx:Lo->Gh Δ->Θ->Ω->Prop)(T:Lo)(γ:Gh Δ)(g:Θ)(w:Ω):Prop:=
 g.status= .running/\g.offers=none/\∃g' a,stepG P true g w= .spawn g' a w #[]/\
  (∀K,aG P false (gX X false (given γ).ro) (eK (KX X P K (gB T.pc)) (at_ .out (X.N (gB T.pc))) {given γ with mine:=X.c0 (gB T.pc)}) (λ_=>False) a w)/\
  aG P true (gX X false (given γ).ro) (eK Nx (ju T.pc) (given γ)) (λ_=>False) g' w
variable (Post:Gh Δ->Θ->Ω->Prop)
def W2 (γ:Gh Δ)(g:Θ)(w:Ω):Prop:=
 g.status= .running/\g.offers=none/\∀o,w.heap[X.M]? =some o->X.Dat (X.fin .a) (X.fin .b) o->∃g',stepG P true g w= .go g' w #[sK (.acquire (wA X))]/\Post γ g' w
def BE:Nat->Lo->Gh Δ->Θ->Ω->Prop
 |0,_,_,_,_=>True
 |k+1,T,γ,g,w=>if T.pc= .g1\/T.pc= .g2 then RL X P (BE k) T γ g w else if T.pc= .aq then W2 X P Post γ g w else Law X P (BE k) .m T γ g w
def AtR (k:Nat):bB->Lo->Gh Δ->Θ->Ω->Prop
 |.m=>BE X P Post k
 |r=>KX X P k r
end
section
variable {Δ:Type}{X:Cx Δ}{P:ω}{Post:Gh Δ->Θ->Ω->Prop}{r:bB}{k:Nat}{T:Lo}{γ:Gh Δ}{g:Θ}{w:Ω}
def AtR.running (h:AtR X P Post (k+1) r T γ g w):g.status= .running/\g.offers=none:=by
 cases r with
 |m=>
  have c:BE X P Post (k+1) T γ g w:=h;unfold BE at c;split at c
  .exact⟨c.1,c.2.1⟩
  .split at c
   .exact⟨c.1,c.2.1⟩
   .exact⟨c.1,c.2.1⟩
 |a=>exact⟨h.1,h.2.1⟩
 |b=>exact⟨h.1,h.2.1⟩
def AtR.law (h:AtR X P Post (k+1) r T γ g w)(hg:¬(T.pc= .g1\/T.pc= .g2))(ha:T.pc≠.aq):Law X P (AtR X P Post k r) r T γ g w:=by
 cases r with
 |m=>
  have c:BE X P Post (k+1) T γ g w:=h;unfold BE at c;rw[ζ hg,ζ ha] at c;exact c
 |a=>exact h
 |b=>exact h
end
def j3:Pc->Bool
 |.k1|.x1|.p1|.e1|.g1|.k2|.x2|.p2|.e2|.g2|.kw|.w1|.w2|.pw|.w3|.w4|.ke|.aq|.fin|.bad=>false
 |_=>true
def ou:Pc->Bool
 |.k1|.x1|.p1|.e1|.g1|.k2|.x2|.p2|.e2|.g2|.kw|.w1|.w2|.pw|.w3|.w4|.ke|.aq=>true
 |_=>false
def iz:Pc->Bool
 |.l0|.r0|.sq|.r1|.c2|.s1|.t2|.r2|.a1|.r3|.u0|.uc|.ul|.us=>true
 |_=>false
def kR:Pc->Bool
 |.d1|.d2|.d3|.d4=>true
 |_=>false
def lY:Pc->Bool
 |.le|.la|.ur|.ud|.ue|.wk|.k1|.p1|.e1|.k2|.p2|.e2|.kw|.pw|.ke=>true
 |_=>false
def lH:Pc->Bool
 |.x1|.x2|.w1|.w2|.w3|.w4=>true
 |_=>false
def lr:Pc->Nat
 |.le=>5|.la=>4|.ur=>3|.ud=>2|.u0=>1|.ue=>10|.out=>9|.wk=>8|.d1=>7
 |.k1=>4|.x1=>3|.p1=>3|.e1=>2|.g1=>1|.k2=>4|.x2=>3|.p2=>3|.e2=>2|.g2=>1|.kw=>2|.w1=>1|.pw=>2|.w3=>1|.ke=>3|.aq=>2|.fin=>1
 |_=>0
def FL (p:Pc):lr p<=10:=by cases p<;>simp[lr]
def ka (T:Lo)(n:Nat):Lo:={T with n:=n}
def agF (T:Lo)(n:Nat):hd (ka T n)=ka (hd T) n:=by
 have⟨d,a,c,aw,b,it,m⟩:=T;simp only[hd,apply_ite (λx=>ka x n)];rfl
def ahZ (T:Lo)(n:Nat):cl (ka T n)=ka (cl T) n:=by
 have⟨d,a,c,aw,b,it,m⟩:=T;simp only[cl,apply_ite (λx=>ka x n)];rfl
def akS (T:Lo)(n:Nat):pm (ka T n)=pm T:=by
 have⟨a,b,d,aw,c,it,m⟩:=T;cases a<;>rfl
def Gg (T:Lo):(hd T).pc= .c2\/(hd T).pc= .sq\/(hd T).pc= .bad:=by
 simp only[hd]
 (repeat' split)<;>simp
def KJ (T:Lo):(cl T).pc= .c2:=by
 simp only[cl]
 (repeat' split)<;>simp
def agE (T:Lo):(hd T).n=T.n:=by
 simp only[hd]
 (repeat' split)<;>simp
def ahY (T:Lo):(cl T).n=T.n:=by
 simp only[cl]
 (repeat' split)<;>simp
def Ud {T:Lo}{s:Sh}(g:iz T.pc=true):mv T s=(mv (ka (pm T) 1) ⟨s.mu,s.ms,0,0⟩).map (λq=>(ka q.1 T.n,⟨q.2.mu,q.2.ms,s.wg,s.ws⟩)):=by
 have⟨pc,old,nw,aw,sv,it,n⟩:=T;have⟨a,ms,c,b⟩:=s;have h1:∀(T:Lo),ka (hd (ka T 1)) n=hd (ka T n):=λT=>by rw[agF,agF];rfl
 have h2:∀(T:Lo),ka (cl (ka T 1)) n=cl (ka T n):=λT=>by rw[ahZ,ahZ];rfl
 cases pc<;>simp only[iz,ν] at g
 case r0=>simpa [mv,pm,ka] using(h1 {pc:= .r0,old:=a}).symm
 case r1=>simpa [mv,pm,ka] using(h1 {pc:= .r1,old:=a,nw:=nw,aw:=aw,sv:=sv,it:=IntKind.i64.wrap (it+1)}).symm
 case r3=>simpa [mv,pm,ka] using(h1 {pc:= .r3,old:=a,nw:=nw,aw:=aw,sv:=sv,it:=it}).symm
 case sq=>
  have e:=(h2 {pc:= .sq,old:=old,nw:=nw,aw:=aw,sv:=sv,it:=it}).symm;simp only[ka] at e;simp only[mv,pm,ka]
  by_cases f:it<4
  .simp[f];exact e
  .simp[f];exact e
 case a1=>
  by_cases d:(a=12/\nw=-11)\/(a=20/\(nw=-7\/nw=-11))
  .have e1:mv ⟨.a1,old,nw,aw,sv,it,n⟩ ⟨a,ms,c,b⟩=[(at_ .le n,⟨a+nw,ms,c,b⟩)]:=φ d
   have e2:mv (ka (pm ⟨.a1,old,nw,aw,sv,it,n⟩) 1) ⟨a,ms,0,0⟩=[(at_ .le 1,⟨a+nw,ms,0,0⟩)]:=φ d;exact e1.trans (by show _=List.map _ (mv (ka (pm ⟨.a1,old,nw,aw,sv,it,n⟩) 1) ⟨a,ms,0,0⟩);rw[e2];rfl)
  .have e1:mv ⟨.a1,old,nw,aw,sv,it,n⟩ ⟨a,ms,c,b⟩=[(at_ .bad n,⟨a,ms,c,b⟩)]:=ζ d
   have e2:mv (ka (pm ⟨.a1,old,nw,aw,sv,it,n⟩) 1) ⟨a,ms,0,0⟩=[(at_ .bad 1,⟨a,ms,0,0⟩)]:=ζ d;exact e1.trans (by show _=List.map _ (mv (ka (pm ⟨.a1,old,nw,aw,sv,it,n⟩) 1) ⟨a,ms,0,0⟩);rw[e2];rfl)
 case r2=>
  have e:=(h1 {pc:= .r2,old:=a,nw:=nw,aw:=true,sv:=sv,it:=0}).symm;simp only[ka] at e;simp only[mv,pm,ka]
  (repeat' split)<;>simp_all
 all_goals
  simp only[mv,pm,ka]
  (repeat' split)<;>simp_all
def DD {T:Lo}{s:Sh}{q:Lo×Sh}(i:iz T.pc=true)(h:q∈mv T s):q.1.pc≠.wk/\q.1.n=T.n/\(q.1.pc= .bad\/(j3 q.1.pc=true/\pw q.1={pc:= .out})):=by
 have g:=Gg;have d:=KJ;have c:=agE;have k:=ahY;have a:∀T,(hd T).pc= .bad\/(j3 (hd T).pc=true/\pw (hd T)={pc:= .out}):=λT=>by
  rcases g T with e|e|e
  .exact .inr ⟨by rw[e];rfl,by unfold pw;rw[e]⟩
  .exact .inr ⟨by rw[e];rfl,by unfold pw;rw[e]⟩
  .exact .inl e
 have b:∀T,(hd T).pc≠.wk:=λT=>by rcases g T with e|e|e<;>rw[e]<;>simp
 have f:∀T,j3 (cl T).pc=true/\pw (cl T)={pc:= .out}:=λT=>⟨by rw[d T];rfl,by unfold pw;rw[d T]⟩
 have⟨pc,j,p,aw,l,it,n⟩:=T;have⟨o,ms,r,m⟩:=s;cases pc<;>simp only[iz,ν] at i<;>simp only[mv] at h
 case r0=>simp only[ae1] at h;subst h;exact⟨b _,c _,a _⟩
 case r1=>simp only[ae1] at h;subst h;exact⟨b _,c _,a _⟩
 case r3=>simp only[ae1] at h;subst h;exact⟨b _,c _,a _⟩
 case sq=>
  rcases ac1.1 h with rfl|h
  .exact⟨by rw[d];simp,k _,.inr (f _)⟩
  .split at h
   .simp only[ae1] at h;subst h;exact⟨ϛ,rfl,.inr ⟨rfl,rfl⟩⟩
   .simp at h
 case r2=>
  split at h
  .simp only[ae1] at h;subst h;exact⟨b _,c _,a _⟩
  ·(repeat' split at h)<;>simp only[ae1] at h<;>subst h<;>simp[j3,pw]
 all_goals ((repeat' split at h)<;>simp only[ac1,al7,or_false] at h<;>first|contradiction|(obtain rfl:=h;simp[j3,pw];done)|(obtain rfl:=h;simp[j3,pw];split<;>simp)|(rcases h with rfl|rfl<;>simp[j3,pw]))
def yo {T:Lo}{s:Sh}{q:Lo×Sh}(b:iz T.pc=true)(h:q∈mv T s):(pm q.1,q.2.mu,q.2.ms)∈AL (pm T) s.mu s.ms/\q.2.wg=s.wg/\q.2.ws=s.ws:=by
 have a:=(DD b h).1;rw[Ud b] at h;obtain⟨c,h0,rfl⟩:=ad1.1 h;refine⟨ad1.2 ⟨c,ad2.2 ⟨h0,by simpa [ka] using a⟩,by rw[akS]⟩,rfl,rfl⟩
def J9 {T:Lo}(a:iz T.pc=true):pw T={pc:= .out}:=by
 unfold pw;cases b:T.pc<;>rw[b] at a<;>simp[iz] at a<;>rfl
def yn {T:Lo}{s:Sh}{q:Lo×Sh}(a:kR T.pc=true)(h:q∈mv T s):(pw q.1,q.2.wg,q.2.ws)∈Wo (pw T) s.wg s.ws/\q.2.mu=s.mu/\q.2.ms=s.ms/\q.1.n=T.n/\(q.1.pc= .bad\/(j3 q.1.pc=true/\pm q.1=pm T/\lr q.1.pc<=lr T.pc)):=by
 have⟨b,c,f,aw,d,it,n⟩:=T;have⟨g,ms,i,e⟩:=s;cases b<;>simp only[kR,ν] at a<;>simp only[mv] at h<;>simp only[pw,Wo,gw,mv]
 all_goals ((repeat' split at h)<;>simp only[ae1] at h<;>subst h<;>simp_all [j3,pm,pw,lr])
def Kg {T:Lo}{s:Sh}{q:Lo×Sh}(a:lH T.pc=true)(h:q∈mv T s):(p0 q.1,q.2.wg,q.2.ws)∈mv0 (p0 T) s.wg s.ws/\q.2.mu=s.mu/\q.2.ms=s.ms/\(q.1.pc= .bad\/ou q.1.pc=true):=by
 have⟨b,c,f,aw,d,it,n⟩:=T;have⟨g,ms,i,e⟩:=s;cases b<;>simp only[lH,ν] at a<;>simp only[mv] at h<;>simp only[p0,mv0,mv]
 all_goals ((repeat' split at h)<;>simp only[ae1,al7] at h<;>first|(subst h;simp_all [ou,p0])|contradiction)
def uB {T:Lo}{s:Sh}{q:Lo×Sh}(a:lY T.pc=true)(h:q∈mv T s):q.2=s/\(j3 T.pc=true->pm q.1=pm T)/\pw q.1=pw T/\p0 q.1=p0 T/\lr q.1.pc<lr T.pc/\j3 q.1.pc=j3 T.pc/\ou q.1.pc=ou T.pc/\q.1.pc≠.bad/\(j3 T.pc=true->q.1.n=T.n):=by
 have⟨b,c,e,aw,d,it,n⟩:=T;cases b<;>simp only[lY,ν] at a<;>simp only[mv,ae1] at h<;>subst h<;>simp[pm,pw,p0,lr,j3,ou]
def pY (L:bB->Lo)(r1 r2:Nat):Nat:=((L .a).n+(L .b).n)*1400+(r1+r2)*32+(lr (L .m).pc+lr (L .a).pc+lr (L .b).pc)
def upd {α:Type}(L:bB->α)(r:bB)(x:α):bB->α:=λy=>if y=r then x else L y
def upd_same {α:Type}(L:bB->α)(r:bB)(x:α):upd L r x r=x:=by simp[upd]
def upd_ne {α:Type}(L:bB->α){r y:bB}(x:α)(h:y≠r):upd L r x y=L y:=by simp[upd,h]
structure yc (L:bB->Lo)(s:Sh)(r1 r2:Nat):Prop where
 inM:NN ⟨pm (L .a),pm (L .b),s.mu,s.ms⟩ r1
 lm:r1<27
 Uq:Sb ⟨p0 (L .m),pw (L .a),pw (L .b),s.wg,s.ws⟩ r2
 st:ou (L .m).pc=true
 wa:j3 (L .a).pc=true
 wb:j3 (L .b).pc=true
section
variable {L:bB->Lo}{s:Sh}{r1 r2:Nat}{q:Lo×Sh}
def yc.ZB (h:yc L s r1 r2)(d:q∈mv (L .a) s)(K:(L .a).pc≠.un):q.1.pc≠.bad/\∃a b,yc (upd L .a q.1) q.2 a b/\pY (upd L .a q.1) a b<pY L r1 r2:=by
 have N:=FL q.1.pc;have p:=h.wa;have⟨k,l,j,g,m,c⟩:=h;have n:∀a b,pY (upd L .a q.1) a b=(q.1.n+(L .b).n)*1400+(a+b)*32+(lr (L .m).pc+lr q.1.pc+lr (L .b).pc):=λa b=>by simp[pY,upd]<;>omega
 have r:pY L r1 r2=((L .a).n+(L .b).n)*1400+(r1+r2)*32+(lr (L .m).pc+lr (L .a).pc+lr (L .b).pc):=by simp[pY]<;>omega
 have F:=k.facts;have G:=j.facts
 by_cases c1:lY (L .a).pc=true
 .have⟨A,e1,e2,_,M,y,_,D,x⟩:=uB c1 d
  have e1:=e1 p;have x:=x p;refine⟨D,r1,r2,⟨?_,l,?_,by simpa [upd] using g,?_,?_⟩,by rw[n,r,x];omega⟩
  .simp[upd,A,e1];exact k
  .simp[upd,A,e2];exact j
  .simp[upd,y,p,m]
  .simp[upd,y,p,c]
 by_cases c2:iz (L .a).pc=true
 .have⟨m1,m2,u⟩:=yo c2 d
  have⟨_,n1,I⟩:=DD c2 d;have⟨a,o,i2,i3⟩:=k.V8 m1;have f:q.1.pc≠.bad:=λe=>by
   have:=F.noA _ m1
   apply this
   simp[pm,e]
  have⟨w1,t⟩:=I.resolve_left f;have J:a<r1:=i2.resolve_left (λe=>by
   have e:(pm (L .a)).pc= .out:=e
   revert e
   cases B:(L .a).pc<;>rw[B] at c2<;>simp[iz] at c2<;>simp[pm,B])
  refine⟨f,a,r2,⟨?_,i3,?_,by simpa [upd] using g,?_,?_⟩,by rw[n,r,n1];have:=FL (L .a).pc;omega⟩
  .simp[upd];exact o
  .rw[J9 c2] at j
   simp[upd,m2,u,t];exact j
  .simp[upd,w1,m]
  .simp[upd,w1,c]
 by_cases z:kR (L .a).pc=true
 .have⟨m1,m2,u,C,E⟩:=yn z d
  have⟨b,o,i2⟩:=j.step (H:=⟨p0 (L .m),pw q.1,pw (L .b),q.2.wg,q.2.ws⟩) (by
   unfold GG.succs;exact ϕ6 _ (ϒ9 _ (ad1.2 ⟨_,m1,rfl⟩)))
  have f:q.1.pc≠.bad:=λe=>by
   have:=(G.no ⟨p0 (L .m),pw q.1,pw (L .b),q.2.wg,q.2.ws⟩ (by
    unfold GG.succs;exact ϕ6 _ (ϒ9 _ (ad1.2 ⟨_,m1,rfl⟩)))).2.1
   apply this
   simp[pw,e]
  have⟨w1,t,O⟩:=E.resolve_left f;refine⟨f,r1,b,⟨?_,l,?_,by simpa [upd] using g,?_,?_⟩,by rw[n,r,C];omega⟩
  .simp[upd,m2,u,t];exact k
  .simp[upd];exact o
  .simp[upd,w1,m]
  .simp[upd,w1,c]
 .have i:(L .a).pc= .out\/(L .a).pc= .quit:=by
   revert c1 c2 z p K
   cases (L .a).pc<;>simp[lY,iz,kR,j3]
  rcases i with i|i
  .have w:pm (L .a)={pc:= .out}:=by simp[pm,i]
   have v:pw (L .a)={pc:= .out}:=by simp[pw,i]
   rw[w] at k;rw[v] at j;simp only[mv,i] at d;rcases ac1.1 d with rfl|d
   .refine⟨ϛ,r1,r2,⟨?_,l,?_,by simpa [upd] using g,?_,?_⟩,by rw[n,r,i];simp[lr]⟩
    .simp[upd,pm];exact k
    .simp[upd,pw];exact j
    .first|(simp[upd];done)|(simp[upd];first|exact m|exact c|rfl)
    .first|(simp[upd];done)|(simp[upd];first|exact m|exact c|rfl)
   .split at d
    .rename_i P
     simp only[ae1] at d;subst d;have⟨a,o,_,i3⟩:=k.V8 (q:=({pc:= .l0},s.mu,s.ms)) (by simp[AL,mv,pm]);refine⟨ϛ,a,r2,⟨?_,i3,?_,by simpa [upd] using g,?_,?_⟩,by rw[n,r,i];simp[lr];omega⟩
     .simp[upd,pm];exact o
     .simp[upd,pw];exact j
     .first|(simp[upd];done)|(simp[upd];first|exact m|exact c|rfl)
     .first|(simp[upd];done)|(simp[upd];first|exact m|exact c|rfl)
    .simp at d
  .simp[mv,i] at d
def yc.ZA (h:yc L s r1 r2)(d:q∈mv (L .b) s)(K:(L .b).pc≠.un):q.1.pc≠.bad/\∃a b,yc (upd L .b q.1) q.2 a b/\pY (upd L .b q.1) a b<pY L r1 r2:=by
 have N:=FL q.1.pc;have p:=h.wb;have⟨k,l,j,g,m,c⟩:=h;have n:∀a b,pY (upd L .b q.1) a b=(q.1.n+(L .a).n)*1400+(a+b)*32+(lr (L .m).pc+lr q.1.pc+lr (L .a).pc):=λa b=>by simp[pY,upd]<;>omega
 have r:pY L r1 r2=((L .b).n+(L .a).n)*1400+(r1+r2)*32+(lr (L .m).pc+lr (L .b).pc+lr (L .a).pc):=by simp[pY]<;>omega
 have F:=k.facts;have G:=j.facts
 by_cases c1:lY (L .b).pc=true
 .have⟨A,e1,e2,_,M,y,_,D,x⟩:=uB c1 d
  have e1:=e1 p;have x:=x p;refine⟨D,r1,r2,⟨?_,l,?_,by simpa [upd] using g,?_,?_⟩,by rw[n,r,x];omega⟩
  .simp[upd,A,e1];exact k
  .simp[upd,A,e2];exact j
  .simp[upd,y,p,m]
  .simp[upd,y,p,c]
 by_cases c2:iz (L .b).pc=true
 .have⟨m1,m2,u⟩:=yo c2 d
  have⟨_,n1,I⟩:=DD c2 d;have⟨a,o,i2,i3⟩:=k.V7 m1;have f:q.1.pc≠.bad:=λe=>by
   have:=F.noB _ m1
   apply this
   simp[pm,e]
  have⟨w1,t⟩:=I.resolve_left f;have J:a<r1:=i2.resolve_left (λe=>by
   have e:(pm (L .b)).pc= .out:=e
   revert e
   cases B:(L .b).pc<;>rw[B] at c2<;>simp[iz] at c2<;>simp[pm,B])
  refine⟨f,a,r2,⟨?_,i3,?_,by simpa [upd] using g,?_,?_⟩,by rw[n,r,n1];have:=FL (L .b).pc;omega⟩
  .simp[upd];exact o
  .rw[J9 c2] at j
   simp[upd,m2,u,t];exact j
  .simp[upd,w1,m]
  .simp[upd,w1,c]
 by_cases z:kR (L .b).pc=true
 .have⟨m1,m2,u,C,E⟩:=yn z d
  have⟨b,o,i2⟩:=j.step (H:=⟨p0 (L .m),pw (L .a),pw q.1,q.2.wg,q.2.ws⟩) (by
   unfold GG.succs;exact ϒ9 _ (ad1.2 ⟨_,m1,rfl⟩))
  have f:q.1.pc≠.bad:=λe=>by
   have:=(G.no ⟨p0 (L .m),pw (L .a),pw q.1,q.2.wg,q.2.ws⟩ (by
    unfold GG.succs;exact ϒ9 _ (ad1.2 ⟨_,m1,rfl⟩))).2.2
   apply this
   simp[pw,e]
  have⟨w1,t,O⟩:=E.resolve_left f;refine⟨f,r1,b,⟨?_,l,?_,by simpa [upd] using g,?_,?_⟩,by rw[n,r,C];omega⟩
  .simp[upd,m2,u,t];exact k
  .simp[upd];exact o
  .simp[upd,w1,m]
  .simp[upd,w1,c]
 .have i:(L .b).pc= .out\/(L .b).pc= .quit:=by
   revert c1 c2 z p K
   cases (L .b).pc<;>simp[lY,iz,kR,j3]
  rcases i with i|i
  .have w:pm (L .b)={pc:= .out}:=by simp[pm,i]
   have v:pw (L .b)={pc:= .out}:=by simp[pw,i]
   rw[w] at k;rw[v] at j;simp only[mv,i] at d;rcases ac1.1 d with rfl|d
   .refine⟨ϛ,r1,r2,⟨?_,l,?_,by simpa [upd] using g,?_,?_⟩,by rw[n,r,i];simp[lr]⟩
    .simp[upd,pm];exact k
    .simp[upd,pw];exact j
    .first|(simp[upd];done)|(simp[upd];first|exact m|exact c|rfl)
    .first|(simp[upd];done)|(simp[upd];first|exact m|exact c|rfl)
   .split at d
    .rename_i P
     simp only[ae1] at d;subst d;have⟨a,o,_,i3⟩:=k.V7 (q:=({pc:= .l0},s.mu,s.ms)) (by simp[AL,mv,pm]);refine⟨ϛ,a,r2,⟨?_,i3,?_,by simpa [upd] using g,?_,?_⟩,by rw[n,r,i];simp[lr];omega⟩
     .simp[upd,pm];exact o
     .simp[upd,pw];exact j
     .first|(simp[upd];done)|(simp[upd];first|exact m|exact c|rfl)
     .first|(simp[upd];done)|(simp[upd];first|exact m|exact c|rfl)
    .simp at d
  .simp[mv,i] at d
def yc.Zz (h:yc L s r1 r2)(j:q∈mv (L .m) s):q.1.pc≠.bad/\∃b a,yc (upd L .m q.1) q.2 b a/\pY (upd L .m q.1) b a<pY L r1 r2:=by
 have A:=FL q.1.pc;have⟨k,g,i,d,n,f⟩:=h;have l:∀b a,pY (upd L .m q.1) b a=((L .a).n+(L .b).n)*1400+(b+a)*32+(lr q.1.pc+lr (L .a).pc+lr (L .b).pc):=λb a=>by simp[pY,upd]
 have o:pY L r1 r2=((L .a).n+(L .b).n)*1400+(r1+r2)*32+(lr (L .m).pc+lr (L .a).pc+lr (L .b).pc):=rfl;have w:=i.facts
 by_cases c1:lY (L .m).pc=true
 .have⟨m,_,_,x,z,_,u,r,_⟩:=uB c1 j
  refine⟨r,r1,r2,⟨?_,g,?_,?_,?_,?_⟩,by rw[l,o];omega⟩
  .simp[upd,m];exact k
  .simp[upd,m,x];exact i
  .simp[upd,u,d]
  .simp[upd,n]
  .simp[upd,f]
 by_cases c2:lH (L .m).pc=true
 .have⟨m1,m2,v,t⟩:=Kg c2 j
  have hm:(⟨p0 q.1,pw (L .a),pw (L .b),q.2.wg,q.2.ws⟩:GG)∈GG.succs ⟨p0 (L .m),pw (L .a),pw (L .b),s.wg,s.ws⟩:=by
   unfold GG.succs;exact ϕ6 _ (ϕ6 _ (ϒ9 _ (ad1.2 ⟨_,m1,rfl⟩)))
  have⟨a,p,i2⟩:=i.step hm;have c:q.1.pc≠.bad:=λe=>by
   have:=(w.no _ hm).1
   apply this
   simp[p0,e]
  refine⟨c,r1,a,⟨?_,g,?_,?_,?_,?_⟩,by rw[l,o];omega⟩
  .simp[upd,m2,v];exact k
  .simp[upd];exact p
  .simp[upd,t.resolve_left c]
  .simp[upd,n]
  .simp[upd,f]
 .exfalso
  revert c1 c2 d j
  cases y:(L .m).pc<;>simp[lY,lH,ou,mv,y]
def yc.move (h:yc L s r1 r2){r:bB}(e:q∈mv (L r) s)(f:(L r).pc≠.un):q.1.pc≠.bad/\∃d c,yc (upd L r q.1) q.2 d c/\pY (upd L r q.1) d c<pY L r1 r2:=by
 cases r with
 |m=>exact h.Zz e
 |a=>exact h.ZB e f
 |b=>exact h.ZA e f
def yc.fits (h:yc L s r1 r2):s.fits:=⟨h.inM.facts.fits.1,h.inM.facts.fits.2.1,h.Uq.facts.fits.2.2.1,h.Uq.facts.fits.2.2.2⟩
def yc.go {N:Nat}(h:yc L s r1 r2)(hg:(L .m).pc= .g1\/(L .m).pc= .g2)(i:(L (gB (L .m).pc)).n=N):
  (L (gB (L .m).pc)).pc= .un/\∃a,yc (upd (upd L .m (ju (L .m).pc)) (gB (L .m).pc) (at_ .out N)) s r1 a/\pY (upd (upd L .m (ju (L .m).pc)) (gB (L .m).pc) (at_ .out N)) r1 a<pY L r1 r2:=by
 have⟨f,e,d,q,n,b⟩:=h;have g:=d.facts;have p:∀T:Lo,(pw T).pc= .un->T.pc= .un:=λT=>by cases r:T.pc<;>simp[pw,r]
 rcases hg with hg|hg
 .have m:p0 (L .m)={pc:= .g1}:=by simp[p0,hg]
  rw[m] at d g;have ha:(L .a).pc= .un:=p _ (g.un1 (.inr rfl)).1;have c:pm (L .a)={pc:= .out}:=by simp[pm,ha]
  have o:pw (L .a)={pc:= .un}:=by simp[pw,ha]
  have k:gB (L .m).pc= .a:=by rw[hg];rfl
  rw[k] at i⊢;have l:ju (L .m).pc=at_ .k2 0:=by rw[hg];rfl
  rw[l];rw[c] at f;have⟨a,j,i2⟩:=d.step (H:=⟨{pc:= .x2},{pc:= .out},pw (L .b),s.wg,s.ws⟩) (by unfold GG.succs;simp);refine⟨ha,a,⟨?_,e,?_,?_,?_,?_⟩,?_⟩
  .simp[upd,pm];exact f
  .simp[upd,pw,p0];exact j
  .first|(simp[upd];done)|(simp[upd];rfl)
  .first|(simp[upd];done)|(simp[upd];first|exact n|exact b|rfl)
  .simp[upd,b]
  .simp[pY,upd,lr,hg,ha,i];omega
 .have m:p0 (L .m)={pc:= .g2}:=by simp[p0,hg]
  rw[m] at d g;have ha:(L .b).pc= .un:=p _ (g.un2 (.inr rfl)).2;have c:pm (L .b)={pc:= .out}:=by simp[pm,ha]
  have o:pw (L .b)={pc:= .un}:=by simp[pw,ha]
  have k:gB (L .m).pc= .b:=by rw[hg];rfl
  rw[k] at i⊢;have l:ju (L .m).pc=at_ .kw 0:=by rw[hg];rfl
  rw[l];rw[c] at f;have⟨a,j,i2⟩:=d.step (H:=⟨{pc:= .w1},pw (L .a),{pc:= .out},s.wg,s.ws⟩) (by unfold GG.succs;simp);refine⟨ha,a,⟨?_,e,?_,?_,?_,?_⟩,?_⟩
  .simp[upd,pm];exact f
  .simp[upd,pw,p0];exact j
  .first|(simp[upd];done)|(simp[upd];rfl)
  .simp[upd,n]
  .first|(simp[upd];done)|(simp[upd];first|exact n|exact b|rfl)
  .simp[pY,upd,lr,hg,ha,i];omega
end
def born (L:bB->Lo)(r:bB):Prop:=(L r).pc≠.un
instance (L:bB->Lo)(r:bB):Decidable (born L r):=by unfold born;infer_instance
def nb (L:bB->Lo):Nat:=(if(L .a).pc= .un then 0 else 1)+(if(L .b).pc= .un then 0 else 1)
def Lo.sleeps (T:Lo)(s:Sh):Bool:=(T.pc== .s1&&s.ms==0)||(T.pc== .w3&&s.ws==0)
def past:Pc->Bool
 |.wk|.d1|.d2|.d3|.d4|.quit=>true
 |_=>false
def Pt:bB->bB
 |.a=> .b
 |_=> .a
def hold (L:bB->Lo):Option bB:=if(L .a).pc= .ur then some .a else if(L .b).pc= .ur then some .b else none
section
variable {Δ:Type}(X:Cx Δ)(P:ω)(Post:Gh Δ->Θ->Ω->Prop)
def Sit (k:Nat)(r:bB)(T:Lo)(γ:Gh Δ)(ρ:Rk)(aw d q:Nat)(s:Sh)(g:Θ)(w:Ω):Prop:=
 (T.pc≠.quit/\d=iW T.pc/\aw=1/\jj P (x6 r) (gX X (fS T.pc) γ.ro) (eK (AtR X P Post k r) T γ) ρ γ.own g w)\/
 (T.pc≠.quit/\d=iW T.pc/\aw=0/\T.sleeps s=true/\∃a,g={a with status:= .blocked}/\∀w₁,RX X γ.ro γ.own w w₁->eK (AtR X P Post k r) T γ γ.own a w₁)\/
 (T.pc= .quit/\aw=0/\QuitsD P q d g)
end
section
variable {Δ:Type}{X:Cx Δ}{P:ω}{Post:Gh Δ->Θ->Ω->Prop}{k:Nat}{r:bB}{T:Lo}{γ:Gh Δ}{ρ:Rk}{aw d q:Nat}{s s':Sh}{g x x':Θ}{w w₁:Ω}
def jR {own:ϒ}(h:eK (AtR X P Post (k+1) r) T γ own g w):g.status= .running/\g.offers=none:=let⟨_,_,h⟩:=h;h.running
def j0 {b:Bool}{own:ϒ}(h:jj P (x6 r) (gX X b γ.ro) (eK (AtR X P Post (k+1) r) T γ) ρ own g w):g.status= .running:=by
 cases ρ with
 |zero=>exact(jR (h w (RX.refl X _ _ w))).1
 |mk f=>exact h.elim (λh=>(jR (h w (RX.refl X _ _ w))).1) λh=>h.1
def zO {b:Bool}{S:(Nat->Prop)->Θ->Ω->Prop}{own:ϒ}(h:∀w₁,RX X γ.ro own w w₁->S own g w₁):jj P (x6 r) (gX X b γ.ro) S ρ own g w:=by
 cases ρ with
 |zero=>exact h
 |mk f=>exact .inl h
def Sit.status (h:Sit X P Post (k+1) r T γ ρ aw d q s g w):g.status= .running\/g.status= .blocked\/g.status= .finished:=by
 rcases h with⟨_,_,_,hg⟩|⟨_,_,_,_,g₀,rfl,_⟩|⟨_,_,hq⟩
 .exact .inl (j0 hg)
 .exact .inr (.inl rfl)
 .exact hq.status.elim .inl λx=> .inr (.inr x)
def Sit.other (h:Sit X P Post (k+1) r T γ ρ aw d q s g w)(hr:RX X γ.ro γ.own w w₁)(m:T.sleeps s=true->T.sleeps s'=true\/(mayWake P x=true/\x'.status= .running)):
  ∃f,Sit X P Post (k+1) r T γ ρ f d q s' (woken P x x' w₁ g) w₁:=by
 rcases h with⟨h1,h2,h3,hg⟩|⟨h1,h2,h3,h4,g₀,rfl,hg⟩|⟨h1,h2,hq⟩
 .refine⟨1,.inl ⟨h1,h2,rfl,?_⟩⟩
  have:woken P x x' w₁ g=g:=by unfold woken;split;exact again_running _ (.inl (j0 hg));rfl
  rw[this];exact hg.rely hr
 .have e:=hg w₁ hr
  have c:∀a,RX X γ.ro γ.own w₁ a->eK (AtR X P Post (k+1) r) T γ γ.own g₀ a:=λa b=>hg a (hr.trans X b)
  by_cases i:(mayWake P x&&x'.status != .blocked&&x'.status != .waiting)=true
  .refine⟨1,.inl ⟨h1,h2,rfl,?_⟩⟩
   have:woken P x x' w₁ {g₀ with status:= .blocked}=g₀:=by unfold woken;rw[φ i];exact ConcR.again_blocked (jR e).1 (jR e).2 _
   rw[this];exact zO c
  .have:woken P x x' w₁ {g₀ with status:= .blocked}={g₀ with status:= .blocked}:=by unfold woken;rw[ζ i]
   rw[this];rcases m h4 with j|⟨j,l⟩
   .exact⟨0,.inr (.inl ⟨h1,h2,rfl,j,g₀,rfl,c⟩)⟩
   .exact absurd (by simp[j,l]) i
 .exact⟨0,.inr (.inr ⟨h1,rfl,by rw[woken_quitsD hq];exact hq⟩)⟩
def Sit.rely (h:Sit X P Post (k+1) r T γ ρ aw d q s g w)(hr:RX X γ.ro γ.own w w₁):Sit X P Post (k+1) r T γ ρ aw d q s g w₁:=by
 rcases h with⟨h1,h2,h3,hg⟩|⟨h1,h2,h3,h4,g₀,rfl,hg⟩|h
 .exact .inl ⟨h1,h2,h3,hg.rely hr⟩
 .exact .inr (.inl ⟨h1,h2,h3,h4,g₀,rfl,λa b=>hg a (hr.trans X b)⟩)
 .exact .inr (.inr h)
end
section
variable {Δ:Type}(X:Cx Δ)(S0:Nat->Prop)
def AQ (l:Loc):Prop:=∃a:Addr,l= .cell a/\(S0 a.block\/a.block=X.Wg\/(a.block=X.Fd/\a.off≠2))
def RK (γ:bB->Gh Δ)(L:bB->Lo)(r:bB)(l:Loc):Prop:=born L r/\((∃c,(γ r).ro c/\mP c l)\/∃a,l= .cell ⟨X.Fd,2,a⟩)
structure Lay (γ:bB->Gh Δ)(L:bB->Lo)(B:Nat):Prop where
 sp:∀r c,(γ r).own c\/(γ r).ro c->c≠X.Fd/\c≠X.Wg/\¬S0 c/\c<B
 roM:∀r,¬(γ r).ro X.M
 xX:∀r,(γ r).own X.M↔(L r).pc= .ur
 apart:∀r r' c,(γ r).own c->(γ r').own c->r=r'
 Ch:∀r r' c,(γ r).own c->¬(γ r').ro c
 lv:∀r c,(γ r).own c\/(γ r).ro c->born L r
 fm:X.Fd≠X.M
 fw:X.Fd≠X.Wg
 mw:X.M≠X.Wg
 s0:∀c,S0 c->c<B/\c≠X.Fd/\c≠X.M/\c≠X.Wg
 x5:X.Fd<B
 DC:X.M<B
 vZ:X.Wg<B
end
section
variable {Δ:Type}{X:Cx Δ}{S0:Nat->Prop}{γ:bB->Gh Δ}{L:bB->Lo}{B:Nat}
def JR {l:Loc}(h:AQ X S0 l):l.isMemory=true:=by obtain⟨a,rfl,_⟩:=h;rfl
def mB {c:Nat}{a:Addr}(h:mP c (.cell a)):a.block=c:=by
 rcases h with⟨a',e,h⟩|h
 .cases e;exact h
 .cases h
def Lay.ap (h:Lay X S0 γ L B)(u:¬((L .a).pc= .ur/\(L .b).pc= .ur))(hm:(L .m).pc≠.ur):Ap (AQ X S0) (RK X γ L) (born L) (λr=>(γ r).own) X.M (hold L) B:=by
 have o:∀c l,c≠X.Fd->c≠X.Wg->¬S0 c->mP c l->¬AQ X S0 l:=λc l h1 h2 i d ⟨a,e,ha⟩=>by
  subst e;have:=mB d;subst this;rcases ha with ha|ha|ha
  .exact i ha
  .exact h2 ha
  .exact h1 ha.1
 have q:∀r c l,(∀j,¬(γ j).ro c)->c≠X.Fd->mP c l->¬RK X γ L r l:=λr c l h1 h2 d ⟨_,hr⟩=>by
  rcases hr with⟨c',i,hb'⟩|⟨sp,e⟩
  .exact h1 r (mP.uniq d hb'▸i)
  .subst e
   exact h2 (mB d).symm
 refine⟨λr c l f d=>?_,λr c l j f d=>?_,h.apart,λr l hr t=>?_,λl d=>⟨?_,λr=>?_⟩,λr f=>?_,λr c f=>h.lv r c (.inl f),λc l d v=>⟨?_,λr=>?_⟩,h.DC,λr c f=>(h.sp r c (.inl f)).2.2.2,λl=>JR,λr l hr=>?_⟩
 .have⟨g,k,n,_⟩:=h.sp r c (.inl f)
  exact o c l g k n d
 .have⟨g,k,n,_⟩:=h.sp r c (.inl f)
  exact q j c l (λs=>h.Ch r s c f) g d
 .rcases hr.2 with⟨c,i,d⟩|⟨sp,e⟩
  .have⟨g,k,n,_⟩:=h.sp r c (.inr i)
   exact o c l g k n d t
  .subst e
   have⟨a,e,ha⟩:=t;cases e;rcases ha with ha|ha|ha
   .exact(h.s0 _ ha).2.1 rfl
   .exact h.fw ha
   .exact ha.2 rfl
 .exact o X.M l (λe=>h.fm e.symm) h.mw (λe=>(h.s0 _ e).2.2.1 rfl) d
 .exact q r X.M l h.roM (λe=>h.fm e.symm) d
 .have p:=(h.xX r).1 f
  unfold hold;cases r with
  |m=>exact absurd p hm
  |a=>rw[φ p]
  |b=>rw[ζ λe=>u ⟨e,p⟩,φ p]
 .refine o c l (λe=>?_) (λe=>?_) (λe=>?_) d
  .have:=h.x5;omega
  .have:=h.vZ;omega
  .have:=(h.s0 _ e).1;omega
 .refine q r c l (λj e=>?_) (λe=>?_) d
  .have:=(h.sp j c (.inr e)).2.2.2;omega
  .have:=h.x5;omega
 .rcases hr.2 with⟨c,_,d⟩|⟨sp,rfl⟩
  .exact d.mem
  .rfl
def Lay.grow (h:Lay X S0 γ L B){r:bB}{k:Nat}(l:B<=k)(hr:born L r):
  Lay X S0 (upd γ r {γ r with own:=λb=>(γ r).own b\/(B<=b/\b<k)}) L k:=by
 have j:∀d c,(upd γ r {γ r with own:=λb=>(γ r).own b\/(B<=b/\b<k)} d).own c->(γ d).own c\/(d=r/\B<=c/\c<k):=λd c a=>by
  by_cases e:d=r
  .subst e;rw[upd_same] at a;exact a.imp id λz=>⟨rfl,z⟩
  .rw[upd_ne _ _ e] at a;exact .inl a
 have f:∀d c,(upd γ r {γ r with own:=λb=>(γ r).own b\/(B<=b/\b<k)} d).ro c->(γ d).ro c:=λd c a=>by
  by_cases e:d=r
  .subst e;rw[upd_same] at a;exact a
  .rw[upd_ne _ _ e] at a;exact a
 refine⟨λd c a=>?_,λd a=>h.roM d (f _ _ a),λd=>⟨λa=>?_,λa=>?_⟩,λd i c a g=>?_,λd i c a g=>?_,λd c a=>?_,h.fm,h.fw,h.mw,λc p=>⟨ψ (h.s0 c p).1 l,(h.s0 c p).2⟩,ψ h.x5 l,ψ h.DC l,ψ h.vZ l⟩
 .rcases a with a|a
  .rcases j _ _ a with a|⟨_,h1,h2⟩
   .have⟨o,m,n,q⟩:=h.sp d c (.inl a)
    exact⟨o,m,n,ϖ⟩
   .exact⟨λe=>by have:=h.x5;omega,λe=>by have:=h.vZ;omega,λe=>by have:=(h.s0 c e).1;omega,h2⟩
  .have⟨o,m,n,q⟩:=h.sp d c (.inr (f _ _ a))
   exact⟨o,m,n,ϖ⟩
 .rcases j _ _ a with a|⟨_,h1,_⟩
  .exact(h.xX d).1 a
  .have:=h.DC;omega
 .have:=(h.xX d).2 a
  by_cases e:d=r
  .subst e;rw[upd_same];exact .inl this
  .rw[upd_ne _ _ e];exact this
 .rcases j _ _ a with h1|⟨e1,h1,_⟩<;>rcases j _ _ g with h2|⟨e2,h2,_⟩
  .exact h.apart _ _ c h1 h2
  .have:=(h.sp d c (.inl h1)).2.2.2;omega
  .have:=(h.sp i c (.inl h2)).2.2.2;omega
  .rw[e1,e2]
 .rcases j _ _ a with h1|⟨_,h1,_⟩
  .exact h.Ch _ _ c h1 (f _ _ g)
  .have:=(h.sp i c (.inr (f _ _ g))).2.2.2;omega
 .rcases a with a|a
  .rcases j _ _ a with a|⟨rfl,_⟩
   .exact h.lv d c (.inl a)
   .exact hr
  .exact h.lv d c (.inr (f _ _ a))
end
def TI.mono {n0:Nat}{Sh:ϩ}{RO RO':bB->Loc->Prop}{a lv':bB->Prop}{own own':bB->Nat->Prop}{M:Nat}{hold:Option bB}{mA wA:Addr}{B:Nat}{t:Trace}(h:TI n0 Sh RO a own M hold mA wA B t)(h1:∀r l,RO' r l->RO r l)(h2:∀r,lv' r↔a r)(f:∀r c,own' r c->own r c):TI n0 Sh RO' lv' own' M hold mA wA B t:=by
 have e:lv'=a:=funext λr=>propext (h2 r)
 subst e;exact⟨h.clean,h.quiet,λr c d=>h.own r c (f r c d),λr i x b hr=>h.ro r i x b (h1 r _ hr),h.guard,h.base,h.work,h.over,h.ids,h.TQ,h.nrW,h.low⟩
end aI
end
section
open Go.Conc
open Go.ConcN (sumTo)
open Go.ConcM (OsLater)
namespace aI
structure Cf (Δ:Type) where
 n0:Nat
 L:bB->Lo
 γ:bB->Gh Δ
 k:bB->Nat
 ρ:bB->Rk
 aw:bB->Nat
 ds:bB->Nat
 q:Nat->Nat
 s:Sh
 r1:Nat
 r2:Nat
def LtF (a b:bB->Rk):Prop:=∃r,Rk.Lt (a r) (b r)/\∀c,c≠r->a c=b c
def ZM:WellFounded LtF:=by
 have e:∀x:Rk,Acc Rk.Lt x->∀y:Rk,Acc Rk.Lt y->∀z:Rk,Acc Rk.Lt z->∀f:bB->Rk,f .m=x->f .a=y->f .b=z->Acc LtF f:=by
  intro x n
  induction n with
  |intro x _ c=>
  intro y o
  induction o with
  |intro y l j=>
  intro z q
  induction q with
  |intro z k d=>
  intro f h1 h2 p;refine⟨_,λg hg=>?_⟩;have⟨r,i,h⟩:=hg;cases r with
  |m=>exact c _ (h1▸i) _ (Rk.acc _) _ (Rk.acc _) g rfl rfl rfl
  |a=>exact j _ (h2▸i) _ (Rk.acc _) g ((h .m ϛ).trans h1) rfl rfl
  |b=>exact d _ (p▸i) g ((h .m ϛ).trans h1) ((h .a ϛ).trans h2) rfl
 exact⟨λf=>e _ (Rk.acc _) _ (Rk.acc _) _ (Rk.acc _) f rfl rfl rfl⟩
abbrev Ms:=Nat×(bB->Rk)×Nat×Nat
def WZ:Ms->Ms->Prop:=Prod.Lex (·<·) (Prod.Lex LtF (Prod.Lex (·<·) (·<·)))
def ZL:WellFounded WZ:=(Prod.lex Nat.lt_wfRel (Prod.lex ⟨LtF,ZM⟩ (Prod.lex Nat.lt_wfRel Nat.lt_wfRel))).wf
def awS (aw:bB->Nat):Nat:=aw .m+aw .a+aw .b
def Cf.ms {Δ:Type}(C:Cf Δ)(n:Nat):Ms:=(pY C.L C.r1 C.r2,C.ρ,sumTo n C.q,awS C.aw)
section
variable {Δ:Type}(X:Cx Δ)(P:ω)(Post:Gh Δ->Θ->Ω->Prop)(S0:Nat->Prop)
structure Core (C:Cf Δ)(gs:Array Θ)(w:Ω)(t:Trace):Prop where
 uz:0<C.n0
 size:gs.size=C.n0+nb C.L
 tab:yc C.L C.s C.r1 C.r2
 fuel:∀r,born C.L r->pY C.L C.r1 C.r2<C.k r
 sh:ShAt X w C.s
 sit:∀r,born C.L r->∃g,gs[gid C.n0 r]? =some g/\Sit X P Post (C.k r) r (C.L r) (C.γ r) (C.ρ r) (C.aw r) (C.ds r) (C.q (gid C.n0 r)) C.s g w
 V3:∀r,¬born C.L r->(C.γ r).mine=X.c0 r/\(C.L r).n=X.N r
 old:∀i g,0<i->i<C.n0->gs[i]? =some g->QuitsD P (C.q i) (Deaf t i) g
 above:∀j,gs.size<=j->Deaf t j=0
 deaf:∀r,born C.L r->Deaf t (gid C.n0 r)=C.ds r
 data:(C.L .a).pc≠.ur->(C.L .b).pc≠.ur->∃o,w.heap[X.M]? =some o/\X.Dat (C.γ .a).mine (C.γ .b).mine o
 Jc:∀r,(C.L r).pc= .ur->(C.γ r).other=(C.γ (Pt r)).mine
 fin:∀r,past (C.L r).pc=true->(C.γ r).mine=X.fin r
 rel:∀r,past (C.L r).pc=true->∃p,ConcN.RelBy (wA X) t (gid C.n0 r) p
 lay:Lay X S0 C.γ C.L w.heap.size
 ti:TI C.n0 (AQ X S0) (RK X C.γ C.L) (born C.L) (λr=>(C.γ r).own) X.M (hold C.L) (mA X) (wA X) w.heap.size t
def Ee (n0:Nat)(a:Ms)(m:Machine)(t:Trace):Prop:=∃(C:Cf Δ) (gs:Ϯ) (w:Ω) (sl:Option (Nat×Nat)),C.n0=n0/\m=crowd gs w sl/\Core X P Post S0 C gs w t/\a=C.ms gs.size
end
section
variable {Δ:Type}{X:Cx Δ}{P:ω}{Post:Gh Δ->Θ->Ω->Prop}{S0:Nat->Prop}{C:Cf Δ}{gs:Array Θ}{w w':Ω}{t:Trace}{sl:Option (Nat×Nat)}{r:bB}{x x':Θ}{es:Array Event}
def ni {L:bB->Lo}{s:Sh}{r1 r2:Nat}(h:yc L s r1 r2):¬((L .a).pc= .ur/\(L .b).pc= .ur):=λ⟨x,y⟩=>h.inM.facts.excl ⟨by simp[pm,x],by simp[pm,y]⟩
def ku {L:bB->Lo}{s:Sh}{r1 r2:Nat}(h:yc L s r1 r2){p:Pc}(a:ou p=false):(L .m).pc≠p:=λe=>by have:=h.st;rw[e,a] at this;cases this
def Core.ap (c:Core X P Post S0 C gs w t):Ap (AQ X S0) (RK X C.γ C.L) (born C.L) (λr=>(C.γ r).own) X.M (hold C.L) w.heap.size:=c.lay.ap (ni c.tab) (ku c.tab rfl)
def Core.qY (c:Core X P Post S0 C gs w t):born C.L .m:=ku c.tab rfl
def Core.kpos (c:Core X P Post S0 C gs w t)(hr:born C.L r):∃k',C.k r=k'+1:=by
 have:=c.fuel r hr;exact⟨C.k r-1,ϖ⟩
def LV (a:Lay X S0 C.γ C.L w.heap.size){e:Bool}(h:DX X e (C.γ r).ro (C.γ r).own w w' es){i:bB}(f:i≠r):RX X (C.γ i).ro (C.γ i).own w w':=by
 have no:∀b,b=X.Fd\/b=X.Wg->¬(C.γ r).own b:=λb g c=>by
  have⟨k,l,_⟩:=a.sp r b (.inl c);exact g.elim k l
 refine⟨h.tape,h.output,h.size,h.os,λb g c=>h.keep b g λd=>?_,λ⟨s,j⟩=>⟨s,?_,?_⟩⟩
 .rcases c with c|c
  .exact f (a.apart _ _ b c d)
  .exact a.Ch _ _ b d c
 .rw[h.keep _ a.x5 (no _ (.inl rfl))];exact j.1
 .rw[h.keep _ a.vZ (no _ (.inr rfl))];exact j.2
def SP (a:Lay X S0 C.γ C.L w.heap.size){c:Bool}(h:DX X c (C.γ r).ro (C.γ r).own w w' es){s:Sh}(d:ShAt X w s):ShAt X w' s:=by
 have no:∀b,b=X.Fd\/b=X.Wg->¬(C.γ r).own b:=λb f i=>by
  have⟨e,g,_⟩:=a.sp r b (.inl i);exact f.elim e g
 exact⟨by rw[h.keep _ a.x5 (no _ (.inl rfl))];exact d.1,by rw[h.keep _ a.vZ (no _ (.inr rfl))];exact d.2⟩
def LX (c:Lay X S0 C.γ C.L w.heap.size)(h:ConcM.Eff X.Fd X.Wg w w'){s:Sh}(e:ShAt X w' s)(a:bB):RX X (C.γ a).ro (C.γ a).own w w':=
 ⟨h.tape,h.output,by rw[h.size];exact ι _,h.os,λb _ g=>by
  have⟨d,f,_⟩:=c.sp a b g;exact h.block b d f,λ_=>⟨s,e⟩⟩
def DR (c:Core X P Post S0 C gs w t)(hr:born C.L r):gid C.n0 r<gs.size:=by
 have⟨g,hg,_⟩:=c.sit r hr;exact(Ψ.1 hg).1
def yu {n0:Nat}(a:0<n0){i:Nat}(h0:0<i)(h1:i<n0)(r:bB):gid n0 r≠i:=by cases r<;>simp[gid]<;>omega
def Core.others (c:Core X P Post S0 C gs w t)(hr:born C.L r)(f:∀b,b≠r->RX X (C.γ b).ro (C.γ b).own w w'){s':Sh}(k:∀b,b≠r->(C.L b).sleeps C.s=true->(C.L b).sleeps s'=true\/(mayWake P x=true/\x'.status= .running)):
  ∃i:bB->Nat,∀b,b≠r->born C.L b->∃g,((gs.map (woken P x x' w')).setIfInBounds (gid C.n0 r) x')[gid C.n0 b]? =some g/\Sit X P Post (C.k b) b (C.L b) (C.γ b) (C.ρ b) (i b) (C.ds b) (C.q (gid C.n0 b)) s' g w':=by
 have d:∀b,∃a,b≠r->born C.L b->∃g,((gs.map (woken P x x' w')).setIfInBounds (gid C.n0 r) x')[gid C.n0 b]? =some g/\Sit X P Post (C.k b) b (C.L b) (C.γ b) (C.ρ b) a (C.ds b) (C.q (gid C.n0 b)) s' g w':=λb=>by
  by_cases h:b≠r/\born C.L b
  .have⟨h1,h2⟩:=h
   have⟨g,hg,j⟩:=c.sit b h2;have⟨k',l⟩:=c.kpos h2;rw[l] at j⊢;have⟨a,ha⟩:=j.other (x:=x) (x':=x') (f b h1) (k b h1);exact⟨a,λ_ _=>⟨_,by rw[ConcN.get_map_set _ _ _ _ (λe=>h1 (lL c.uz e).symm),hg];rfl,ha⟩⟩
  .exact⟨0,λh1 h2=>absurd ⟨h1,h2⟩ h⟩
 exact⟨λb=>(d b).choose,λb=>(d b).choose_spec⟩
def xp {g:Nat}{fn:ac0}{pos:String}{es:Ϝ}:∀a∈ofEvents g fn pos es,a.g=g:=λa h=>by obtain⟨e,_,rfl⟩:=Go.Conc.mem_ofEvents h;rfl
def Core.olds (c:Core X P Post S0 C gs w t){fn:ac0}{pos:String}{es:Ϝ}:∀i g,0<i->i<C.n0->((gs.map (woken P x x' w')).setIfInBounds (gid C.n0 r) x')[i]? =some g->QuitsD P (C.q i) (Deaf (t++ofEvents (gid C.n0 r) fn pos es) i) g:=by
 intro i g h0 h1 hg;rw[ConcN.get_map_set _ _ _ _ (yu c.uz h0 h1 r)] at hg;obtain⟨y,b,rfl⟩:=χ.1 hg;have a:=c.old i y h0 h1 b;rw[woken_quitsD a,Deaf_other t (yu c.uz h0 h1 r) _ xp];exact a
def Ag (c:Core X P Post S0 C gs w t)(hr:born C.L r){fn:ac0}{pos:String}{es:Ϝ}{n:Nat}(b:n=gs.size):∀j,n<=j->Deaf (t++ofEvents (gid C.n0 r) fn pos es) j=0:=by
 intro j a;have:=DR c hr;rw[Deaf_other t (g':=gid C.n0 r) ϖ _ xp];exact c.above j ϖ
def xH (c:Core X P Post S0 C gs w t){fn:ac0}{pos:String}{es:Ϝ}{a:bB}(d:a≠r)(b:born C.L a):Deaf (t++ofEvents (gid C.n0 r) fn pos es) (gid C.n0 a)=C.ds a:=by
 rw[Deaf_other t (λe=>d (lL c.uz e).symm) _ xp];exact c.deaf a b
def zo (c:Core X P Post S0 C gs w t){fn:ac0}{pos:String}{es:Ϝ}{b:bB}(a:b≠r){p:Nat}(h:ConcN.RelBy (wA X) t (gid C.n0 b) p):ConcN.RelBy (wA X) (t++ofEvents (gid C.n0 r) fn pos es) (gid C.n0 b) p:=
 ConcN.RelBy.appOther h xp λe=>a (lL c.uz e).symm
def uy {m:Mark}(h:qH m):(MemAct.mark m).touch? =none/\m≠.disable/\m≠.enable/\(∀a,m≠.release a)/\∀B,(MemAct.mark m).low B:=by
 cases m<;>simp[qH] at h<;>simp[MemAct.touch?,MemAct.low]
def ed {e:Event}{m:Mark}(h:e.loc= .mark m):MemAct.ofEvent e= .mark m:=by
 have⟨l,a,b⟩:=e;cases h;cases a<;>cases b<;>rfl
def qI {e:Event}{c:Nat}(h:mP c e.loc):(∀m,MemAct.ofEvent e≠.mark m)/\(∀B,c<B->(MemAct.ofEvent e).low B)/\∀z,(MemAct.ofEvent e).touch? =some z->z.loc=e.loc/\z.write=e.write:=by
 have⟨l,a,b⟩:=e;rcases h with⟨ad,h,hc⟩|h
 .simp only at h
  subst h;refine⟨λm=>by cases a<;>cases b<;>simp[MemAct.ofEvent],λB f=>?_,λz d=>?_⟩
  .have:(MemAct.access ⟨.cell ad,a,b⟩).low B:=by show ad.block<B;omega
   cases a<;>cases b<;>exact this
  .cases a<;>cases b<;>simp[MemAct.ofEvent,MemAct.touch?] at d<;>subst d<;>exact⟨rfl,rfl⟩
 .simp only at h
  subst h;refine⟨λm=>by cases a<;>cases b<;>simp[MemAct.ofEvent],λB f=>?_,λz d=>?_⟩
  .have h1:(MemAct.access ⟨.obj c,a,b⟩).low B:=f
   have h2:(MemAct.close c).low B:=f;cases a<;>cases b<;>first|exact h1|exact h2
  .cases a<;>cases b<;>simp[MemAct.ofEvent,MemAct.touch?] at d<;>subst d<;>exact⟨rfl,rfl⟩
def Me (c:Core X P Post S0 C gs w t)(hr:born C.L r){g:Bool}(h:DX X g (C.γ r).ro (C.γ r).own w w' es){fn:ac0}{pos:String}:
  ∀j∈ofEvents (gid C.n0 r) fn pos es,OkOp C.n0 (AQ X S0) (RK X C.γ C.L) (λr=>(C.γ r).own) (mA X) (wA X) w.heap.size w'.heap.size r j/\j.act≠.mark .disable/\j.act≠.mark .enable:=by
 intro j l;obtain⟨e,s,rfl⟩:=Go.Conc.mem_ofEvents l;rcases h.ev e s with⟨b,a,d⟩|⟨h1,h2,h3⟩|⟨m,h1,h2⟩
 .have⟨e1,e2,o⟩:=qI d
  have i:b<w'.heap.size:=by
   rcases a with a|a|a
   .have:=(c.lay.sp r b (.inl a)).2.2.2;have:=h.size;omega
   .exact a.2
   .have:=(c.lay.sp r b (.inr a.1)).2.2.2;have:=h.size;omega
  refine⟨⟨rfl,e1 _,e1 _,e2 _ i,λz f=>?_⟩,e1 _,e1 _⟩;have⟨k,n⟩:=o z f;rw[k,n];rcases a with a|a|a
  .exact .inr (.inl ⟨b,d,.inl a⟩)
  .exact .inr (.inl ⟨b,d,.inr a⟩)
  .exact .inr (.inr (.inl ⟨⟨hr,.inl ⟨b,a.1,d⟩⟩,a.2⟩))
 .have d:mP X.Fd e.loc:=by rw[h1];exact .inl ⟨_,rfl,rfl⟩
  have⟨e1,e2,o⟩:=qI d;refine⟨⟨rfl,e1 _,e1 _,e2 _ (ψ c.lay.x5 h.size),λz f=>?_⟩,e1 _,e1 _⟩;have⟨k,n⟩:=o z f;rw[k,n];exact .inr (.inr (.inl ⟨⟨hr,.inr ⟨none,h1⟩⟩,h2⟩))
 .have⟨m1,m2,v,p,u⟩:=uy h2
  have q:=ed h1;refine⟨⟨rfl,?_,?_,?_,λz f=>?_⟩,?_,?_⟩<;>simp only[q]
  .simpa using p _
  .simpa using p _
  .exact u _
  .simp only[q,m1] at f;cases f
  .simpa using m2
  .simpa using v
def Aj {g:Nat}{fn:ac0}{pos:String}{es:Ϝ}(hd:Deaf t g=0)(c:∀e∈es,e.loc≠.mark .disable/\e.loc≠.mark .enable){i:Nat}{z:Touch}(n:t.size<=i)(l:touchAt (t++ofEvents g fn pos es) i=some z)(hm:z.loc.isMemory=true):(t++ofEvents g fn pos es).counts i:=by
 refine⟨z,l,hm,.inr ?_⟩;have⟨k,b,_⟩:=touch_of l;have hg:k.g=g:=by
  rcases getElem?_append_cases b with⟨h,_⟩|⟨_,h⟩
  .omega
  .exact xp k h
 have d:=lt_size_of_getElem? b;have f:(ofEvents g fn pos es).size=es.size:=by rw[ofEvents_eq];simp
 refine⟨g,by simp[Trace.g?,b,hg],?_⟩;have:=deaf_inside t g fn pos es (i-t.size) (by rw[Array.size_append,f] at d;omega);rw[show t.size+(i-t.size)=i by omega] at this;rw[this,deafBehind_still (λe m=>c e (by
  have⟨j,a⟩:=Array.mem_iff_getElem?.1 m;rw[Array.getElem?_extract] at a;split at a
  .exact ϵ a
  .cases a)),hd]
def Ov (c:Core X P Post S0 C gs w t)(hr:born C.L r)(U:gs[gid C.n0 r]? =some x){f:Ω->Rk}(L:C.ρ r= .mk f)(N:(C.L r).pc≠.quit)(F:C.ds r=iW (C.L r).pc)(S:stepG P (x6 r) x w= .go x' w' es)(s:DX X (fS (C.L r).pc) (C.γ r).ro (C.γ r).own w w' es)(V:jj P (x6 r) (gX X (fS (C.L r).pc) (C.γ r).ro) (eK (AtR X P Post (C.k r) r) (C.L r) (C.γ r)) (f w) (λb=>(C.γ r).own b\/(w.heap.size<=b/\b<w'.heap.size)) x' w'):
  ∃q ops A,runT P (crowd gs w sl) (gid C.n0 r)=(.next q,ops)/\WZ A (C.ms gs.size)/\Ee X P Post S0 C.n0 A q (t++ops):=by
 have D:=runT_crowd_go (P:=P) (sl:=sl) (i:=gid C.n0 r) U (by rw[DK c.uz];exact S);have⟨K,J⟩:=c.others (x:=x) (x':=x') hr (λd h=>LV c.lay s h) (s':=C.s) λd _ h=> .inl h
 have B:=Me c hr s (fn:=x.frame.fn) (pos:=x.frame.place);have j:∀e∈es,e.loc≠.mark .disable/\e.loc≠.mark .enable:=λe E=>by
  have:=B {g:=gid C.n0 r,fn:=x.frame.fn,pos:=x.frame.place,act:= .ofEvent e} (by rw[ofEvents_eq];exact Ϙ4.2 ⟨e,E,rfl⟩);exact⟨λh=>this.2.1 (ed h),λh=>this.2.2 (ed h)⟩
 have v:Deaf (t++ofEvents (gid C.n0 r) x.frame.fn x.frame.place es) (gid C.n0 r)=C.ds r:=by
  rw[Deaf_own,deafBehind_still j];exact c.deaf r hr
 have G:r≠.m->∀i z,t.size<=i->touchAt (t++ofEvents (gid C.n0 r) x.frame.fn x.frame.place es) i=some z->z.loc.isMemory=true->(t++ofEvents (gid C.n0 r) x.frame.fn x.frame.place es).counts i\/(AQ X S0 z.loc/\z.kind= .atomic):=λ_ i z T Q hm=>by
  by_cases I:iW (C.L r).pc=0
  .exact .inl (Aj (by rw[c.deaf r hr,F,I]) j T Q hm)
  .have E:=s.mute (by simp[fS,I])
   subst E;have⟨O,H,_⟩:=touch_of Q;have:=lt_size_of_getElem? H;simp[ofEvents_none] at this;omega
 have M:=TI.app c.uz c.ap c.ti hr s.size (λO H=>(B O H).1) G;have y:((gs.map (woken P x x' w')).setIfInBounds (gid C.n0 r) x').size=gs.size:=ϛ
 let own':Nat->Prop:=λb=>(C.γ r).own b\/(w.heap.size<=b/\b<w'.heap.size)
 let k:Cf Δ:={C with γ:=upd C.γ r {C.γ r with own:=own'},ρ:=upd C.ρ r (f w),aw:=upd K r 1}
 have u:∀d,(k.γ d).mine=(C.γ d).mine/\(k.γ d).other=(C.γ d).other/\(k.γ d).ro=(C.γ d).ro:=λd=>by
  by_cases e:d=r
  .subst e;simp[k,upd_same]
  .simp[k,upd_ne _ _ e]
 refine⟨_,_,k.ms gs.size,D,.right _ (.left _ _ ⟨r,?_,λd h=>upd_ne _ _ h⟩),k,_,w',sl,rfl,rfl,?_,by rw[y]⟩
 .show Rk.Lt (upd C.ρ r (f w) r) (C.ρ r)
  rw[upd_same,L];exact⟨f,w,rfl,rfl⟩
 .refine⟨c.uz,by rw[y];exact c.size,c.tab,c.fuel,SP c.lay s c.sh,λd n=>?_,λd n=>?_,c.olds,Ag c hr y,λd n=>?_,λh1 h2=>?_,λd h=>?_,λd h=>?_,λd h=>?_,c.lay.grow s.size hr,?_⟩
  .by_cases e:d=r
   .subst e
    refine⟨x',ConcN.get_map_set_same _ _ _ (DR c hr),.inl ⟨N,F,by simp[k,upd_same],?_⟩⟩;simp only[k,upd_same];exact V
   .have⟨g,h1,h2⟩:=J d e n
    refine⟨g,h1,?_⟩;simp only[k,upd_ne _ _ e];exact h2
  .rw[(u d).1];exact c.V3 d n
  .by_cases e:d=r
   .subst e;exact v
   .exact xH c e n
  .have⟨o,W,Y⟩:=c.data h1 h2
   refine⟨o,?_,by rw[(u .a).1,(u .b).1];exact Y⟩;rw[s.keep _ c.lay.DC λH=>?_]
   .exact W
   .have:=(c.lay.xX r).1 H
    cases r with
    |m=>exact ku c.tab rfl this
    |a=>exact h1 this
    |b=>exact h2 this
  .rw[(u d).2.1,(u _).1];exact c.Jc d h
  .rw[(u d).1];exact c.fin d h
  .have⟨p,R⟩:=c.rel d h
   by_cases e:d=r
   .subst e
    have E:=s.mute (by
     revert h
     cases (C.L d).pc<;>simp[past,fS,iW])
    subst E;rw[ofEvents_none,ϐ8];exact⟨p,R⟩
   .exact⟨p,zo c e R⟩
  .refine TI.mono M (λd l h=>?_) (λ_=>Iff.rfl) (λd b h=>?_)
   .exact⟨h.1,by have:=h.2;rw[(u d).2.2] at this;exact this⟩
   .by_cases e:d=r
    .subst e
     simp only[k,upd_same] at h;exact h.imp id λz=>⟨rfl,z⟩
    .simp only[k,upd_ne _ _ e] at h
     exact .inl h
end
end aI
end
end
end Go.Proofs.YtchcmhodnkgojaaGreat
