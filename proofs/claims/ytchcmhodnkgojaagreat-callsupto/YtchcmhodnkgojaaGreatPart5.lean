/- A part. -/
import Derived.Test.YtchcmhodnkgojaaGreatPart4
import GoSem.Dispatch
import Derived.Conc.Own5
import Derived.Conc.CompanyDraw
import Derived.Conc.Listed
import Derived.Control
import Derived.Conc.Own2
set_option linter.all false
set_option maxRecDepth 100000
set_option maxHeartbeats 8000000
namespace Go.Proofs.YtchcmhodnkgojaaGreat
open Value (ren)
open Region (wanted)
open Op (operands)
open MemOp (ofEvents)
open List (range)
noncomputable section
variable {t:θ}{M g i n0 r r1:Nat}{a:Act}{args c:Array Θ}{E S:ac5->Bool}{deaf main str:Bool}{xs:Array ac4}{x:Θ}{o:Oper}{rest σ:List Nat}{oT w:Φ}{P:aa1}{ops:Array Oper}{V own:Nat->Prop}{B b fr:φ}{cs:List φ}{sa:Ω}{Q:Exit->Act->Φ->Prop}{iY:Option Nat}{fn:ac5}{pos:String}
section
open Go.Conc
section
variable {P:aa1}{π:Nat->Nat}{N V:Nat->Prop}
def EH{a:Type}{R:a->a->Prop}{r:Nat}(hv:V r){f f':Option (Addr×θ)->Sem a}(h0:bD P π N V R (f none) (f' none))(h1:∀b u,bD P π N (λi=>V i\/i=b.block) R (f (some (b,u))) (f' (some (bA π b,u)))):
  bD P π N V R (viewAt r>>=f) (viewAt (π r)>>=f'):=by
 unfold viewAt;rw[bind_assoc,bind_assoc];refine bD.shape (k:=λx=>_) hv λx=>?_
 cases x with
 |some y=>exact h0
 |none=>
  refine bD.getObj (k:=λx=>_) λo d=>?_
  cases o with
  |view b u=>exact(h1 b u).weak λi c=>c.elim .inl λe=>.inr (.inr e)
  |_=>first|exact d.elim|exact h0.weak λi c=>.inl c
def wQ{d:Type}{R:d->d->Prop}{a:Addr}(hv:V a.block){f f':Addr->Sem d}(hf:∀s:Addr,bD P π N (λi=>V i\/i=s.block) R (f s) (f' (bA π s))):
  bD P π N V R (Conv.seenAt a>>=f) (Conv.seenAt (bA π a)>>=f'):=by
 unfold Conv.seenAt;simp only[bind_assoc];refine EH hv ?_ λb u=>?_
 exact(hf a).weak λi l=>l.elim id λe=>e▸hv
 dsimp only;have e1:(bA π a).off=a.off:=rfl;have e2:(bA π a).spot=a.spot:=rfl;have m:(bA π b).spot=b.spot:=rfl;have g:(bA π b).block=π b.block:=rfl;have j:(bA π b).off=b.off:=rfl;rw[e1,e2,m,g,j];split;exact hf b;split;exact jm trivial;simp only[pure_bind,bind_assoc];refine cX.bind' λz n h=>?_
 rw[h.1,h.2];cases byteOfCell P P.depth u a.off with
 |none=>exact jm trivial
 |some d=>
  dsimp only;simp only[bind_assoc];refine bD.shape (k:=λx=>_) (.inr rfl) λx=>?_
  cases x with
  |none=>exact jm (α:=Addr) (f:=f) trivial
  |some e=>
   have⟨e,cells⟩:=e;show bD P π N _ R ((if P.cellsOf e=0 then _ else _)>>=f) ((if P.cellsOf e=0 then _ else _)>>=f');by_cases h0:P.cellsOf e=0;rw[κ h0];exact jm trivial;rw[Γ h0,Γ h0];cases cellAtBytes P P.depth e (cells/P.cellsOf e) b.off d with|none=>exact jm (α:=Addr) (f:=f) trivial|some c=>exact hf {b with off:=c}
def ER{r:Nat}(hv:V r):bD P π N V Eq (cellsIn r) (cellsIn (π r)):=by
 unfold cellsIn;refine bD.shape (k:=λx=>_) hv λx=>?_
 cases x with
 |some y=>exact ak rfl
 |none=>
  refine bD.getObj (k:=λx=>_) λo a=>?_
  cases o<;>first|exact a.elim|exact ak rfl
def pV{a:Addr}{u:θ}{n:Nat}(hv:V a.block):bD P π N V Eq (variablesAt a u n) (variablesAt (bA π a) u n):=by
 unfold variablesAt;refine cX.bind' λz b h=>?_
 rw[h.1,h.2];refine bD.shape (k:=λx=>_) hv λx=>?_
 cases x with|some y=>exact ak rfl|none=>exact ak rfl
def qv{s:Addr}(hv:V s.block):bD P π N V (RV π) (do Pure.pure (.pointer (some ⟨<-newObj (.view s t),0,none⟩)):Sem Θ) (do Pure.pure (.pointer (some ⟨<-newObj (.view (bA π s) t),0,none⟩)):Sem Θ):=by
 unfold newObj;exact bD.new (o:=.view s t) trivial (λi a=>by rw[show i=s.block from a];exact hv) λb _=>.pure (by simp[RV,bA])
def np{src b:θ}{x:Θ}(hk:∀k,P.underlying b≠some (.int k))(f:VV V x):bD P π N V (RV π) (Conv.unsafePointer src b x) (Conv.unsafePointer src b (ren π x)):=by
 unfold Conv.unsafePointer;refine(aK src).bind' λe j h=>?_
 obtain⟨rfl,hs⟩:=h;refine(aK b).bind' λd n h=>?_
 obtain⟨rfl,hd⟩:=h;cases x with
 |pointer p=>
  simp only[bn];cases e with
  |pointer t=>cases d with
   |unsafePointer=>cases p with
    |none=>exact ak (by simp[RV])
    |some a=>
     simp only[ι];refine wQ f.ptr λs=>?_
     refine(ER (.inr rfl)).bind' λc g h=>?_
     subst h;refine(dm t).bind' λm l h=>?_
     obtain⟨rfl,_⟩:=h;exact di (qv (.inr rfl)) (ak (by simp[RV]))
   |_=>cases p<;>exact ai
  |unsafePointer=>cases d with
   |pointer u=>cases p with
    |none=>exact ak (by simp[RV])
    |some a=>
     simp only[ι];refine wQ f.ptr λs=>?_
     refine(dm u).bind' λm l h=>?_
     obtain⟨rfl,_⟩:=h;refine(pV (.inr rfl)).bind' λc g h=>?_
     subst h;refine di (ak (by simp[RV])) ?_;refine bD.shape (k:=λx=>_) (.inr rfl) λx=>?_
     cases x with
     |none=>exact aP trivial
     |some y=>
      refine cX.bind' λz o h=>?_
      rw[h.1,h.2];refine cX.bind' λz o h=>?_
      rw[h.1,h.2];have q:=qv (P:=P) (π:=π) (N:=N) (V:=λi=>V i\/i=s.block) (t:=u) (.inr rfl);split;exact jm trivial;exact q
   |unsafePointer=>exact ak (by cases p<;>simp[RV])
   |int k=>exact absurd hd (hk k)
   |_=>cases p<;>exact ai
  |int k=>cases d with
   |unsafePointer=>cases p with
    |none=>exact ai
    |some a=>exact aP trivial
   |_=>cases p<;>exact ai
  |_=>cases d<;>first|exact ai|(cases p<;>exact ai)
 |int k a=>
  cases e with
  |int k=>cases d with
   |unsafePointer=>cases a with
    |ofNat m=>cases m<;>exact aP trivial
    |negSucc m=>exact aP trivial
   |_=>exact ai
  |_=>cases d<;>exact ai
 |_=>cases e<;>first|exact ai|(cases d<;>exact ai)
def sM{α d:Type}{R:d->d->Prop}{f f':α->d->Sem (ForInStep d)}{g:α->α}:∀(l:List α),(∀a∈l,∀b c,R b c->bD P π N V (KH R) (f a b) (f' (g a) c))->∀b c,R b c->bD P π N V R (forIn l b f) (forIn (l.map g) c f')
 |[],_,b,c,h=>by simp only[List.forIn_nil,ϓ7];exact ak h
 |a::l,hf,b,c,h=>by
  simp only[List.forIn_cons,ϴ];refine(hf a ϛ b c h).bind' λx x' e=>?_
  cases x<;>cases x'<;>first|exact e.elim|exact ak e|exact sM l (λa ha=>hf a (by simp[ha])) _ _ e
def uu(x:Θ):bD P π N V (RV π) (Conv.bytesToString x) (Conv.bytesToString (ren π x)):=by
 unfold Conv.bytesToString;cases x with
 |slice a n c=>
  simp only[cg];cases a with
  |none=>exact ak (by simp[RV])
  |some a=>
   simp only[ι];refine(n6 a n).bind' λcs d h=>?_
   rw[show d=_ from h,<-Array.forIn_toList,<-Array.forIn_toList,am2];refine(sM (R:=Eq) _ (λv hv b f e=>?_) _ _ rfl).bind' λr g h=>?_
   subst e;cases v with
   |int k m=>simp only[cR];cases k<;>first|exact ai|exact ak rfl
   |_=>exact ai
   subst h;exact ak (by simp[RV])
 |_=>exact ai
def um(e:θ)(s:Ξ):bD P π N V (RV π) (Conv.stringToBytes e s) (Conv.stringToBytes e s):=by
 unfold Conv.stringToBytes;refine jo.bind' λc f h=>?_
 subst h;dsimp only;have hr:(s.data.map (λb:η=>Value.int .u8 b.toNat)++Array.replicate (c-s.size) (Value.int .u8 0)).map (ren π)=s.data.map (λb:η=>Value.int .u8 b.toNat)++Array.replicate (c-s.size) (Value.int .u8 0):=by
  refine cP λv hv=>?_
  obtain h|h:=ai1.1 hv;obtain⟨b,_,rfl⟩:=ϕ2.1 h;simp;rw[(ϔ7.1 h).2];simp
 generalize s.data.map (λb:η=>Value.int .u8 b.toNat)++Array.replicate (c-s.size) (Value.int .u8 0)=cells at hr⊢;unfold newRow newObj markStringish;have:=bD.new (P:=P) (π:=π) (N:=N) (V:=V) (R:=RV π) (o:=.cells cells e) (k:=λb=>shape b>>=λx=>(match x with|some (_,n)=>freeze {block:=b,off:=n} 1|_=>Pure.pure ())>>=λ_=>Pure.pure (.slice (some ⟨b,0,none⟩) s.size c))
  (k':=λb=>shape b>>=λx=>(match x with|some (_,n)=>freeze {block:=b,off:=n} 1|_=>Pure.pure ())>>=λ_=>Pure.pure (.slice (some ⟨b,0,none⟩) s.size c)) trivial (λ_ h=>h.elim) λb d=>by
  refine bD.shape (k:=λx=>_) (.inr rfl) λx=>?_
  cases x with|none=>exact ak (by simp[RV,bA])|some y=>exact bD.freeze (a:={block:=b,off:=y.2}) (.inr rfl) d (ak (by simp[RV,bA]))
 rw[show et π (.cells cells e)=.cells cells e by simp only[et,hr]]at this;exact this
def acx(P:aa1)(src a:θ):Bool:=match P.underlying src,P.underlying a with
 |some (.int _),some (.int _)|some (.int _),some .string|some .string,some .string=>true
 |some (.slice e),some .string|some .string,some (.slice e)=>(match P.underlying e with|some (.int .u8)=>true|_=>false)
 |some (.pointer _),some .unsafePointer|some .unsafePointer,some (.pointer _)=>true
 |_,_=>false
def EQ{src f:θ}{x:Θ}(g:acx P src f=true)(q:VV V x):bD P π N V (RV π) (convert src f x) (convert src f (ren π x)):=by
 unfold convert;refine(aK src).bind' λr y h=>?_
 obtain⟨rfl,hs⟩:=h;refine(aK f).bind' λB A h=>?_
 obtain⟨rfl,hd⟩:=h;simp only[acx,hs,hd]at g;have i:bD P π N V (RV π) (Pure.pure x) (Pure.pure (ren π x)):=ak rfl;have z:∀k n,bD P π N V (RV π) (Conv.intToInt k n) (Conv.intToInt k n):=λk n=>eE (oN trivial)
 have hf:∀s b k,bD P π N V (RV π) (Conv.floatToInt s b k) (Conv.floatToInt s b k):=λs b k=>eE (ZG ..)
 have o:∀n,bD P π N V (RV π) (Conv.intToString n) (Conv.intToString n):=λn=>eE (oN trivial)
 cases r<;>cases B<;>first|(exfalso;simp at g;done)|skip
 case int.int k k'=>
  cases x with
  |int j n=>simp only[cR];exact z ..
  |float j n=>simp only[dY];exact hf ..
  |pointer a=>cases a<;>exact aP trivial
  |_=>exact aP trivial
 case int.string k=>
  cases x with
  |int j n=>simp only[cR];exact o _
  |string s=>simp only[bU]at i⊢;exact i
  |pointer a=>cases a<;>exact aP trivial
  |_=>exact aP trivial
 case string.string=>
  cases x with
  |int j n=>simp only[cR];exact o _
  |string s=>simp only[bU]at i⊢;exact i
  |pointer a=>cases a<;>exact aP trivial
  |_=>exact aP trivial
 case slice.string e=>
  have l:P.underlying e=some (.int .u8):=by
   cases d:P.underlying e with
   |none=>simp[d]at g
   |some p=>cases p with
    |int k=>cases k<;>first|rfl|(simp[d]at g;done)
    |_=>simp[d]at g
  have m:=uu (P:=P) (π:=π) (N:=N) (V:=V) x;cases x with
  |int j n=>simp only[cR];exact o _
  |string s=>simp only[bU]at i⊢;exact i
  |slice a n c=>
   simp only[cg]at m⊢;cases a<;>exact(aK e).bind' λu w h=>by obtain⟨rfl,d⟩:=h;rw[l]at d;cases d;exact m
  |_=>
   simp only[eB,cR,dY,dB,bU,bn,eu,dn,cg,ee,eM,dz,dV,dy,dO]at m⊢;exact(aK e).bind' λu w h=>by obtain⟨rfl,d⟩:=h;rw[l]at d;cases d;exact m
 case string.slice e=>
  cases x with
  |string s=>
   simp only[bU];refine(aK e).bind' λp v h=>?_
   obtain⟨rfl,d⟩:=h;simp only[d]at g;cases p with
   |int k=>cases k<;>first|exact um e s|(exfalso;simp at g;done)
   |_=>exfalso;simp at g
  |slice a n c=>cases a<;>exact aP trivial
  |pointer a=>cases a<;>exact aP trivial
  |_=>exact aP trivial
 case pointer.unsafePointer t=>
  have:=np (N:=N) (π:=π) (src:=src) (x:=x) (λk h=>by rw[hd]at h;cases h) q;cases x<;>exact this
 case unsafePointer.pointer t=>
  have:=np (N:=N) (π:=π) (src:=src) (x:=x) (λk h=>by rw[hd]at h;cases h) q;cases x<;>exact this
end
section
variable {P:aa1}{π:Nat->Nat}{N V:Nat->Prop}
def I7{α:Type}{k:Option (θ×Nat)->Sem α}(h:∀x,Dead P (k x)):Dead P (.shape r k):=λw a=>h _ w a
def GD{α:Type}{a:Addr}{k:Bool->Sem α}(h:∀x,Dead P (k x)):Dead P (.frozen a k):=λw b=>h _ w b
def MU{α:Type}{m:Mark}{k:Sem α}(h:Dead P k):Dead P (.mark m k):=λw a=>h w a
def DT{α:Type}{k:aa1->Sem α}(h:Dead P (k P)):Dead P (.program k):=λw a=>h w a
def GC{α:Type}{c:Prop}[Decidable c]{s t:Sem α}(h1:Dead P s)(h2:Dead P t):Dead P (if c then s else t):=by
 split;exact h1;exact h2
def Cm{α a:Type}{c:Prop}[Decidable c]{s t:Sem α}{k:α->Sem a}(h1:Dead P (s>>=k))(h2:Dead P (t>>=k)):Dead P ((if c then s else t)>>=k):=by
 split;exact h1;exact h2
def Be{α:Type}{size c n:Nat}{base:Ϣ}{x:Θ}{k:Bool->Sem α}(h:∀b,Dead P (k b)):Dead P (Builtin.mayShare size c n base x>>=k):=by
 have BX:∀(a:Addr)(m:Nat)(f:Bool->Sem α),(∀b,Dead P (f b))->Dead P (Builtin.holdsCells a m>>=f):=by
  intro a m f hf;unfold Builtin.holdsCells;refine I7 λy=>?_
  cases y<;>exact hf _
 unfold Builtin.mayShare;simp only[bind_assoc,pure_bind];cases base with
 |none=>
  simp only[pure_bind];refine Cm (h _) ?_;cases x with
  |slice a _ _=>cases a with
   |none=>exact h _
   |some b=>simp only[bind_assoc,pure_bind];exact BX _ _ _ λ_=>h _
  |_=>exact h _
 |some a=>
  simp only[bind_assoc,pure_bind];refine BX _ _ _ λz=>GD λd=>?_
  refine Cm (h _) ?_;cases x with
  |slice a _ _=>cases a with
   |none=>exact h _
   |some b=>simp only[bind_assoc,pure_bind];exact BX _ _ _ λ_=>h _
  |_=>exact h _
def BG(x:Θ):bD P π N V Eq (Builtin.lenOf x) (Builtin.lenOf (ren π x)):=by
 unfold Builtin.lenOf;cases x with|slice a n c=>simp only[cg];exact ak rfl|string s=>simp only[bU];exact ak rfl|_=>exact ai
def jJ(size n:Nat)(x:Θ):bD P π N V (RC π) (Builtin.firstCells size n x) (Builtin.firstCells size n (ren π x)):=by
 unfold Builtin.firstCells;cases x with
 |slice a m c=>
  simp only[cg];cases a with|none=>exact ak (by simp[RC])|some a=>exact n6 a _
 |string s=>simp only[bU];refine ak ?_;show _=_;exact(cP λv hv=>by obtain⟨b,_,rfl⟩:=ϕ2.1 hv;simp).symm
 |_=>exact ai
def sG(z:ϐ)(a:z.map (ren π)=z)(n:Nat):(Builtin.zeroCells z n).map (ren π)=Builtin.zeroCells z n:=by
 unfold Builtin.zeroCells;exact mD z a ..
def acP(P:aa1)(a:ϫ):Bool:=(match a[0]? with
  |some t=>R8 P t
  |none=>true)&&(match a[1]? with
  |some t=>(match P.underlying t with|some (.int _)=>false|_=>true)
  |none=>false)
def qC(n:Nat):bD P π N V Eq (askRoom n) (askRoom n):=by
 unfold askRoom;split;exact .mark trivial (.pure rfl);exact ak rfl
def Hu{f:ϫ}{t:θ}{args:ϐ}(A:acP P f=true):bD P π N V (RV π) (Builtin.append_ f t args) (Builtin.append_ f t (args.map (ren π))):=by
 unfold Builtin.append_;simp only[ag8];cases h0:f[0]? with
 |none=>exact ai
 |some D=>
  cases h1:args[0]? with
  |none=>exact ai
  |some s=>
    cases h2:args[1]? with
   |none=>exact ai
   |some x=>
    simp only[ι];refine(aK D).bind' λu F h=>?_
    obtain⟨rfl,C⟩:=h;cases u with
    |slice d=>cases s with
     |slice base g l=>
      simp only[cg];refine(dm d).bind' λsize q h=>?_
      obtain⟨rfl,_⟩:=h;simp only[acP,h0,χ]at A;have⟨v,i⟩:=A;have E:zf P d=true:=by simpa[R8,C] using v
      have j:=jJ (P:=P) (π:=π) (N:=N) (V:=V) size g (.slice base g l);rw[cg]at j;cases y:f[1]? with
      |none=>simp[y]at i
      |some B=>
       simp only[bind_assoc];simp only[y]at i;refine(aK B).bind' λu F h=>?_
       obtain⟨rfl,w⟩:=h;have r:∀k,u≠.int k:=λk e=>by simp[w,e]at i
       cases u
       case int k=>exact absurd rfl (r k)
       all_goals
        simp only[pure_bind,Bool.not_false,if_true,ab6,if_false,false_or];refine(BG x).bind' λn I h=>?_
        subst h;refine di ?_ ?_;refine(jJ size n x).bind' λc o h=>?_
        rw[show o=_ from h];cases base with|none=>exact ak (by simp[RV])|some a=>simp only[ι];rw[<-jL,am2];exact(iv _ _ 0).bind' λ_ _ _=>ak (by simp[RV])
        refine(fg d).bind' λ_ _ h=>?_
        obtain⟨rfl,_⟩:=h;refine di uo ((fg d).bind' λ_ _ h=>?_);obtain⟨rfl,_⟩:=h;refine di (.dead (Dead.bind _ (Be λb=>GC (MU (Dead.halt trivial)) (Dead.halt trivial)))) ?_;refine jo.bind' λG _ h=>?_
        subst h;refine(fg d).bind' λ_ _ h=>?_
        obtain⟨rfl,_⟩:=h;refine(qC _).bind' λ_ _ _=>?_
        refine j.bind' λp m h=>?_
        rw[show m=_ from h];refine(jJ size n x).bind' λc o h=>?_
        rw[show o=_ from h];refine(fl E).bind' λz _ h=>?_
        obtain⟨rfl,H,hk⟩:=h;have key:=mr (P:=P) (π:=π) (N:=N) (V:=V) d (p++c++Builtin.zeroCells z.cells (G-(g+n)));rw[Array.map_append,Array.map_append,sG (π:=π) z.cells (by rw[<-jC,fu hk])]at key;refine key.bind' λa a' h=>?_
        rw[show a'=_ from h];exact ak (by simp[RV])
     |_=>exact ai
    |_=>exact ai
def Ot{b:ϫ}{t:θ}{args:ϐ}:bD P π N V (RV π) (Builtin.copy_ b t args) (Builtin.copy_ b t (args.map (ren π))):=by
 unfold Builtin.copy_;simp only[ag8];cases h0:b[0]? with
 |none=>exact ai
 |some f=>
  cases h1:args[0]? with
  |none=>exact ai
  |some s=>cases h2:args[1]? with
   |none=>exact ai
   |some x=>
    simp only[ι];refine(aK f).bind' λu j h=>?_
    obtain⟨rfl,i⟩:=h;cases u with
    |slice d=>cases s with
     |slice base e c=>
      simp only[cg];refine(BG x).bind' λn k h=>?_
      subst h;refine(dm d).bind' λsize _ h=>?_
      obtain⟨rfl,_⟩:=h;refine(jJ size _ x).bind' λc g h=>?_
      rw[show g=_ from h];cases base with|none=>exact ak (by simp[RV,goInt])|some a=>simp only[ι];rw[am2];exact(iv _ _ 0).bind' λ_ _ _=>ak (by simp[RV,goInt])
     |_=>exact ai
    |_=>exact ai
def SR{g:ϫ}{t:θ}{args:ϐ}:bD P π N V (RV π) (Builtin.len_ g t args) (Builtin.len_ g t (args.map (ren π))):=by
 unfold Builtin.len_;simp only[ag8];cases h0:g[0]? with
 |none=>exact ai
 |some l=>
  cases h1:args[0]? with
  |none=>exact ai
  |some s=>
   simp only[ι];refine(aK l).bind' λu q h=>?_
   obtain⟨rfl,p⟩:=h;cases u with
   |string=>cases s with
    |string b=>simp only[bU];exact ak (by simp[RV,goInt])
    |_=>exact ai
   |array n e=>cases s<;>(simp only[eB,cR,dY,dB,bU,bn,eu,dn,cg,ee,eM,dz,dV,dy,dO];exact ak (by simp[RV,goInt]))
   |pointer i=>
    have m:∀{α:Type}(f:TypeDesc->Sem Θ),(∀d,bD P π N V (RV π) (f d) (f d))->bD P π N V (RV π) (underlying i>>=f) (underlying i>>=f):=λf hf=>(aK i).bind' λd _ h=>by obtain⟨rfl,_⟩:=h;exact hf d
    cases s<;>(simp only[eB,cR,dY,dB,bU,bn,eu,dn,cg,ee,eM,dz,dV,dy,dO];refine m (α:=Unit) _ λd=>?_;cases d<;>first|exact ai|exact ak (by simp[RV,goInt]))
   |slice e=>cases s with
    |slice a n c=>simp only[cg];exact ak (by simp[RV,goInt])
    |_=>exact ai
   |map k e=>cases s with
    |map r=>cases r with
     |none=>simp only[ee];exact ak (by simp[RV,goInt])
     |some r=>
      simp only[ee,ι];refine bD.getObj (k:=λx=>_) λo j=>?_
      cases o<;>first|exact j.elim|exact ai|exact ak (by simp[RV,goInt])
    |_=>exact ai
   |chan d e=>cases s with
    |chan r=>cases r with
     |none=>simp only[eM];exact ak (by simp[RV,goInt])
     |some r=>
      simp only[eM,ι];refine bD.getObj (k:=λx=>_) λo j=>?_
      cases o<;>first|exact j.elim|exact ai
    |_=>exact ai
   |_=>exact ai
def SS{b:ϫ}{t:θ}{args:ϐ}:bD P π N V (RV π) (Builtin.cap_ b t args) (Builtin.cap_ b t (args.map (ren π))):=by
 unfold Builtin.cap_;simp only[ag8];cases h0:b[0]? with
 |none=>exact ai
 |some i=>
  cases h1:args[0]? with
  |none=>exact ai
  |some s=>
   simp only[ι];refine(aK i).bind' λu p h=>?_
   obtain⟨rfl,m⟩:=h;cases u with
   |array n e=>cases s<;>(simp only[eB,cR,dY,dB,bU,bn,eu,dn,cg,ee,eM,dz,dV,dy,dO];exact ak (by simp[RV,goInt]))
   |pointer g=>
    have l:∀{α:Type}(f:TypeDesc->Sem Θ),(∀d,bD P π N V (RV π) (f d) (f d))->bD P π N V (RV π) (underlying g>>=f) (underlying g>>=f):=λf hf=>(aK g).bind' λd _ h=>by obtain⟨rfl,_⟩:=h;exact hf d
    cases s<;>(simp only[eB,cR,dY,dB,bU,bn,eu,dn,cg,ee,eM,dz,dV,dy,dO];refine l (α:=Unit) _ λd=>?_;cases d<;>first|exact ai|exact ak (by simp[RV,goInt]))
   |slice e=>cases s with
    |slice a n c=>simp only[cg];exact ak (by simp[RV,goInt])
    |_=>exact ai
   |chan d e=>cases s with
    |chan r=>cases r with
     |none=>simp only[eM];exact ak (by simp[RV,goInt])
     |some r=>
      simp only[eM,ι];refine bD.getObj (k:=λx=>_) λo j=>?_
      cases o<;>first|exact j.elim|exact ai
    |_=>exact ai
   |_=>exact ai
theorem Li{ats:ϫ}{t:θ}{args:ϐ}(hz:(match ats[0]? with|some t=>R8 P t|none=>true)=true):bD P π N V (RV π) (Builtin.clear_ ats t args) (Builtin.clear_ ats t (args.map (Value.ren π))):=by
 unfold Builtin.clear_;simp only[ag8];cases h0:ats[0]? with
 |none=>exact ai
 |some sT=>
  cases h1:args[0]? with
  |none=>exact ai
  |some s=>
   simp only[ι];rw[h0]at hz;refine(aK sT).bind' λu u' h=>?_
   obtain⟨rfl,hu⟩:=h;have fin:∀V:Nat->Prop,bD P π N V (RV π) (Pure.pure (.tuple #[])) (Pure.pure (.tuple #[])):=λ_=>ak (by simp[RV])
   cases s with
   |map r=>cases r with
    |none=>simp only[ee];cases u<;>exact fin _
    |some r=>
     simp only[ee,ι];cases u<;>
     .refine bD.getObj (k:=λx=>_) λo ho=>?_
      cases o with
      |map es c=>
       have e:=bD.setObj (P:=P) (π:=π) (N:=N) (V:=λi=>V i\/i=r\/inner (.map es c) i) (R:=RV π) (r:=r) (o:=.map #[] c) (k:=Pure.pure (.tuple #[])) (k':=Pure.pure (.tuple #[])) trivial (λ_ h=>h.elim) (fin _);simp only[et,Array.map_empty]at e;exact e
      |_=>first|exact ho.elim|exact ai
   |slice a n cp=>cases a with
    |none=>simp only[cg];cases u<;>exact fin _
    |some a=>cases n with
     |zero=>simp only[cg];cases u<;>exact fin _
     |succ n=>
      simp only[cg,ι];cases u with
      |slice elem=>
       have W0:zf P elem=true:=by simpa[R8,hu] using hz
       refine(fl W0).bind' λz _ h=>?_
       obtain⟨rfl,k,hk⟩:=h;have key:=iv (P:=P) (π:=π) (N:=N) (V:=V) a (Builtin.zeroCells z.cells (n+1)).toList 0;rw[<-am2,sG (π:=π) z.cells (by rw[<-jC,fu hk])]at key;exact key.bind' λ_ _ _=>fin _
      |_=>exact ai
   |_=>cases u<;>exact ai
end
section
variable {P:aa1}{π:Nat->Nat}{N V:Nat->Prop}
def GX(c:∀i j,π i=π j->i=j)(a b:Ϣ):(a.map (bA π)==b.map (bA π))=(a==b):=by
 rw[am4];simp only[ai5];constructor;intro h;cases a<;>cases b<;>simp_all;exact zd c h
 intro h;rw[h]
def GW(c:∀i j,π i=π j->i=j)(a b:ϡ):(a.map π==b.map π)=(a==b):=by
 rw[am4];simp only[ai5];constructor;intro h;cases a<;>cases b<;>simp_all;exact c _ _ h
 intro h;rw[h]
def xC{α c γ:Type}(f:α->c)(g:γ->c)(p:c->c->Bool)(q:α->γ->Bool):∀(l:List α)(m:List γ),(∀a∈l,∀b∈m,p (f a) (g b)=q a b)->(((l.map f).zip (m.map g)).all λx=>p x.1 x.2)=((l.zip m).all λx=>q x.1 x.2)
 |[],_,_=>ϛ
 |_::_,[],_=>ϛ
 |a::l,b::m,h=>by simp only[ϴ,List.zip_cons_cons,ϒ9];rw[h a ϛ b ϛ,xC f g p q l m λa ha b d=>h a (by simp[ha]) b (by simp[d])]
def C2(c:∀i j,π i=π j->i=j):∀(n:Nat)(v w:Θ),Instr.sameBits n (ren π v) (ren π w)=Instr.sameBits n v w:=by
 intro n;induction n with
 |zero=>intro v w;cases v<;>cases w<;>simp[Instr.sameBits,GX c,GW c]
 |succ n d=>intro v w;cases v<;>cases w<;>simp[Instr.sameBits,GX c,GW c,d];rw[xC (ren π) (ren π) (Instr.sameBits n) (Instr.sameBits n) _ _ λa _ b _=>d a b]
def wM(P:aa1)(t:θ):Bool:=match P.underlying t with|some .string=>true|_=>false
def CY{t:θ}(c:wM P t=true)(x y:Θ):bD P π N V Eq (Op.equal t x y) (Op.equal t (ren π x) (ren π y)):=by
 unfold Op.equal;rw[show Op.maxDepth=9999+1 from rfl];unfold Op.equalIn;refine(aK t).bind' λu e h=>?_
 obtain⟨rfl,d⟩:=h;simp only[wM,d]at c;cases u with
 |string=>
  cases x with
  |string a=>cases y with
   |string b=>simp only[bU];exact ak rfl
   |_=>exact ai
  |_=>exact ai
 |_=>simp at c
def po{empty:Bool}{t:θ}(a:wM P t=true)(k:Θ):bD P π N V Eq (Instr.checkKey empty 10000 t k) (Instr.checkKey empty 10000 t (ren π k)):=by
 unfold Instr.checkKey;refine(aK t).bind' λu c h=>?_
 obtain⟨rfl,b⟩:=h;simp only[wM,b]at a;cases u with|string=>exact ak rfl|_=>simp at a
def E3(a b:Θ):Instr.sameNow .string (ren π a) (ren π b)=Instr.sameNow .string a b:=by
 cases a<;>cases b<;>simp[Instr.sameNow]
def xu(k:Θ):∀(es:List ai2)(i:Nat),Instr.findNow .string (ren π k) (es.map (od π)) i=(Instr.findNow .string k es i).map (Option.map λp=>(p.1,ren π p.2))
 |[],i=>rfl
 |e::es,i=>by
  simp only[ϴ,Instr.findNow];rw[show(od π e).key=ren π e.key from rfl,E3];cases Instr.sameNow .string k e.key with
  |none=>rfl
  |some b=>cases b with
   |true=>rfl
   |false=>exact xu k es (i+1)
def qz{t:θ}(a:wM P t=true)(k:Θ):∀(es:List ai2)(i:Nat),bD P π N V (λr c=>c=r.map λp=>(p.1,ren π p.2)) (Instr.findAsking t k es i) (Instr.findAsking t (ren π k) (es.map (od π)) i)
 |[],i=>ak rfl
 |e::es,i=>by
  simp only[ϴ,Instr.findAsking];refine(CY a k e.key).bind' λb d h=>?_
  subst h;exact di (ak rfl) (qz a k es (i+1))
def qy{t:θ}(b:wM P t=true)(k:Θ)(es:List ai2):bD P π N V (λr d=>d=r.map λp=>(p.1,ren π p.2)) (Instr.findKey t k es) (Instr.findKey t (ren π k) (es.map (od π))):=by
 unfold Instr.findKey;refine(aK t).bind' λu e h=>?_
 obtain⟨rfl,c⟩:=h;have a:=b;simp only[wM,c]at a;cases u with
 |string=>
  rw[xu];cases Instr.findNow .string k es 0 with|some r=>exact ak rfl|none=>exact qz b k es 0
 |_=>simp at a
def PG(P:aa1)(t:θ):Bool:=match P.underlying t with
 |some (.map k e)=>wM P k&&zf P e
 |_=>true
def Hq{t:θ}(hm:PG P t=true)(x k:Θ)(a:Bool):bD P π N V (RV π) (Instr.lookup t x k a) (Instr.lookup t (ren π x) (ren π k) a):=by
 unfold Instr.lookup;refine(aK t).bind' λu j h=>?_
 obtain⟨rfl,d⟩:=h;simp only[PG,d]at hm;cases u with
 |map kt e=>
  simp only[χ]at hm;cases x with
  |map r=>cases r with
   |none=>
    simp only[ee,Option.map_none,pure_bind];refine(po hm.1 k).bind' λ_ _ _=>?_
    refine(qy hm.1 k #[].toList).bind' λr f h=>?_
    subst h;cases r with
    |some p=>exact ak (by cases a<;>simp[RV])
    |none=>
     refine(fl hm.2).bind' λz i h=>?_
     obtain⟨rfl,n,b⟩:=h;exact ak (by cases a<;>simp[RV,fu b])
   |some r=>
    simp only[ee,ι];refine bD.getObj (k:=λx=>_) λo g=>?_
    cases o with
    |map es c=>
     have e1:(es.map (od π)).isEmpty=es.isEmpty:=by simp[Array.isEmpty]
     have e2:(es.map (od π)).toList=es.toList.map (od π):=am2;simp only[et,Sem.bind,pure_bind,e1,e2];refine(po hm.1 k).bind' λ_ _ _=>?_
     refine(qy hm.1 k _).bind' λr f h=>?_
     subst h;cases r with
     |some p=>exact ak (by cases a<;>simp[RV])
     |none=>
      refine(fl hm.2).bind' λz i h=>?_
      obtain⟨rfl,n,b⟩:=h;exact ak (by cases a<;>simp[RV,fu b])
    |_=>first|exact g.elim|exact ai
  |_=>exact ai
 |_=>exact ai
theorem vP(hi:∀i j,π i=π j->i=j)(old new:Θ):bD P π N V (RV π) (Instr.keyThatStays old new) (Instr.keyThatStays (Value.ren π old) (Value.ren π new)):=by
 unfold Instr.keyThatStays;rw[C2 hi];refine di (ak rfl) (jo.bind' λc c' h=>?_);subst h;exact ak (by by_cases h:c=0<;>simp[RV,h])
def Iw(es:Ϧ)(i:Nat)(k v:Θ):(es.modify i λe=>{e with key:=k,val:=v}).map (od π)=(es.map (od π)).modify i λe=>{e with key:=ren π k,val:=ren π v}:=by
 apply Array.ext;simp;intro j h1 h2;simp only[Array.getElem_map,Array.getElem_modify];split<;>rfl
def AR(g:∀i j,π i=π j->i=j){t:θ}(hm:PG P t=true)(x k v:Θ):bD P π N V Eq (Instr.mapUpdate t x k v) (Instr.mapUpdate t (ren π x) (ren π k) (ren π v)):=by
 unfold Instr.mapUpdate;refine(aK t).bind' λu n h=>?_
 obtain⟨rfl,d⟩:=h;simp only[PG,d]at hm;cases u with
 |map kt e=>
  simp only[χ]at hm;cases x with
  |map r=>cases r with
   |none=>simp only[ee];exact vN
   |some r=>
    simp only[ee,ι];refine bD.getObj (k:=λx=>_) λo f=>?_
    cases o with
    |map es c=>
     have e2:(es.map (od π)).toList=es.toList.map (od π):=am2;simp only[et,Sem.bind,e2];refine(po hm.1 k).bind' λ_ _ _=>?_
     refine(qy hm.1 k _).bind' λq m h=>?_
     subst h;cases q with
     |some p=>
      have⟨i,pv⟩:=p;have l:(((es.map (od π))[i]?).map (·.key)).getD (ren π k)=ren π (((es[i]?).map (·.key)).getD k):=by rw[ag8];cases es[i]? <;>rfl
      simp only[ι,l];refine(vP g _ k).bind' λb a h=>?_
      rw[show a=_ from h,<-Iw];exact bD.setObj (o:=.map (es.modify i λe=>{e with key:=b,val:=v}) c) trivial (λ_ h=>h.elim) (.pure rfl)
     |none=>simp only[Option.map_none];have:=bD.setObj (P:=P) (π:=π) (N:=N) (V:=λi=>V i\/i=r\/inner (.map es c) i) (R:=Eq) (r:=r) (o:=.map (es.push {key:=k,val:=v,born:=c}) (c+1)) (k:=Sem.pure ()) (k':=Sem.pure ()) trivial (λ_ h=>h.elim) (.pure rfl);simp only[et,Array.map_push]at this;exact this
    |_=>first|exact f.elim|exact ai
  |_=>exact ai
 |_=>exact ai
def Le{t:θ}(x:Θ):bD P π N V (RV π) (Instr.range t x) (Instr.range t (ren π x)):=by
 unfold Instr.range;refine(aK t).bind' λu g h=>?_
 obtain⟨rfl,f⟩:=h;have a:∀(V:ϒ)(o:Obj),pY o->(∀i,¬inner o i)->bD P π N V (RV π) (newObj o>>=λb=>Pure.pure (.pointer (some ⟨b,0,none⟩)):Sem Θ) (newObj (et π o)>>=λb=>Pure.pure (.pointer (some ⟨b,0,none⟩)):Sem Θ):=λV o h1 h2=>
  bD.new (o:=o) h1 (λi h=>(h2 i h).elim) λb _=>.pure (by simp[RV,bA])
 cases u with
 |string=>cases x with
  |string s=>simp only[bU,pure_bind];exact a _ (.stringIter s 0) trivial λ_ h=>h
  |_=>exact iu
 |map k e=>cases x with
  |map r=>cases r with
   |none=>simp only[ee,pure_bind];exact a _ (.mapIter none 0 #[] 0) trivial λ_ h=>h
   |some r=>
    simp only[ee,ι];refine bD.getObj (k:=λx=>_) λo d=>?_
    cases o with
    |map es c=>simp only[et,Sem.bind,pure_bind];exact a _ (.mapIter (some r) c #[] c) trivial λ_ h=>h
    |_=>first|exact d.elim|exact ai
  |_=>exact iu
 |_=>exact iu
def Oo(it:Θ)(t:θ):bD P π N V (RV π) (Instr.next it true t) (Instr.next (ren π it) true t):=by
 unfold Instr.next;have c:∀V:Nat->Prop,bD P π N V (RV π) (Pure.pure (.tuple #[.bool false])) (Pure.pure (.tuple #[.bool false])):=λ_=>ak (by simp[RV])
 cases it with
 |pointer a=>cases a with
  |none=>exact ai
  |some a=>
   have⟨r,off,sp⟩:=a;cases off with
   |succ n=>exact ai
   |zero=>
    simp only[bn,ι,bA];refine bD.getObj (k:=λx=>_) λo d=>?_
    cases o with
    |stringIter s pos=>simp only[et,Sem.bind];refine di ?_ (c _);exact bD.setObj (o:=.stringIter s (pos+(Utf8.decode s pos).2)) trivial (λ_ h=>h.elim) (.pure (by simp[RV,goInt]))
    |mapIter m b seen e=>simp only[et,Sem.bind];cases m<;>exact ai
    |_=>first|exact d.elim|exact ai
 |_=>exact ai
end
section
variable {P:aa1}{π:Nat->Nat}{N V:Nat->Prop}
def AS{t:θ}(f:R8 P t=true)(l c:Θ):bD P π N V (RV π) (Instr.makeSlice t l c) (Instr.makeSlice t (ren π l) (ren π c)):=by
 unfold Instr.makeSlice;refine(aK t).bind' λu m h=>?_
 obtain⟨rfl,g⟩:=h;cases u with
 |slice d=>
  have j:zf P d=true:=by simpa[R8,g] using f
  refine(lZ l).bind' λa _ h=>?_
  subst h;refine(lZ c).bind' λb _ h=>?_
  subst h;refine(fg d).bind' λi _ h=>?_
  obtain⟨rfl,_⟩:=h;dsimp only;refine di ?_ ?_;refine di uo (di uo ?_);exact .dead (xx λn=>by simp only[Sem.bind];exact Dead.bind _ (ei _));refine(qC _).bind' λ_ _ _=>?_
  refine(dm d).bind' λn _ h=>?_
  obtain⟨rfl,_⟩:=h;have e:∀z:Array Θ,z.map (ren π)=z->∀k x y,bD P π N V (RV π) (newRow d ((Array.range k).map λi=>z[i%z.size]!)>>=λa=>Pure.pure (.slice (some a) x y)) (newRow d ((Array.range k).map λi=>z[i%z.size]!)>>=λa=>Pure.pure (.slice (some a) x y)):=by intro z f k x y;have key:=mr (P:=P) (π:=π) (N:=N) (V:=V) d ((Array.range k).map λi=>z[i%z.size]!);rw[mD z f]at key;exact key.bind' λa a' h=>by rw[show a'=_ from h];exact ak (by simp[RV])
  refine di ?_ ?_;exact e #[] ϛ _ _ _;refine(fl j).bind' λz _ h=>?_
  obtain⟨rfl,k,hk⟩:=h;exact e _ (by rw[<-jC,fu hk]) _ _ _
 |_=>exact ai
def Oq(x y:Θ):bD P π N V (RV π) (Builtin.min2 x y) (Builtin.min2 (ren π x) (ren π y)):=by
 unfold Builtin.min2;cases x with
 |int k a=>cases y with
  |int k' b=>simp only[cR];exact eE (oN trivial)
  |pointer p=>cases p<;>first|exact ai|exact aP trivial
  |_=>exact ai
 |float k a=>cases y with
  |float k' b=>
   simp only[dY];refine eE ?_;split;exact iU pqc λ_ _=>oN trivial
   all_goals exact oN trivial
  |pointer p=>cases p<;>first|exact ai|exact aP trivial
  |_=>exact ai
 |string a=>cases y with
  |string b=>simp only[bU];exact eE (iU (xc ..) λv _=>iU (BP v) λb _=>by cases b<;>exact oN trivial)
  |pointer p=>cases p<;>first|exact ai|exact aP trivial
  |_=>exact ai
 |pointer p=>cases p with
  |some a=>exact aP trivial
  |none=>cases y with
   |pointer p=>cases p<;>first|exact ai|exact aP trivial
   |_=>exact ai
 |_=>cases y with
  |pointer p=>cases p<;>first|exact ai|exact aP trivial
  |_=>exact ai
def yQ{f f':Θ->Θ->Sem Θ}(hf:∀x y,bD P π N V (RV π) (f x y) (f' (ren π x) (ren π y))):∀(l:ϝ)(x:Θ),bD P π N V (RV π) (l.foldlM f x) ((l.map (ren π)).foldlM f' (ren π x))
 |[],x=>ak rfl
 |y::l,x=>by
  simp only[List.foldlM_cons,ϴ];refine(hf x y).bind' λz a h=>?_
  rw[show a=_ from h];exact yQ hf l z
def SQ{a:ϫ}{t:θ}{args:ϐ}:bD P π N V (RV π) (Builtin.min_ a t args) (Builtin.min_ a t (args.map (ren π))):=by
 unfold Builtin.min_;rw[am2];cases args.toList with|nil=>exact ai|cons x l=>exact yQ Oq l x
def sL:∀(n:Nat)(a:Addr)(acc:Ξ),bD P π N V Eq (loadBytes a acc n) (loadBytes (bA π a) acc n)
 |0,a,acc=>ak rfl
 |n+1,a,acc=>by
  simp only[loadBytes];refine(qx a).bind' λv b h=>?_
  rw[show b=_ from h];cases v with
  |int k m=>simp only[cR];cases k<;>first|exact ai|(rw[<-jL];exact sL n ..)
  |_=>exact ai
def yU{α:Type}{R:α->α->Prop}{f f':Array Θ->Sem α}{args:ϐ}(h1:∀x y,args=#[x,y]->bD P π N V R (f #[x,y]) (f' #[ren π x,ren π y]))(h2:args.size≠2->bD P π N V R (f args) (f' (args.map (ren π)))):bD P π N V R (f args) (f' (args.map (ren π))):=by
 have⟨l⟩:=args
 match l with
 |[x,y]=>simpa using h1 x y rfl
 |[]=>exact h2 ϛ
 |[_]=>exact h2 ϛ
 |_::_::_::_=>exact h2 ϛ
def vM{c:ϫ}{t:θ}{args:ϐ}(i:∀r,V r->¬N r)(hv:∀v∈args,VV V v):bD P π N V (RV π) (Builtin.unsafeString_ c t args) (Builtin.unsafeString_ c t (args.map (ren π))):=by
 refine yU (f:=Builtin.unsafeString_ c t) (f':=Builtin.unsafeString_ c t) (λx y g=>?_) λh=>?_
 subst g;unfold Builtin.unsafeString_;cases x with
 |pointer p=>
  have e:ren π (.pointer p)=.pointer (p.map (bA π)):=bn _;rw[e];refine(lZ y).bind' λn _ h=>?_
  subst h;cases c[0]? with
  |none=>exact ai
  |some pt=>
   refine di uo (di (aP trivial) ?_);cases p with
   |none=>exact di (ak (by simp[RV])) vN
   |some a=>
    have d:V a.block:=(hv _ ϛ).ptr;refine di (ak (by simp[RV])) ?_;refine(yR pt).bind' λe _ h=>?_
    subst h;refine(pV d).bind' λb _ h=>?_
    subst h;refine di ?_ (aP trivial);refine(sL _ a _).bind' λs _ h=>?_
    subst h;exact bD.freeze d (i _ d) (ak (by simp[RV]))
 |_=>exact ai
 have⟨l⟩:=args
 match l,h with
 |[],_=>exact ai
 |[_],_=>exact ai
 |[_,_],h=>exact absurd rfl h
 |_::_::_::_,_=>exact ai
def sy{b:ϫ}{t:θ}{args:ϐ}(hv:∀v∈args,VV V v):bD P π N V (RV π) (Builtin.unsafeSliceData_ b t args) (Builtin.unsafeSliceData_ b t (args.map (ren π))):=by
 have⟨l⟩:=args
 match l,hv with
 |[],_=>exact ai
 |[x],hv=>
  cases x with
  |slice p n c=>
   have e:(Array.mk [Value.slice p n c]).map (ren π)=#[.slice (p.map (bA π)) n c]:=ϛ;rw[e];unfold Builtin.unsafeSliceData_;cases p with
   |none=>exact ak (by simp[RV])
   |some a=>
    have d:V a.block:=hv (.slice (some a) n c) ϛ _ (.slice rfl);refine di (ak (by simp[RV])) ?_;refine(tB d).bind' λx _ h=>?_
    subst h;cases x with
    |some z=>exact ak (by simp[RV])
    |none=>
     refine(yR t).bind' λe _ h=>?_
     subst h;exact qv d
  |_=>exact ai
 |_::_::_,_=>exact ai
def Aq{α:Type}:∀(a:Ask α)(w:Φ),(w.ask a).2.heap=w.heap
 |.done a,w=>rfl
 |.ask what range k,w=>by simp only[World.ask];split;exact Aq ..;exact Aq ..
def Q7{α:Type}{c:Sys}{k:SysRet->Sem α}(h:∀r,Dead P (k r)):Dead P (.sys c k):=by
 intro w f;have e:(w.sys c).2.heap=w.heap:=by unfold World.sys;have:=Aq (Kernel.perform c w.os) w;split;rfl;rename_i r os w' a;rw[a]at this;exact this
 exact h _ _ λb o d=>f b o (by rw[<-e];exact d)
def I8(v:Θ):Dead P (Instr.panic v):=by
 unfold Instr.panic;cases v with
 |iface t v=>exact Dead.halt trivial
 |nilIface=>
  unfold Instr.panicnil;simp only[bind_assoc];refine Q7 λr=>?_
  cases r with|strings a=>refine DT ?_;simp only[pure_bind];exact GC (Dead.halt trivial) (ei _)|_=>exact Dead.halt trivial
 |_=>exact Dead.halt trivial
def jh:∀(l:List FieldStep)(t:θ)(x:ϱ),bD P π N V (λr c=>(∃b,r=.error b/\c=.error b)\/∃t y,r=.ok (t,y)/\c=.ok (t,y.map (ren π))) (followBlind l t x) (followBlind l t (x.map (ren π)))
 |[],t,x=>ak (.inr ⟨_,_,rfl,rfl⟩)
 |s::l,t,x=>by
  simp only[followBlind];refine(aK s.struct).bind' λu _ h=>?_
  obtain⟨rfl,_⟩:=h;cases u with
  |struct fs=>
   dsimp only;cases fs[s.index]? with
   |none=>exact ai
   |some f=>
    dsimp only;cases s.deref with
    |true=>cases x with
     |none=>exact ak (.inl ⟨_,rfl,rfl⟩)
     |some x=>cases x with
      |pointer p=>cases p with
       |none=>simp only[ι,bn];exact ak (.inl ⟨_,rfl,rfl⟩)
       |some a=>simp only[ι,bn];exact jh l f.type none
      |_=>exact ai
    |false=>cases x with
     |none=>exact jh l f.type none
     |some x=>cases x with
      |agg cs=>
       simp only[ι,dV];refine(mq f.type cs f.offset).bind' λv d h=>?_
       obtain⟨rfl,_⟩:=h;exact jh l f.type (some v)
      |_=>exact ai
  |_=>exact ai
def uq:∀(n:Nat)(t:θ)(v:Θ)(name:String),bD P π N V Eq (nilAhead n t v name) (nilAhead n t (ren π v) name)
 |0,_,_,_=>ak rfl
 |n+1,t,v,name=>by
  simp only[nilAhead];refine(fg t).bind' λi _ h=>?_
  obtain⟨rfl,_⟩:=h;cases i.methods.find? (λx=>x.name==name)with
  |none=>exact ai
  |some m=>
   dsimp only;refine(jh _ t (some v)).bind' λr a h=>?_
   obtain⟨b,rfl,rfl⟩|⟨xt,y,rfl,rfl⟩:=h;exact ak rfl;dsimp only;cases m.func with
   |none=>cases y with
    |none=>exact ak rfl
    |some y=>cases y with
     |iface t v=>simp only[ι,dz];exact uq n t v name
     |nilIface=>simp only[ι,dn];exact ak rfl
     |_=>exact ai
   |some q=>
    have⟨f,b⟩:=q;cases b with
    |true=>cases y<;>exact ak rfl
    |false=>
     refine(aK xt).bind' λu _ h=>?_
     obtain⟨rfl,_⟩:=h;cases u with
     |pointer e=>cases y with
      |none=>exact ak rfl
      |some y=>cases y with
       |pointer p=>cases p<;>(simp only[ι,bn];exact ak rfl)
       |_=>simp only[ι,eB,cR,dY,dB,bU,bn,eu,dn,cg,ee,eM,dz,dV,dy,dO];exact ak rfl
     |_=>cases y<;>exact ak rfl
end
section
variable {P:aa1}{π:Nat->Nat}{N V:Nat->Prop}
def Hs(v:Θ):bD P π N V Eq (Extern.Bytes.asByte v) (Extern.Bytes.asByte (ren π v)):=by
 unfold Extern.Bytes.asByte;cases v with
 |int k n=>simp only[cR];cases k<;>first|exact ai|exact ak rfl
 |_=>exact ai
def qw:∀(n:Nat)(a:Addr)(acc:Ξ),bD P π N V Eq (Extern.Bytes.loadBytes a n acc) (Extern.Bytes.loadBytes (bA π a) n acc)
 |0,a,acc=>ak rfl
 |n+1,a,acc=>by
  simp only[Extern.Bytes.loadBytes];refine(qx a).bind' λv b h=>?_
  rw[show b=_ from h];cases v with
  |int k m=>simp only[cR];cases k<;>first|exact ai|(rw[<-jL];exact qw n ..)
  |_=>exact ai
def qB(v:Θ):bD P π N V Eq (Extern.Bytes.bytesOf v) (Extern.Bytes.bytesOf (ren π v)):=by
 unfold Extern.Bytes.bytesOf;cases v with
 |string s=>simp only[bU];exact ak rfl
 |slice a n c=>
  simp only[cg];cases a with|none=>exact ak rfl|some a=>exact qw n a _
 |_=>exact ai
def CV(args:ϐ):bD P π N V (RV π) (Extern.AbiNoEscape.same args) (Extern.AbiNoEscape.same (args.map (ren π))):=by
 have⟨l⟩:=args
 match l with
 |[]=>exact ai
 |[x]=>have e:(Array.mk [x]).map (ren π)=#[ren π x]:=ϛ;rw[e];exact ak rfl
 |_::_::_=>exact ai
def AT(args:ϐ):bD P π N V (RV π) (Extern.BytealgIndexByte.indexByte args) (Extern.BytealgIndexByte.indexByte (args.map (ren π))):=by
 refine yU (f:=Extern.BytealgIndexByte.indexByte) (f':=Extern.BytealgIndexByte.indexByte) (λx y a=>?_) λh=>?_
 refine(qB x).bind' λb _ h=>?_
 subst h;refine(Hs y).bind' λc _ h=>?_
 subst h;cases (range b.size).find? λi=>b[i]! ==c with|none=>exact ak (by simp[RV,goInt])|some i=>exact ak (by simp[RV,goInt])
 have⟨l⟩:=args
 match l,h with
 |[],_=>exact ai
 |[_],_=>exact ai
 |[_,_],h=>exact absurd rfl h
 |_::_::_::_,_=>exact ai
def yP(h0:π 0=0)(a:P.globals.size<=1)(name:String):bD P π N V (RA π) (globalAddr name) (globalAddr name):=by
 unfold globalAddr;refine cX.bind' λz b h=>?_
 rw[h.1,h.2];cases h:P.globals.findIdx? λx=>x.name==name with
 |none=>exact ai
 |some g=>
  have hg:g<P.globals.size:=by have:=Array.findIdx?_eq_some_iff_findIdx_eq.1 h;exact this.1
  have:g=0:=ϖ;subst this;exact ak (by simp[RA,bA,h0])
def CX(h0:π 0=0)(c:P.globals.size<=1)(args:ϐ):bD P π N V (RV π) (Extern.BytealgIndex.index args) (Extern.BytealgIndex.index (args.map (ren π))):=by
 refine yU (f:=Extern.BytealgIndex.index) (f':=Extern.BytealgIndex.index) (λx y e=>?_) λh=>?_
 refine(qB x).bind' λa _ h=>?_
 subst h;refine(qB y).bind' λb _ h=>?_
 subst h;have hm:bD P π N V Eq Extern.BytealgIndex.maxLen Extern.BytealgIndex.maxLen:=by
  unfold Extern.BytealgIndex.maxLen;refine(yP h0 c _).bind' λg g' h=>?_
  rw[show g'=_ from h];refine(qx g).bind' λv d h=>?_
  rw[show d=_ from h];exact lZ v
 refine hm.bind' λm _ h=>?_
 subst h;refine di (aP trivial) (di (aP trivial) ?_);cases (range (a.size+1-b.size)).find? λi=>a.extract i (i+b.size)==b with|none=>exact ak (by simp[RV,goInt])|some i=>exact ak (by simp[RV,goInt])
 have⟨l⟩:=args
 match l,h with
 |[],_=>exact ai
 |[_],_=>exact ai
 |[_,_],h=>exact absurd rfl h
 |_::_::_::_,_=>exact ai
def Ac:∀(n t:Nat)(acc:ϐ),(Extern.BytealgMakeNoZero.digits n t acc).map (ren π)=Extern.BytealgMakeNoZero.digits n t (acc.map (ren π))
 |0,_,_=>rfl
 |n+1,t,acc=>by simp only[Extern.BytealgMakeNoZero.digits];rw[Ac n,Array.map_push,cR]
def yO(g f:ϫ)(args:ϐ):bD P π N V (RV π) (Extern.BytealgMakeNoZero.makeNoZero g f args) (Extern.BytealgMakeNoZero.makeNoZero g f (args.map (ren π))):=by
 have⟨l⟩:=args
 match l with
 |[]=>exact ai
 |[x]=>
  cases x with
  |int k n=>
   have e:(Array.mk [Value.int k n]).map (ren π)=#[.int k n]:=ϛ;rw[e];cases k with
   |i64=>
    unfold Extern.BytealgMakeNoZero.makeNoZero;cases f[0]? with
    |none=>exact ai
    |some t=>
     refine(aK t).bind' λu _ h=>?_
     obtain⟨rfl,_⟩:=h;cases u with
     |slice d=>
      refine di uo ?_;refine jo.bind' λc _ h=>?_
      subst h;refine(qC _).bind' λ_ _ _=>?_
      refine jo.bind' λb _ h=>?_
      subst h;have key:=mr (P:=P) (π:=π) (N:=N) (V:=V) d (Extern.BytealgMakeNoZero.digits c b #[]);rw[Ac,Array.map_empty]at key;refine key.bind' λa a' h=>?_
      rw[show a'=_ from h];exact ak (by simp[RV])
     |_=>exact ai
   |_=>exact ai
  |_=>exact ai
 |_::_::_=>exact ai
def RN(π:ϙ)(S:Ϥ):Next->Next->Prop
 |.value v,n'=>n'=.value (ren π v)
 |.skip,n'=>n'=.skip
 |.enter f aa,n'=>n'=.enter f (aa.map (ren π))/\S f=true
 |_,_=>False
def pX:ac4->Bool
 |.tmp _|.func _=>true
 |.const v=>j7 8 v
 |.global _=>false
def Du:ac4->Bool
 |.const (.pointer none)=>true
 |_=>false
def Ps(P:aa1)(S E:Ϥ)(str:Bool)(c:Call):Bool:=match c.callee with
 |.builtin b=>(match b with
  |.len|.cap|.copy|.min=>true
  |.unsafeSliceData|.unsafeString=>str
  |.append=>acP P c.argTypes
  |.clear=>(match c.argTypes[0]? with|some t=>R8 P t|none=>true)
  |_=>false)
 |.value (.func f)=>S f||E f
 |_=>false
def Pp(P:aa1)(S E:Ϥ)(str:Bool):Op->Bool
 |.move _|.assign _|.pick _ _ _|.box _ _|.load _ _|.store _ _ _|.nilCheck _|.unOp _ _ _|.makeInterface _ _|.makeMap _ _
 |.field _ _ _|.indexAddr _ _ _|.index _ _ _|.range _ _|.extract _ _|.panic _=>true
 |.next _ b=>b
 |.alloc t|.build t _=>zf P t
 |.buildSlice t _ _|.makeSlice t _ _=>R8 P t
 |.binOp a t x y _=>(match a with
  |.eql|.neq=>((eqTy P 20 t||(str&&nC P t))&&!P.eqGuardType P.depth t)||Du x||Du y
  |_=>true)
 |.convert s d _=>acx P s d
 |.slice t _ _ _ _=>(match P.underlying t with|some (.pointer _)=>false|_=>true)
 |.fieldAddr s _ f=>Qt P s f
 |.lookup t _ _ _|.mapUpdate t _ _ _=>PG P t
 |.call c=>Ps P S E str c
 |_=>false
def og(P:aa1)(S E:Ϥ)(str:Bool)(o:Oper):Bool:=Pp P S E str o.op&&o.op.operands.all pX
structure acQ (P:aa1)(π:Nat->Nat)(N:Nat->Prop)(S E:ac5->Bool)(str:Bool)(V:Nat->Prop):Prop where
 inj:∀i j,π i=π j->i=j
 zero:π 0=0
 lS:P.globals.size<=1
 body:∀f,S f=true->∃fn,P.funcs[f]? =some fn/\(fn.name== "runtime.NumGoroutine")=false/\fn.body.isSome=true
 ext:∀f,E f=true->∀(args:Array Θ) (V:Nat->Prop),bD P π N V (RN π S) (callFunc f args) (callFunc f (args.map (Value.ren π)))
 str:str=true->∀r,V r->¬N r
def fQ{s s':Sem Θ}(h:bD P π N V (RV π) s s'):bD P π N V (RN π S) (do Pure.pure (.value (<-s)):Sem Next) (do Pure.pure (.value (<-s')):Sem Next):=h.bind' λv a h=>by rw[show a=_ from h];exact ak rfl
def Wr{s s':Sem Unit}(h:bD P π N V Eq s s'):bD P π N V (RN π S) (do s;Pure.pure .skip:Sem Next) (do s';Pure.pure .skip:Sem Next):=h.bind' λ_ _ _=>ak rfl
def CZ(h:acQ P π N S E str V){f:ac5}(hf:S f=true\/E f=true)(args:ϐ):bD P π N V (RN π S) (callFunc f args) (callFunc f (args.map (ren π))):=by
 obtain hf|hf:=hf;have⟨fn,h1,h2,b⟩:=h.body f hf;unfold callFunc;refine cX.bind' λz c h=>?_
 rw[h.1,h.2,h1];dsimp only;have a:fn.body.isNone=false:=by cases d:fn.body<;>simp_all
 rw[h2,a];exact ak ⟨rfl,hf⟩;exact h.ext f hf args V
def pn {f:ac5}{fn:Func}{e:Array Θ->Sem Θ}(hf:P.funcs[f]? =some fn)(h2:(fn.name== "runtime.NumGoroutine")=false)(d:fn.body.isNone=true)(b:Extern.findNext fn=none)(c:Extern.find fn=some e)(h:bD P π N V (RV π) (e args) (e (args.map (ren π)))):bD P π N V (RN π S) (callFunc f args) (callFunc f (args.map (ren π))):=by
 unfold callFunc;refine cX.bind' λz g a=>?_
 rw[a.1,a.2,hf];dsimp only;rw[h2,d,b];refine bD.mark (m:=.extern f) trivial ?_;show bD P π N V _ (match Extern.find fn with|some e=>_|none=>_) (match Extern.find fn with|some e=>_|none=>_);rw[c];exact fQ h
def V2(h:xs.all pX=true){x:ac4}(a:x∈xs):pX x=true:=ae8.1 h x a
def tC{S E:Ϥ}{str:Bool}(h:acQ P π N S E str V){ρ j:ac4->Θ}{o:Oper}(C:og P S E str o=true)(F:∀x∈o.op.operands,pX x=true->j x=ren π (ρ x)/\VV V (ρ x))(hf:∀f,ρ (.func f)=.func (.func f) #[] #[]/\j (.func f)=.func (.func f) #[] #[])(Z:∀v,ρ (.const v)=v):
  bD P π N V (RN π S) (execOp ρ o) (execOp j o):=by
 have⟨X,B,ty,pos,after,J⟩:=o;simp only[og,χ]at C;have⟨d,A⟩:=C;have g:∀x∈B.operands,j x=ren π (ρ x)/\VV V (ρ x):=λx g=>F x g (V2 A g)
 clear F A;unfold execOp;cases B with
 |move x=>dsimp only;rw[(g x (by simp[operands])).1];exact ak rfl
 |assign x=>dsimp only;rw[(g x (by simp[operands])).1];exact ak rfl
 |pick c a b=>
  dsimp only;rw[(g c (by simp[operands])).1,(g a (by simp[operands])).1,(g b (by simp[operands])).1];refine(Ht _).bind' λt _ h=>?_
  subst h;exact ak (by cases t<;>rfl)
 |alloc t=>exact fQ (Ln d)
 |box t x=>dsimp only;rw[(g x (by simp[operands])).1];exact fQ (ST t _)
 |build t D=>
  dsimp only;have:(D.map λp=>(p.1,j p.2))=(D.map λp=>(p.1,ρ p.2)).map λp=>(p.1,ren π p.2):=by rw[ϕ1];exact al0 λp q=>by simp only[Function.comp];rw[(g p.2 (by simp[operands];exact⟨p.1,q⟩)).1]
  rw[this];exact fQ (Lj d _)
 |buildSlice t n D=>
  dsimp only;have:(D.map λp=>(p.1,j p.2))=(D.map λp=>(p.1,ρ p.2)).map λp=>(p.1,ren π p.2):=by rw[ϕ1];exact al0 λp q=>by simp only[Function.comp];rw[(g p.2 (by simp[operands];exact⟨p.1,q⟩)).1]
  rw[this];exact fQ (yS d n _)
 |load t x=>dsimp only;rw[(g x (by simp[operands])).1];exact fQ (Hr t _)
 |store t x y=>dsimp only;rw[(g x (by simp[operands])).1,(g y (by simp[operands])).1];exact Wr (EI t ..)
 |nilCheck x=>
  dsimp only;rw[(g x (by simp[operands])).1];generalize ρ x=v;have q:∀v:Θ,bD P π N V (RN π S) (Pure.pure (.value v)) (Pure.pure (.value (ren π v))):=λv=>ak rfl
  cases v with
  |pointer p=>cases p with
   |none=>exact vN
   |some a=>have:=q (.pointer (some a));simp only[bn,ι]at this⊢;exact this
  |nilIface=>exact vN
  |nilFunc=>exact vN
  |func fn first Ji=>
   have hf:=q (.func fn first Ji);cases fn with
   |method name=>
    simp only[dO,qL,ag8]at hf⊢;cases first[0]? with
    |none=>exact hf
    |some w=>
     simp only[ι];cases w with
     |nilIface=>exact vN
     |iface t w=>
      simp only[dz];refine cX.bind' λz z' h=>?_
      rw[h.1,h.2];refine(uq _ t w name).bind' λr _ h=>?_
      subst h;exact di (aP trivial) hf
     |_=>simp only[eB,cR,dY,dB,bU,bn,eu,dn,cg,ee,eM,dz,dV,dy,dO];exact hf
   |_=>simp only[dO,qL]at hf⊢;exact hf
  |bool b=>have:=q (.bool b);simp only[eB]at this⊢;exact this
  |int k n=>have:=q (.int k n);simp only[cR]at this⊢;exact this
  |float k n=>have:=q (.float k n);simp only[dY]at this⊢;exact this
  |complex k n m=>have:=q (.complex k n m);simp only[dB]at this⊢;exact this
  |string s=>have:=q (.string s);simp only[bU]at this⊢;exact this
  |slice a n m=>have:=q (.slice a n m);simp only[cg]at this⊢;exact this
  |map r=>have:=q (.map r);simp only[ee]at this⊢;exact this
  |chan r=>have:=q (.chan r);simp only[eM]at this⊢;exact this
  |iface t w=>have:=q (.iface t w);simp only[dz]at this⊢;exact this
  |agg cs=>have:=q (.agg cs);simp only[dV]at this⊢;exact this
  |tuple cs=>have:=q (.tuple cs);simp only[dy]at this⊢;exact this
 |binOp B t x y t2=>
  dsimp only;have R:=g x (by simp[operands]);have U:=g y (by simp[operands]);have nl:∀z,Du z=true->ρ z=.pointer none:=λz G=>by unfold Du at G;split at G;exact Z _;cases G
  have Q:B=.eql\/B=.neq->((eqTy P 20 t=true\/(str&&nC P t)=true)/\P.eqGuardType P.depth t=false)\/ρ x=.pointer none\/ρ y=.pointer none:=by
   rintro(rfl|rfl)
   all_goals
    simp only[Pp,ak7,χ,ϑ6]at d;rcases d with(h1|h1)|h1;exact .inl ⟨h1.1.imp id λh=>by simp[h.1,h.2],h1.2⟩;exact .inr (.inl (nl x h1));exact .inr (.inr (nl y h1))
  rw[R.1,U.1];refine fQ ((EP (n:=20) λe=>(Q e).imp (λh=>⟨h.1.imp id λh=>by simp only[χ]at h;exact h.2,h.2⟩) id).bind' λ_ _ _=>Lk (pe:=str) (n:=20) h.str h.zero h.inj h.lS (λe=>?_) R.2 U.2);obtain h1|h1:=Q e;exact h1.1.imp id .inr;exact .inr (.inl h1)
 |unOp B t x=>dsimp only;rw[(g x (by simp[operands])).1];exact fQ O7
 |convert a b x=>dsimp only;rw[(g x (by simp[operands])).1];exact fQ (EQ d (g x (by simp[operands])).2)
 |makeInterface t x=>dsimp only;rw[(g x (by simp[operands])).1];exact fQ (ut t _)
 |makeMap t r=>
  dsimp only;have:r.map j=(r.map ρ).map (ren π):=by
   cases r with|none=>rfl|some x=>simp[(g x (by simp[operands])).1]
  rw[this];exact fQ (EL t _)
 |makeSlice t x y=>dsimp only;rw[(g x (by simp[operands])).1,(g y (by simp[operands])).1];exact fQ (AS d ..)
 |slice t x l T m=>
  dsimp only;have M:∀z:Option ac4,(∀y,z=some y->y∈(Op.slice t x l T m).operands)->z.map j=(z.map ρ).map (ren π):=λz G=>by
   cases z with|none=>rfl|some y=>simp[(g y (G y rfl)).1]
  rw[(g x (by simp[operands])).1,M l λy e=>by simp[operands,e],M T λy e=>by simp[operands,e],M m λy e=>by simp[operands,e]];refine fQ (EJ t _ _ _ _ λe Y=>?_);simp[Pp,Y]at d
 |fieldAddr t x f=>dsimp only;rw[(g x (by simp[operands])).1];exact fQ (EN d _)
 |field t x f=>dsimp only;rw[(g x (by simp[operands])).1];exact fQ (Lg t _ f)
 |indexAddr t x y=>dsimp only;rw[(g x (by simp[operands])).1,(g y (by simp[operands])).1];exact fQ (EM t ..)
 |index t x y=>dsimp only;rw[(g x (by simp[operands])).1,(g y (by simp[operands])).1];exact fQ (Lf t ..)
 |lookup t x y W=>dsimp only;rw[(g x (by simp[operands])).1,(g y (by simp[operands])).1];exact fQ (Hq d _ _ W)
 |mapUpdate t m k v=>dsimp only;rw[(g m (by simp[operands])).1,(g k (by simp[operands])).1,(g v (by simp[operands])).1];exact Wr (AR h.inj d ..)
 |range t x=>dsimp only;rw[(g x (by simp[operands])).1];exact fQ (Le _)
 |next x b=>cases b with
  |false=>cases d
  |true=>dsimp only;rw[(g x (by simp[operands])).1];exact fQ (Oo ..)
 |entry _=>cases d
 |extract x i=>dsimp only;rw[(g x (by simp[operands])).1];exact fQ (EO _ i)
 |panic x=>exact .dead (Dead.bind _ (I8 _))
 |call c=>
  have⟨u,H,aa⟩:=c;have ha:H.map j=(H.map ρ).map (ren π):=by rw[ϕ1];exact al0 λy O=>(g y (by simp[operands,Call.operands,O])).1
  have L:∀v∈H.map ρ,VV V v:=λv hv=>by obtain⟨y,O,rfl⟩:=ϕ2.1 hv;exact(g y (by simp[operands,Call.operands,O])).2
  simp only[Pp,Ps]at d;dsimp only;unfold resolve;rw[ha];generalize H.map ρ=I at L⊢;cases u with
  |invoke r m=>simp at d
  |builtin b=>
   dsimp only at d;cases b<;>first|(exfalso;simp at d;done)|skip
   case append=>exact fQ (Hu d)
   case cap=>exact fQ SS
   case clear=>exact fQ (Li d)
   case copy=>exact fQ Ot
   case len=>exact fQ SR
   case min=>exact fQ SQ
   case unsafeSliceData=>exact fQ (sy L)
   case unsafeString=>exact fQ (vM (h.str d) L)
  |value f=>
   cases f with
   |func f=>
    dsimp only at d⊢;rw[(hf f).1,(hf f).2];have e1:∀K:Array Θ,#[]++K++#[]=K:=λK=>ϛ
    have:=CZ h (by simpa using d) I;show bD P π N V _ (callFunc f (#[]++I++#[])) (callFunc f (#[]++I.map (ren π)++#[]));rw[e1,e1];exact this
   |_=>simp at d
 |_=>simp[Pp]at d
end
section
variable {π:Nat->Nat}
def fZ:∀(v:Θ),(∀r,Value.Has r v->π r=r)->ren π v=v
 |.bool _,_|.int _ _,_|.float _ _,_|.complex _ _ _,_|.string _,_|.nilFunc,_|.nilIface,_=>ϛ
 |.pointer a,h=>by
  cases a with|none=>simp|some a=>simp[bA,h a.block (.ptr rfl)]
 |.slice a n c,h=>by
  cases a with|none=>simp|some a=>simp[bA,h a.block (.slice rfl)]
 |.map r,h=>by
  cases r with|none=>simp|some r=>simp[h r .map]
 |.chan r,h=>by
  cases r with|none=>simp|some r=>simp[h r .chan]
 |.iface t v,h=>by rw[dz,fZ v λr x=>h r (.iface x)]
 |.agg cs,h=>by rw[dV,cP λv hv=>fZ v λr x=>h r (.agg hv x)]
 |.tuple cs,h=>by rw[dy,cP λv hv=>fZ v λr x=>h r (.tuple hv x)]
 |.func fn f c,h=>by
  rw[dO,cP λv hv=>fZ v λr x=>h r (.first hv x),cP λv hv=>fZ v λr x=>h r (.Ji hv x)];cases fn with|yield l=>simp[qL,h l .yield]|_=>rfl
termination_by v=>SizeOf.sizeOf v
decreasing_by
 all_goals first
  |(simp_wf;have:=ϓ4 ‹_∈_›;omega)
  |(simp_wf;omega)
def rY{f:Θ->Θ}(h:c.map f=c)(a:x∈c):f x=x:=by
 obtain⟨i,b,rfl⟩:=am9.1 a;have:=congrArg (·[i]?) h;simp[b]at this;exact this
def pJ{r:Nat}{v:Θ}(hr:Value.Has r v):ren π v=v->π r=r:=by
 induction hr with
 |ptr h=>intro e;simp[bA]at e;rw[<-h];exact congrArg Addr.block e
 |slice h=>intro e;simp[bA]at e;rw[<-h];exact congrArg Addr.block e
 |map=>intro e;simpa using e
 |chan=>intro e;simpa using e
 |yield=>intro e;simp[qL]at e;exact e.1
 |first b _ a=>intro e;rw[dO]at e;injection e with _ e1 _;exact a (rY e1 b)
 |Ji b _ a=>intro e;rw[dO]at e;injection e with _ _ e1;exact a (rY e1 b)
 |iface _ a=>intro e;rw[dz]at e;injection e with _ e1;exact a e1
 |agg b _ a=>intro e;rw[dV]at e;injection e with e1;exact a (rY e1 b)
 |tuple b _ a=>intro e;rw[dy]at e;injection e with e1;exact a (rY e1 b)
inductive lF (r:Nat):Obj->Prop
 |cells {c:Array Θ}{t:θ}{f:Nat×Nat}{v:Θ} (hv:v∈c) (h:Value.Has r v):lF r (.cells c t f)
 |key {es:Array ai2}{c:Nat}{e:ai2} (he:e∈es) (h:Value.Has r e.key):lF r (.map es c)
 |val {es:Array ai2}{c:Nat}{e:ai2} (he:e∈es) (h:Value.Has r e.val):lF r (.map es c)
 |iter {a:Nat}{b:Array Nat}{c:Nat}:lF r (.mapIter (some r) a b c)
 |view {a:Addr}{t:θ} (h:a.block=r):lF r (.view a t)
 |number {a:Addr}{l:Bool} (h:a.block=r):lF r (.number a l)
def qK{o:Obj}(h:∀r,lF r o->π r=r):et π o=o:=by
 cases o with
 |cells c t f=>simp only[et];rw[cP λv hv=>fZ v λr x=>h r (.cells hv x)]
 |map es c=>
  simp only[et];have:es.map (od π)=es:=by apply Array.ext;simp;intro i h1 h2;rw[Array.getElem_map];unfold od;rw[fZ _ λr x=>h r (.key (ϑ8 _) x),fZ _ λr x=>h r (.val (ϑ8 _) x)]
  rw[this]
 |mapIter m a b c=>cases m with
  |none=>rfl
  |some r=>simp[et,h r .iter]
 |view a t=>simp[et,bA,h a.block (.view rfl)]
 |number a l=>simp[et,bA,h a.block (.number rfl)]
 |_=>rfl
def I0{r:Nat}{o:Obj}(hr:lF r o)(h:et π o=o):π r=r:=by
 cases hr with|cells hv x=>simp only[et]at h;injection h with h1;exact pJ x (rY h1 hv)|key a x=>simp only[et]at h;injection h with h1;obtain⟨i,b,rfl⟩:=am9.1 a;have:=congrArg (·[i]?) h1;simp[b]at this;exact pJ x (congrArg MapEntry.key this)|val a x=>simp only[et]at h;injection h with h1;obtain⟨i,b,rfl⟩:=am9.1 a;have:=congrArg (·[i]?) h1;simp[b]at this;exact pJ x (congrArg MapEntry.val this)|iter=>simpa[et] using h|view x=>simp[et,bA]at h;rw[<-x];exact congrArg Addr.block h|number x=>simp[et,bA]at h;rw[<-x];exact congrArg Addr.block h
def Mp{o:Obj}(h:inner o i):lF i o:=by
 cases o<;>first|exact h.elim|exact .view h.symm|exact .number h.symm
def sg(r M:Nat)(x:Nat):Nat:=if x=r then M else if M<=x then x+1 else x
def X1(hr:r<M):∀i j,sg r M i=sg r M j->i=j:=by
 intro i j h;unfold sg at h;split at h<;>split at h<;>(try split at h)<;>(try split at h)<;>omega
def X2{x:Nat}(h:x≠r)(a:x<M):sg r M x=x:=by unfold sg;rw[Γ h,Γ ϖ]
def SV(hr:r<M):sg r M r≠r:=by unfold sg;rw[κ rfl];omega
end
def iT(H:ϒ)(wL:Φ)(r:Nat):Prop:=r<wL.heap.size/\¬H r
structure LW (H Z:Nat->Prop)(wL:Φ):Prop where
 ok:∀(b:Nat) (o:Obj),wL.heap[b]?=some o->¬H b->¬Z b->pY o
 hid:∀(b:Nat) (o:Obj),wL.heap[b]?=some o->H b->o=.cells #[] 1000000 (0,0)
 qj:∀(b:Nat) (o:Obj),wL.heap[b]?=some o->Z b->∃c t,o=.cells c t (0,c.size)
 low:∀b,H b\/Z b->b<wL.heap.size
 apart:∀b,Z b->¬H b
 zero:iT H wL 0
 Vx:∀(b:Nat) (o:Obj),wL.heap[b]?=some o->¬H b->∀r,lF r o->iT H wL r
section
variable {P:aa1}{π:Nat->Nat}{H Z:Nat->Prop}{wL w:Φ}
def LW.BS(h:LW H Z wL):eV wL:=by
 intro b o a;by_cases e:H b;rw[h.hid b o a e];trivial;by_cases d:Z b;obtain⟨c,t,rfl⟩:=h.qj b o a d;trivial;exact h.ok b o a e d
def LW.az(h:LW H Z wL)(t:eH)(d:Nat):LW H Z (az wL t d):=⟨h.ok,h.hid,h.qj,h.low,h.apart,h.zero,h.Vx⟩
def LW.self(h:LW H Z wL){σ:ϙ}(k:∀i j,σ i=σ j->i=j)(hf:∀i,iT H wL i->σ i=i):WR σ H Z wL wL:=by
 have g:∀(b:Nat)(o:Obj),wL.heap[b]?=some o->¬H b->σ b=b/\et σ o=o:=λb o a d=>
  ⟨hf b ⟨(Ψ.1 a).1,d⟩,qK λr hr=>hf r (h.Vx b o a d r hr)⟩
 refine{inj:=k,tape:=rfl,drawn:=rfl,lt:=λb a d=>by rw[hf b ⟨a,d⟩];exact a,ok:=λb o a d f=>⟨h.ok b o a d f,?_⟩,hid:=h.hid,qj:=λb o a f=>?_,low:=h.low,ic:=λb o a i e=>?_};have⟨e1,e2⟩:=g b o a d;rw[e1,e2];exact a;have⟨e1,e2⟩:=g b o a (h.apart b f);obtain⟨c,t,rfl⟩:=h.qj b o a f;refine⟨c,t,(0,c.size),rfl,?_⟩;rw[e1];simp only[et]at e2;injection e2 with e3;rw[e3];exact a;by_cases d:H b;rw[h.hid b o a d]at e;exact e.elim;exact h.Vx b o a d i (Mp e)
def xz{α:Type}{R:(Nat->Nat)->α->α->Prop}{s:Sem α}(y:P.cellsOf 1000000=0)(h:LW H Z wL)(hs:∀σ:Nat->Nat,(∀i j,σ i=σ j->i=j)->(∀i,iT H wL i->σ i=i)->bD P σ (λb=>H b\/Z b) (iT H wL) (R σ) s s){x:α}(hr:s.run P wL=.ok x oT):
  LW H Z oT/\wL.heap.size<=oT.heap.size/\∀r,¬iT H oT r->∃σ:Nat->Nat,σ r≠r/\R σ x x:=by
 have n:=(hs id (λ_ _ h=>h) λ_ _=>rfl).oG h.BS (λb a=>h.low b a) hr;have q:∀i,iT H wL i->iT H oT i:=λi d=>⟨ω d.1 n.1,d.2⟩
 have key:∀σ:Nat->Nat,(∀i j,σ i=σ j->i=j)->(∀i,iT H oT i->σ i=i)->R σ x x/\WR σ H Z oT oT:=by
  intro σ d hf;have A:=h.self d λi hv=>hf i (q i hv)
  have⟨x',w',D,z,B,C,_,_⟩:=(hs σ d λi hv=>hf i (q i hv)).run y (λb=>Iff.rfl) A (λi hv=>hv) hr (λi v=>hf _ ⟨v,λl=>by have:=h.low _ (.inl l);omega⟩) (es:=#[]);have u:=congrArg Prod.fst z;rw[Sem.runT_fst,hr]at u;simp only[Result.ok.injEq]at u;obtain⟨rfl,rfl⟩:=u;exact⟨B,C⟩
 have mv:∀r,¬iT H oT r->∃σ:Nat->Nat,σ r≠r/\(∀i j,σ i=σ j->i=j)/\∀i,iT H oT i->σ i=i:=by intro r g;refine⟨sg r (max (r+1) (oT.heap.size+1)),SV ϖ,X1 ϖ,λi d=>X2 (λe=>g (e▸d)) (by have:=d.1;omega)⟩
 have w0:=(key id (λ_ _ h=>h) λ_ _=>rfl).2;refine⟨⟨λb o a l k=>(w0.ok b o a l k).1,w0.hid,λb o a k=>?_,w0.low,h.apart,q 0 h.zero,λb o a l r g=>ad2 λhv=>?_⟩,n.1,λr hv=>?_⟩;have⟨c,t,f,e,_⟩:=w0.qj b o a k;exact⟨c,t,e⟩;have⟨σ,m1,m2,p⟩:=mv r hv;have m:σ b=b:=p b ⟨(Ψ.1 a).1,l⟩;have w:=(key σ m2 p).2;refine m1 (I0 g ?_);by_cases k:Z b;obtain⟨c,t,f,rfl,e⟩:=w.qj b o a k;rw[m,a]at e;simp only[ag0,Obj.cells.injEq]at e;simp only[et];rw[<-e.1];have:=(w.ok b o a l k).2;rw[m,a]at this;exact(ag2 this).symm;have⟨σ,m1,m2,p⟩:=mv r hv;exact⟨σ,m1,(key σ m2 p).1⟩
end
abbrev nj:=List (Nat×Θ)
def sl(D:nj):List Nat:=D.map (·.1)
def jP(σ:ϓ):ac4->Bool
 |.tmp t=>!σ.contains t
 |_=>true
def Ds(σ:ϓ)(o:Oper):Bool:=match o.dst with|some t=>!σ.contains t|none=>true
def fS(σ:ϓ)(P:aa1)(S E:Ϥ)(str:Bool)(o:Oper):Bool:=og P S E str o&&(σ.isEmpty||(o.op.operands.all (jP σ)&&Ds σ o))
def fT(σ:ϓ)(P:aa1)(S E:Ϥ)(str:Bool):Code->Bool
 |.skip|.exit _|.label _|.ret=>true
 |.region _ ops _=>ops.all (fS σ P S E str)
 |.seq a b=>fT σ P S E str a&&fT σ P S E str b
 |.cond c a b=>(pX c&&jP σ c)&&fT σ P S E str a&&fT σ P S E str b
 |.block _ b|.loop b|.scope b=>fT σ P S E str b
 |.goto _|.refuse _=>true
 |_=>false
def Pu(σ:ϓ)(ops:Ϝ)(o:Oper):Bool:=σ.isEmpty||match o.guard with
 |none=>true
 |some g=>(ops[g.1]?).all (Ds σ)
def cM(σ:ϓ)(P:aa1)(S E:Ϥ)(str:Bool):Item->Bool
 |.code c|.inLoop c|.inScope c=>fT σ P S E str c
 |.inBlock _=>true
 |.inRegion ops todo=>todo.all λi=>(ops[i]?).all λo=>fS σ P S E str o&&Pu σ ops o
 |_=>false
abbrev zw:=fT []
abbrev Dr:=cM []
def qQ(h:cM σ P S E str (.inRegion ops (i::rest))=true)(a:ops[i]?=some o):fS σ P S E str o=true:=by
 simp only[cM,ϒ9,χ]at h;have:=h.1;rw[a]at this;simp only[Option.all_some,χ]at this;exact this.1
def zv(h:cM σ P S E str (.inRegion ops (i::rest))=true)(a:ops[i]?=some o):Pu σ ops o=true:=by
 simp only[cM,ϒ9,χ]at h;have:=h.1;rw[a]at this;simp only[Option.all_some,χ]at this;exact this.2
def kW(h:cM σ P S E str (.inRegion ops (i::rest))=true):cM σ P S E str (.inRegion ops rest)=true:=by
 simp only[cM,ϒ9,χ]at h⊢;exact h.2
def sU{σ:ϓ}{P:aa1}{S E:Ϥ}{str:Bool}{ops:Ϝ}{id:Nat}{d:Bool}(h:cM σ P S E str (.code (.region id ops d))=true)(l:ϓ):cM σ P S E str (.inRegion ops l)=true:=by
 have h:ops.all (fS σ P S E str)=true:=h;have a:=ae8.1 h;simp only[cM];refine ae7.2 λi _=>?_
 cases c:ops[i]? with
 |none=>rfl
 |some o=>
  simp only[Option.all_some,χ];refine⟨a o (al4 c),?_⟩;unfold Pu;by_cases e:σ.isEmpty=true;rw[e];rfl
  .cases o.guard with
   |none=>simp
   |some g=>
    simp only[ak7];refine .inr ?_;cases b:ops[g.1]? with|none=>rfl|some p=>have:=a p (al4 b);simp only[fS,χ,ak7]at this;exact(this.2.resolve_left e).2
structure Stat (P:aa1)(S E:ac5->Bool)(str:Bool):Prop where
 lS:P.globals.size<=1
 ww:P.cellsOf 1000000=0
 body:∀f,S f=true->∃fn c,P.funcs[f]? =some fn/\(fn.name== "runtime.NumGoroutine")=false/\fn.body=some c/\zw P S E str c=true
 ext:∀f,E f=true->∀(π:Nat->Nat),(∀i j,π i=π j->i=j)->π 0=0->∀(N V:Nat->Prop) (args:Array Θ),bD P π N V (RN π S) (callFunc f args) (callFunc f (args.map (Value.ren π)))
def zu(D:nj)(c:ϐ):Array Θ:=D.foldl (λc p=>c.setIfInBounds p.1 p.2) c
def bF(π:ϙ)(a:Act)(D:nj):Act:={tmps:=zu D (a.tmps.map (ren π)),defers:=[]}
def uP:∀(D:nj)(c:ϐ)(t:Nat),t∉sl D->(zu D c)[t]?=c[t]?
 |[],_,_,_=>rfl
 |p::D,c,t,h=>by
  have h1:t≠p.1:=λe=>h (by simp[sl,e])
  have h2:t∉sl D:=λe=>h (by simp only[sl,ϴ,ac2];exact .inr e)
  show(zu D (c.setIfInBounds p.1 p.2))[t]?=_;rw[uP D _ t h2,ζ λe=>h1 e.symm]
def Dn:∀(D:nj)(c:ϐ)(t:Nat)(v:Θ),t∉sl D->(zu D c).setIfInBounds t v=zu D (c.setIfInBounds t v)
 |[],_,_,_,_=>rfl
 |p::D,c,t,v,h=>by
  have h1:t≠p.1:=λe=>h (by simp[sl,e])
  have h2:t∉sl D:=λe=>h (by simp only[sl,ϴ,ac2];exact .inr e)
  show(zu D (c.setIfInBounds p.1 p.2)).setIfInBounds t v=zu D ((c.setIfInBounds t v).setIfInBounds p.1 p.2);rw[Dn D _ t v h2,Array.setIfInBounds_comm _ _ λe=>h1 e.symm]
def JW{t:Nat}(h:jP σ (.tmp t)=true):t∉σ:=by simpa[jP] using h
def gU(h:Ds σ o=true):∀t,o.dst=some t->t∉σ:=λt e=>by
 unfold Ds at h;rw[e]at h;simpa using h
def mG(h:fS σ P S E str o=true):og P S E str o=true/\(∀x∈o.op.operands,jP σ x=true)/\∀t,o.dst=some t->t∉σ:=by
 simp only[fS,χ,ak7]at h;obtain e|e:=h.2;have:σ=[]:=by simpa using e
 subst this;exact⟨h.1,λx _=>by cases x<;>simp[jP],λt _=>ϛ⟩;exact⟨h.1,ae8.1 e.1,gU e.2⟩
section
variable {P:aa1}{S E:ac5->Bool}{str:Bool}{π:Nat->Nat}{H Z:Nat->Prop}{wL w:Φ}
def Stat.X0(a:Stat P S E str)(d:∀i j,π i=π j->i=j)(h0:π 0=0)(k:str=true->∀b,¬Z b)(V:ϒ)(h:∀i,V i->¬H i):acQ P π (λb=>H b\/Z b) S E str V:=
 {inj:=d,zero:=h0,lS:=a.lS
  body:=λf hf=>by have⟨fn,c,h1,h2,g,_⟩:=a.body f hf;exact⟨fn,h1,h2,by rw[g];rfl⟩
  ext:=λf hf args V=>a.ext f hf π d h0 _ V args
  str:=λhs r hr e=>e.elim (h r hr) (k hs r)}
def kZ(c:ϐ)(i:Nat):(c.map (ren π)).getD i undef=ren π (c.getD i undef):=by
 simp only[ag1,ag8];cases c[i]? <;>simp[undef]
def mX(a:Act)(D:nj){x:ac4}(b:pX x=true)(c:jP (sl D) x=true:=by rfl):(bF π a D).eval x=ren π (a.eval x):=by
 cases x with
 |tmp t=>show(zu D (a.tmps.map (ren π))).getD t ϗ=_;rw[ag1,uP D _ t (JW c),<-ag1];exact kZ ..
 |const v=>exact(fu b).symm
 |global g=>cases b
 |func f=>simp[Act.eval,qL]
def Qp:∀{n:Nat}{v:Θ},j7 n v=true->∀r,¬Value.Has r v:=by
 intro n v h r hr;have:=pJ (π:=λx=>x+1) hr (fu h);omega
def pL{V:ϒ}{a:Act}(ha:∀v∈a.tmps,VV V v){x:ac4}(b:pX x=true):VV V (a.eval x):=by
 cases x with
 |tmp t=>
  show VV V (a.tmps.getD t undef);rw[ag1];cases h:a.tmps[t]? with
  |none=>intro r hr;cases hr with|tuple b _=>simp[undef]at b
  |some v=>exact ha v (al4 h)
 |const v=>exactλr hr=>absurd hr (Qp b r)
 |global g=>cases b
 |func f=>intro r hr;cases hr<;>simp_all
def kI(a:Act)(D:nj)(d:Ϟ)(v:Θ)(hd:∀t,d=some t->t∉sl D:=by intro _ _ h;cases h):(bF π a D).put d (ren π v)=bF π (a.put d v) D:=by
 cases d with|none=>rfl|some t=>simp only[Act.put,bF];rw[Dn D _ t _ (hd t rfl),ϒ8]
def mE{V:ϒ}{a:Act}(ha:∀v∈a.tmps,VV V v){d:Ϟ}{v:Θ}(hv:VV V v):∀u∈(a.put d v).tmps,VV V u:=by
 cases d with
 |none=>exact ha
 |some d=>intro u b;simp only[Act.put]at b;obtain h|h:=Array.mem_or_eq_of_mem_setIfInBounds b;exact ha u h;rw[h];exact hv
def kQ:VV V ϗ:=by intro r hr;cases hr with|tuple hx _=>simp at hx
def wH(ops:Ϝ)(c:ϐ):yielded ops (c.map (ren π))=yielded ops c:=by
 funext j;unfold yielded;cases (ops[j]?).bind (·.dst)with
 |none=>rfl
 |some t=>
  simp only[ϔ5,ag8];cases c[t]? with
  |none=>rfl
  |some v=>cases v<;>simp
def yC{ops:Ϝ}{c:ϐ}{D:nj}{o:Oper}(h:Pu (sl D) ops o=true):wanted o (yielded ops (zu D (c.map (ren π))))=wanted o (yielded ops c):=by
 unfold Pu at h;simp only[ak7]at h;obtain h|h:=h
 .cases D with|nil=>rw[show zu [] (c.map (ren π))=c.map (ren π)from rfl,wH]|cons p D=>simp[sl]at h
 unfold wanted;cases hg:o.guard with
 |none=>rfl
 |some g=>
  rw[hg]at h;simp only at h⊢;have e:yielded ops (zu D (c.map (ren π))) g.1=yielded ops c g.1:=by
   rw[<-wH (π:=π) ops c];unfold yielded;cases a:ops[g.1]? with
   |none=>rfl
   |some p=>
    rw[a]at h;simp only[ϔ5];cases hd:p.dst with|none=>rfl|some t=>simp only[ϔ5];rw[uP D _ t (gU (by simpa using h) t hd)]
  rw[e]
def pT(l:Stat P S E str)(g:∀i j,π i=π j->i=j)(h0:π 0=0)(I:str=true->∀b,¬Z b)(u:LW H Z wL)(A:WR π H Z wL w){a:Act}(D:nj)(ha:∀v∈a.tmps,VV (iT H wL) v){o:Oper}(m:fS (sl D) P S E str o=true){x:Next}{oT:Φ}(hr:(execOp a.eval o).run P wL=.ok x oT)(n:∀i,wL.heap.size+i<oT.heap.size->π (wL.heap.size+i)=w.heap.size+i):
  LW H Z oT/\wL.heap.size<=oT.heap.size/\∃x' w',(execOp (bF π a D).eval o).run P w=.ok x' w'/\RN π S x x'/\WR π H Z oT w'/\Ed π H Z wL oT w w'/\(∀e∈(execOp (bF π a D).eval o).events P w #[],rJ π H Z oT.heap.size e)/\
   (match x with|.value v=>VV (iT H oT) v|.enter f y=>(∀v∈y,VV (iT H oT) v)|_=>True):=by
 have⟨G,c,_⟩:=mG m;have h:∀(π:ϙ)(D:nj),(∀x∈o.op.operands,jP (sl D) x=true)->(∀i j,π i=π j->i=j)->π 0=0->bD P π (λb=>H b\/Z b) (iT H wL) (RN π S) (execOp a.eval o) (execOp (bF π a D).eval o):=λπ D c g h0=>
  tC (l.X0 g h0 I _ λi hv=>hv.2) G (λx hm z=>⟨mX a D z (c x hm),pL ha z⟩) (λf=>⟨rfl,rfl⟩) λv=>rfl
 have self:=xz (R:=λσ=>RN σ S) l.ww u (λσ g hf=>by
  have e:bF σ a []={a with defers:=[]}:=by unfold bF;rw[show zu [] (a.tmps.map (ren σ))=a.tmps.map (ren σ)from rfl,cP λv hv=>fZ v λr hr=>hf r (ha v hv r hr)]
  have:=h σ [] (λx _=>by cases x<;>rfl) g (hf 0 u.zero);rw[e]at this;exact this) hr
 have⟨l1,l2,q⟩:=self;have⟨x',w',p,t,B,C,F,J⟩:=(h π D c g h0).run l.ww (λb=>Iff.rfl) A (λi hv=>hv) hr n (es:=#[]);refine⟨l1,l2,x',w',?_,B,C,F,λe s=>?_,?_⟩;rw[<-Sem.runT_fst P _ w #[],t];have:(execOp (bF π a D).eval o).events P w #[]=p:=congrArg Prod.snd t;rw[this]at s;exact(J e s).resolve_left ϛ
 .cases x with
  |value v=>
   intro r d;refine ad2 λhv=>?_
   have⟨σ,m1,m2⟩:=q r hv;simp only[RN,Next.value.injEq]at m2;exact m1 (pJ d m2.symm)
  |enter f y=>
   intro v hv r d;refine ad2 λk=>?_
   have⟨σ,m1,m2⟩:=q r k;simp only[RN,Next.enter.injEq,true_and]at m2;exact m1 (pJ d (rY m2.1.symm hv))
  |_=>trivial
def EK{N V:ϒ}{α:Type}{f f':α->Sem Θ}(hf:∀x,bD P π N V (RV π) (f x) (f' x)):∀l:List α,bD P π N V (λa b=>b=a.map (ren π)) (l.mapM f) (l.mapM f')
 |[]=>by simp only[List.mapM_nil];exact ak rfl
 |x::l=>by
  simp only[List.mapM_cons];refine(hf x).bind' λv d h=>?_
  rw[show d=_ from h];refine(EK hf l).bind' λc e h=>?_
  subst h;exact ak ϛ
def nq{N V:ϒ}(fn:Func)(c:ϐ):bD P π N V (RV π) (results fn c) (results fn (c.map (ren π))):=by
 unfold results;rw[ϔ3,ϔ3,map_eq_pure_bind,map_eq_pure_bind];simp only[bind_assoc,pure_bind];refine(EK (λr=>?_) _).bind' λb d h=>?_
 .cases r with
  |tmp t=>dsimp only;rw[kZ];exact ak rfl
  |cell a t=>
   dsimp only;rw[kZ];cases c.getD a ϗ with
   |pointer p=>cases p with
    |none=>exact .dead (Dead.bind (s:=asAddr (.pointer none)) _ (ei .nilDeref))
    |some p=>simp only[bn,ι];exact wR t p
   |_=>exact .dead (Dead.bind _ (Dead.halt trivial))
 subst h;refine ak ?_
 match b with
 |[]=>simp[RV]
 |[v]=>simp[RV]
 |_::_::_=>simp[RV]
def pS(k:Stat P S E str)(u:∀i j,π i=π j->i=j)(n:LW H Z wL)(o:WR π H Z wL w)(p:∀v∈c,VV (iT H wL) v)(fn:Func)(hr:(results fn c).run P wL=.ok x oT)(d:∀i,wL.heap.size+i<oT.heap.size->π (wL.heap.size+i)=w.heap.size+i):
  LW H Z oT/\wL.heap.size<=oT.heap.size/\∃w',(results fn (c.map (ren π))).run P w=.ok (ren π x) w'/\WR π H Z oT w'/\Ed π H Z wL oT w w'/\(∀e∈(results fn (c.map (ren π))).events P w #[],rJ π H Z oT.heap.size e)/\VV (iT H oT) x:=by
 have self:=xz (R:=λσ=>RV σ) k.ww n (λσ u hf=>by
  have e:c.map (ren σ)=c:=cP λv hv=>fZ v λr hr=>hf r (p v hv r hr)
  have:=nq (P:=P) (π:=σ) (N:=λb=>H b\/Z b) (V:=iT H wL) fn c;rw[e]at this;exact this) hr
 have⟨l1,l2,m⟩:=self;have⟨x',w',f,l,q,s,t,y⟩:=(nq (P:=P) (π:=π) (N:=λb=>H b\/Z b) (V:=iT H wL) fn c).run k.ww (λb=>Iff.rfl) o (λi hv=>hv) hr d (es:=#[]);have a:x'=ren π x:=q;subst a;refine⟨l1,l2,w',?_,s,t,λe h=>?_,?_⟩;rw[<-Sem.runT_fst P _ w #[],l];have:(results fn (c.map (ren π))).events P w #[]=f:=congrArg Prod.snd l;rw[this]at h;exact(y e h).resolve_left ϛ;intro r g;refine ad2 λhv=>?_
 have⟨σ,m1,m2⟩:=m r hv;exact m1 (pJ g (show x=_ from m2).symm)
end
structure Ctx where
 f0:ac5
 gf:φ
 B:φ
 D0:nj
 CS:List φ
 Tl:List Item->List Item->Prop
 fn:B.fn=f0
 kind:B.kind≠.early
 stop:∀x y,Tl x y->∃l r,x=.inRangeFunc l::r
 exit:∀x y id x',Tl x y->exitTo id x=some x'->∃y',exitTo id y=some y'/\Tl x' y'
 bare:∀x y l,Tl x y->gotoIn l x=none
section
variable (P:aa1)(S E:ac5->Bool)(str:Bool)(π:Nat->Nat)(c:Ctx)
inductive tZ (V:Nat->Prop):ac5->Act->List Item->List Item->List φ->φ->nj->List Item->List φ->Prop
 |bot {a:Act}{t x y:List Item} (ht:∀it∈t,cM (sl c.D0) P S E str it=true) (ha:∀v∈a.tmps,VV V v) (hd:a.defers=[]) (hxy:c.Tl x y):tZ V c.f0 a t x [c.gf] c.B c.D0 y c.CS
 |up {f f1:ac5}{a a1:Act}{t t1 x1 y1:List Item}{ops:Array Oper}{i:Nat}{rest:List Nat}{cs1 MW:List φ}{B1:φ}{D1:nj} (hf:S f=true)
   (ht:∀it∈t,Dr P S E str it=true) (ha:∀v∈a.tmps,VV V v) (hd:a.defers=[]) (hs:tZ V f1 a1 (.inRegion ops (i::rest)::t1) x1 cs1 B1 D1 y1 MW):
   tZ V f a t [] ((base f1).at a1 (.inRegion ops (i::rest)::(t1++x1))::cs1) (base f) [] [] (B1.at (bF π a1 D1) (.inRegion ops (i::rest)::(t1++y1))::MW)
inductive iV (H:Nat->Prop)(wL:Φ):Ω->Ω->Prop
 |run {f:ac5}{a:Act}{t x:List Item}{cs:List φ}{B:φ}{D:nj}{y:List Item}{cs':List φ} (h:tZ P S E str π c (iT H wL) f a t x cs B D y cs'):
   iV H wL (G ((base f).at a (t++x)) cs) (G (B.at (bF π a D) (t++y)) cs')
 |ret {f:ac5}{a:Act}{t x:List Item}{cs:List φ}{B:φ}{D:nj}{y:List Item}{cs':List φ}{todo todo':List Item} (h:tZ P S E str π c (iT H wL) f a t x cs B D y cs'):
   iV H wL (G {(base f).at a todo with mode:=.returning} cs) (G {B.at (bF π a D) todo' with mode:=.returning} cs')
end
section
variable {σ:List Nat}{P:aa1}{S E:ac5->Bool}{str:Bool}{π:Nat->Nat}{c:Ctx}{H Z:Nat->Prop}{wL w:Φ}
def tZ.mono{V g:ϒ}(j:∀i,V i->g i){f:ac5}{a:Act}{t x:ϕ}{cs:Ϙ}{B:φ}{D:nj}{y:ϕ}{b:Ϙ}(h:tZ P S E str π c V f a t x cs B D y b):tZ P S E str π c g f a t x cs B D y b:=by
 induction h with|bot d ha hd e=>exact .bot d (λv hv=>(ha v hv).weak j) hd e|up hf d ha hd _ k=>exact .up hf d (λv hv=>(ha v hv).weak j) hd k
def tZ.base{V:ϒ}{f:ac5}{a:Act}{t x:ϕ}{cs:Ϙ}{B:φ}{D:nj}{y:ϕ}{b:Ϙ}(h:tZ P S E str π c V f a t x cs B D y b):
  B.fn=f/\B.kind≠.early/\a.defers=[]/\(∀it∈t,cM (sl D) P S E str it=true)/\(∀v∈a.tmps,VV V v):=by
 cases h with|bot d ha hd e=>exact⟨c.fn,c.kind,hd,d,ha⟩|up hf d ha hd _=>exact⟨rfl,by simp[Go.Conc.base],hd,d,ha⟩
def tZ.top{V:ϒ}{f:ac5}{a:Act}{t x:ϕ}{cs:Ϙ}{B:φ}{D:nj}{y:ϕ}{b:Ϙ}(h:tZ P S E str π c V f a t x cs B D y b){a':Act}{t':ϕ}(e:∀it∈t',cM (sl D) P S E str it=true)(ha:∀v∈a'.tmps,VV V v)(hd:a'.defers=[]):tZ P S E str π c V f a' t' x cs B D y b:=by
 cases h with|bot _ _ _ d=>exact .bot e ha hd d|up hf _ _ _ hs=>exact .up hf e ha hd hs
def kM{id:Nat}:∀(t k:ϕ),exitTo id (t++k)=match exitTo id t with|some t'=>some (t'++k)|none=>exitTo id k
 |[],k=>rfl
 |it::t,k=>by
  cases it<;>simp only[ϻ,exitTo]<;>first|exact kM t k|skip
  split;rfl;exact kM t k
def tQ{id:Nat}:∀{t t':ϕ},exitTo id t=some t'->∀it∈t',it∈t
 |[],_,h=>by simp[exitTo]at h
 |it::t,t',h=>by
  intro x a;cases it<;>simp only[exitTo]at h<;>first|exact af9 _ (tQ h x a)|skip
  split at h;cases h;exact af9 _ a;exact af9 _ (tQ h x a)
def pK{l:Nat}:∀{b r:Code},fT σ P S E str b=true->findLabel b l=some r->fT σ P S E str r=true
 |.seq x y,r,h,hf=>by
  simp only[fT,χ]at h;simp only[findLabel]at hf;cases a:findLabel x l with
  |none=>rw[a]at hf;exact pK h.2 hf
  |some rest=>rw[a]at hf;cases hf;simp only[fT,χ];exact⟨pK h.1 a,h.2⟩
 |.label l',r,_,hf=>by simp only[findLabel]at hf;split at hf;cases hf;rfl;cases hf
 |.skip,_,_,hf|.region _ _ _,_,_,hf|.cond _ _ _,_,_,hf|.block _ _,_,_,hf|.loop _,_,_,hf|.rangeFunc _ _ _ _,_,_,hf|.exit _,_,_,hf|.scope _,_,_,hf|.goto _,_,_,hf|.ret,_,_,hf|.refuse _,_,_,hf=>by simp[findLabel]at hf
def sZ{l:Nat}:∀(t k:ϕ),(∀it∈t,cM σ P S E str it=true)->(∃t2,(∀it∈t2,cM σ P S E str it=true)/\∀k,gotoIn l (t++k)=some (t2++k))\/∀k,gotoIn l (t++k)=gotoIn l k
 |[],k,_=>.inr λ_=>rfl
 |it::t,k,h=>by
  have c:=sZ (l:=l) t k λx b=>h x (by simp[b])
  cases it with
  |inScope a=>
   cases hf:findLabel a l with
   |some r=>have d:fT σ P S E str a=true:=h (.inScope a) ϛ;refine .inl ⟨.code r::.inScope a::t,λx b=>?_,λk=>by simp[gotoIn,hf]⟩;simp only[ac2]at b;obtain rfl|rfl|b:=b;exact pK d hf;exact d;exact h x (by simp[b])
   |none=>obtain⟨t2,h1,h2⟩|h2:=c;exact .inl ⟨t2,h1,λk=>by simp only[ϻ,gotoIn,hf];exact h2 k⟩;exact .inr λk=>by simp only[ϻ,gotoIn,hf];exact h2 k
  |_=>obtain⟨t2,h1,h2⟩|h2:=c;exact .inl ⟨t2,h1,λk=>by simp only[ϻ,gotoIn];exact h2 k⟩;exact .inr λk=>by simp only[ϻ,gotoIn];exact h2 k
def qr{k:ϕ}{p:Code}:stepG P main (G (b.at a (.code (.scope p)::k)) cs) w=.go (G (b.at a (.code p::.inScope p::k)) cs) w:=by simp[G,stepG,stepG.exec,Frame.at]
def nY{k:ϕ}{p:Code}:stepG P main (G (b.at a (.inScope p::k)) cs) w=.go (G (b.at a k) cs) w:=by simp[G,stepG,stepG.exec,Frame.at]
def tz{k k':ϕ}{l:Nat}(h:gotoIn l k=some k'):stepG P main (G (b.at a (.code (.goto l)::k)) cs) w=.go (G (b.at a k') cs) w:=by simp[G,stepG,stepG.exec,Frame.at,h]
def Res(P:aa1)(S E:Ϥ)(str:Bool)(π:ϙ)(c:Ctx)(main:Bool)(H Z:ϒ)(wL w:Φ)(g sa:Ω)(oT:Φ):Prop:=
 ∃g' w' a,stepG P main g w=.go g' w' a/\iV P S E str π c H oT sa g'/\LW H Z oT/\wL.heap.size<=oT.heap.size/\WR π H Z oT w'/\Ed π H Z wL oT w w'/\∀e∈a,rJ π H Z oT.heap.size e
def db{g g':Ω}(a:LW H Z wL)(b:WR π H Z wL w)(h:stepG P main g w=.go g' w)(hr:iV P S E str π c H wL sa g'):Res P S E str π c main H Z wL w g sa wL:=
 ⟨g',w,#[],h,hr,a,ε _,b,Ed.refl ..,ϛ⟩
def all_cons{it:Item}{t:ϕ}(h:∀x∈it::t,cM σ P S E str x=true):cM σ P S E str it=true/\∀x∈t,cM σ P S E str x=true:=⟨h it ϛ,λx a=>h x (by simp[a])⟩
def eC{it:Item}{t:ϕ}(h1:cM σ P S E str it=true)(h:∀x∈t,cM σ P S E str x=true):∀x∈it::t,cM σ P S E str x=true:=by
 intro x a;obtain rfl|a:=ac2.1 a;exact h1;exact h x a
def put_defers(a:Act)(d:Ϟ)(v:Θ):(a.put d v).defers=a.defers:=by cases d<;>rfl
def SG(A:Stat P S E str)(W:∀i j,π i=π j->i=j)(h0:π 0=0)(R:str=true->∀b,¬Z b)(p:LW H Z wL)(N:WR π H Z wL w){main:Bool}{f:ac5}{a:Act}{t x y:ϕ}{cs q:Ϙ}{B:φ}{D:nj}{ops:Ϝ}{i:Nat}{rest:ϓ}(h:tZ P S E str π c (iT H wL) f a (.inRegion ops (i::rest)::t) x cs B D y q){sa:Ω}{oT:Φ}{es:Ϛ}(hs:stepG P true (G ((base f).at a (.inRegion ops (i::rest)::(t++x))) cs) wL=.go sa oT es)(hn:sF sa)(r:∀i,wL.heap.size+i<oT.heap.size->π (wL.heap.size+i)=w.heap.size+i):Res P S E str π c main H Z wL w (G (B.at (bF π a D) (.inRegion ops (i::rest)::(t++y))) q) sa oT:=by
 have⟨hB,hk,hd,ht,ha⟩:=h.base;have⟨d,n⟩:=all_cons ht;cases g:ops[i]? with
 |none=>simp[G,stepG,stepG.exec,Frame.at,g]at hs;obtain⟨rfl,rfl,rfl⟩:=hs;refine db (g':=G (B.at (bF π a D) (.inRegion ops rest::(t++y))) q) p N ?_ ?_;simp[G,stepG,stepG.exec,Frame.at,g,Frame.finish,bF];have:=iV.run (P:=P) (S:=S) (E:=E) (str:=str) (π:=π) (c:=c) (H:=H) (wL:=wL) (h.top (t':=.inRegion ops rest::t) (a':=a) (eC (kW d) n) ha hd);simpa[G,Frame.at,Frame.finish,g] using this
 |some o=>
  have xo:fS (sl D) P S E str o=true:=qQ d g;have⟨Q,L,l⟩:=mG xo;cases k:wanted o (yielded ops a.tmps)with
  |false=>
   rw[stepG_unwanted g k]at hs;cases hs;refine db p N (stepG_unwanted g (by rw[show(bF π a D).tmps=zu D (a.tmps.map (ren π))from rfl,yC (zv d g)];exact k)) ?_;have e:(bF π a D).put o.dst undef=bF π (a.put o.dst undef) D:=by
    have:=kI (π:=π) a D o.dst undef l
    rwa [show ren π undef=undef by simp[undef]]at this
   rw[e];exact iV.run (t:=.inRegion ops rest::t) (h.top (eC (kW d) n) (mE ha kQ) ((put_defers ..).trans hd))
  |true=>
   have s:wanted o (yielded ops (bF π a D).tmps)=true:=by rw[show(bF π a D).tmps=zu D (a.tmps.map (ren π))from rfl,yC (zv d g)];exact k
   have z:(base f).kind≠.early:=by simp[base]
   cases hr:(execOp a.eval o).run P wL with
   |halt hh u=>
    exfalso;have J:mH hh:=by
     have F7:bD P id (λb=>H b\/Z b) (iT H wL) (RN id S) (execOp a.eval o) (execOp (bF id a D).eval o):=
      tC (A.X0 (λ_ _ h=>h) rfl R _ λi hv=>hv.2) Q (λx hm hx=>⟨mX a D hx (L x hm),pL ha hx⟩) (λf=>⟨rfl,rfl⟩) λv=>rfl
     exact F7.WV p.BS (λb hb=>p.low b hb) hr
    rw[stepG_oper g k]at hs;have ac:(CallKind.normal==CallKind.early)=false:=rfl;cases hh with
    |panic v=>simp[stepG.apply,hr,Frame.at,GStep.after]at hs;obtain⟨rfl,_⟩:=hs;exact hn.calm _ rfl
    |stuck m=>simp[stepG.apply,hr,Frame.at,GStep.after]at hs
    |unsupported u=>cases u<;>first|exact J.elim|(simp[stepG.apply,hr,Frame.at,GStep.after]at hs;done)
    |_=>exact J.elim
   |ok V u=>
    have Y:∃U,V=U:=⟨V,rfl⟩
    cases V with
    |value v=>
     rw[stepG_value g k z hr]at hs;cases hs;have⟨l1,l2,x',w',e1,e2,K,F,I,T⟩:=pT A W h0 R p N D ha xo hr r;cases e2;refine⟨_,w',_,stepG_value g s hk e1,?_,l1,l2,K,F,λe O=>I e (mem_listed O)⟩;rw[kI _ _ _ _ l];have hm:∀i,iT H wL i->iT H oT i:=λi hv=>⟨ω hv.1 l2,hv.2⟩
     exact iV.run (t:=.inRegion ops rest::t) ((h.mono hm).top (eC (kW d) n) (mE (λv hv=>(ha v hv).weak hm) T) ((put_defers ..).trans hd))
    |skip=>
     rw[stepG_none g k z hr]at hs;cases hs;have⟨l1,l2,x',w',e1,e2,K,F,I,T⟩:=pT A W h0 R p N D ha xo hr r;cases e2;refine⟨_,w',_,stepG_none g s hk e1,?_,l1,l2,K,F,λe O=>I e (mem_listed O)⟩;have e:(bF π a D).put o.dst undef=bF π (a.put o.dst undef) D:=by
      have:=kI (π:=π) a D o.dst undef l
      rwa [show ren π undef=undef by simp[undef]]at this
     rw[e];have hm:∀i,iT H wL i->iT H oT i:=λi hv=>⟨ω hv.1 l2,hv.2⟩
     exact iV.run (t:=.inRegion ops rest::t) ((h.mono hm).top (eC (kW d) n) (mE (λv hv=>(ha v hv).weak hm) kQ) ((put_defers ..).trans hd))
    |enter f2 C=>
     rw[stepG_enter g k z hr]at hs;cases hs;have⟨l1,l2,x',w',e1,e2,K,F,I,T⟩:=pT A W h0 R p N D ha xo hr r;obtain⟨rfl,Sg⟩:=e2;have⟨fn,cd,b1,b2,b3,b4⟩:=A.body f2 Sg;refine⟨_,w',_,stepG_enter g s hk e1,?_,l1,l2,K,F,λe O=>I e (mem_listed O)⟩;have hm:∀i,iT H wL i->iT H oT i:=λi hv=>⟨ω hv.1 l2,hv.2⟩
     have X:=tZ.up (f:=f2) (a:={tmps:=C++Array.replicate (fn.ntmps-C.size) undef,defers:=[]}) (t:=[.code cd]) Sg (λit M=>by simp at M;subst M;exact b4)
      (λv hv=>by obtain hv|hv:=ai1.1 hv;exact T v hv;rw[(ϔ7.1 hv).2];exact kQ) rfl (h.mono hm)
     have:=iV.run X;rw[enter_at _ b1 b3,enter_at _ b1 b3];have er:bF π {tmps:=C++Array.replicate (fn.ntmps-C.size) undef,defers:=[]} []={tmps:=C.map (ren π)++Array.replicate (fn.ntmps-(C.map (ren π)).size) undef,defers:=[]}:=by simp[bF,zu,undef]
     rw[er]at this;exact this
    |_=>exfalso;have:=pT A (λ_ _ h=>h) rfl R p (p.self (σ:=id) (λ_ _ h=>h) λ_ _=>rfl) D ha xo hr λi _=>rfl;have⟨_,_,x',w',_,e2,_⟩:=this;exact e2.elim
def WR.draw(a:WR π H Z wL w):WR π H Z {wL with drawn:=wL.drawn+1} {w with drawn:=w.drawn+1}:=
 {inj:=a.inj,tape:=a.tape,drawn:=by show w.drawn+1=wL.drawn+1;rw[a.drawn],lt:=a.lt,ok:=a.ok,hid:=a.hid,qj:=a.qj,low:=a.low,ic:=a.ic}
def LW.draw(a:LW H Z wL):LW H Z {wL with drawn:=wL.drawn+1}:=⟨a.ok,a.hid,a.qj,a.low,a.apart,a.zero,a.Vx⟩
def Ex(O:Stat P S E str)(R:∀i j,π i=π j->i=j)(h0:π 0=0)(U:str=true->∀b,¬Z b)(g:LW H Z wL)(e:WR π H Z wL w){main:Bool}{f:ac5}{a:Act}{t x y:ϕ}{cs u:Ϙ}{B:φ}{D:nj}(h:tZ P S E str π c (iT H wL) f a t x cs B D y u){sa:Ω}{oT:Φ}{es:Ϛ}(hs:stepG P true (G ((base f).at a (t++x)) cs) wL=.go sa oT es)(M:sF sa)(K:∀i,wL.heap.size+i<oT.heap.size->π (wL.heap.size+i)=w.heap.size+i):Res P S E str π c main H Z wL w (G (B.at (bF π a D) (t++y)) u) sa oT:=by
 have⟨N,hk,hd,L,ha⟩:=h.base;cases t with
 |nil=>
  cases h with
  |bot _ _ _ k=>obtain⟨I,r,rfl⟩:=c.stop _ _ k;simp[G,stepG,stepG.exec,Frame.at]at hs
  |up hf _ _ _ z=>simp only[ϸ]at hs⊢;rw[stepG_end]at hs;cases hs;exact db g e stepG_end (iV.ret (.up hf L ha hd z))
 |cons it t=>
  have⟨h1,d⟩:=all_cons L;simp only[ϻ]at hs⊢;cases it with
  |code T=>
   cases T with
   |skip=>rw[stepG_skip]at hs;cases hs;exact db g e stepG_skip (.run (h.top d ha hd))
   |label l=>rw[stepG_label]at hs;cases hs;exact db g e stepG_label (.run (h.top d ha hd))
   |ret=>rw[stepG_ret']at hs;cases hs;exact db g e stepG_ret' (.ret h)
   |seq p q=>simp only[cM,fT,χ]at h1;rw[stepG_seq]at hs;cases hs;exact db g e stepG_seq (iV.run (t:=.code p::.code q::t) (h.top (eC h1.1 (eC h1.2 d)) ha hd))
   |cond o p q=>
    simp only[cM,fT,χ]at h1;have v:=mX (π:=π) a D h1.1.1.1 h1.1.1.2;cases F:a.eval o with
    |bool b=>rw[F,eB]at v;rw[stepG_cond F]at hs;cases hs;exact db g e (stepG_cond v) (iV.run (t:=.code (if b then p else q)::t) (h.top (eC (by cases b;exact h1.2;exact h1.1.2) d) ha hd))
    |_=>exfalso;have n:=Frame.eval_at (base f) a (.code (.cond o p q)::(t++x)) o;simp only[Frame.at]at n;simp[G,stepG,stepG.exec,Frame.at,n,F]at hs
   |block id p=>rw[stepG_block]at hs;cases hs;exact db g e stepG_block (iV.run (t:=.code p::.inBlock id::t) (h.top (eC h1 (eC rfl d)) ha hd))
   |loop p=>rw[stepG_loop]at hs;cases hs;exact db g e stepG_loop (iV.run (t:=.code p::.inLoop p::t) (h.top (eC h1 (eC h1 d)) ha hd))
   |exit id=>
    have m:=kM (id:=id) t x;have s:=kM (id:=id) t y;cases n:exitTo id t with
    |some t2=>rw[n]at m s;rw[stepG_exit m]at hs;cases hs;exact db g e (stepG_exit s) (.run (h.top (λit C=>d it (tQ n it C)) ha hd))
    |none=>
     rw[n]at m s;dsimp only at m s;cases h with
     |bot _ _ _ k=>
      cases A:exitTo id x with
      |none=>exfalso;rw[A]at m;simp[G,stepG,stepG.exec,Frame.at,m,base]at hs
      |some W=>have⟨V,Q,J⟩:=c.exit _ _ _ _ k A;rw[A]at m;rw[Q]at s;rw[stepG_exit m]at hs;cases hs;exact db g e (stepG_exit s) (iV.run (t:=[]) (.bot ϛ ha hd J))
     |up hf _ _ _ z=>exfalso;simp[exitTo]at m;simp[G,stepG,stepG.exec,Frame.at,n,base]at hs
   |region id ops draw=>
    cases draw with
    |false=>rw[stepG_region]at hs;cases hs;exact db g e stepG_region (iV.run (t:=.inRegion ops (range ops.size)::t) (h.top (eC (sU h1 _) d) ha hd))
    |true=>rw[stepG_region_draw]at hs;cases hs;refine⟨_,_,#[],stepG_region_draw,?_,g.draw,ε _,e.draw,⟨ε _,ϛ,λ_ _ _=>rfl,rfl,rfl,rfl,Nat.le_succ _⟩,ϛ⟩;rw[show w.tape w.drawn (.order B.fn id)=wL.tape wL.drawn (.order (base f).fn id) by rw[e.tape,e.drawn,N];rfl];exact iV.run (t:=.inRegion ops _::t) (tZ.top (h.mono λi hv=>hv) (eC (sU h1 _) d) ha hd)
   |scope p=>rw[qr]at hs;cases hs;exact db g e qr (iV.run (t:=.code p::.inScope p::t) (h.top (eC h1 (eC h1 d)) ha hd))
   |refuse I=>simp[G,stepG,stepG.exec,Frame.at]at hs
   |goto l=>
    obtain⟨t2,ht2,hg⟩|hg:=sZ (l:=l) t x d;rw[tz (hg x)]at hs;cases hs;exact db g e (tz (hg y)) (iV.run (t:=t2) (h.top ht2 ha hd));exfalso;have A:gotoIn l x=none:=by
     cases h with|bot _ _ _ k=>exact c.bare _ _ _ k|up=>rfl
    have:=hg x;rw[A]at this;simp[G,stepG,stepG.exec,Frame.at,this,base]at hs
   |_=>simp[cM,fT]at h1
  |inBlock id=>rw[stepG_inBlock]at hs;cases hs;exact db g e stepG_inBlock (.run (h.top d ha hd))
  |inScope p=>rw[nY]at hs;cases hs;exact db g e nY (.run (h.top d ha hd))
  |inLoop p=>rw[stepG_inLoop]at hs;cases hs;exact db g e stepG_inLoop (iV.run (t:=.code p::.inLoop p::t) (h.top (eC h1 (eC h1 d)) ha hd))
  |inRegion ops todo=>
   cases todo with
   |nil=>rw[stepG_region_end]at hs;cases hs;exact db g e stepG_region_end (.run (h.top d ha hd))
   |cons i rest=>exact SG O R h0 U g e h hs M K
  |_=>simp[cM]at h1
def step_ret(K:Stat P S E str)(U:∀i j,π i=π j->i=j)(Q:LW H Z wL)(R:WR π H Z wL w){main:Bool}{f:ac5}{a:Act}{t x y:ϕ}{cs l:Ϙ}{B:φ}{D:nj}{todo todo':ϕ}(h:tZ P S E str π c (iT H wL) f a t x cs B D y l)(r:cs≠[c.gf]){sa:Ω}{oT:Φ}{es:Ϛ}(hs:stepG P true (G {(base f).at a todo with mode:=.returning} cs) wL=.go sa oT es)(F:∀i,wL.heap.size+i<oT.heap.size->π (wL.heap.size+i)=w.heap.size+i):Res P S E str π c main H Z wL w (G {B.at (bF π a D) todo' with mode:=.returning} l) sa oT:=by
 cases h with
 |bot=>exact absurd rfl r
 |@up f f1 a a1 t t1 x1 y1 ops i rest cs1 MW B1 D1 hf m ha hd hst=>
  have⟨fn,X,b1,b2,W,Y⟩:=K.body f hf;have⟨T,V,A,J,z⟩:=hst.base;have⟨d,n⟩:=all_cons J;have g:∀(b:φ)(a:Act)(k:ϕ)(v:Θ),(b.at a (.inRegion ops (i::rest)::k)).finish v=b.at (a.put ((ops[i]?).bind (·.dst)) v) (.inRegion ops rest::k):=λb a k v=>Frame.finish_at b a ops i rest k v
  have p:∀(main:Bool)(b:φ)(a:Act)(todo:ϕ)(cr:φ)(G8:Ϙ)(w:Φ),b.kind=.normal->a.defers=[]->b.fn=f->stepG P main (G {b.at a todo with mode:=.returning} (cr::G8)) w=
    GStep.after (seen P f ((results fn a.tmps).events P w #[])) (match(results fn a.tmps).run P w with
     |.ok v w=>.go (G (cr.finish v) G8) w
     |.halt (.stuck s) w=>.ended (.stuck s (Frame.pos P {b.at a todo with mode:=.returning})) w
     |.halt _ w=> .ended (.stuck "return: the result variables cannot be read" (Frame.pos P {b.at a todo with mode:= .returning})) w):=by
   intro main b a todo cr G8 w e1 e2 I;subst I;simp[G,stepG,unwind,doReturn,Frame.at,e1,e2,b1];cases (results fn a.tmps).run P w with
   |ok v u=>rfl
   |halt h u=>cases h<;>rfl
  rw[p true (base f) a todo _ cs1 wL rfl hd rfl]at hs;cases hr:(results fn a.tmps).run P wL with
  |halt h u=>rw[hr]at hs;cases h<;>simp[GStep.after]at hs
  |ok v u=>
   rw[hr]at hs;simp only[GStep.after,GStep.go.injEq]at hs;obtain⟨rfl,rfl,_⟩:=hs;have⟨l1,l2,w',e1,I,M,N,L⟩:=pS K U Q R ha fn hr F;have q:=p main (base f) (bF π a []) todo' (B1.at (bF π a1 D1) (.inRegion ops (i::rest)::(t1++y1))) MW w rfl rfl rfl;rw[show(bF π a []).tmps=a.tmps.map (ren π)from rfl,e1]at q;simp only[GStep.after]at q;refine⟨_,w',_,q,?_,l1,l2,I,M,λe O=>N e (by simpa using mem_seen (by simpa using O))⟩;rw[g,g,kI _ _ _ _ (λt m=>by
    cases C:ops[i]? with
    |none=>rw[C]at m;cases m
    |some o=>rw[C]at m;exact(mG (qQ d C)).2.2 t m)]
   have hm:∀i,iT H wL i->iT H u i:=λi hv=>⟨ω hv.1 l2,hv.2⟩
   exact iV.run (t:=.inRegion ops rest::t1) ((hst.mono hm).top (eC (kW d) n) (mE (λv hv=>(z v hv).weak hm) L) ((put_defers ..).trans A))
end
def eA (P:aa1):φ:=(base 0).at {tmps:=#[],defers:=[{target:= .fn (.func P.funcs.size) #[],args:=#[]}]} [.code (.refuse "")]
inductive Nz (P:aa1):φ->List φ->Prop
 |top {fr:φ}{ch:List PanicEntry} (hm:fr.mode=.panicking ch) (hf:fr.defers=(eA P).defers):Nz P fr []
 |up {fr cr:φ}{cs:List φ}{ch:List PanicEntry} (hm:fr.mode=.panicking ch) (hd:fr.defers=[]) (hf:fr.catches P=false) (h:∀ch,Nz P (cr.raise ch) cs):Nz P fr (cr::cs)
section
variable {P:aa1}{S E:ac5->Bool}{str:Bool}{c:Ctx}{H Z:Nat->Prop}{w:Φ}
def Jn(P:aa1)(S E:Ϥ)(str:Bool)(c:Ctx)(H Z:ϒ)(gL:Ω)(w:Φ):Prop:=
 LW H Z w/\((∃g,iV P S E str id c H w gL g)\/gL=G (eA P) [])
def G6(P:aa1)(J:Ω->Φ->Prop)(gL:Ω)(w:Φ)(t:eH)(d:Nat):Prop:=
 (∃o u es,stepG P true gL (az w t d)=.ended o u es)\/
 (∃fr cs u es,stepG P true gL (az w t d)=.go (G fr cs) u es/\Nz P fr cs)\/
 ∃fr cs u es k,stepG P true gL (az w t d)=.go (G fr cs) u es/\sF (G fr cs)/\J (G fr cs) u/\u=az u t (d+k)/\
  ∀t2 d2,(∀i,i<k->t2 (d2+i)=t (d+i))->stepG P true gL (az w t2 d2)=.go (G fr cs) (az u t2 (d2+k)) es
def oP(h:∀a,fr.mode≠.panicking a):sF (G fr cs):=⟨rfl,rfl,rfl,h⟩
def tG{J:Ω->Φ->Prop}{gL:Ω}(t:eH)(d:Nat)(h:∀w,stepG P true gL w=.go (G fr cs) w)(hm:∀b,fr.mode≠.panicking b)(a:J (G fr cs) (az w t d)):G6 P J gL w t d:=
 .inr (.inr ⟨fr,cs,_,#[],0,h _,oP hm,a,rfl,λt2 d2 _=>h _⟩)
def tZ.lost(l:Stat P S E str)(g:c.gf=eA P)(h0:∃fn,P.funcs[c.f0]?=some fn){π:ϙ}{V:ϒ}{f:ac5}{a:Act}{t x:ϕ}{cs:Ϙ}{B:φ}{D:nj}{y:ϕ}{i:Ϙ}(h:tZ P S E str π c V f a t x cs B D y i):
  ∀(todo:ϕ)(b:List PanicEntry),Nz P {(Go.Conc.base f).at a todo with mode:=.panicking b} cs:=by
 have d:∀(f:ac5)(a:Act)(todo:ϕ)(b:List PanicEntry),(∃fn,P.funcs[f]?=some fn)->Frame.catches P {(Go.Conc.base f).at a todo with mode:=.panicking b}=false:=by rintro f a todo b⟨fn,hf⟩;simp[Frame.catches,Frame.at,Go.Conc.base,hf]
 induction h with
 |bot j ha hd m=>
  intro todo b;refine .up rfl hd (d _ _ _ _ h0) λe=>?_
  rw[g];exact .top rfl rfl
 |up hf j ha hd _ k=>intro todo b;have⟨fn,n,b1,_⟩:=l.body _ hf;exact .up rfl hd (d _ _ _ _ ⟨fn,b1⟩) λe=>k _ e
def PZ(j:Stat P S E str)(k:str=true->∀b,¬Z b)(e:LW H Z w){f:ac5}{t x y:ϕ}{d:Ϙ}{D:nj}(h:tZ P S E str id c (iT H w) f a t x cs B D y d){w':Φ}{es:Ϛ}(hs:stepG P true (G ((base f).at a (t++x)) cs) w=.go sa w' es)(g:sF sa):Jn P S E str c H Z sa w':=by
 have⟨g',_,_,_,hr,l,_⟩:=Ex j (λ_ _ h=>h) rfl k e (e.self (σ:=id) (λ_ _ h=>h) λ_ _=>rfl) (main:=true) h hs g λi _=>rfl
 exact⟨l,.inl ⟨g',hr⟩⟩
def ZR(F:Stat P S E str)(Q:str=true->∀b,¬Z b)(J:c.gf=eA P)(h0:∃fn,P.funcs[c.f0]?=some fn)(I:LW H Z w)(t0:eH)(l:Nat){f:ac5}{a:Act}{t x y:ϕ}{cs K:Ϙ}{B:φ}{D:nj}{ops:Ϝ}{i:Nat}{rest:ϓ}(h:tZ P S E str id c (iT H w) f a (.inRegion ops (i::rest)::t) x cs B D y K):
  G6 P (Jn P S E str c H Z) (G ((base f).at a (.inRegion ops (i::rest)::(t++x))) cs) w t0 l:=by
 have⟨Y,hk,hd,W,ha⟩:=h.base;have⟨s,X⟩:=all_cons W;have C:∀{sa:Ω}{w':Φ}{es:Ϛ},stepG P true (G ((base f).at a (.inRegion ops (i::rest)::(t++x))) cs) (az w t0 l)=.go sa w' es->sF sa->Jn P S E str c H Z sa w':=λhs V=>
  PZ F Q (I.az t0 l) (h.mono λi hv=>hv) hs V
 cases n:ops[i]? with
 |none=>
  have e:∀w,stepG P true (G ((base f).at a (.inRegion ops (i::rest)::(t++x))) cs) w=.go (G ((base f).at a (.inRegion ops rest::(t++x))) cs) w:=λw=>by simp[G,stepG,stepG.exec,Frame.at,n,Frame.finish]
  exact tG _ _ e (λq=>by simp[Frame.at]) (C (e _) (oP λq=>by simp[Frame.at]))
 |some o=>
  have A:fS (sl D) P S E str o=true:=qQ s n;have xo:og P S E str o=true:=(mG A).1;cases d:wanted o (yielded ops a.tmps)with
  |false=>
   have e:∀w,stepG P true (G ((base f).at a (.inRegion ops (i::rest)::(t++x))) cs) w=.go (G ((base f).at (a.put o.dst ϗ) (.inRegion ops rest::(t++x))) cs) w #[]:=λw=>stepG_unwanted n d
   exact tG _ _ e (λq=>by simp[Frame.at]) (C (e _) (oP λq=>by simp[Frame.at]))
  |true=>
   have j:(base f).kind≠.early:=by simp[base]
   have R:bD P id (λb=>H b\/Z b) (iT H w) (RN id S) (execOp a.eval o) (execOp (bF id a []).eval o):=
    tC (F.X0 (λ_ _ h=>h) rfl Q _ λi hv=>hv.2) xo (λx _ U=>⟨mX a [] U (by cases x<;>rfl),pL ha U⟩) (λf=>⟨rfl,rfl⟩) λv=>rfl
   have p:=I.az t0 l;cases hr:(execOp a.eval o).run P (az w t0 l)with
   |halt T u=>
    have z:mH T:=R.WV p.BS (λb N=>p.low b N) hr;unfold G6;rw[stepG_oper n d];cases T with
    |panic v=>refine .inr (.inl ⟨_,cs,u,listed P f a o (az w t0 l),?_,h.lost F J h0 (.inRegion ops (i::rest)::(t++x)) [{v,recovered:=false}]⟩);simp[stepG.apply,hr,Frame.at,GStep.after,base,G,listed,Frame.raise]
    |stuck m=>exact .inl ⟨_,_,_,by simp[stepG.apply,hr,Frame.at,GStep.after,base];exact⟨rfl,rfl,rfl⟩⟩
    |unsupported u=>cases u<;>first|exact z.elim|exact .inl ⟨_,_,_,by simp[stepG.apply,hr,Frame.at,GStep.after,base];exact⟨rfl,rfl,rfl⟩⟩
    |_=>exact z.elim
   |ok M u=>
    have L:(execOp a.eval o).runT P (az w t0 l) #[]=(.ok M u,(execOp a.eval o).events P (az w t0 l) #[]):=by rw[Sem.runT_eq,hr]
    have⟨k,r,O⟩:=R.Hw I.BS (λb N=>I.low b N) L;have sh:∀t2 d2,(∀i,i<k->t2 (d2+i)=t0 (l+i))->(execOp a.eval o).run P (az w t2 d2)=.ok M (az u t2 (d2+k))/\listed P f a o (az w t2 d2)=listed P f a o (az w t0 l):=λt2 d2 g=>by have:=O t2 d2 g;refine⟨by rw[<-Sem.runT_fst P _ _ #[],this],?_⟩;unfold listed;rw[show(execOp a.eval o).events P (az w t2 d2) #[]=_ from congrArg Prod.snd this]
    cases M with|value v=>have e:=stepG_value (main:=true) (cs:=cs) (k:=t++x) (rest:=rest) n d j hr;refine .inr (.inr ⟨_,_,u,_,k,e,oP λq=>by simp[Frame.at],C e (oP λq=>by simp[Frame.at]),r,λt2 d2 g=>?_⟩);have⟨s1,s2⟩:=sh t2 d2 g;rw[stepG_value n d j s1];rw[show listed P (base f).fn a o (az w t2 d2)=_ from s2];rfl|skip=>have e:=stepG_none (main:=true) (cs:=cs) (k:=t++x) (rest:=rest) n d j hr;refine .inr (.inr ⟨_,_,u,_,k,e,oP λq=>by simp[Frame.at],C e (oP λq=>by simp[Frame.at]),r,λt2 d2 g=>?_⟩);have⟨s1,s2⟩:=sh t2 d2 g;rw[stepG_none n d j s1];rw[show listed P (base f).fn a o (az w t2 d2)=_ from s2];rfl|enter f2 aa=>have e:=stepG_enter (main:=true) (cs:=cs) (k:=t++x) (rest:=rest) n d j hr;refine .inr (.inr ⟨_,_,u,_,k,e,oP λq=>by simp[Frame.enter],C e (oP λq=>by simp[Frame.enter]),r,λt2 d2 g=>?_⟩);have⟨s1,s2⟩:=sh t2 d2 g;rw[stepG_enter n d j s1];rw[show listed P (base f).fn a o (az w t2 d2)=_ from s2];rfl|_=>exfalso;have:=pT F (λ_ _ h=>h) rfl Q p (p.self (σ:=id) (λ_ _ h=>h) λ_ _=>rfl) D ha A hr λi _=>rfl;have⟨_,_,x',w',_,e2,_⟩:=this;exact e2.elim
def TG(C:Stat P S E str)(J:str=true->∀b,¬Z b)(n:c.gf=eA P)(h0:∃fn,P.funcs[c.f0]?=some fn)(F:LW H Z w)(t0:eH)(m:Nat){f:ac5}{a:Act}{t x y:ϕ}{cs s:Ϙ}{B:φ}{D:nj}(h:tZ P S E str id c (iT H w) f a t x cs B D y s):
  G6 P (Jn P S E str c H Z) (G ((base f).at a (t++x)) cs) w t0 m:=by
 have⟨Q,hk,hd,L,ha⟩:=h.base;have A:∀{sa:Ω}{w':Φ}{es:Ϛ},stepG P true (G ((base f).at a (t++x)) cs) (az w t0 m)=.go sa w' es->sF sa->Jn P S E str c H Z sa w':=λhs K=>
  PZ C J (F.az t0 m) (h.mono λi hv=>hv) hs K
 have g:∀{fr:φ},(∀w,stepG P true (G ((base f).at a (t++x)) cs) w=.go (G fr cs) w)->(∀d,fr.mode≠.panicking d)->G6 P (Jn P S E str c H Z) (G ((base f).at a (t++x)) cs) w t0 m:=λe hm=>
  tG _ _ e hm (A (e _) (oP hm))
 cases t with
 |nil=>
  cases h with|bot _ _ _ z=>obtain⟨u,r,rfl⟩:=c.stop _ _ z;exact .inl ⟨_,_,_,by simp[G,stepG,stepG.exec,Frame.at];exact⟨rfl,rfl,rfl⟩⟩|up hf _ _ _ N=>exact g (λw=>stepG_end) λd=>ϛ
 |cons it t=>
  have⟨h1,M⟩:=all_cons L;simp only[ϻ]at A g⊢;cases it with
  |code O=>
   cases O with
   |skip=>exact g (λw=>stepG_skip) (λd=>by simp[Frame.at])
   |label l=>exact g (λw=>stepG_label) (λd=>by simp[Frame.at])
   |ret=>exact g (λw=>stepG_ret') λd=>ϛ
   |seq p q=>exact g (λw=>stepG_seq) (λd=>by simp[Frame.at])
   |cond o p q=>
    cases I:a.eval o with|bool b=>exact g (λw=>stepG_cond I) (λd=>by simp[Frame.at])|_=>have j:=Frame.eval_at (base f) a (.code (.cond o p q)::(t++x)) o;simp only[Frame.at]at j;exact .inl ⟨_,_,_,by simp[G,stepG,stepG.exec,Frame.at,j,I];exact⟨rfl,rfl,rfl⟩⟩
   |block id p=>exact g (λw=>stepG_block) (λd=>by simp[Frame.at])
   |loop p=>exact g (λw=>stepG_loop) (λd=>by simp[Frame.at])
   |exit id=>
    cases j:exitTo id (t++x)with|some k'=>exact g (λw=>stepG_exit j) (λd=>by simp[Frame.at])|none=>exact .inl ⟨_,_,_,by simp[G,stepG,stepG.exec,Frame.at,j,base];exact⟨rfl,rfl,rfl⟩⟩
   |region id ops draw=>
    cases draw with|false=>exact g (λw=>stepG_region) (λd=>by simp[Frame.at])|true=>have e:=stepG_region_draw (P:=P) (main:=true) (b:=base f) (a:=a) (k:=t++x) (cs:=cs) (w:=az w t0 m) (id:=id) (ops:=ops);refine .inr (.inr ⟨_,_,_,_,1,e,oP λd=>by simp[Frame.at],A e (oP λd=>by simp[Frame.at]),rfl,λt2 d2 v=>?_⟩);rw[stepG_region_draw];have:=v 0 ϖ;simp only[ϔ9]at this;show GStep.go (G ((base f).at a (.inRegion ops (Region.schedule (P.follows .mixedOrders) ops (t2 d2 (.order f id)))::(t++x))) cs) _ _=_;rw[this];rfl
   |scope p=>exact g (λw=>qr) (λd=>by simp[Frame.at])
   |refuse u=>exact .inl ⟨_,_,_,by simp[G,stepG,stepG.exec,Frame.at];exact⟨rfl,rfl,rfl⟩⟩
   |goto l=>
    cases j:gotoIn l (t++x)with|some k'=>exact g (λw=>tz j) (λd=>by simp[Frame.at])|none=>exact .inl ⟨_,_,_,by simp[G,stepG,stepG.exec,Frame.at,j,base];exact⟨rfl,rfl,rfl⟩⟩
   |_=>simp[cM,fT]at h1
  |inScope p=>exact g (λw=>nY) (λd=>by simp[Frame.at])
  |inBlock id=>exact g (λw=>stepG_inBlock) (λd=>by simp[Frame.at])
  |inLoop p=>exact g (λw=>stepG_inLoop) (λd=>by simp[Frame.at])
  |inRegion ops todo=>
   cases todo with|nil=>exact g (λw=>stepG_region_end) (λd=>by simp[Frame.at])|cons i rest=>exact ZR C J n h0 F t0 m h
  |_=>simp[cM]at h1
def DL{f:ac5}{fn:Func}(hf:P.funcs[f]?=some fn){main:Bool}{b:φ}{a:Act}{todo:ϕ}{cr:φ}{G8:Ϙ}{w:Φ}(e1:b.kind=.normal)(e2:a.defers=[])(c:b.fn=f):
  stepG P main (G {b.at a todo with mode:=.returning} (cr::G8)) w=
    GStep.after (seen P f ((results fn a.tmps).events P w #[])) (match(results fn a.tmps).run P w with
     |.ok v w=>.go (G (cr.finish v) G8) w
     |.halt (.stuck s) w=>.ended (.stuck s (Frame.pos P {b.at a todo with mode:=.returning})) w
     |.halt _ w=> .ended (.stuck "return: the result variables cannot be read" (Frame.pos P {b.at a todo with mode:= .returning})) w):=by
 subst c;simp[G,stepG,unwind,doReturn,Frame.at,e1,e2,hf];cases (results fn a.tmps).run P w with
 |ok v u=>rfl
 |halt h u=>cases h<;>rfl
def TJ(s:Stat P S E str)(W:str=true->∀b,¬Z b)(n:c.gf=eA P)(h0:∃fn,P.funcs[c.f0]?=some fn)(z:LW H Z w)(t0:eH)(d:Nat){f:ac5}{a:Act}{t x y:ϕ}{cs o:Ϙ}{B:φ}{D:nj}{todo:ϕ}(h:tZ P S E str id c (iT H w) f a t x cs B D y o):
  G6 P (Jn P S E str c H Z) (G {(base f).at a todo with mode:=.returning} cs) w t0 d:=by
 have⟨T,hk,hd,J,ha⟩:=h.base;have m:∃fn,P.funcs[f]?=some fn:=by
  cases h with|bot=>exact h0|up hf=>have⟨fn,U,b1,_⟩:=s.body _ hf;exact⟨fn,b1⟩
 have⟨fn,m⟩:=m;have g:=z.az t0 d;have main:∀cr G8,cs=cr::G8->(∀v r,(cr.finish v).mode≠.panicking r)->(∀v u es,stepG P true (G {(base f).at a todo with mode:=.returning} cs) (az w t0 d)=.go (G (cr.finish v) G8) u es->LW H Z u->Jn P S E str c H Z (G (cr.finish v) G8) u)->
   G6 P (Jn P S E str c H Z) (G {(base f).at a todo with mode:=.returning} cs) w t0 d:=by
  intro cr G8 p hm I;subst p;have j:∀w,_:=λw=>DL (P:=P) m (main:=true) (b:=base f) (a:=a) (todo:=todo) (cr:=cr) (G8:=G8) (w:=w) rfl hd rfl
  cases hr:(results fn a.tmps).run P (az w t0 d)with
  |halt Q u=>refine .inl ?_;rw[j,hr];cases Q<;>exact⟨_,_,_,rfl⟩
  |ok v u=>
   have K:=nq (P:=P) (π:=id) (N:=λb=>H b\/Z b) (V:=iT H w) fn a.tmps;have q:(results fn a.tmps).runT P (az w t0 d) #[]=(.ok v u,(results fn a.tmps).events P (az w t0 d) #[]):=by rw[Sem.runT_eq,hr]
   have⟨k,F,A⟩:=K.Hw z.BS (λb O=>z.low b O) q;have⟨l1,_⟩:=pS s (π:=id) (λ_ _ h=>h) g (g.self (σ:=id) (λ_ _ h=>h) λ_ _=>rfl) (λv hv=>ha v hv) fn hr λi _=>rfl
   have e:stepG P true (G {(base f).at a todo with mode:=.returning} (cr::G8)) (az w t0 d)=.go (G (cr.finish v) G8) u (seen P f ((results fn a.tmps).events P (az w t0 d) #[])):=by rw[j,hr];simp[GStep.after]
   refine .inr (.inr ⟨_,_,u,_,k,e,oP (hm v),I v u _ e l1,F,λt2 d2 C=>?_⟩);have h2:=A t2 d2 C;have M:(results fn a.tmps).run P (az w t2 d2)=.ok v (az u t2 (d2+k)):=by rw[<-Sem.runT_fst P _ _ #[],h2]
   have L:(results fn a.tmps).events P (az w t2 d2) #[]=(results fn a.tmps).events P (az w t0 d) #[]:=by show((results fn a.tmps).runT P (az w t2 d2) #[]).2=_;rw[h2]
   rw[j,M,L];simp[GStep.after]
 cases h with
 |bot _ _ _ R=>
  refine main c.gf [] rfl (λv r=>by rw[n];simp[eA,Frame.finish,Frame.at]) λv u es _ l=>⟨l,.inr ?_⟩
  rw[n];simp[eA,Frame.finish,Frame.at]
 |@up _ f1 _ a1 _ t1 x1 y1 ops i rest cs1 MW B1 D1 hf _ _ _ hst=>
  refine main _ cs1 rfl (λv r=>by rw[Frame.finish_at];simp[Frame.at]) λv u es hs l=>?_
  have⟨g',_,_,_,hr,l2,_⟩:=step_ret s (π:=id) (c:=c) (main:=true) (todo':=[]) (λ_ _ h=>h) g (g.self (σ:=id) (λ_ _ h=>h) λ_ _=>rfl) (tZ.mono (λi hv=>hv) (.up hf J ha hd hst)) (by intro e;cases hst<;>simp at e) hs λi _=>rfl
  exact⟨l2,.inl ⟨g',hr⟩⟩
def afl(f:Stat P S E str)(e:str=true->∀b,¬Z b)(a:c.gf=eA P)(h0:∃fn,P.funcs[c.f0]?=some fn){gL:Ω}(h:Jn P S E str c H Z gL w)(t0:eH)(d:Nat):G6 P (Jn P S E str c H Z) gL w t0 d:=by
 obtain⟨i,⟨g,hr⟩|rfl⟩:=h
 .cases hr with|run h=>exact TG f e a h0 i t0 d h|ret h=>exact TJ f e a h0 i t0 d h
 exact .inl ⟨_,_,_,by simp[G,eA,stepG,stepG.exec,Frame.at];exact⟨rfl,rfl,rfl⟩⟩
end
section
variable {P:aa1}{S E:ac5->Bool}{str:Bool}{c:Ctx}{H Z:Nat->Prop}
def iV.az{π:ϙ}{wL:Φ}{gL g:Ω}(h:iV P S E str π c H wL gL g)(t:eH)(d:Nat):iV P S E str π c H (az wL t d) gL g:=by
 cases h with|run h=>exact .run (h.mono λi hv=>hv)|ret h=>exact .ret (h.mono λi hv=>hv)
def shifts(j:Stat P S E str)(i:str=true->∀b,¬Z b)(a:c.gf=eA P)(h0:∃fn,P.funcs[c.f0]?=some fn):Shifts P (Jn P S E str c H Z):=by
 intro g w t d g' w' es f hs e;obtain⟨o,u,es2,h⟩|⟨fr,cs,u,es2,h,hl⟩|⟨fr,cs,u,es2,k,h,_,hj',hk,hk2⟩:=afl j i a h0 f t d;rw[h]at hs;cases hs;rw[h]at hs;cases hs;exfalso;cases hl with|top hm _=>exact e.calm _ hm|up hm _ _ _=>exact e.calm _ hm
 rw[h]at hs;cases hs;exact⟨hj',k,hk,hk2⟩
def zC:∀(n:Nat){fr:φ}{cs:Ϙ}{w:Φ}{a:φ}{b:Ϙ}{w':Φ},Nz P fr cs->runN P n (lone fr cs w)=.next (lone a b w')->∃c,a.mode=.panicking c
 |0,fr,cs,w,a,b,w',h,hr=>by
  simp only[runN,Stepped.next.injEq,lone,Machine.mk.injEq]at hr;have h1:=hr.2.1;simp at h1;obtain⟨rfl,_⟩:=h1;cases h with|top hm _=>exact⟨_,hm⟩|up hm _ _ _=>exact⟨_,hm⟩
 |n+1,fr,cs,w,a,b,w',h,hr=>by
  simp only[runN]at hr;cases h with
  |top hm hf=>
   have:step P (lone fr [] w)= .ended (.stuck "call: no such function" (Frame.pos P {fr with defers:=[]})) w:=by refine step_lone_ended ?_;simp[stepG,unwind,hm,hf,eA,callDeferred,Frame.at,invoke,callFunc,program,stuck,bind,Sem.bind,Sem.run,GStep.after]
   rw[this]at hr;cases hr
  |@up _ cr cs c hm hd hc h=>
   have:step P (lone fr (cr::cs) w)=.next (lone (cr.raise c) cs w):=by refine step_lone_go ?_;simp[stepG,unwind,hm,hd,hc]
   rw[this]at hr;exact zC n (h c) hr
def nA(i:Stat P S E str)(g:str=true->∀b,¬Z b)(e:c.gf=eA P)(h0:∃fn,P.funcs[c.f0]?=some fn):∀(n:Nat){fr:φ}{cs:Ϙ}{w:Φ}{a:φ}{d:Ϙ}{w':Φ},
  Jn P S E str c H Z (G fr cs) w->runN P n (lone fr cs w)=.next (lone a d w')->(∀f,a.mode≠.panicking f)->Run P n (G fr cs) w (G a d) w'/\Jn P S E str c H Z (G a d) w'
 |0,fr,cs,w,a,d,w',hj,hr,_=>by simp only[runN,Stepped.next.injEq,lone,Machine.mk.injEq]at hr;have h1:=hr.2.1;simp at h1;obtain⟨rfl,rfl⟩:=h1;obtain rfl:=hr.1;exact⟨⟨rfl,rfl⟩,hj⟩
 |n+1,fr,cs,w,a,d,w',hj,hr,hm=>by
  simp only[runN]at hr;obtain⟨o,u,es2,h⟩|⟨fr2,cs2,u,es2,h,hl⟩|⟨fr2,cs2,u,es2,k,h,hn,hj',_,_⟩:=afl i g e h0 hj w.tape w.drawn;rw[qH]at h;have:step P (lone fr cs w)=.ended o u:=step_lone_ended (by show(stepG P true (G fr cs) w).bare=_;rw[h];rfl)
  rw[this]at hr;cases hr;rw[qH]at h;have:step P (lone fr cs w)=.next (lone fr2 cs2 u):=step_lone_go (by show(stepG P true (G fr cs) w).bare=_;rw[h];rfl)
  rw[this]at hr;have⟨f,j⟩:=zC n hl hr;exact absurd j (hm f);rw[qH]at h;have:step P (lone fr cs w)=.next (lone fr2 cs2 u):=step_lone_go (by show(stepG P true (G fr cs) w).bare=_;rw[h];rfl)
  rw[this]at hr;have⟨r1,r2⟩:=nA i g e h0 n hj' hr hm;exact⟨⟨_,u,es2,h,hn,r1⟩,r2⟩
def kL:Option Nat->List Item
 |none=>[.inRangeFunc 0]
 |some id=>[.inRangeFunc 0,.inBlock id,.inRangeFunc 0]
def Xh(f0:ac5)(P:aa1)(iY:ϡ):Exit->Act->Ω->Prop
 |.normal,a,g=>g=G ((base f0).at a (kL iY)) [eA P]
 |.exit id,a,g=>iY=some id/\g=G ((base f0).at a [.inRangeFunc 0]) [eA P]
 |.ret,a,g=>∃todo,g=G {(base f0).at a todo with mode:=.returning} [eA P]
 |_,_,_=>False
def amJ(f0:ac5)(P:aa1)(iY:ϡ)(Q:ϔ)(g:Ω)(w:Φ):Prop:=∃e a,Q e a w/\Xh f0 P iY e a g
structure QOk (iY:Option Nat)(Q:Exit->Act->Φ->Prop):Prop where
 tape:∀e a w t d,Q e a (az w t d)↔Q e a w
 out:∀e a w,Q e a w->e=.normal\/e=.ret\/∃id,e=.exit id/\iY=some id
def WpT(P:aa1)(t:ϕ)(Q:ϔ)(a:Act)(w:Φ):Prop:=∀(b:φ)(k:ϕ)(cs:Ϙ),∃e a' w',Q e a' w'/\Arrives P (lone (b.at a (t++k)) cs w) b k cs e a' w'
def I6(l:Stat P S E str)(m:str=true->∀b,¬Z b)(i:c.gf=eA P)(h0:∃fn,P.funcs[c.f0]?=some fn){t0:ϕ}{wL:Φ}(r:QOk iY Q)(o:Jn P S E str c H Z (G ((base c.f0).at a (t0++kL iY)) [eA P]) wL)(h:∀t d,WpT P t0 Q a (az wL t d)):Ends P (amJ c.f0 P iY Q) (G ((base c.f0).at a (t0++kL iY)) [eA P]) wL:=by
 intro t d;have⟨e,a',w',q,f⟩:=h t d (base c.f0) (kL iY) [eA P];have j:Jn P S E str c H Z (G ((base c.f0).at a (t0++kL iY)) [eA P]) (az wL t d):=⟨o.1.az t d,o.2.imp (λ⟨g,h⟩=>⟨g,h.az t d⟩) id⟩
 obtain rfl|rfl|⟨id,rfl,s⟩:=r.out e a' w' q;have⟨n,k⟩:=f;exact⟨n,_,w',(nA l m i h0 n j k λp=>by simp[Frame.at]).1,.normal,a',q,rfl⟩;have⟨todo,n,k⟩:=f;exact⟨n,_,w',(nA l m i h0 n j k λp=>ϛ).1,.ret,a',q,todo,rfl⟩;subst s;have⟨n,k⟩:=f [.inRangeFunc 0] (by simp[kL,exitTo]);exact⟨n,_,w',(nA l m i h0 n j k λp=>by simp[Frame.at]).1,.exit id,a',q,rfl,rfl⟩
end
def Xs(O RO:ϒ)(n c:Nat)(e:Event):Prop:=
 (∃b,(O b\/(n<=b/\b<c)\/(RO b/\e.write=false))/\((∃a:Addr,e.loc=.cell a/\a.block=b)\/e.loc=.obj b))\/∃m,e.loc=.mark m/\qR m
structure lX (O RO:Nat->Prop)(w w':Φ)(es:Array Event):Prop where
 size:w.heap.size<=w'.heap.size
 keep:∀k,k<w.heap.size->¬O k->w'.heap[k]?=w.heap[k]?
 os:w'.os=w.os
 output:w'.output=w.output
 tape:w'.tape=w.tape
 ev:∀e∈es,Xs O RO w.heap.size w'.heap.size e
structure R5 {S0:Type}(C:Co S0)(own:S0->Nat->Prop)(RO:Nat->Prop):Prop where
 rel:∀s w w₁,C.R s w w₁->w.heap.size<=w₁.heap.size/\w₁.tape=w.tape/\∀b,b<w.heap.size->own s b\/RO b->w₁.heap[b]?=w.heap[b]?
 guar:∀s w w' es,lX (own s) RO w w' es->C.D s w w' es
 up:∀s w w' b,own (C.up s w w') b↔own s b\/(w.heap.size<=b/\b<w'.heap.size)
structure Link (H Z:Nat->Prop)(O RO:Nat->Prop)(π:Nat->Nat)(wL w:Φ):Prop where
 inj:∀i j,π i=π j->i=j
 zero:π 0=0
 lt:∀b,b<wL.heap.size->π b<w.heap.size
 lw:LW H Z wL
 wr:WR π H Z (az wL w.tape w.drawn) w
 own:∀b,iT H wL b->¬Z b->O (π b)
 ro:∀b,Z b->RO (π b)
section
variable {P:aa1}{S E:ac5->Bool}{str:Bool}{c:Ctx}{H Z:Nat->Prop}{O RO:Nat->Prop}{π dg:Nat->Nat}{wL w w₁:Φ}
def vT{v:Θ}:∀(h:∀r,Value.Has r v->π r=dg r),ren π v=ren dg v:=by
 suffices h:∀n (v:Θ),SizeOf.sizeOf v<n->(∀r,Value.Has r v->π r=dg r)->ren π v=ren dg v from h _ v (Nat.lt_succ_self _)
 intro n;induction n with
 |zero=>intro v h;omega
 |succ n e=>
  intro v hv h;have d:∀(cs:ϐ),SizeOf.sizeOf cs<n->(∀x∈cs,∀r,Value.Has r x->π r=dg r)->cs.map (ren π)=cs.map (ren dg):=by intro cs hs g;exact al0 λx b=>e x (by have:=ϓ4 b;omega) (g x b)
  cases v with
  |pointer a=>cases a with
   |none=>simp
   |some a=>simp[bA,h a.block (.ptr rfl)]
  |slice a _ _=>cases a with
   |none=>simp
   |some a=>simp[bA,h a.block (.slice rfl)]
  |map r=>cases r with
   |none=>simp
   |some r=>simp[h r .map]
  |chan r=>cases r with
   |none=>simp
   |some r=>simp[h r .chan]
  |iface t v=>rw[dz,dz,e v (by simp at hv;omega) λr x=>h r (.iface x)]
  |agg cs=>rw[dV,dV,d cs (by simp at hv;omega) λx b r y=>h r (.agg b y)]
  |tuple cs=>rw[dy,dy,d cs (by simp at hv;omega) λx b r y=>h r (.tuple b y)]
  |func fn f c=>
   rw[dO,dO,d f (by simp at hv;omega) λx b r y=>h r (.first b y),d c (by simp at hv;omega) λx b r y=>h r (.Ji b y)];cases fn with|yield l=>simp[qL,h l .yield]|_=>rfl
  |_=>simp
def mJ{cs:ϐ}(h:∀x∈cs,∀r,Value.Has r x->π r=dg r):cs.map (ren π)=cs.map (ren dg):=al0 λx a=>vT (h x a)
def zc{o:Obj}(h:∀r,lF r o->π r=dg r):et π o=et dg o:=by
 cases o with
 |cells c t f=>simp only[et];rw[mJ λv hv r x=>h r (.cells hv x)]
 |map es c=>
  simp only[et];have:es.map (od π)=es.map (od dg):=al0 λe d=>by unfold od;rw[vT λr x=>h r (.key d x),vT λr x=>h r (.val d x)]
  rw[this]
 |mapIter m a b c=>cases m with
  |none=>rfl
  |some r=>simp[et,h r .iter]
 |view a t=>simp[et,bA,h a.block (.view rfl)]
 |number a l=>simp[et,bA,h a.block (.number rfl)]
 |_=>rfl
def tZ.congr{V:ϒ}(j:∀i,V i->π i=dg i){f:ac5}{a:Act}{t x:ϕ}{cs:Ϙ}{B:φ}{D:nj}{y:ϕ}{b:Ϙ}(h:tZ P S E str π c V f a t x cs B D y b):tZ P S E str dg c V f a t x cs B D y b:=by
 induction h with
 |bot d ha hd g=>exact .bot d ha hd g
 |@up f f1 a a1 t t1 x1 y1 ops i rest cs1 MW B1 D1 hf d ha hd hs ih=>
  have e:bF π a1 D1=bF dg a1 D1:=by unfold bF;rw[mJ λv hv r x=>j r (hs.base.2.2.2.2 v hv r x)]
  rw[e];exact .up hf d ha hd ih
def iV.congr(b:∀i,iT H wL i->π i=dg i){gL g:Ω}(h:iV P S E str π c H wL gL g):iV P S E str dg c H wL gL g:=by
 cases h with
 |@run f a t x cs B D y cs' h=>
  have e:bF π a D=bF dg a D:=by unfold bF;rw[mJ λv hv r x=>b r (h.base.2.2.2.2 v hv r x)]
  rw[e];exact .run (h.congr b)
 |@ret f a t x cs B D y cs' todo todo' h=>
  have e:bF π a D=bF dg a D:=by unfold bF;rw[mJ λv hv r x=>b r (h.base.2.2.2.2 v hv r x)]
  rw[e];exact .ret (h.congr b)
def Link.rely(h:Link H Z O RO π wL w)(hs:w.heap.size<=w₁.heap.size)(s:w₁.tape=w.tape)(hk:∀b,b<w.heap.size->O b\/RO b->w₁.heap[b]?=w.heap[b]?):
  ∃dg,Link H Z O RO dg wL w₁/\(∀b,b<wL.heap.size->π b=dg b)/\∀i,dg (wL.heap.size+i)=w₁.heap.size+i:=by
 refine⟨λi=>if i<wL.heap.size then π i else w₁.heap.size+(i-wL.heap.size),?_,λb a=>(κ a).symm,λi=>by show(if wL.heap.size+i<wL.heap.size then π (wL.heap.size+i)else w₁.heap.size+(wL.heap.size+i-wL.heap.size))=_;rw[Γ ϖ];omega⟩;have e:∀b,b<wL.heap.size->(if b<wL.heap.size then π b else w₁.heap.size+(b-wL.heap.size))=π b:=λb a=>κ a
 have q:∀b,H b\/Z b->b<wL.heap.size:=h.lw.low;have n:0<wL.heap.size:=h.lw.zero.1;have p:∀(b:Nat)(o:Obj),wL.heap[b]?=some o->¬H b->et (λi=>if i<wL.heap.size then π i else w₁.heap.size+(i-wL.heap.size)) o=et π o:=λb o a l=>zc λr hr=>e r (h.lw.Vx b o a l r hr).1
 have at_:∀b,iT H wL b->w₁.heap[π b]?=w.heap[π b]?:=λb a=>hk _ (h.lt b a.1) (by by_cases g:Z b;exact .inr (h.ro b g);exact .inl (h.own b a g))
 refine{inj:=λi j d=>?_,zero:=by rw[e 0 n];exact h.zero,lt:=λb a=>by rw[e b a];have:=h.lt b a;omega,lw:=h.lw,wr:=?_,own:=λb a g=>by rw[e b a.1];exact h.own b a g,ro:=λb g=>by rw[e b (q b (.inr g))];exact h.ro b g};split at d<;>split at d
 exact h.inj _ _ d;have:=h.lt i (by assumption);omega;have:=h.lt j (by assumption);omega;omega
 .have m:=h.wr;refine{inj:=?_,tape:=rfl,drawn:=rfl,lt:=λb a l=>?_,ok:=λb o a l g=>?_,hid:=m.hid,qj:=λb o a g=>?_,low:=m.low,ic:=m.ic};intro i j d;split at d<;>split at d
  exact h.inj _ _ d;have:=h.lt i (by assumption);omega;have:=h.lt j (by assumption);omega;omega;rw[e b a];have:=h.lt b a;omega
  .have k:=(Ψ.1 a).1;refine⟨(m.ok b o a l g).1,?_⟩;rw[e b k,at_ b ⟨k,l⟩,p b o a l];exact(m.ok b o a l g).2
  .have k:=(Ψ.1 a).1;obtain⟨c,t,f,rfl,h2⟩:=m.qj b o a g;refine⟨c,t,f,rfl,?_⟩;have l:=h.lw.apart b g;rw[e b k,at_ b ⟨k,l⟩];have:=p b _ a l;simp only[et,Obj.cells.injEq]at this;rw[this.1];exact h2
def Link.uN(h:Link H Z O RO π wL w){oT w':Φ}{es:Ϛ}(p:∀i,wL.heap.size+i<oT.heap.size->π (wL.heap.size+i)=w.heap.size+i)(l:LW H Z oT)(u:wL.heap.size<=oT.heap.size)(m:WR π H Z oT w')(f:Ed π H Z (az wL w.tape w.drawn) oT w w')(r:∀e∈es,rJ π H Z oT.heap.size e):
  lX O RO w w' es/\∀g:Nat->Prop,(∀b,g b↔O b\/(w.heap.size<=b/\b<w'.heap.size))->Link H Z g RO π oT w':=by
 have v:w'.heap.size=w.heap.size+(oT.heap.size-wL.heap.size):=f.size;have new:∀b,wL.heap.size<=b->b<oT.heap.size->w.heap.size<=π b/\π b<w'.heap.size:=λb h1 h2=>by have:=p (b-wL.heap.size) ϖ;rw[show wL.heap.size+(b-wL.heap.size)=b by omega]at this;omega
 refine⟨⟨ϖ,λk hk t=>f.keep k hk λb c j d e=>t (e▸h.own b ⟨c,j⟩ d),f.os,f.output,f.tape,λe s=>?_⟩,λg n=>?_⟩;obtain⟨b,c,j,d,hloc⟩|hm:=r e s;refine .inl ⟨π b,?_,hloc⟩;by_cases a:b<wL.heap.size;by_cases q:Z b;refine .inr (.inr ⟨h.ro b q,?_⟩);cases o:e.write with|false=>rfl|true=>exact absurd q (d o)
 exact .inl (h.own b ⟨a,j⟩ q);exact .inr (.inl (new b ϖ c));exact .inr hm;refine{inj:=h.inj,zero:=h.zero,lt:=λb c=>?_,lw:=l,wr:=?_,own:=λb c d=>?_,ro:=h.ro};by_cases a:b<wL.heap.size;have:=h.lt b a;omega;exact(new b ϖ c).2;have e:az oT w'.tape w'.drawn=oT:=by unfold az;rw[m.tape,m.drawn]
 rw[e];exact m;rw[n];by_cases a:b<wL.heap.size;exact .inl (h.own b ⟨a,c.2⟩ d);exact .inr (new b ϖ c.1)
inductive TlX (iY:Option Nat)(kT:List Item):List Item->List Item->Prop
 |nil:TlX iY kT (kL iY) kT
 |exit {id:Nat}{y:List Item} (h:iY=some id) (hy:exitTo id kT=some y):TlX iY kT [.inRangeFunc 0] y
def ahU(B:φ)(kT:ϕ)(CS:Ϙ):Exit->Act->Ω->Prop
 |.normal,a,g=>g=G (B.at a kT) CS
 |.exit id,a,g=>∃y,exitTo id kT=some y/\g=G (B.at a y) CS
 |.ret,a,g=>∃todo,g=G {B.at a todo with mode:=.returning} CS
 |_,_,_=>False
def StopA{S0:Type}(own:S0->Nat->Prop)(RO:ϒ)(H Z:ϒ)(B:φ)(D0:nj)(kT:ϕ)(CS:Ϙ)(Q:ϔ)(d:ϙ)(c:Nat)(s:S0)(g:Ω)(w:Φ):Prop:=
 ∃e a wL π,Q e a wL/\Link H Z (own s) RO π wL w/\a.defers=[]/\(∀v∈a.tmps,VV (iT H wL) v)/\ahU B kT CS e (bF π a D0) g/\(∀b,b<c->π b=d b)/\c<=wL.heap.size
def ah6(P:aa1)(f0:ac5)(B:φ)(D0:nj)(CS:Ϙ)(iY:ϡ)(kT:ϕ)(hf:B.fn=f0)(hk:B.kind≠.early)(e:∀id,iY=some id->∃y,exitTo id kT=some y):Ctx where
 f0:=f0
 gf:=eA P
 B:=B
 D0:=D0
 CS:=CS
 Tl:=TlX iY kT
 fn:=hf
 kind:=hk
 stop:=λx y h=>by
  cases h with
  |nil=>cases iY<;>exact⟨_,_,rfl⟩
  |exit=>exact⟨_,_,rfl⟩
 exit:=λx y id x' h a=>by
  cases h with
  |nil=>
   cases iY with
   |none=>simp[kL,exitTo]at a
   |some i=>
    simp only[kL,exitTo]at a;split at a;rename_i d;have:i=id:=by simpa using d
    subst this;cases a;have⟨c,b⟩:=e i rfl;exact⟨c,b,.exit rfl b⟩;cases a
  |exit=>simp[exitTo]at a
 bare:=λx y l h=>by
  cases h with
  |nil=>cases iY<;>rfl
  |exit=>rfl
def CK{V:ϒ}{f:ac5}{a:Act}{t x:ϕ}{gf:φ}{B:φ}{D:nj}{y:ϕ}{b:Ϙ}(h:tZ P S E str π c V f a t x [gf] B D y b):f=c.f0/\B=c.B/\D=c.D0/\b=c.CS/\c.Tl x y:=by
 cases h with
 |bot _ _ _ d=>exact⟨rfl,rfl,rfl,rfl,d⟩
 |up _ _ _ _ hs=>cases hs
def wY{gL g:Ω}(h:iV P S E str π c H wL gL g){f0:ac5}{b:Act}{todo:ϕ}{gf:φ}(e:gL=G ((base f0).at b todo) [gf]):
  ∃t x y,todo=t++x/\(∀it∈t,cM (sl c.D0) P S E str it=true)/\c.Tl x y/\b.defers=[]/\(∀v∈b.tmps,VV (iT H wL) v)/\g=G (c.B.at (bF π b c.D0) (t++y)) c.CS:=by
 cases h with
 |@run f a t x cs B D y cs' h=>simp only[G,Frame.at,base,Goroutine.mk.injEq,Frame.mk.injEq]at e;have⟨⟨e1,e2,n,i,_⟩,m,_⟩:=e;subst m;have⟨_,_,hd,k,ha⟩:=h.base;obtain⟨_,rfl,rfl,rfl,d⟩:=CK h;have⟨o,p⟩:=a;have⟨l,j⟩:=b;simp only at e2 i;subst e2;subst i;exact⟨t,x,y,n.symm,k,d,hd,ha,rfl⟩
 |ret h=>simp only[G,Frame.at,base,Goroutine.mk.injEq,Frame.mk.injEq]at e;exact absurd e.1.2.2.2.2.1 ϛ
def Fo{gL g:Ω}(h:iV P S E str π c H wL gL g){f0:ac5}{b:Act}{todo:ϕ}{gf:φ}(e:gL=G {(base f0).at b todo with mode:=.returning} [gf]):
  b.defers=[]/\(∀v∈b.tmps,VV (iT H wL) v)/\∃todo',g=G {c.B.at (bF π b c.D0) todo' with mode:=.returning} c.CS:=by
 cases h with
 |run h=>simp only[G,Frame.at,base,Goroutine.mk.injEq,Frame.mk.injEq]at e;exact absurd e.1.2.2.2.2.1 ϛ
 |@ret f a t x cs B D y cs' td td' h=>simp only[G,Frame.at,base,Goroutine.mk.injEq,Frame.mk.injEq]at e;have⟨⟨e1,e2,o,d,_⟩,k,_⟩:=e;subst k;have⟨_,_,hd,m,ha⟩:=h.base;obtain⟨_,rfl,rfl,rfl,l⟩:=CK h;have⟨n,p⟩:=a;have⟨j,i⟩:=b;simp only at e2 d;subst e2;subst d;exact⟨hd,ha,td',rfl⟩
def Uu(iY:ϡ):∃r,kL iY=.inRangeFunc 0::r:=by cases iY<;>exact⟨_,rfl⟩
def tail_nil{σ:ϓ}{t x:ϕ}{r:ϕ}(h:Item.inRangeFunc 0::r=t++x)(a:∀it∈t,cM σ P S E str it=true):t=[]:=by
 cases t with|nil=>rfl|cons it t=>simp only[ϻ,List.cons.injEq]at h;have:=a it ϛ;rw[<-h.1]at this;simp[cM]at this
def PR(V:Stat P S E str)(hz:str=true->∀b,¬Z b){f0:ac5}(h0:∃fn,P.funcs[f0]?=some fn){S0:Type}{C:Co S0}{own:S0->Nat->Prop}(X:R5 C own RO){iY:ϡ}{Q:ϔ}(U:QOk iY Q){B:φ}{D0:nj}{CS:Ϙ}{kT:ϕ}(hf:B.fn=f0)(hk:B.kind≠.early)(hx:∀id,iY=some id->∃y,exitTo id kT=some y){t0:ϕ}(JU:∀it∈t0,cM (sl D0) P S E str it=true){a:Act}{s:S0}(F:Link H Z (own s) RO π wL w)(ha:∀v∈a.tmps,VV (iT H wL) v)(hd:a.defers=[])(ac:∀t d,WpT P t0 Q a (az wL t d)){main:Bool}:
  aJ P main C (StopA own RO H Z B D0 kT CS Q π wL.heap.size) s (G (B.at (bF π a D0) (t0++kT)) CS) w:=by
 let c:=ah6 P f0 B D0 CS iY kT hf hk hx;have hj:Jn P S E str c H Z (G ((base f0).at a (t0++kL iY)) [eA P]) wL:=
  ⟨F.lw,.inl ⟨_,iV.run (t:=t0) (x:=kL iY) (tZ.bot (c:=c) JU ha hd (.nil (kT:=kT)))⟩⟩
 have am:=I6 V hz (c:=c) (Z:=Z) rfl h0 U hj ac;have ao:=CF (shifts V hz (c:=c) (H:=H) (Z:=Z) rfl h0) (λg w t d=>by constructor;rintro⟨e,a,q,x⟩;exact⟨e,a,(U.tape e a w t d).1 q,x⟩;rintro⟨e,a,q,x⟩;exact⟨e,a,(U.tape e a w t d).2 q,x⟩) hj am
 refine FS (λs gL oT g w=>∃dg,Link H Z (own s) RO dg oT w/\iV P S E str dg c H oT gL g/\(∀b,b<wL.heap.size->dg b=π b)/\wL.heap.size<=oT.heap.size) ?_ ?_ ?_ ao ⟨π,F,iV.run (t:=t0) (x:=kL iY) (tZ.bot (c:=c) JU ha hd (.nil (kT:=kT))),λ_ _=>rfl,ε _⟩;rintro s gL wL g w⟨π,F,hr,A,k⟩⟨e,aL,q,hg⟩w₁ hR;have⟨r1,r2,r3⟩:=X.rel s w w₁ hR;have⟨dg,l,L,_⟩:=F.rely r1 r2 r3;have m:=hr.congr (dg:=dg) λi hv=>L i hv.1
 have W:=λb (O:b<_)=>(L b (ω O k)).symm.trans (A b O)
 refine⟨e,aL,wL,dg,q,l,?_⟩;obtain rfl|rfl|⟨id,rfl,aq⟩:=U.out e aL wL q;obtain⟨t,x,y,e1,ht,I,h1,h2,rfl⟩:=wY m hg;have⟨r,Y⟩:=Uu iY;obtain rfl:=tail_nil (Y▸e1) ht;refine⟨h1,h2,?_⟩;have j:TlX iY kT x y:=I;simp only[ϸ]at e1⊢;subst e1;cases J:iY with
 |none=>
  rw[J]at j;generalize n:kL none=z at j;cases j with
  |nil=>exact⟨rfl,W,k⟩
  |exit h _=>cases h
 |some i=>
  rw[J]at j;generalize n:kL (some i)=z at j;cases j with|nil=>exact⟨rfl,W,k⟩|exit _ _=>simp[kL]at n
 have⟨todo,hg⟩:=hg;obtain⟨h1,h2,todo',rfl⟩:=Fo m hg;exact⟨h1,h2,⟨todo',rfl⟩,W,k⟩;obtain⟨t,x,y,e1,ht,I,h1,h2,rfl⟩:=wY m hg.2;obtain rfl:=tail_nil e1 ht;refine⟨h1,h2,?_⟩;have j:TlX iY kT x y:=I;simp only[ϸ]at e1⊢;subst e1;subst aq;generalize n:[Item.inRangeFunc 0]=z at j;cases j with
 |nil=>simp[kL]at n
 |exit h hy=>cases h;exact⟨⟨_,hy,rfl⟩,W,k⟩
 rintro s gL wL g w⟨π,F,hr,_⟩;cases hr<;>rfl
 .rintro s gL wL g w ⟨π,F,hr,A,k⟩ w₁ hR sa oT es hs hn hk;have⟨r1,r2,r3⟩:=X.rel s w w₁ hR;have⟨dg,l,L,K⟩:=F.rely r1 r2 r3;have m:=hr.congr (dg:=dg) λi hv=>L i hv.1
  have o:∀i,(az wL w₁.tape w₁.drawn).heap.size+i<oT.heap.size->dg ((az wL w₁.tape w₁.drawn).heap.size+i)=w₁.heap.size+i:=λi _=>K i
  have al:Res P S E str dg c main H Z (az wL w₁.tape w₁.drawn) w₁ g sa oT:=by
   have N:LW H Z (az wL w₁.tape w₁.drawn):=l.lw.az ..;cases m with
   |run h=>exact Ex V l.inj l.zero hz N l.wr (h.mono λi hv=>hv) hs hn o
   |@ret f a t x cs B D y cs' todo todo' h=>
    by_cases T:cs=[eA P]
    .exfalso;subst T;have⟨_,_,ar,_,_⟩:=h.base;have⟨aa,_⟩:=CK h;have ag:f=f0:=aa;subst ag;have⟨fn,an⟩:=h0;rw[DL an rfl ar rfl]at hs;cases p:(results fn a.tmps).run P (az wL w₁.tape w₁.drawn)with
     |halt hh u=>rw[p]at hs;cases hh<;>simp[GStep.after]at hs
     |ok v u=>
      rw[p]at hs;simp only[GStep.after,GStep.go.injEq]at hs;obtain⟨rfl,rfl,_⟩:=hs;have M:(eA P).finish v=eA P:=by simp[eA,Frame.finish,Frame.at]
      rw[M]at hk;cases hk with
      |stop hF=>have⟨e,a2,q,x⟩:=hF;cases e<;>simp[Xh,G]at x
      |step nx av _ _=>have:=av (λ_ _=>0) 0;simp[G,eA,stepG,stepG.exec,Frame.at]at this
    exact step_ret V l.inj N l.wr (h.mono λi hv=>hv) T hs o
  have⟨g',w',R,e1,e2,e3,e4,e5,e6,e7⟩:=al;have⟨o1,o2⟩:=l.uN (λi hi=>K i) e3 e4 e5 e6 e7;exact⟨g',w',R,e1,X.guar s w₁ w' R o1,dg,o2 _ (X.up s w₁ w'),e2,λb O=>(L b (ω O k)).symm.trans (A b O),ac3 k e4⟩
end
end
section
open Go.Conc
open Go.ConcM (OsLater)
namespace gz
def xQ:bE->Bool
 |.m=>true
 |_=>false
def DE(h:0<n0)(r:bE):(gid n0 r==0)=xQ r:=by cases r<;>simp[gid,xQ];omega
structure Cx (Δ:Type) where
 Fd:Nat
 M:Nat
 Wg:Nat
 tF:θ
 tW:θ
 Dat:Δ->Δ->Obj->Prop
 fin:bE->Δ
 c0:bE->Δ
 N:bE->Nat
structure Gh (Δ:Type) where
 ro:Nat->Prop
 own:Nat->Prop
 mine:Δ
 other:Δ
section
variable {Δ:Type}(X:Cx Δ)
def mA:Addr:=⟨X.Fd,0,none⟩
def msA:Addr:=⟨X.Fd,1,none⟩
def wA:Addr:=⟨X.Wg,0,none⟩
def ND:Addr:=⟨X.Wg,1,none⟩
def ShAt(w:Φ)(s:Sh):Prop:=w.heap[X.Fd]?=some (.cells #[.int .i32 s.mu,.int .u32 s.ms,.map (some X.M)] X.tF)/\w.heap[X.Wg]?=some (.cells #[.int .u64 s.wg,.int .u32 s.ws] X.tW)
def Ec(r:bE)(mine other:Δ)(o:Obj):Prop:=match r with
 |.a=>X.Dat mine other o
 |_=>X.Dat other mine o
structure RX (ro own:Nat->Prop)(w w₁:Φ):Prop where
 tape:w₁.tape=w.tape
 output:w₁.output=w.output
 size:w.heap.size<=w₁.heap.size
 os:OsLater w.os w₁.os
 keep:∀b,b<w.heap.size->own b\/ro b->w₁.heap[b]?=w.heap[b]?
 live:(∃s,ShAt X w s)->∃s,ShAt X w₁ s
def EvX(ro own:ϒ)(n a:Nat)(e:Event):Prop:=
 (∃c,(own c\/(n<=c/\c<a)\/(ro c/\e.write=false))/\nT c e.loc)\/(e.loc=.cell ⟨X.Fd,2,none⟩/\e.write=false/\e.sync=false)\/∃m,e.loc=.mark m/\qR m
structure DX (deaf:Bool)(ro own:Nat->Prop)(w w':Φ)(es:Array Event):Prop where
 tape:w'.tape=w.tape
 output:w'.output=w.output
 size:w.heap.size<=w'.heap.size
 os:OsLater w.os w'.os
 keep:∀b,b<w.heap.size->¬own b->w'.heap[b]?=w.heap[b]?
 ev:∀e∈es,EvX X ro own w.heap.size w'.heap.size e
 mute:deaf=true->es=#[]
def RX.refl(ro own:ϒ)(w:Φ):RX X ro own w w:=⟨rfl,rfl,ε _,.refl _,λ_ _ _=>rfl,id⟩
def RX.trans{ro own:ϒ}{a b c:Φ}(h:RX X ro own a b)(k:RX X ro own b c):RX X ro own a c:=
 ⟨k.tape.trans h.tape,k.output.trans h.output,ac3 h.size k.size,h.os.trans k.os,λx d e=>(k.keep x (ω d h.size) e).trans (h.keep x d e),λl=>k.live (h.live l)⟩
def RX.at(ro own:ϒ)(w:Φ)(d:Nat):RX X ro own w (w.at d):=⟨rfl,rfl,ε _,.refl _,λ_ _ _=>rfl,id⟩
def gG(deaf:Bool)(ro:ϒ):Co (Nat->Prop) where
 R:=λown w w₁=>RX X ro own w w₁
 D:=λown w w' es=>DX X deaf ro own w w' es
 up:=λown w w' b=>own b\/(w.heap.size<=b/\b<w'.heap.size)
 refl:=λown w=>RX.refl X ro own w
 trans:=λ_ _ _ _ h k=>h.trans X k
def iH:Pc->Nat
 |.un|.out|.la|.ur|.ud|.wk|.k1|.g1|.k2|.g2|.kw|.aq|.fin|.bad=>0
 |_=>1
def fK(p:Pc):Bool:=decide (iH p≠0)||p==.wk
inductive EvK where
 |dis|en|ain|aeS|aeR|aim|Wu|Wt|book
def j5(T T':Lo):EvK:=match T.pc with
 |.out=>if T'.pc=.l0 then .dis else .aeR
 |.le|.ue|.e1|.e2|.ke=>.en
 |.la=>.ain
 |.ur=>.aeS
 |.ud|.wk|.k1|.k2|.kw=>.dis
 |.aq=>.aim
 |.p1|.p2=>.Wu
 |.pw=>.Wt
 |_=>.book
def sW(m:Mark):Event:=⟨.mark m,false,true⟩
def EvStop(T T':Lo)(es:Ϛ):Prop:=match j5 T T' with
 |.dis=>es=#[sW .disable]
 |.en=>es=#[sW .enable]
 |.ain=>es=#[sW (.acquire (mA X))]
 |.aeS=>es=#[sW (.releaseMerge (mA X))]
 |.aeR=>es=#[sW (.releaseMerge (wA X))]
 |.aim=>es=#[sW (.acquire (wA X))]
 |.Wu=>es=#[sW (.read (ND X))]
 |.Wt=>es=#[sW (.write (ND X))]
 |.book=>ConcM.BookOK X.Fd X.Wg 1 1 es/\∀e∈es,∀a:Addr,e.loc=.cell a->a.block=X.Fd->a.off≠2
variable (P:aa1)
def jQ(pc:Pc)(own:ϒ):Nat->Prop:=match pc with
 |.la=>λb=>own b\/b=X.M
 |.ur=>λb=>own b/\b≠X.M
 |_=>own
def eG(Nx:Lo->Gh Δ->Ω->Φ->Prop)(T':Lo)(γ:Gh Δ):(Nat->Prop)->Ω->Φ->Prop:=
 λown g w=>∃c,(T'.pc≠.ur->c=γ.mine)/\Nx T' {γ with own:=own,mine:=c} g w
def After(Nx:Lo->Gh Δ->Ω->Φ->Prop)(r:bE)(T':Lo)(γ:Gh Δ)(g:Ω)(w:Φ):Prop:=
 if T'.pc=.quit then ∃q,QuitsD P q 1 g else aJ P (xQ r) (gG X (fK T'.pc) γ.ro) (eG Nx T' γ) γ.own g w
def Law(Nx:Lo->Gh Δ->Ω->Φ->Prop)(r:bE)(T:Lo)(γ:Gh Δ)(g:Ω)(w:Φ):Prop:=
 g.status=.running/\g.offers=none/\((T.pc=.us\/T.pc=.d4)->mayWake P g=true)/\
 (T.pc=.ur->∃o,w.heap[X.M]?=some o/\Ec X r γ.mine γ.other o)/\
 ∀s,ShAt X w s->s.fits->
  (mv T s=[]->stepG P (xQ r) g w=.go {g with status:=.blocked} w #[])/\
  ∀d:Δ,(T.pc=.la->∃o,w.heap[X.M]?=some o/\Ec X r γ.mine d o)->mv T s≠[]->
   ∃q∈mv T s,q.1.pc≠.bad->(q.1.pc=.wk->γ.mine=X.fin r)/\∃g' w' es,stepG P (xQ r) g w=.go g' w' es/\ShAt X w' q.2/\ConcM.Eff X.Fd X.Wg w w'/\EvStop X T q.1 es/\
    After X P Nx r q.1 {γ with own:=jQ X T.pc γ.own,other:=if T.pc=.la then d else γ.other} g' w'
def KJ:Nat->bE->Lo->Gh Δ->Ω->Φ->Prop
 |0,_,_,_,_,_=>True
 |k+1,r,T,γ,g,w=>Law X P (KJ k r) r T γ g w
def given(γ:Gh Δ):Gh Δ:={γ with ro:=λb=>γ.ro b\/γ.own b,own:=λ_=>False}
def fY:Pc->bE
 |.g1=>.a
 |_=>.b
def jf:Pc->Lo
 |.g1=>at_ .k2 0
 |_=>at_ .kw 0
def R4(Nx:Lo->Gh Δ->Ω->Φ->Prop)(T:Lo)(γ:Gh Δ)(g:Ω)(w:Φ):Prop:=
 g.status=.running/\g.offers=none/\∃g' a,stepG P true g w=.spawn g' a w #[]/\
  (∀K,aJ P false (gG X false (given γ).ro) (eG (KJ X P K (fY T.pc)) (at_ .out (X.N (fY T.pc))) {given γ with mine:=X.c0 (fY T.pc)}) (λ_=>False) a w)/\
  aJ P true (gG X false (given γ).ro) (eG Nx (jf T.pc) (given γ)) (λ_=>False) g' w
variable (Post:Gh Δ->Ω->Φ->Prop)
def Xx(γ:Gh Δ)(g:Ω)(w:Φ):Prop:=
 g.status=.running/\g.offers=none/\∀o,w.heap[X.M]?=some o->X.Dat (X.fin .a) (X.fin .b) o->∃g',stepG P true g w=.go g' w #[sW (.acquire (wA X))]/\Post γ g' w
def Bq:Nat->Lo->Gh Δ->Ω->Φ->Prop
 |0,_,_,_,_=>True
 |k+1,T,γ,g,w=>if T.pc=.g1\/T.pc=.g2 then R4 X P (Bq k) T γ g w else if T.pc=.aq then Xx X P Post γ g w else Law X P (Bq k) .m T γ g w
def AtR(k:Nat):bE->Lo->Gh Δ->Ω->Φ->Prop
 |.m=>Bq X P Post k
 |r=>KJ X P k r
end
section
variable {Δ:Type}{X:Cx Δ}{P:aa1}{Post:Gh Δ->Ω->Φ->Prop}{r:bE}{k:Nat}{T:Lo}{γ:Gh Δ}{g:Ω}{w:Φ}
def AtR.running(h:AtR X P Post (k+1) r T γ g w):g.status=.running/\g.offers=none:=by
 cases r with|m=>have c:Bq X P Post (k+1) T γ g w:=h;unfold Bq at c;split at c;exact⟨c.1,c.2.1⟩;split at c;exact⟨c.1,c.2.1⟩;exact⟨c.1,c.2.1⟩|a=>exact⟨h.1,h.2.1⟩|b=>exact⟨h.1,h.2.1⟩
def AtR.law(h:AtR X P Post (k+1) r T γ g w)(hg:¬(T.pc=.g1\/T.pc=.g2))(ha:T.pc≠.aq):Law X P (AtR X P Post k r) r T γ g w:=by
 cases r with|m=>have c:Bq X P Post (k+1) T γ g w:=h;unfold Bq at c;rw[Γ hg,Γ ha]at c;exact c|a=>exact h|b=>exact h
end
def jT:Pc->Bool
 |.k1|.x1|.p1|.e1|.g1|.k2|.x2|.p2|.e2|.g2|.kw|.w1|.w2|.pw|.w3|.w4|.ke|.aq|.fin|.bad=>false
 |_=>true
def oS:Pc->Bool
 |.k1|.x1|.p1|.e1|.g1|.k2|.x2|.p2|.e2|.g2|.kw|.w1|.w2|.pw|.w3|.w4|.ke|.aq=>true
 |_=>false
def ib:Pc->Bool
 |.l0|.r0|.sq|.r1|.c2|.s1|.t2|.r2|.a1|.r3|.u0|.uc|.ul|.us=>true
 |_=>false
def kK:Pc->Bool
 |.d1|.d2|.d3|.d4=>true
 |_=>false
def mj:Pc->Bool
 |.le|.la|.ur|.ud|.ue|.wk|.k1|.p1|.e1|.k2|.p2|.e2|.kw|.pw|.ke=>true
 |_=>false
def lJ:Pc->Bool
 |.x1|.x2|.w1|.w2|.w3|.w4=>true
 |_=>false
def lr:Pc->Nat
 |.le=>5|.la=>4|.ur=>3|.ud=>2|.u0=>1|.ue=>10|.out=>9|.wk=>8|.d1=>7
 |.k1=>4|.x1=>3|.p1=>3|.e1=>2|.g1=>1|.k2=>4|.x2=>3|.p2=>3|.e2=>2|.g2=>1|.kw=>2|.w1=>1|.pw=>2|.w3=>1|.ke=>3|.aq=>2|.fin=>1
 |_=>0
def FO(p:Pc):lr p<=10:=by cases p<;>simp[lr]
def j4(T:Lo)(n:Nat):Lo:={T with n:=n}
def agK(T:Lo)(n:Nat):hd (j4 T n)=j4 (hd T) n:=by
 have⟨pc,a,b,aw,sv,it,m⟩:=T;simp only[hd,apply_ite λx=>j4 x n];rfl
def ah8(T:Lo)(n:Nat):cl (j4 T n)=j4 (cl T) n:=by
 have⟨pc,a,b,aw,sv,it,m⟩:=T;simp only[cl,apply_ite λx=>j4 x n];rfl
def akK(T:Lo)(n:Nat):pm (j4 T n)=pm T:=by
 have⟨pc,a,b,aw,sv,it,m⟩:=T;cases pc<;>rfl
def Ge(T:Lo):(hd T).pc=.c2\/(hd T).pc=.sq\/(hd T).pc=.bad:=by
 simp only[hd]
 (repeat' split)<;>simp
def Ky(T:Lo):(cl T).pc=.c2:=by
 simp only[cl]
 (repeat' split)<;>simp
def agJ(T:Lo):(hd T).n=T.n:=by
 simp only[hd]
 (repeat' split)<;>simp
def ah7(T:Lo):(cl T).n=T.n:=by
 simp only[cl]
 (repeat' split)<;>simp
def Ul{T:Lo}{s:Sh}(g:ib T.pc=true):mv T s=(mv (j4 (pm T) 1) ⟨s.mu,s.ms,0,0⟩).map (λq=>(j4 q.1 T.n,⟨q.2.mu,q.2.ms,s.wg,s.ws⟩)):=by
 have⟨pc,old,nw,aw,sv,it,n⟩:=T;have⟨a,ms,d,c⟩:=s;have h1:∀(T:Lo),j4 (hd (j4 T 1)) n=hd (j4 T n):=λT=>by rw[agK,agK];rfl
 have h2:∀(T:Lo),j4 (cl (j4 T 1)) n=cl (j4 T n):=λT=>by rw[ah8,ah8];rfl
 cases pc<;>simp only[ib,ab6]at g
 case r0=>simpa[mv,pm,j4] using(h1 {pc:=.r0,old:=a}).symm
 case r1=>simpa[mv,pm,j4] using(h1 {pc:=.r1,old:=a,nw:=nw,aw:=aw,sv:=sv,it:=IntKind.i64.wrap (it+1)}).symm
 case r3=>simpa[mv,pm,j4] using(h1 {pc:=.r3,old:=a,nw:=nw,aw:=aw,sv:=sv,it:=it}).symm
 case sq=>
  have e:=(h2 {pc:=.sq,old:=old,nw:=nw,aw:=aw,sv:=sv,it:=it}).symm;simp only[j4]at e;simp only[mv,pm,j4];by_cases f:it<4;simp[f];exact e;simp[f];exact e
 case a1=>
  by_cases b:(a=12/\nw=-11)\/(a=20/\(nw=-7\/nw=-11))
  .have e1:mv ⟨.a1,old,nw,aw,sv,it,n⟩ ⟨a,ms,d,c⟩=[(at_ .le n,⟨a+nw,ms,d,c⟩)]:=κ b;have e2:mv (j4 (pm ⟨.a1,old,nw,aw,sv,it,n⟩) 1) ⟨a,ms,0,0⟩=[(at_ .le 1,⟨a+nw,ms,0,0⟩)]:=κ b;exact e1.trans (by show _=List.map _ (mv (j4 (pm ⟨.a1,old,nw,aw,sv,it,n⟩) 1) ⟨a,ms,0,0⟩);rw[e2];rfl)
  .have e1:mv ⟨.a1,old,nw,aw,sv,it,n⟩ ⟨a,ms,d,c⟩=[(at_ .bad n,⟨a,ms,d,c⟩)]:=Γ b;have e2:mv (j4 (pm ⟨.a1,old,nw,aw,sv,it,n⟩) 1) ⟨a,ms,0,0⟩=[(at_ .bad 1,⟨a,ms,0,0⟩)]:=Γ b;exact e1.trans (by show _=List.map _ (mv (j4 (pm ⟨.a1,old,nw,aw,sv,it,n⟩) 1) ⟨a,ms,0,0⟩);rw[e2];rfl)
 case r2=>
  have e:=(h1 {pc:=.r2,old:=a,nw:=nw,aw:=true,sv:=sv,it:=0}).symm;simp only[j4]at e;simp only[mv,pm,j4]
  (repeat' split)<;>simp_all
 all_goals
  simp only[mv,pm,j4]
  (repeat' split)<;>simp_all
def Dy{T:Lo}{s:Sh}{q:Lo×Sh}(i:ib T.pc=true)(h:q∈mv T s):q.1.pc≠.wk/\q.1.n=T.n/\(q.1.pc=.bad\/(jT q.1.pc=true/\pw q.1={pc:=.out})):=by
 have g:=Ge;have d:=Ky;have b:=agJ;have k:=ah7;have a:∀T,(hd T).pc=.bad\/(jT (hd T).pc=true/\pw (hd T)={pc:=.out}):=λT=>by obtain e|e|e:=g T;exact .inr ⟨by rw[e];rfl,by unfold pw;rw[e]⟩;exact .inr ⟨by rw[e];rfl,by unfold pw;rw[e]⟩;exact .inl e
 have c:∀T,(hd T).pc≠.wk:=λT=>by obtain e|e|e:=g T<;>rw[e]<;>simp
 have f:∀T,jT (cl T).pc=true/\pw (cl T)={pc:=.out}:=λT=>⟨by rw[d T];rfl,by unfold pw;rw[d T]⟩
 have⟨pc,j,l,aw,sv,it,n⟩:=T;have⟨o,ms,p,m⟩:=s;cases pc<;>simp only[ib,ab6]at i<;>simp only[mv]at h
 case r0=>simp only[ξ]at h;subst h;exact⟨c _,b _,a _⟩
 case r1=>simp only[ξ]at h;subst h;exact⟨c _,b _,a _⟩
 case r3=>simp only[ξ]at h;subst h;exact⟨c _,b _,a _⟩
 case sq=>
  obtain rfl|h:=ac2.1 h;exact⟨by rw[d];simp,k _,.inr (f _)⟩;split at h;simp only[ξ]at h;subst h;exact⟨ϛ,rfl,.inr ⟨rfl,rfl⟩⟩;simp at h
 case r2=>
  split at h;simp only[ξ]at h;subst h;exact⟨c _,b _,a _⟩
  (repeat' split at h)<;>simp only[ξ]at h<;>subst h<;>simp[jT,pw]
 all_goals ((repeat' split at h)<;>simp only[ac2,aj8,or_false]at h<;>first|contradiction|(obtain rfl:=h;simp[jT,pw];done)|(obtain rfl:=h;simp[jT,pw];split<;>simp)|(obtain rfl|rfl:=h<;>simp[jT,pw]))
def ya{T:Lo}{s:Sh}{q:Lo×Sh}(b:ib T.pc=true)(h:q∈mv T s):(pm q.1,q.2.mu,q.2.ms)∈AB (pm T) s.mu s.ms/\q.2.wg=s.wg/\q.2.ws=s.ws:=by
 have a:=(Dy b h).1;rw[Ul b]at h;obtain⟨c,h0,rfl⟩:=ac9.1 h;refine⟨ac9.2 ⟨c,ai3.2 ⟨h0,by simpa[j4] using a⟩,by rw[akK]⟩,rfl,rfl⟩
def JT{T:Lo}(a:ib T.pc=true):pw T={pc:=.out}:=by
 unfold pw;cases b:T.pc<;>rw[b]at a<;>simp[ib]at a<;>rfl
def x9{T:Lo}{s:Sh}{q:Lo×Sh}(b:kK T.pc=true)(h:q∈mv T s):(pw q.1,q.2.wg,q.2.ws)∈WG (pw T) s.wg s.ws/\q.2.mu=s.mu/\q.2.ms=s.ms/\q.1.n=T.n/\(q.1.pc=.bad\/(jT q.1.pc=true/\pm q.1=pm T/\lr q.1.pc<=lr T.pc)):=by
 have⟨pc,a,c,aw,sv,it,n⟩:=T;have⟨f,ms,d,e⟩:=s;cases pc<;>simp only[kK,ab6]at b<;>simp only[mv]at h<;>simp only[pw,WG,gw,mv]
 all_goals ((repeat' split at h)<;>simp only[ξ]at h<;>subst h<;>simp_all [jT,pm,pw,lr])
def J0{T:Lo}{s:Sh}{q:Lo×Sh}(b:lJ T.pc=true)(h:q∈mv T s):(p0 q.1,q.2.wg,q.2.ws)∈mv0 (p0 T) s.wg s.ws/\q.2.mu=s.mu/\q.2.ms=s.ms/\(q.1.pc=.bad\/oS q.1.pc=true):=by
 have⟨pc,a,c,aw,sv,it,n⟩:=T;have⟨f,ms,d,e⟩:=s;cases pc<;>simp only[lJ,ab6]at b<;>simp only[mv]at h<;>simp only[p0,mv0,mv]
 all_goals ((repeat' split at h)<;>simp only[ξ,aj8]at h<;>first|(subst h;simp_all [oS,p0])|contradiction)
def uW{T:Lo}{s:Sh}{q:Lo×Sh}(b:mj T.pc=true)(h:q∈mv T s):q.2=s/\(jT T.pc=true->pm q.1=pm T)/\pw q.1=pw T/\p0 q.1=p0 T/\lr q.1.pc<lr T.pc/\jT q.1.pc=jT T.pc/\oS q.1.pc=oS T.pc/\q.1.pc≠.bad/\(jT T.pc=true->q.1.n=T.n):=by
 have⟨pc,a,c,aw,sv,it,n⟩:=T;cases pc<;>simp only[mj,ab6]at b<;>simp only[mv,ξ]at h<;>subst h<;>simp[pm,pw,p0,lr,jT,oS]
def qh(L:bE->Lo)(r1 r2:Nat):Nat:=((L .a).n+(L .b).n)*1400+(r1+r2)*32+(lr (L .m).pc+lr (L .a).pc+lr (L .b).pc)
def upd{α:Type}(L:bE->α)(r:bE)(x:α):bE->α:=λy=>if y=r then x else L y
def upd_same{α:Type}(L:bE->α)(r:bE)(x:α):upd L r x r=x:=by simp[upd]
def upd_ne{α:Type}(L:bE->α){r y:bE}(x:α)(h:y≠r):upd L r x y=L y:=by simp[upd,h]
structure xV (L:bE->Lo)(s:Sh)(r1 r2:Nat):Prop where
 inM:NA ⟨pm (L .a),pm (L .b),s.mu,s.ms⟩ r1
 lm:r1<27
 Uz:Sm ⟨p0 (L .m),pw (L .a),pw (L .b),s.wg,s.ws⟩ r2
 st:oS (L .m).pc=true
 wa:jT (L .a).pc=true
 wb:jT (L .b).pc=true
section
variable {L:bE->Lo}{s:Sh}{r1 r2:Nat}{q:Lo×Sh}
def xV.Z3(h:xV L s r1 r2)(d:q∈mv (L .a) s)(C:(L .a).pc≠.un):q.1.pc≠.bad/\∃a b,xV (upd L .a q.1) q.2 a b/\qh (upd L .a q.1) a b<qh L r1 r2:=by
 have P:=FO q.1.pc;have o:=h.wa;have⟨m,l,j,g,k,c⟩:=h;have r:∀a b,qh (upd L .a q.1) a b=(q.1.n+(L .b).n)*1400+(a+b)*32+(lr (L .m).pc+lr q.1.pc+lr (L .b).pc):=λa b=>by simp[qh,upd]<;>omega
 have p:qh L r1 r2=((L .a).n+(L .b).n)*1400+(r1+r2)*32+(lr (L .m).pc+lr (L .a).pc+lr (L .b).pc):=by simp[qh]<;>omega
 have G:=m.facts;have F:=j.facts;by_cases c1:mj (L .a).pc=true;have⟨B,e1,e2,_,O,A,_,E,w⟩:=uW c1 d;have e1:=e1 o;have w:=w o;refine⟨E,r1,r2,⟨?_,l,?_,by simpa[upd] using g,?_,?_⟩,by rw[r,p,w];omega⟩;simp[upd,B,e1];exact m;simp[upd,B,e2];exact j;simp[upd,A,o,k];simp[upd,A,o,c];by_cases c2:ib (L .a).pc=true;have⟨m1,m2,t⟩:=ya c2 d;have⟨_,n1,J⟩:=Dy c2 d;have⟨a,n,i2,i3⟩:=m.Wq m1;have f:q.1.pc≠.bad:=λe=>by have:=G.noA _ m1;apply this;simp[pm,e]
 have⟨w1,u⟩:=J.resolve_left f;have K:a<r1:=i2.resolve_left (λe=>by have e:(pm (L .a)).pc=.out:=e;revert e;cases z:(L .a).pc<;>rw[z]at c2<;>simp[ib]at c2<;>simp[pm,z])
 refine⟨f,a,r2,⟨?_,i3,?_,by simpa[upd] using g,?_,?_⟩,by rw[r,p,n1];have:=FO (L .a).pc;omega⟩;simp[upd];exact n;rw[JT c2]at j;simp[upd,m2,t,u];exact j;simp[upd,w1,k];simp[upd,w1,c];by_cases y:kK (L .a).pc=true;have⟨m1,m2,t,I,D⟩:=x9 y d;have⟨b,n,i2⟩:=j.step (H:=⟨p0 (L .m),pw q.1,pw (L .b),q.2.wg,q.2.ws⟩) (by unfold GG.succs;exact ϑ5 _ (ϐ1 _ (ac9.2 ⟨_,m1,rfl⟩)))
 have f:q.1.pc≠.bad:=λe=>by
  have:=(F.no ⟨p0 (L .m),pw q.1,pw (L .b),q.2.wg,q.2.ws⟩ (by unfold GG.succs;exact ϑ5 _ (ϐ1 _ (ac9.2 ⟨_,m1,rfl⟩)))).2.1
  apply this;simp[pw,e]
 have⟨w1,u,N⟩:=D.resolve_left f;refine⟨f,r1,b,⟨?_,l,?_,by simpa[upd] using g,?_,?_⟩,by rw[r,p,I];omega⟩;simp[upd,m2,t,u];exact m;simp[upd];exact n;simp[upd,w1,k];simp[upd,w1,c];have i:(L .a).pc=.out\/(L .a).pc=.quit:=by revert c1 c2 y o C;cases (L .a).pc<;>simp[mj,ib,kK,jT]
 obtain i|i:=i;have v:pm (L .a)={pc:=.out}:=by simp[pm,i]
 have x:pw (L .a)={pc:=.out}:=by simp[pw,i]
 rw[v]at m;rw[x]at j;simp only[mv,i]at d;obtain rfl|d:=ac2.1 d;refine⟨ϛ,r1,r2,⟨?_,l,?_,by simpa[upd] using g,?_,?_⟩,by rw[r,p,i];simp[lr]⟩;simp[upd,pm];exact m;simp[upd,pw];exact j
 .first|(simp[upd];done)|(simp[upd];first|exact k|exact c|rfl)
 .first|(simp[upd];done)|(simp[upd];first|exact k|exact c|rfl)
 split at d;rename_i M;simp only[ξ]at d;subst d;have⟨a,n,_,i3⟩:=m.Wq (q:=({pc:=.l0},s.mu,s.ms)) (by simp[AB,mv,pm]);refine⟨ϛ,a,r2,⟨?_,i3,?_,by simpa[upd] using g,?_,?_⟩,by rw[r,p,i];simp[lr];omega⟩;simp[upd,pm];exact n;simp[upd,pw];exact j
 .first|(simp[upd];done)|(simp[upd];first|exact k|exact c|rfl)
 .first|(simp[upd];done)|(simp[upd];first|exact k|exact c|rfl)
 simp at d;simp[mv,i]at d
def xV.Z2(h:xV L s r1 r2)(d:q∈mv (L .b) s)(C:(L .b).pc≠.un):q.1.pc≠.bad/\∃a b,xV (upd L .b q.1) q.2 a b/\qh (upd L .b q.1) a b<qh L r1 r2:=by
 have P:=FO q.1.pc;have o:=h.wb;have⟨m,l,j,g,k,c⟩:=h;have r:∀a b,qh (upd L .b q.1) a b=(q.1.n+(L .a).n)*1400+(a+b)*32+(lr (L .m).pc+lr q.1.pc+lr (L .a).pc):=λa b=>by simp[qh,upd]<;>omega
 have p:qh L r1 r2=((L .b).n+(L .a).n)*1400+(r1+r2)*32+(lr (L .m).pc+lr (L .b).pc+lr (L .a).pc):=by simp[qh]<;>omega
 have G:=m.facts;have F:=j.facts;by_cases c1:mj (L .b).pc=true;have⟨B,e1,e2,_,O,A,_,E,w⟩:=uW c1 d;have e1:=e1 o;have w:=w o;refine⟨E,r1,r2,⟨?_,l,?_,by simpa[upd] using g,?_,?_⟩,by rw[r,p,w];omega⟩;simp[upd,B,e1];exact m;simp[upd,B,e2];exact j;simp[upd,A,o,k];simp[upd,A,o,c];by_cases c2:ib (L .b).pc=true;have⟨m1,m2,t⟩:=ya c2 d;have⟨_,n1,J⟩:=Dy c2 d;have⟨a,n,i2,i3⟩:=m.Wp m1;have f:q.1.pc≠.bad:=λe=>by have:=G.noB _ m1;apply this;simp[pm,e]
 have⟨w1,u⟩:=J.resolve_left f;have K:a<r1:=i2.resolve_left (λe=>by have e:(pm (L .b)).pc=.out:=e;revert e;cases z:(L .b).pc<;>rw[z]at c2<;>simp[ib]at c2<;>simp[pm,z])
 refine⟨f,a,r2,⟨?_,i3,?_,by simpa[upd] using g,?_,?_⟩,by rw[r,p,n1];have:=FO (L .b).pc;omega⟩;simp[upd];exact n;rw[JT c2]at j;simp[upd,m2,t,u];exact j;simp[upd,w1,k];simp[upd,w1,c];by_cases y:kK (L .b).pc=true;have⟨m1,m2,t,I,D⟩:=x9 y d;have⟨b,n,i2⟩:=j.step (H:=⟨p0 (L .m),pw (L .a),pw q.1,q.2.wg,q.2.ws⟩) (by unfold GG.succs;exact ϐ1 _ (ac9.2 ⟨_,m1,rfl⟩))
 have f:q.1.pc≠.bad:=λe=>by
  have:=(F.no ⟨p0 (L .m),pw (L .a),pw q.1,q.2.wg,q.2.ws⟩ (by unfold GG.succs;exact ϐ1 _ (ac9.2 ⟨_,m1,rfl⟩))).2.2
  apply this;simp[pw,e]
 have⟨w1,u,N⟩:=D.resolve_left f;refine⟨f,r1,b,⟨?_,l,?_,by simpa[upd] using g,?_,?_⟩,by rw[r,p,I];omega⟩;simp[upd,m2,t,u];exact m;simp[upd];exact n;simp[upd,w1,k];simp[upd,w1,c];have i:(L .b).pc=.out\/(L .b).pc=.quit:=by revert c1 c2 y o C;cases (L .b).pc<;>simp[mj,ib,kK,jT]
 obtain i|i:=i;have v:pm (L .b)={pc:=.out}:=by simp[pm,i]
 have x:pw (L .b)={pc:=.out}:=by simp[pw,i]
 rw[v]at m;rw[x]at j;simp only[mv,i]at d;obtain rfl|d:=ac2.1 d;refine⟨ϛ,r1,r2,⟨?_,l,?_,by simpa[upd] using g,?_,?_⟩,by rw[r,p,i];simp[lr]⟩;simp[upd,pm];exact m;simp[upd,pw];exact j
 .first|(simp[upd];done)|(simp[upd];first|exact k|exact c|rfl)
 .first|(simp[upd];done)|(simp[upd];first|exact k|exact c|rfl)
 split at d;rename_i M;simp only[ξ]at d;subst d;have⟨a,n,_,i3⟩:=m.Wp (q:=({pc:=.l0},s.mu,s.ms)) (by simp[AB,mv,pm]);refine⟨ϛ,a,r2,⟨?_,i3,?_,by simpa[upd] using g,?_,?_⟩,by rw[r,p,i];simp[lr];omega⟩;simp[upd,pm];exact n;simp[upd,pw];exact j
 .first|(simp[upd];done)|(simp[upd];first|exact k|exact c|rfl)
 .first|(simp[upd];done)|(simp[upd];first|exact k|exact c|rfl)
 simp at d;simp[mv,i]at d
def xV.Z1(h:xV L s r1 r2)(i:q∈mv (L .m) s):q.1.pc≠.bad/\∃b a,xV (upd L .m q.1) q.2 b a/\qh (upd L .m q.1) b a<qh L r1 r2:=by
 have A:=FO q.1.pc;have⟨m,d,j,f,k,g⟩:=h;have o:∀b a,qh (upd L .m q.1) b a=((L .a).n+(L .b).n)*1400+(b+a)*32+(lr q.1.pc+lr (L .a).pc+lr (L .b).pc):=λb a=>by simp[qh,upd]
 have n:qh L r1 r2=((L .a).n+(L .b).n)*1400+(r1+r2)*32+(lr (L .m).pc+lr (L .a).pc+lr (L .b).pc):=rfl;have x:=j.facts;by_cases c1:mj (L .m).pc=true;have⟨l,_,_,y,z,_,p,v,_⟩:=uW c1 i;refine⟨v,r1,r2,⟨?_,d,?_,?_,?_,?_⟩,by rw[o,n];omega⟩;simp[upd,l];exact m;simp[upd,l,y];exact j;simp[upd,p,f];simp[upd,k];simp[upd,g];by_cases c2:lJ (L .m).pc=true;have⟨m1,m2,t,r⟩:=J0 c2 i;have hm:(⟨p0 q.1,pw (L .a),pw (L .b),q.2.wg,q.2.ws⟩:GG)∈GG.succs ⟨p0 (L .m),pw (L .a),pw (L .b),s.wg,s.ws⟩:=by unfold GG.succs;exact ϑ5 _ (ϑ5 _ (ϐ1 _ (ac9.2 ⟨_,m1,rfl⟩)))
 have⟨a,w,i2⟩:=j.step hm;have c:q.1.pc≠.bad:=λe=>by have:=(x.no _ hm).1;apply this;simp[p0,e]
 refine⟨c,r1,a,⟨?_,d,?_,?_,?_,?_⟩,by rw[o,n];omega⟩;simp[upd,m2,t];exact m;simp[upd];exact w;simp[upd,r.resolve_left c];simp[upd,k];simp[upd,g];exfalso;revert c1 c2 f i;cases u:(L .m).pc<;>simp[mj,lJ,oS,mv,u]
def xV.move(h:xV L s r1 r2){r:bE}(e:q∈mv (L r) s)(f:(L r).pc≠.un):q.1.pc≠.bad/\∃c d,xV (upd L r q.1) q.2 c d/\qh (upd L r q.1) c d<qh L r1 r2:=by
 cases r with|m=>exact h.Z1 e|a=>exact h.Z3 e f|b=>exact h.Z2 e f
def xV.fits(h:xV L s r1 r2):s.fits:=⟨h.inM.facts.fits.1,h.inM.facts.fits.2.1,h.Uz.facts.fits.2.2.1,h.Uz.facts.fits.2.2.2⟩
def xV.go{N:Nat}(h:xV L s r1 r2)(hg:(L .m).pc=.g1\/(L .m).pc=.g2)(f:(L (fY (L .m).pc)).n=N):
  (L (fY (L .m).pc)).pc=.un/\∃a,xV (upd (upd L .m (jf (L .m).pc)) (fY (L .m).pc) (at_ .out N)) s r1 a/\qh (upd (upd L .m (jf (L .m).pc)) (fY (L .m).pc) (at_ .out N)) r1 a<qh L r1 r2:=by
 have⟨i,d,e,r,k,c⟩:=h;have g:=e.facts;have p:∀T:Lo,(pw T).pc=.un->T.pc=.un:=λT=>by cases q:T.pc<;>simp[pw,q]
 obtain hg|hg:=hg
 .have l:p0 (L .m)={pc:=.g1}:=by simp[p0,hg]
  rw[l]at e g;have ha:(L .a).pc=.un:=p _ (g.un1 (.inr rfl)).1;have b:pm (L .a)={pc:=.out}:=by simp[pm,ha]
  have o:pw (L .a)={pc:=.un}:=by simp[pw,ha]
  have n:fY (L .m).pc=.a:=by rw[hg];rfl
  rw[n]at f⊢;have m:jf (L .m).pc=at_ .k2 0:=by rw[hg];rfl
  rw[m];rw[b]at i;have⟨a,j,i2⟩:=e.step (H:=⟨{pc:=.x2},{pc:=.out},pw (L .b),s.wg,s.ws⟩) (by unfold GG.succs;simp);refine⟨ha,a,⟨?_,d,?_,?_,?_,?_⟩,?_⟩;simp[upd,pm];exact i;simp[upd,pw,p0];exact j
  .first|(simp[upd];done)|(simp[upd];rfl)
  .first|(simp[upd];done)|(simp[upd];first|exact k|exact c|rfl)
  simp[upd,c];simp[qh,upd,lr,hg,ha,f];omega
 .have l:p0 (L .m)={pc:=.g2}:=by simp[p0,hg]
  rw[l]at e g;have ha:(L .b).pc=.un:=p _ (g.un2 (.inr rfl)).2;have b:pm (L .b)={pc:=.out}:=by simp[pm,ha]
  have o:pw (L .b)={pc:=.un}:=by simp[pw,ha]
  have n:fY (L .m).pc=.b:=by rw[hg];rfl
  rw[n]at f⊢;have m:jf (L .m).pc=at_ .kw 0:=by rw[hg];rfl
  rw[m];rw[b]at i;have⟨a,j,i2⟩:=e.step (H:=⟨{pc:=.w1},pw (L .a),{pc:=.out},s.wg,s.ws⟩) (by unfold GG.succs;simp);refine⟨ha,a,⟨?_,d,?_,?_,?_,?_⟩,?_⟩;simp[upd,pm];exact i;simp[upd,pw,p0];exact j
  .first|(simp[upd];done)|(simp[upd];rfl)
  simp[upd,k]
  .first|(simp[upd];done)|(simp[upd];first|exact k|exact c|rfl)
  simp[qh,upd,lr,hg,ha,f];omega
end
def born(L:bE->Lo)(r:bE):Prop:=(L r).pc≠.un
instance (L:bE->Lo)(r:bE):Decidable (born L r):=by unfold born;infer_instance
def nb(L:bE->Lo):Nat:=(if(L .a).pc=.un then 0 else 1)+(if(L .b).pc=.un then 0 else 1)
def Lo.sleeps(T:Lo)(s:Sh):Bool:=(T.pc==.s1&&s.ms==0)||(T.pc==.w3&&s.ws==0)
def past:Pc->Bool
 |.wk|.d1|.d2|.d3|.d4|.quit=>true
 |_=>false
def Pm:bE->bE
 |.a=>.b
 |_=>.a
def hold(L:bE->Lo):Option bE:=if(L .a).pc=.ur then some .a else if(L .b).pc=.ur then some .b else none
section
variable {Δ:Type}(X:Cx Δ)(P:aa1)(Post:Gh Δ->Ω->Φ->Prop)
def Sit(k:Nat)(r:bE)(T:Lo)(γ:Gh Δ)(ρ:Rk)(aw d q:Nat)(s:Sh)(g:Ω)(w:Φ):Prop:=
 (T.pc≠.quit/\d=iH T.pc/\aw=1/\iW P (xQ r) (gG X (fK T.pc) γ.ro) (eG (AtR X P Post k r) T γ) ρ γ.own g w)\/
 (T.pc≠.quit/\d=iH T.pc/\aw=0/\T.sleeps s=true/\∃a,g={a with status:=.blocked}/\∀w₁,RX X γ.ro γ.own w w₁->eG (AtR X P Post k r) T γ γ.own a w₁)\/
 (T.pc=.quit/\aw=0/\QuitsD P q d g)
end
section
variable {Δ:Type}{X:Cx Δ}{P:aa1}{Post:Gh Δ->Ω->Φ->Prop}{k:Nat}{r:bE}{T:Lo}{γ:Gh Δ}{ρ:Rk}{aw d q:Nat}{s s':Sh}{g x x':Ω}{w w₁:Φ}
def jH(h:eG (AtR X P Post (k+1) r) T γ own g w):g.status=.running/\g.offers=none:=let⟨_,_,h⟩:=h;h.running
def jS{b:Bool}{own:ϒ}(h:iW P (xQ r) (gG X b γ.ro) (eG (AtR X P Post (k+1) r) T γ) ρ own g w):g.status=.running:=by
 cases ρ with|zero=>exact(jH (h w (RX.refl X _ _ w))).1|mk f=>exact h.elim (λh=>(jH (h w (RX.refl X _ _ w))).1) λh=>h.1
def zI{b:Bool}{S:(Nat->Prop)->Ω->Φ->Prop}{own:ϒ}(h:∀w₁,RX X γ.ro own w w₁->S own g w₁):iW P (xQ r) (gG X b γ.ro) S ρ own g w:=by
 cases ρ with|zero=>exact h|mk f=>exact .inl h
def Sit.status(h:Sit X P Post (k+1) r T γ ρ aw d q s g w):g.status=.running\/g.status=.blocked\/g.status=.finished:=by
 obtain⟨_,_,_,hg⟩|⟨_,_,_,_,g₀,rfl,_⟩|⟨_,_,hq⟩:=h;exact .inl (jS hg);exact .inr (.inl rfl);exact hq.status.elim .inl λx=>.inr (.inr x)
def Sit.other(h:Sit X P Post (k+1) r T γ ρ aw d q s g w)(hr:RX X γ.ro γ.own w w₁)(m:T.sleeps s=true->T.sleeps s'=true\/(mayWake P x=true/\x'.status=.running)):
  ∃i,Sit X P Post (k+1) r T γ ρ i d q s' (woken P x x' w₁ g) w₁:=by
 obtain⟨h1,h2,h3,hg⟩|⟨h1,h2,h3,h4,g₀,rfl,hg⟩|⟨h1,h2,hq⟩:=h;refine⟨1,.inl ⟨h1,h2,rfl,?_⟩⟩;have:woken P x x' w₁ g=g:=by unfold woken;split;exact again_running _ (.inl (jS hg));rfl
 rw[this];exact hg.rely hr;have c:=hg w₁ hr;have e:∀a,RX X γ.ro γ.own w₁ a->eG (AtR X P Post (k+1) r) T γ γ.own g₀ a:=λa b=>hg a (hr.trans X b)
 by_cases f:(mayWake P x&&x'.status !=.blocked&&x'.status !=.waiting)=true;refine⟨1,.inl ⟨h1,h2,rfl,?_⟩⟩;have:woken P x x' w₁ {g₀ with status:=.blocked}=g₀:=by unfold woken;rw[κ f];exact ConcR.again_blocked (jH c).1 (jH c).2 _
 rw[this];exact zI e;have:woken P x x' w₁ {g₀ with status:=.blocked}={g₀ with status:=.blocked}:=by unfold woken;rw[Γ f]
 rw[this];obtain j|⟨j,l⟩:=m h4;exact⟨0,.inr (.inl ⟨h1,h2,rfl,j,g₀,rfl,e⟩)⟩;exact absurd (by simp[j,l]) f;exact⟨0,.inr (.inr ⟨h1,rfl,by rw[woken_quitsD hq];exact hq⟩)⟩
def Sit.rely(h:Sit X P Post (k+1) r T γ ρ aw d q s g w)(hr:RX X γ.ro γ.own w w₁):Sit X P Post (k+1) r T γ ρ aw d q s g w₁:=by
 obtain⟨h1,h2,h3,hg⟩|⟨h1,h2,h3,h4,g₀,rfl,hg⟩|h:=h;exact .inl ⟨h1,h2,h3,hg.rely hr⟩;exact .inr (.inl ⟨h1,h2,h3,h4,g₀,rfl,λa b=>hg a (hr.trans X b)⟩);exact .inr (.inr h)
end
section
variable {Δ:Type}(X:Cx Δ)(S0:Nat->Prop)
def AH(l:Loc):Prop:=∃a:Addr,l=.cell a/\(S0 a.block\/a.block=X.Wg\/(a.block=X.Fd/\a.off≠2))
def R0(γ:bE->Gh Δ)(L:bE->Lo)(r:bE)(l:Loc):Prop:=born L r/\((∃c,(γ r).ro c/\nT c l)\/∃sp,l=.cell ⟨X.Fd,2,sp⟩)
structure Lay (γ:bE->Gh Δ)(L:bE->Lo)(B:Nat):Prop where
 sp:∀r c,(γ r).own c\/(γ r).ro c->c≠X.Fd/\c≠X.Wg/\¬S0 c/\c<B
 roM:∀r,¬(γ r).ro X.M
 xL:∀r,(γ r).own X.M↔(L r).pc=.ur
 apart:∀r r' c,(γ r).own c->(γ r').own c->r=r'
 BR:∀r r' c,(γ r).own c->¬(γ r').ro c
 lv:∀r c,(γ r).own c\/(γ r).ro c->born L r
 fm:X.Fd≠X.M
 fw:X.Fd≠X.Wg
 mw:X.M≠X.Wg
 s0:∀c,S0 c->c<B/\c≠X.Fd/\c≠X.M/\c≠X.Wg
 xP:X.Fd<B
 Dx:X.M<B
 wi:X.Wg<B
end
section
variable {Δ:Type}{X:Cx Δ}{S0:Nat->Prop}{γ:bE->Gh Δ}{L:bE->Lo}{B:Nat}
def JH{l:Loc}(h:AH X S0 l):l.isMemory=true:=by obtain⟨a,rfl,_⟩:=h;rfl
def mQ{c:Nat}{a:Addr}(h:nT c (.cell a)):a.block=c:=by
 obtain⟨a',e,h⟩|h:=h;cases e;exact h;cases h
def Lay.ap(h:Lay X S0 γ L B)(t:¬((L .a).pc=.ur/\(L .b).pc=.ur))(hm:(L .m).pc≠.ur):Ap (AH X S0) (R0 X γ L) (born L) (λr=>(γ r).own) X.M (hold L) B:=by
 have p:∀c l,c≠X.Fd->c≠X.Wg->¬S0 c->nT c l->¬AH X S0 l:=λc l h1 h2 j d ⟨a,e,ha⟩=>by subst e;have:=mQ d;subst this;obtain ha|ha|ha:=ha;exact j ha;exact h2 ha;exact h1 ha.1
 have q:∀r c l,(∀i,¬(γ i).ro c)->c≠X.Fd->nT c l->¬R0 X γ L r l:=λr c l h1 h2 d ⟨_,hr⟩=>by obtain⟨c',j,hb'⟩|⟨sp,e⟩:=hr;exact h1 r (nT.uniq d hb'▸j);subst e;exact h2 (mQ d).symm
 refine⟨λr c l f d=>?_,λr c l i f d=>?_,h.apart,λr l hr hs=>?_,λl d=>⟨?_,λr=>?_⟩,λr f=>?_,λr c f=>h.lv r c (.inl f),λc l d u=>⟨?_,λr=>?_⟩,h.Dx,λr c f=>(h.sp r c (.inl f)).2.2.2,λl=>JH,λr l hr=>?_⟩;have⟨g,o,n,_⟩:=h.sp r c (.inl f);exact p c l g o n d;have⟨g,o,n,_⟩:=h.sp r c (.inl f);exact q i c l (λs=>h.BR r s c f) g d;obtain⟨c,j,d⟩|⟨sp,e⟩:=hr.2;have⟨g,o,n,_⟩:=h.sp r c (.inr j);exact p c l g o n d hs;subst e;have⟨a,e,ha⟩:=hs;cases e;obtain ha|ha|ha:=ha;exact(h.s0 _ ha).2.1 rfl;exact h.fw ha;exact ha.2 rfl;exact p X.M l (λe=>h.fm e.symm) h.mw (λe=>(h.s0 _ e).2.2.1 rfl) d;exact q r X.M l h.roM (λe=>h.fm e.symm) d;have k:=(h.xL r).1 f;unfold hold;cases r with|m=>exact absurd k hm|a=>rw[κ k]|b=>rw[Γ λe=>t ⟨e,k⟩,κ k]
 refine p c l (λe=>?_) (λe=>?_) (λe=>?_) d;have:=h.xP;omega;have:=h.wi;omega;have:=(h.s0 _ e).1;omega;refine q r c l (λi e=>?_) (λe=>?_) d;have:=(h.sp i c (.inr e)).2.2.2;omega;have:=h.xP;omega;obtain⟨c,_,d⟩|⟨sp,rfl⟩:=hr.2;exact d.mem;rfl
def Lay.grow(h:Lay X S0 γ L B){r:bE}{j:Nat}(l:B<=j)(hr:born L r):
  Lay X S0 (upd γ r {γ r with own:=λb=>(γ r).own b\/(B<=b/\b<j)}) L j:=by
 have k:∀d c,(upd γ r {γ r with own:=λb=>(γ r).own b\/(B<=b/\b<j)} d).own c->(γ d).own c\/(d=r/\B<=c/\c<j):=λd c a=>by
  by_cases e:d=r;subst e;rw[upd_same]at a;exact a.imp id λz=>⟨rfl,z⟩
  rw[upd_ne _ _ e]at a;exact .inl a
 have f:∀d c,(upd γ r {γ r with own:=λb=>(γ r).own b\/(B<=b/\b<j)} d).ro c->(γ d).ro c:=λd c a=>by by_cases e:d=r;subst e;rw[upd_same]at a;exact a;rw[upd_ne _ _ e]at a;exact a
 refine⟨λd c a=>?_,λd a=>h.roM d (f _ _ a),λd=>⟨λa=>?_,λa=>?_⟩,λd i c a g=>?_,λd i c a g=>?_,λd c a=>?_,h.fm,h.fw,h.mw,λc p=>⟨ω (h.s0 c p).1 l,(h.s0 c p).2⟩,ω h.xP l,ω h.Dx l,ω h.wi l⟩;obtain a|a:=a;obtain a|⟨_,h1,h2⟩:=k _ _ a;have⟨m,o,n,q⟩:=h.sp d c (.inl a);exact⟨m,o,n,ϖ⟩;exact⟨λe=>by have:=h.xP;omega,λe=>by have:=h.wi;omega,λe=>by have:=(h.s0 c e).1;omega,h2⟩;have⟨m,o,n,q⟩:=h.sp d c (.inr (f _ _ a));exact⟨m,o,n,ϖ⟩;obtain a|⟨_,h1,_⟩:=k _ _ a;exact(h.xL d).1 a;have:=h.Dx;omega;have:=(h.xL d).2 a;by_cases e:d=r;subst e;rw[upd_same];exact .inl this;rw[upd_ne _ _ e];exact this;obtain h1|⟨e1,h1,_⟩:=k _ _ a<;>rcases k _ _ g with h2|⟨e2,h2,_⟩
 exact h.apart _ _ c h1 h2;have:=(h.sp d c (.inl h1)).2.2.2;omega;have:=(h.sp i c (.inl h2)).2.2.2;omega;rw[e1,e2];obtain h1|⟨_,h1,_⟩:=k _ _ a;exact h.BR _ _ c h1 (f _ _ g);have:=(h.sp i c (.inr (f _ _ g))).2.2.2;omega;obtain a|a:=a;obtain a|⟨rfl,_⟩:=k _ _ a;exact h.lv d c (.inl a);exact hr;exact h.lv d c (.inr (f _ _ a))
end
def TI.mono{Sh:ϧ}{RO RO':bE->Loc->Prop}{a lv':bE->Prop}{own own':bE->Nat->Prop}{hold:Option bE}{mA wA:Addr}{B:Nat}{t:Trace}(h:TI n0 Sh RO a own M hold mA wA B t)(h1:∀r l,RO' r l->RO r l)(h2:∀r,lv' r↔a r)(b:∀r c,own' r c->own r c):TI n0 Sh RO' lv' own' M hold mA wA B t:=by
 have e:lv'=a:=funext λr=>propext (h2 r)
 subst e;exact⟨h.clean,h.quiet,λr c d=>h.own r c (b r c d),λr i x f hr=>h.ro r i x f (h1 r _ hr),h.guard,h.base,h.work,h.over,h.ids,h.TW,h.nrW,h.low⟩
end gz
end
section
open Go.Conc
open Go.ConcN (sumTo)
open Go.ConcM (OsLater)
namespace gz
structure Cf (Δ:Type) where
 n0:Nat
 L:bE->Lo
 γ:bE->Gh Δ
 k:bE->Nat
 ρ:bE->Rk
 aw:bE->Nat
 ds:bE->Nat
 q:Nat->Nat
 s:Sh
 r1:Nat
 r2:Nat
def LtF(a b:bE->Rk):Prop:=∃r,Rk.Lt (a r) (b r)/\∀c,c≠r->a c=b c
def aae:WellFounded LtF:=by
 have key:∀x:Rk,Acc Rk.Lt x->∀y:Rk,Acc Rk.Lt y->∀z:Rk,Acc Rk.Lt z->∀f:bE->Rk,f .m=x->f .a=y->f .b=z->Acc LtF f:=by
  intro x p;induction p with
  |intro x _ i=>
  intro y n;induction n with
  |intro y k c=>
  intro z o;induction o with
  |intro z l d=>
  intro f h1 h2 j;refine⟨_,λg hg=>?_⟩;have⟨r,h,e⟩:=hg;cases r with|m=>exact i _ (h1▸h) _ (Rk.acc _) _ (Rk.acc _) g rfl rfl rfl|a=>exact c _ (h2▸h) _ (Rk.acc _) g ((e .m ϛ).trans h1) rfl rfl|b=>exact d _ (j▸h) g ((e .m ϛ).trans h1) ((e .a ϛ).trans h2) rfl
 exact⟨λf=>key _ (Rk.acc _) _ (Rk.acc _) _ (Rk.acc _) f rfl rfl rfl⟩
abbrev Ms:=Nat×(bE->Rk)×Nat×Nat
def Xu:Ms->Ms->Prop:=Prod.Lex (·<·) (Prod.Lex LtF (Prod.Lex (·<·) (·<·)))
def aad:WellFounded Xu:=(Prod.lex Nat.lt_wfRel (Prod.lex ⟨LtF,aae⟩ (Prod.lex Nat.lt_wfRel Nat.lt_wfRel))).wf
def awS(aw:bE->Nat):Nat:=aw .m+aw .a+aw .b
def Cf.ms{Δ:Type}(C:Cf Δ)(n:Nat):Ms:=(qh C.L C.r1 C.r2,C.ρ,sumTo n C.q,awS C.aw)
section
variable {Δ:Type}(X:Cx Δ)(P:aa1)(Post:Gh Δ->Ω->Φ->Prop)(S0:Nat->Prop)
structure Core (C:Cf Δ)(gs:Array Ω)(w:Φ)(t:Trace):Prop where
 uU:0<C.n0
 size:gs.size=C.n0+nb C.L
 tab:xV C.L C.s C.r1 C.r2
 fuel:∀r,born C.L r->qh C.L C.r1 C.r2<C.k r
 sh:ShAt X w C.s
 sit:∀r,born C.L r->∃g,gs[gid C.n0 r]?=some g/\Sit X P Post (C.k r) r (C.L r) (C.γ r) (C.ρ r) (C.aw r) (C.ds r) (C.q (gid C.n0 r)) C.s g w
 Wk:∀r,¬born C.L r->(C.γ r).mine=X.c0 r/\(C.L r).n=X.N r
 old:∀i g,0<i->i<C.n0->gs[i]?=some g->QuitsD P (C.q i) (Deaf t i) g
 above:∀j,gs.size<=j->Deaf t j=0
 deaf:∀r,born C.L r->Deaf t (gid C.n0 r)=C.ds r
 data:(C.L .a).pc≠.ur->(C.L .b).pc≠.ur->∃o,w.heap[X.M]?=some o/\X.Dat (C.γ .a).mine (C.γ .b).mine o
 I9:∀r,(C.L r).pc=.ur->(C.γ r).other=(C.γ (Pm r)).mine
 fin:∀r,past (C.L r).pc=true->(C.γ r).mine=X.fin r
 rel:∀r,past (C.L r).pc=true->∃p,ConcN.RelBy (wA X) t (gid C.n0 r) p
 lay:Lay X S0 C.γ C.L w.heap.size
 ti:TI C.n0 (AH X S0) (R0 X C.γ C.L) (born C.L) (λr=>(C.γ r).own) X.M (hold C.L) (mA X) (wA X) w.heap.size t
def Eb(n0:Nat)(a:Ms)(m:an4)(t:Trace):Prop:=∃(C:Cf Δ) (gs:ϯ) (w:Φ) (sl:Option (Nat×Nat)),C.n0=n0/\m=crowd gs w sl/\Core X P Post S0 C gs w t/\a=C.ms gs.size
end
section
variable {Δ:Type}{X:Cx Δ}{P:aa1}{Post:Gh Δ->Ω->Φ->Prop}{S0:Nat->Prop}{C:Cf Δ}{gs:Array Ω}{w w':Φ}{t:Trace}{sl:Option (Nat×Nat)}{r:bE}{x x':Ω}{es:Array Event}
def nL{L:bE->Lo}{s:Sh}{r2:Nat}(h:xV L s r1 r2):¬((L .a).pc=.ur/\(L .b).pc=.ur):=λ⟨x,y⟩=>h.inM.facts.excl ⟨by simp[pm,x],by simp[pm,y]⟩
def kf{L:bE->Lo}{s:Sh}{r2:Nat}(h:xV L s r1 r2){p:Pc}(a:oS p=false):(L .m).pc≠p:=λe=>by have:=h.st;rw[e,a]at this;cases this
def Core.ap(c:Core X P Post S0 C gs w t):Ap (AH X S0) (R0 X C.γ C.L) (born C.L) (λr=>(C.γ r).own) X.M (hold C.L) w.heap.size:=c.lay.ap (nL c.tab) (kf c.tab rfl)
def Core.rF(c:Core X P Post S0 C gs w t):born C.L .m:=kf c.tab rfl
def Core.kpos(c:Core X P Post S0 C gs w t)(hr:born C.L r):∃k',C.k r=k'+1:=by
 have:=c.fuel r hr;exact⟨C.k r-1,ϖ⟩
def LH(a:Lay X S0 C.γ C.L w.heap.size)(h:DX X deaf (C.γ r).ro (C.γ r).own w w' es){f:bE}(e:f≠r):RX X (C.γ f).ro (C.γ f).own w w':=by
 have no:∀b,b=X.Fd\/b=X.Wg->¬(C.γ r).own b:=λb g c=>by have⟨i,j,_⟩:=a.sp r b (.inl c);exact g.elim i j
 refine⟨h.tape,h.output,h.size,h.os,λb g c=>h.keep b g λd=>?_,λ⟨s,hs⟩=>⟨s,?_,?_⟩⟩;obtain c|c:=c;exact e (a.apart _ _ b c d);exact a.BR _ _ b d c;rw[h.keep _ a.xP (no _ (.inl rfl))];exact hs.1;rw[h.keep _ a.wi (no _ (.inr rfl))];exact hs.2
def SU(a:Lay X S0 C.γ C.L w.heap.size)(h:DX X deaf (C.γ r).ro (C.γ r).own w w' es){s:Sh}(hs:ShAt X w s):ShAt X w' s:=by
 have no:∀b,b=X.Fd\/b=X.Wg->¬(C.γ r).own b:=λb f e=>by have⟨c,d,_⟩:=a.sp r b (.inl e);exact f.elim c d
 exact⟨by rw[h.keep _ a.xP (no _ (.inl rfl))];exact hs.1,by rw[h.keep _ a.wi (no _ (.inr rfl))];exact hs.2⟩
def LI(c:Lay X S0 C.γ C.L w.heap.size)(h:ConcM.Eff X.Fd X.Wg w w'){s:Sh}(hs:ShAt X w' s)(a:bE):RX X (C.γ a).ro (C.γ a).own w w':=
 ⟨h.tape,h.output,by rw[h.size];exact ε _,h.os,λb _ f=>by have⟨d,e,_⟩:=c.sp a b f;exact h.block b d e,λ_=>⟨s,hs⟩⟩
def DK(c:Core X P Post S0 C gs w t)(hr:born C.L r):gid C.n0 r<gs.size:=by
 have⟨g,hg,_⟩:=c.sit r hr;exact(Ψ.1 hg).1
def yg(a:0<n0)(h0:0<i)(h1:i<n0)(r:bE):gid n0 r≠i:=by cases r<;>simp[gid]<;>omega
def Core.others(c:Core X P Post S0 C gs w t)(hr:born C.L r)(f:∀b,b≠r->RX X (C.γ b).ro (C.γ b).own w w'){s':Sh}(i:∀b,b≠r->(C.L b).sleeps C.s=true->(C.L b).sleeps s'=true\/(mayWake P x=true/\x'.status=.running)):
  ∃d:bE->Nat,∀b,b≠r->born C.L b->∃g,((gs.map (woken P x x' w')).setIfInBounds (gid C.n0 r) x')[gid C.n0 b]?=some g/\Sit X P Post (C.k b) b (C.L b) (C.γ b) (C.ρ b) (d b) (C.ds b) (C.q (gid C.n0 b)) s' g w':=by
 have key:∀b,∃a,b≠r->born C.L b->∃g,((gs.map (woken P x x' w')).setIfInBounds (gid C.n0 r) x')[gid C.n0 b]?=some g/\Sit X P Post (C.k b) b (C.L b) (C.γ b) (C.ρ b) a (C.ds b) (C.q (gid C.n0 b)) s' g w':=λb=>by by_cases h:b≠r/\born C.L b;have⟨h1,h2⟩:=h;have⟨g,hg,hs⟩:=c.sit b h2;have⟨k',hk⟩:=c.kpos h2;rw[hk]at hs⊢;have⟨a,ha⟩:=hs.other (x:=x) (x':=x') (f b h1) (i b h1);exact⟨a,λ_ _=>⟨_,by rw[ConcN.get_map_set _ _ _ _ λe=>h1 (lT c.uU e).symm,hg];rfl,ha⟩⟩;exact⟨0,λh1 h2=>absurd ⟨h1,h2⟩ h⟩
 exact⟨λb=>(key b).choose,λb=>(key b).choose_spec⟩
def xh{es:Ϛ}:∀a∈ofEvents g fn pos es,a.g=g:=λa h=>by obtain⟨e,_,rfl⟩:=Go.Conc.mem_ofEvents h;rfl
def Core.olds(c:Core X P Post S0 C gs w t){es:Ϛ}:∀i g,0<i->i<C.n0->((gs.map (woken P x x' w')).setIfInBounds (gid C.n0 r) x')[i]?=some g->QuitsD P (C.q i) (Deaf (t++ofEvents (gid C.n0 r) fn pos es) i) g:=by
 intro i g h0 h1 hg;rw[ConcN.get_map_set _ _ _ _ (yg c.uU h0 h1 r)]at hg;obtain⟨y,b,rfl⟩:=ψ.1 hg;have a:=c.old i y h0 h1 b;rw[woken_quitsD a,Deaf_other t (yg c.uU h0 h1 r) _ xh];exact a
def Ad(c:Core X P Post S0 C gs w t)(hr:born C.L r){es:Ϛ}{n:Nat}(b:n=gs.size):∀j,n<=j->Deaf (t++ofEvents (gid C.n0 r) fn pos es) j=0:=by
 intro j a;have:=DK c hr;rw[Deaf_other t (g':=gid C.n0 r) ϖ _ xh];exact c.above j ϖ
def xw(c:Core X P Post S0 C gs w t){es:Ϛ}{a:bE}(b:a≠r)(d:born C.L a):Deaf (t++ofEvents (gid C.n0 r) fn pos es) (gid C.n0 a)=C.ds a:=by
 rw[Deaf_other t (λe=>b (lT c.uU e).symm) _ xh];exact c.deaf a d
def zg(c:Core X P Post S0 C gs w t){es:Ϛ}{b:bE}(a:b≠r){p:Nat}(h:ConcN.RelBy (wA X) t (gid C.n0 b) p):ConcN.RelBy (wA X) (t++ofEvents (gid C.n0 r) fn pos es) (gid C.n0 b) p:=
 ConcN.RelBy.appOther h xh λe=>a (lT c.uU e).symm
def uQ{m:Mark}(h:qR m):(MemAct.mark m).touch?=none/\m≠.disable/\m≠.enable/\(∀a,m≠.release a)/\∀B,(MemAct.mark m).low B:=by
 cases m<;>simp[qR]at h<;>simp[MemAct.touch?,MemAct.low]
def eg{e:Event}{m:Mark}(h:e.loc=.mark m):MemAct.ofEvent e=.mark m:=by
 have⟨l,a,b⟩:=e;cases h;cases a<;>cases b<;>rfl
def qS{e:Event}{c:Nat}(h:nT c e.loc):(∀m,MemAct.ofEvent e≠.mark m)/\(∀B,c<B->(MemAct.ofEvent e).low B)/\∀z,(MemAct.ofEvent e).touch?=some z->z.loc=e.loc/\z.write=e.write:=by
 have⟨l,a,b⟩:=e;obtain⟨ad,h,hc⟩|h:=h;simp only at h;subst h;refine⟨λm=>by cases a<;>cases b<;>simp[MemAct.ofEvent],λB f=>?_,λz d=>?_⟩;have:(MemAct.access ⟨.cell ad,a,b⟩).low B:=by show ad.block<B;omega
 cases a<;>cases b<;>exact this
 cases a<;>cases b<;>simp[MemAct.ofEvent,MemAct.touch?]at d<;>subst d<;>exact⟨rfl,rfl⟩
 simp only at h;subst h;refine⟨λm=>by cases a<;>cases b<;>simp[MemAct.ofEvent],λB f=>?_,λz d=>?_⟩;have h1:(MemAct.access ⟨.obj c,a,b⟩).low B:=f;have h2:(MemAct.close c).low B:=f;cases a<;>cases b<;>first|exact h1|exact h2
 cases a<;>cases b<;>simp[MemAct.ofEvent,MemAct.touch?]at d<;>subst d<;>exact⟨rfl,rfl⟩
def LZ(c:Core X P Post S0 C gs w t)(hr:born C.L r)(h:DX X deaf (C.γ r).ro (C.γ r).own w w' es):
  ∀i∈ofEvents (gid C.n0 r) fn pos es,OkOp C.n0 (AH X S0) (R0 X C.γ C.L) (λr=>(C.γ r).own) (mA X) (wA X) w.heap.size w'.heap.size r i/\i.act≠.mark .disable/\i.act≠.mark .enable:=by
 intro i n;obtain⟨e,u,rfl⟩:=Go.Conc.mem_ofEvents n;obtain⟨b,a,d⟩|⟨h1,h2,h3⟩|⟨m,h1,h2⟩:=h.ev e u;have⟨e1,e2,l⟩:=qS d;have g:b<w'.heap.size:=by obtain a|a|a:=a;have:=(c.lay.sp r b (.inl a)).2.2.2;have:=h.size;omega;exact a.2;have:=(c.lay.sp r b (.inr a.1)).2.2.2;have:=h.size;omega
 refine⟨⟨rfl,e1 _,e1 _,e2 _ g,λz f=>?_⟩,e1 _,e1 _⟩;have⟨j,k⟩:=l z f;rw[j,k];obtain a|a|a:=a;exact .inr (.inl ⟨b,d,.inl a⟩);exact .inr (.inl ⟨b,d,.inr a⟩);exact .inr (.inr (.inl ⟨⟨hr,.inl ⟨b,a.1,d⟩⟩,a.2⟩));have d:nT X.Fd e.loc:=by rw[h1];exact .inl ⟨_,rfl,rfl⟩
 have⟨e1,e2,l⟩:=qS d;refine⟨⟨rfl,e1 _,e1 _,e2 _ (ω c.lay.xP h.size),λz f=>?_⟩,e1 _,e1 _⟩;have⟨j,k⟩:=l z f;rw[j,k];exact .inr (.inr (.inl ⟨⟨hr,.inr ⟨none,h1⟩⟩,h2⟩));have⟨m1,m2,s,o,q⟩:=uQ h2;have p:=eg h1;refine⟨⟨rfl,?_,?_,?_,λz f=>?_⟩,?_,?_⟩<;>simp only[p]
 simpa using o _;simpa using o _;exact q _;simp only[p,m1]at f;cases f;simpa using m2;simpa using s
def Af{es:Ϛ}(hd:Deaf t g=0)(c:∀e∈es,e.loc≠.mark .disable/\e.loc≠.mark .enable){z:Touch}(n:t.size<=i)(l:touchAt (t++ofEvents g fn pos es) i=some z)(hm:z.loc.isMemory=true):(t++ofEvents g fn pos es).counts i:=by
 refine⟨z,l,hm,.inr ?_⟩;have⟨k,d,_⟩:=touch_of l;have hg:k.g=g:=by obtain⟨h,_⟩|⟨_,h⟩:=getElem?_append_cases d;omega;exact xh k h
 have b:=lt_size_of_getElem? d;have f:(ofEvents g fn pos es).size=es.size:=by rw[ofEvents_eq];simp
 refine⟨g,by simp[Trace.g?,d,hg],?_⟩;have:=deaf_inside t g fn pos es (i-t.size) (by rw[Array.size_append,f]at b;omega);rw[show t.size+(i-t.size)=i by omega]at this;rw[this,deafBehind_still λe m=>c e (by have⟨j,a⟩:=Array.mem_iff_getElem?.1 m;rw[Array.getElem?_extract]at a;split at a;exact al4 a;cases a),hd]
def Of(c:Core X P Post S0 C gs w t)(hr:born C.L r)(W:gs[gid C.n0 r]?=some x){f:Φ->Rk}(N:C.ρ r=.mk f)(K:(C.L r).pc≠.quit)(E:C.ds r=iH (C.L r).pc)(hs:stepG P (xQ r) x w=.go x' w' es)(s:DX X (fK (C.L r).pc) (C.γ r).ro (C.γ r).own w w' es)(U:iW P (xQ r) (gG X (fK (C.L r).pc) (C.γ r).ro) (eG (AtR X P Post (C.k r) r) (C.L r) (C.γ r)) (f w) (λb=>(C.γ r).own b\/(w.heap.size<=b/\b<w'.heap.size)) x' w'):
  ∃q ops F,runT P (crowd gs w sl) (gid C.n0 r)=(.next q,ops)/\Xu F (C.ms gs.size)/\Eb X P Post S0 C.n0 F q (t++ops):=by
 have B:=runT_crowd_go (P:=P) (sl:=sl) (i:=gid C.n0 r) W (by rw[DE c.uU];exact hs);have⟨J,M⟩:=c.others (x:=x) (x':=x') hr (λd h=>LH c.lay s h) (s':=C.s) λd _ h=>.inl h
 have A:=LZ c hr s (fn:=x.frame.fn) (pos:=x.frame.place);have j:∀e∈es,e.loc≠.mark .disable/\e.loc≠.mark .enable:=λe D=>by have:=A {g:=gid C.n0 r,fn:=x.frame.fn,pos:=x.frame.place,act:=.ofEvent e} (by rw[ofEvents_eq];exact ϕ2.2 ⟨e,D,rfl⟩);exact⟨λh=>this.2.1 (eg h),λh=>this.2.2 (eg h)⟩
 have u:Deaf (t++ofEvents (gid C.n0 r) x.frame.fn x.frame.place es) (gid C.n0 r)=C.ds r:=by rw[Deaf_own,deafBehind_still j];exact c.deaf r hr
 have I:r≠.m->∀i z,t.size<=i->touchAt (t++ofEvents (gid C.n0 r) x.frame.fn x.frame.place es) i=some z->z.loc.isMemory=true->(t++ofEvents (gid C.n0 r) x.frame.fn x.frame.place es).counts i\/(AH X S0 z.loc/\z.kind=.atomic):=λ_ i z V R hm=>by by_cases H:iH (C.L r).pc=0;exact .inl (Af (by rw[c.deaf r hr,E,H]) j V R hm);have D:=s.mute (by simp[fK,H]);subst D;have⟨Q,G,_⟩:=touch_of R;have:=lt_size_of_getElem? G;simp[ofEvents_none]at this;omega
 have L:=TI.app c.uU c.ap c.ti hr s.size (λQ G=>(A Q G).1) I;have y:((gs.map (woken P x x' w')).setIfInBounds (gid C.n0 r) x').size=gs.size:=ϛ;let own':Nat->Prop:=λb=>(C.γ r).own b\/(w.heap.size<=b/\b<w'.heap.size)
 let k:Cf Δ:={C with γ:=upd C.γ r {C.γ r with own:=own'},ρ:=upd C.ρ r (f w),aw:=upd J r 1}
 have v:∀d,(k.γ d).mine=(C.γ d).mine/\(k.γ d).other=(C.γ d).other/\(k.γ d).ro=(C.γ d).ro:=λd=>by by_cases e:d=r;subst e;simp[k,upd_same];simp[k,upd_ne _ _ e]
 refine⟨_,_,k.ms gs.size,B,.right _ (.left _ _ ⟨r,?_,λd h=>upd_ne _ _ h⟩),k,_,w',sl,rfl,rfl,?_,by rw[y]⟩;show Rk.Lt (upd C.ρ r (f w) r) (C.ρ r);rw[upd_same,N];exact⟨f,w,rfl,rfl⟩;refine⟨c.uU,by rw[y];exact c.size,c.tab,c.fuel,SU c.lay s c.sh,λd n=>?_,λd n=>?_,c.olds,Ad c hr y,λd n=>?_,λh1 h2=>?_,λd h=>?_,λd h=>?_,λd h=>?_,c.lay.grow s.size hr,?_⟩;by_cases e:d=r;subst e;refine⟨x',ConcN.get_map_set_same _ _ _ (DK c hr),.inl ⟨K,E,by simp[k,upd_same],?_⟩⟩;simp only[k,upd_same];exact U;have⟨g,h1,h2⟩:=M d e n;refine⟨g,h1,?_⟩;simp only[k,upd_ne _ _ e];exact h2;rw[(v d).1];exact c.Wk d n;by_cases e:d=r;subst e;exact u;exact xw c e n;have⟨o,T,S⟩:=c.data h1 h2;refine⟨o,?_,by rw[(v .a).1,(v .b).1];exact S⟩;rw[s.keep _ c.lay.Dx λG=>?_];exact T;have:=(c.lay.xL r).1 G;cases r with|m=>exact kf c.tab rfl this|a=>exact h1 this|b=>exact h2 this
 rw[(v d).2.1,(v _).1];exact c.I9 d h;rw[(v d).1];exact c.fin d h;have⟨p,O⟩:=c.rel d h;by_cases e:d=r;subst e;have D:=s.mute (by revert h;cases (C.L d).pc<;>simp[past,fK,iH])
 subst D;rw[ofEvents_none,am5];exact⟨p,O⟩;exact⟨p,zg c e O⟩;refine TI.mono L (λd l h=>?_) (λ_=>Iff.rfl) λd b h=>?_;exact⟨h.1,by have:=h.2;rw[(v d).2.2]at this;exact this⟩;by_cases e:d=r;subst e;simp only[k,upd_same]at h;exact h.imp id λz=>⟨rfl,z⟩
 simp only[k,upd_ne _ _ e]at h;exact .inl h
end
end gz
end
end
end Go.Proofs.YtchcmhodnkgojaaGreat
