/- On the way to the last text; put together and shortened by program. -/
import Derived.Test.YtchcmhodnkgojaaGreatPart4
import GoSem.Dispatch
import Derived.Conc.Own5
import Derived.Conc.CompanyDraw
import Derived.Conc.Listed
import Derived.Control
import Derived.Conc.Own2
set_option linter.all false
set_option maxRecDepth 100000
set_option maxHeartbeats 8000000
namespace Go.Proofs.YtchcmhodnkgojaaGreat
noncomputable section
section
open Go.Conc
section
variable {P:ω}{π:Nat->Nat}{N V:Nat->Prop}
theorem Cu {β:Type}{R:β->β->Prop}{r:Nat}(hv:V r){f f':Option (Addr×η)->Sem β}(h0:ba P π N V R (f none) (f' none))(h1:∀b u,ba P π N (λi=>V i\/i=b.block) R (f (some (b,u))) (f' (some (aZ π b,u)))):
  ba P π N V R (viewAt r>>=f) (viewAt (π r)>>=f'):=by
 unfold viewAt;rw[bind_assoc,bind_assoc];refine ba.shape (k:=λx=>_) hv λx=>?_
 cases x with
 |some y=>exact h0
 |none=>
  refine ba.getObj (k:=λx=>_) λo ho=>?_
  cases o with
  |view b u=>exact(h1 b u).weak λi hi=>hi.elim .inl λe=> .inr (.inr e)
  |_=>first|exact ho.elim|exact h0.weak λi hi=> .inl hi
theorem ug {β:Type}{R:β->β->Prop}{a:Addr}(hv:V a.block){f f':Addr->Sem β}(hf:∀s:Addr,ba P π N (λi=>V i\/i=s.block) R (f s) (f' (aZ π s))):
  ba P π N V R (Conv.seenAt a>>=f) (Conv.seenAt (aZ π a)>>=f'):=by
 unfold Conv.seenAt;simp only[bind_assoc];refine Cu hv ?_ λb u=>?_
 .exact(hf a).weak λi hi=>hi.elim id λe=>e▸hv
 .dsimp only
  have e1:(aZ π a).off=a.off:=rfl;have e2:(aZ π a).spot=a.spot:=rfl;have e3:(aZ π b).spot=b.spot:=rfl;have e4:(aZ π b).block=π b.block:=rfl;have e5:(aZ π b).off=b.off:=rfl;rw[e1,e2,e3,e4,e5];split
  .exact hf b
  .split
   .exact iy trivial
   .simp only[pure_bind,bind_assoc]
    refine cD.bind' λz z' h=>?_
    rw[h.1,h.2];cases byteOfCell P P.depth u a.off with
    |none=>exact iy trivial
    |some β=>
     dsimp only;simp only[bind_assoc];refine ba.shape (k:=λx=>_) (.inr rfl) λx=>?_
     cases x with
     |none=>exact iy (α:=Addr) (f:=f) trivial
     |some e=>
      obtain⟨e,cells⟩:=e;show ba P π N _ R ((if P.cellsOf e=0 then _ else _)>>=f) ((if P.cellsOf e=0 then _ else _)>>=f')
      by_cases h0:P.cellsOf e=0
      .rw[χ h0];exact iy trivial
      .rw[ζ h0,ζ h0]
       cases cellAtBytes P P.depth e (cells/P.cellsOf e) b.off β with
       |none=>exact iy (α:=Addr) (f:=f) trivial
       |some c=>exact hf {b with off:=c}
theorem CG {r:Nat}(hv:V r):ba P π N V Eq (cellsIn r) (cellsIn (π r)):=by
 unfold cellsIn;refine ba.shape (k:=λx=>_) hv λx=>?_
 cases x with
 |some y=>exact al rfl
 |none=>
  refine ba.getObj (k:=λx=>_) λo ho=>?_
  cases o<;>first|exact ho.elim|exact al rfl
theorem nT {a:Addr}{u:η}{n:Nat}(hv:V a.block):ba P π N V Eq (variablesAt a u n) (variablesAt (aZ π a) u n):=by
 unfold variablesAt;refine cD.bind' λz z' h=>?_
 rw[h.1,h.2];refine ba.shape (k:=λx=>_) hv λx=>?_
 cases x with
 |some y=>exact al rfl
 |none=>exact al rfl
theorem oD {s:Addr}{t:η}(hv:V s.block):ba P π N V (RV π) (do Pure.pure (.pointer (some ⟨<-newObj (.view s t),0,none⟩)):Sem Φ) (do Pure.pure (.pointer (some ⟨<-newObj (.view (aZ π s) t),0,none⟩)):Sem Φ):=by
 unfold newObj;exact ba.new (o:= .view s t) trivial (λi hi=>by rw[show i=s.block from hi];exact hv) λb _=> .pure (by simp[RV,aZ])
theorem lB {src dst:η}{x:Φ}(hk:∀k,P.underlying dst≠some (.int k))(hx:VV V x):ba P π N V (RV π) (Conv.unsafePointer src dst x) (Conv.unsafePointer src dst (Value.ren π x)):=by
 unfold Conv.unsafePointer;refine(aE src).bind' λus us' h=>?_
 obtain⟨rfl,hs⟩:=h;refine(aE dst).bind' λud ud' h=>?_
 obtain⟨rfl,hd⟩:=h;cases x with
 |pointer p=>
  simp only[aU];cases us with
  |pointer t=>cases ud with
   |unsafePointer=>cases p with
    |none=>exact al (by simp[RV])
    |some a=>
     simp only[ε];refine ug hx.ptr λs=>?_
     refine(CG (.inr rfl)).bind' λc c' h=>?_
     subst h;refine(cL t).bind' λm m' h=>?_
     obtain⟨rfl,_⟩:=h;exact cI (oD (.inr rfl)) (al (by simp[RV]))
   |_=>cases p<;>exact aj
  |unsafePointer=>cases ud with
   |pointer u=>cases p with
    |none=>exact al (by simp[RV])
    |some a=>
     simp only[ε];refine ug hx.ptr λs=>?_
     refine(cL u).bind' λm m' h=>?_
     obtain⟨rfl,_⟩:=h;refine(nT (.inr rfl)).bind' λc c' h=>?_
     subst h;refine cI (al (by simp[RV])) ?_;refine ba.shape (k:=λx=>_) (.inr rfl) λx=>?_
     cases x with
     |none=>exact aI trivial
     |some y=>
      refine cD.bind' λz z' h=>?_
      rw[h.1,h.2];refine cD.bind' λz z' h=>?_
      rw[h.1,h.2];have tl:=oD (P:=P) (π:=π) (N:=N) (V:=λi=>V i\/i=s.block) (t:=u) (.inr rfl);split
      .exact iy trivial
      .exact tl
   |unsafePointer=>exact al (by cases p<;>simp[RV])
   |int k=>exact absurd hd (hk k)
   |_=>cases p<;>exact aj
  |int k=>cases ud with
   |unsafePointer=>cases p with
    |none=>exact aj
    |some a=>exact aI trivial
   |_=>cases p<;>exact aj
  |_=>cases ud<;>first|exact aj|(cases p<;>exact aj)
 |int k a=>
  cases us with
  |int k=>cases ud with
   |unsafePointer=>cases a with
    |ofNat m=>cases m<;>exact aI trivial
    |negSucc m=>exact aI trivial
   |_=>exact aj
  |_=>cases ud<;>exact aj
 |_=>cases us<;>first|exact aj|(cases ud<;>exact aj)
theorem qp {α β:Type}{R:β->β->Prop}{f f':α->β->Sem (ForInStep β)}{g:α->α}:∀(l:List α),(∀a∈l,∀b b',R b b'->ba P π N V (Im R) (f a b) (f' (g a) b'))->∀b b',R b b'->ba P π N V R (forIn l b f) (forIn (l.map g) b' f')
 |[],_,b,b',h=>by simp only[List.forIn_nil,List.map_nil];exact al h
 |a::l,hf,b,b',h=>by
  simp only[List.forIn_cons,List.map_cons];refine(hf a (by simp) b b' h).bind' λx x' hx=>?_
  cases x<;>cases x'<;>first|exact hx.elim|exact al hx|exact qp l (λa ha=>hf a (by simp[ha])) _ _ hx
theorem rQ (x:Φ):ba P π N V (RV π) (Conv.bytesToString x) (Conv.bytesToString (Value.ren π x)):=by
 unfold Conv.bytesToString;cases x with
 |slice a n c=>
  simp only[bK];cases a with
  |none=>exact al (by simp[RV])
  |some a=>
   simp only[ε];refine(mc a n).bind' λcs cs' h=>?_
   rw[show cs'=_ from h,<-Array.forIn_toList,<-Array.forIn_toList,Array.toList_map];refine(qp (R:=Eq) _ (λv hv b b' hb=>?_) _ _ rfl).bind' λr r' h=>?_
   .subst hb
    cases v with
    |int k m=>simp only[cA];cases k<;>first|exact aj|exact al rfl
    |_=>exact aj
   .subst h
    exact al (by simp[RV])
 |_=>exact aj
theorem rM (e:η)(s:Ξ):ba P π N V (RV π) (Conv.stringToBytes e s) (Conv.stringToBytes e s):=by
 unfold Conv.stringToBytes;refine iz.bind' λc c' h=>?_
 subst h;dsimp only;have hr:(s.data.map (λb:Γ=>Value.int .u8 b.toNat)++Array.replicate (c-s.size) (Value.int .u8 0)).map (Value.ren π)=s.data.map (λb:Γ=>Value.int .u8 b.toNat)++Array.replicate (c-s.size) (Value.int .u8 0):=by
  refine cx λv hv=>?_
  rcases af6.1 hv with h|h
  .obtain⟨b,_,rfl⟩:=Array.mem_map.1 h;simp
  .rw[(Array.mem_replicate.1 h).2];simp
 generalize s.data.map (λb:Γ=>Value.int .u8 b.toNat)++Array.replicate (c-s.size) (Value.int .u8 0)=cells at hr⊢;unfold newRow newObj markStringish;have:=ba.new (P:=P) (π:=π) (N:=N) (V:=V) (R:=RV π) (o:= .cells cells e) (k:=λb=>shape b>>=λx=>(match x with|some (_,n)=>freeze {block:=b,off:=n} 1|_=>Pure.pure ())>>=λ_=>Pure.pure (.slice (some ⟨b,0,none⟩) s.size c))
  (k':=λb=>shape b>>=λx=>(match x with|some (_,n)=>freeze {block:=b,off:=n} 1|_=>Pure.pure ())>>=λ_=>Pure.pure (.slice (some ⟨b,0,none⟩) s.size c)) trivial (λ_ h=>h.elim) λb hb=>by
  refine ba.shape (k:=λx=>_) (.inr rfl) λx=>?_
  cases x with
  |none=>exact al (by simp[RV,aZ])
  |some y=>exact ba.freeze (a:={block:=b,off:=y.2}) (.inr rfl) hb (al (by simp[RV,aZ]))
 rw[show dE π (.cells cells e)= .cells cells e by simp only[dE,hr]] at this;exact this
def Zf (P:ω)(src dst:η):Bool:=match P.underlying src,P.underlying dst with
 |some (.int _),some (.int _)|some (.int _),some .string|some .string,some .string=>true
 |some (.slice e),some .string|some .string,some (.slice e)=>(match P.underlying e with|some (.int .u8)=>true|_=>false)
 |some (.pointer _),some .unsafePointer|some .unsafePointer,some (.pointer _)=>true
 |_,_=>false
theorem CF {src dst:η}{x:Φ}(hc:Zf P src dst=true)(hx:VV V x):ba P π N V (RV π) (convert src dst x) (convert src dst (Value.ren π x)):=by
 unfold convert;refine(aE src).bind' λus us' h=>?_
 obtain⟨rfl,hs⟩:=h;refine(aE dst).bind' λud ud' h=>?_
 obtain⟨rfl,hd⟩:=h;simp only[Zf,hs,hd] at hc;have hp:ba P π N V (RV π) (Pure.pure x) (Pure.pure (Value.ren π x)):=al rfl;have hi:∀k n,ba P π N V (RV π) (Conv.intToInt k n) (Conv.intToInt k n):=λk n=>dP (mK trivial)
 have hf:∀s b k,ba P π N V (RV π) (Conv.floatToInt s b k) (Conv.floatToInt s b k):=λs b k=>dP (Wo _ _ _)
 have hn:∀n,ba P π N V (RV π) (Conv.intToString n) (Conv.intToString n):=λn=>dP (mK trivial)
 cases us<;>cases ud<;>first|(exfalso;simp at hc;done)|skip
 case int.int k k'=>
  cases x with
  |int j n=>simp only[cA];exact hi _ _
  |float j n=>simp only[du];exact hf _ _ _
  |pointer a=>cases a<;>exact aI trivial
  |_=>exact aI trivial
 case int.string k=>
  cases x with
  |int j n=>simp only[cA];exact hn _
  |string s=>simp only[bF] at hp⊢;exact hp
  |pointer a=>cases a<;>exact aI trivial
  |_=>exact aI trivial
 case string.string=>
  cases x with
  |int j n=>simp only[cA];exact hn _
  |string s=>simp only[bF] at hp⊢;exact hp
  |pointer a=>cases a<;>exact aI trivial
  |_=>exact aI trivial
 case slice.string e=>
  have hu8:P.underlying e=some (.int .u8):=by
   cases he:P.underlying e with
   |none=>simp[he] at hc
   |some ue=>cases ue with
    |int k=>cases k<;>first|rfl|(simp[he] at hc;done)
    |_=>simp[he] at hc
  have tl:=rQ (P:=P) (π:=π) (N:=N) (V:=V) x;cases x with
  |int j n=>simp only[cA];exact hn _
  |string s=>simp only[bF] at hp⊢;exact hp
  |slice a n c=>
   simp only[bK] at tl⊢;cases a<;>exact(aE e).bind' λu u' h=>by
    obtain⟨rfl,he⟩:=h;rw[hu8] at he;cases he;exact tl
  |_=>
   simp only[dK,cA,du,cV,bF,aU,dG,cM,bK,dA,dX,cR,dm,cQ,di] at tl⊢;exact(aE e).bind' λu u' h=>by
    obtain⟨rfl,he⟩:=h;rw[hu8] at he;cases he;exact tl
 case string.slice e=>
  cases x with
  |string s=>
   simp only[bF];refine(aE e).bind' λue ue' h=>?_
   obtain⟨rfl,he⟩:=h;simp only[he] at hc;cases ue with
   |int k=>cases k<;>first|exact rM e s|(exfalso;simp at hc;done)
   |_=>exfalso;simp at hc
  |slice a n c=>cases a<;>exact aI trivial
  |pointer a=>cases a<;>exact aI trivial
  |_=>exact aI trivial
 case pointer.unsafePointer t=>
  have:=lB (N:=N) (π:=π) (src:=src) (x:=x) (λk h=>by rw[hd] at h;cases h) hx;cases x<;>exact this
 case unsafePointer.pointer t=>
  have:=lB (N:=N) (π:=π) (src:=src) (x:=x) (λk h=>by rw[hd] at h;cases h) hx;cases x<;>exact this
end
section
variable {P:ω}{π:Nat->Nat}{N V:Nat->Prop}
theorem F0 {α:Type}{r:Nat}{k:Option (η×Nat)->Sem α}(h:∀x,Dead P (k x)):Dead P (.shape r k):=λw hw=>h _ w hw
theorem D9 {α:Type}{a:Addr}{k:Bool->Sem α}(h:∀x,Dead P (k x)):Dead P (.frozen a k):=λw hw=>h _ w hw
theorem Kb {α:Type}{m:Mark}{k:Sem α}(h:Dead P k):Dead P (.mark m k):=λw hw=>h w hw
theorem Bv {α:Type}{k:ω->Sem α}(h:Dead P (k P)):Dead P (.program k):=λw hw=>h w hw
theorem D8 {α:Type}{c:Prop}[Decidable c]{s t:Sem α}(h1:Dead P s)(h2:Dead P t):Dead P (if c then s else t):=by
 split
 .exact h1
 .exact h2
theorem Ag {α β:Type}{c:Prop}[Decidable c]{s t:Sem α}{k:α->Sem β}(h1:Dead P (s>>=k))(h2:Dead P (t>>=k)):Dead P ((if c then s else t)>>=k):=by
 split
 .exact h1
 .exact h2
theorem zg {α:Type}{size sLen n:Nat}{base:Option Addr}{x:Φ}{k:Bool->Sem α}(h:∀b,Dead P (k b)):Dead P (Builtin.mayShare size sLen n base x>>=k):=by
 have zZ:∀(a:Addr) (m:Nat) (f:Bool->Sem α),(∀b,Dead P (f b))->Dead P (Builtin.holdsCells a m>>=f):=by
  intro a m f hf;unfold Builtin.holdsCells;refine F0 λy=>?_
  cases y<;>exact hf _
 unfold Builtin.mayShare;simp only[bind_assoc,pure_bind];cases base with
 |none=>
  simp only[pure_bind];refine Ag (h _) ?_;cases x with
  |slice a _ _=>cases a with
   |none=>exact h _
   |some b=>simp only[bind_assoc,pure_bind];exact zZ _ _ _ λ_=>h _
  |_=>exact h _
 |some a=>
  simp only[bind_assoc,pure_bind];refine zZ _ _ _ λz=>D9 λz'=>?_
  refine Ag (h _) ?_;cases x with
  |slice a _ _=>cases a with
   |none=>exact h _
   |some b=>simp only[bind_assoc,pure_bind];exact zZ _ _ _ λ_=>h _
  |_=>exact h _
theorem zK (x:Φ):ba P π N V Eq (Builtin.lenOf x) (Builtin.lenOf (Value.ren π x)):=by
 unfold Builtin.lenOf;cases x with
 |slice a n c=>simp only[bK];exact al rfl
 |string s=>simp only[bF];exact al rfl
 |_=>exact aj
theorem iN (size n:Nat)(x:Φ):ba P π N V (RC π) (Builtin.firstCells size n x) (Builtin.firstCells size n (Value.ren π x)):=by
 unfold Builtin.firstCells;cases x with
 |slice a m c=>
  simp only[bK];cases a with
  |none=>exact al (by simp[RC])
  |some a=>exact mc a _
 |string s=>
  simp only[bF];refine al ?_;show _=_;exact(cx λv hv=>by obtain⟨b,_,rfl⟩:=Array.mem_map.1 hv;simp).symm
 |_=>exact aj
theorem ql (z:Array Φ)(hz:z.map (Value.ren π)=z)(n:Nat):(Builtin.zeroCells z n).map (Value.ren π)=Builtin.zeroCells z n:=by
 unfold Builtin.zeroCells;exact kS z hz _ _
def Zx (P:ω)(ats:Array η):Bool:=(match ats[0]? with
  |some t=>OR P t
  |none=>true)&&(match ats[1]? with
  |some t=>(match P.underlying t with|some (.int _)=>false|_=>true)
  |none=>false)
theorem oK (n:Nat):ba P π N V Eq (askRoom n) (askRoom n):=by
 unfold askRoom;split
 .exact .mark trivial (.pure rfl)
 .exact al rfl
theorem ET {ats:Array η}{t:η}{args:Array Φ}(hc:Zx P ats=true):ba P π N V (RV π) (Builtin.append_ ats t args) (Builtin.append_ ats t (args.map (Value.ren π))):=by
 unfold Builtin.append_;simp only[af2];cases h0:ats[0]? with
 |none=>exact aj
 |some sT=>
  cases h1:args[0]? with
  |none=>exact aj
  |some s=>
    cases h2:args[1]? with
   |none=>exact aj
   |some x=>
    simp only[ε];refine(aE sT).bind' λu u' h=>?_
    obtain⟨rfl,hu⟩:=h;cases u with
    |slice elem=>cases s with
     |slice base sLen sCap=>
      simp only[bK];refine(cL elem).bind' λsize size' h=>?_
      obtain⟨rfl,_⟩:=h;simp only[Zx,h0,ξ] at hc;obtain⟨hc0,hc1⟩:=hc;have XF:zf P elem=true:=by simpa [OR,hu] using hc0
      have hfs:=iN (P:=P) (π:=π) (N:=N) (V:=V) size sLen (.slice base sLen sCap);rw[bK] at hfs;cases h3:ats[1]? with
      |none=>simp[h3] at hc1
      |some xT=>
       simp only[bind_assoc];simp only[h3] at hc1;refine(aE xT).bind' λu u' h=>?_
       obtain⟨rfl,hu1⟩:=h;have hni:∀k,u≠.int k:=λk e=>by simp[hu1,e] at hc1
       cases u
       case int k=>exact absurd rfl (hni k)
       all_goals
        simp only[pure_bind,Bool.not_false,if_true,ι,if_false,false_or];refine(zK x).bind' λn n' h=>?_
        subst h;refine cI ?_ ?_
        .refine(iN size n x).bind' λc c' h=>?_
         rw[show c'=_ from h];cases base with
         |none=>exact al (by simp[RV])
         |some a=>
          simp only[ε];rw[<-iP,Array.toList_map];exact(fX _ _ 0).bind' λ_ _ _=>al (by simp[RV])
        .refine(eh elem).bind' λ_ _ h=>?_
         obtain⟨rfl,_⟩:=h;refine cI rN ((eh elem).bind' λ_ _ h=>?_);obtain⟨rfl,_⟩:=h;refine cI (.dead (Dead.bind _ (zg λb=>D8 (Kb (Dead.halt trivial)) (Dead.halt trivial)))) ?_;refine iz.bind' λnc _ h=>?_
         subst h;refine(eh elem).bind' λ_ _ h=>?_
         obtain⟨rfl,_⟩:=h;refine(oK _).bind' λ_ _ _=>?_
         refine hfs.bind' λold old' h=>?_
         rw[show old'=_ from h];refine(iN size n x).bind' λc c' h=>?_
         rw[show c'=_ from h];refine(eu XF).bind' λz _ h=>?_
         obtain⟨rfl,kk,hk⟩:=h;have key:=kO (P:=P) (π:=π) (N:=N) (V:=V) elem (old++c++Builtin.zeroCells z.cells (nc-(sLen+n)));rw[Array.map_append,Array.map_append,ql (π:=π) z.cells (by rw[<-iI,eA hk])] at key;refine key.bind' λa a' h=>?_
         rw[show a'=_ from h];exact al (by simp[RV])
     |_=>exact aj
    |_=>exact aj
theorem Lj {ats:Array η}{t:η}{args:Array Φ}:ba P π N V (RV π) (Builtin.copy_ ats t args) (Builtin.copy_ ats t (args.map (Value.ren π))):=by
 unfold Builtin.copy_;simp only[af2];cases h0:ats[0]? with
 |none=>exact aj
 |some sT=>
  cases h1:args[0]? with
  |none=>exact aj
  |some s=>cases h2:args[1]? with
   |none=>exact aj
   |some x=>
    simp only[ε];refine(aE sT).bind' λu u' h=>?_
    obtain⟨rfl,hu⟩:=h;cases u with
    |slice elem=>cases s with
     |slice base dLen c=>
      simp only[bK];refine(zK x).bind' λn n' h=>?_
      subst h;refine(cL elem).bind' λsize _ h=>?_
      obtain⟨rfl,_⟩:=h;refine(iN size _ x).bind' λc c' h=>?_
      rw[show c'=_ from h];cases base with
      |none=>exact al (by simp[RV,goInt])
      |some a=>
       simp only[ε];rw[Array.toList_map];exact(fX _ _ 0).bind' λ_ _ _=>al (by simp[RV,goInt])
     |_=>exact aj
    |_=>exact aj
theorem PD {ats:Array η}{t:η}{args:Array Φ}:ba P π N V (RV π) (Builtin.len_ ats t args) (Builtin.len_ ats t (args.map (Value.ren π))):=by
 unfold Builtin.len_;simp only[af2];cases h0:ats[0]? with
 |none=>exact aj
 |some sT=>
  cases h1:args[0]? with
  |none=>exact aj
  |some s=>
   simp only[ε];refine(aE sT).bind' λu u' h=>?_
   obtain⟨rfl,hu⟩:=h;cases u with
   |string=>cases s with
    |string b=>simp only[bF];exact al (by simp[RV,goInt])
    |_=>exact aj
   |array n e=>cases s<;>(simp only[dK,cA,du,cV,bF,aU,dG,cM,bK,dA,dX,cR,dm,cQ,di];exact al (by simp[RV,goInt]))
   |pointer arr=>
    have tl:∀{α:Type} (f:TypeDesc->Sem Φ),(∀d,ba P π N V (RV π) (f d) (f d))->ba P π N V (RV π) (underlying arr>>=f) (underlying arr>>=f):=λf hf=>(aE arr).bind' λd _ h=>by obtain⟨rfl,_⟩:=h;exact hf d
    cases s<;>(simp only[dK,cA,du,cV,bF,aU,dG,cM,bK,dA,dX,cR,dm,cQ,di];refine tl (α:=Unit) _ λd=>?_;cases d<;>first|exact aj|exact al (by simp[RV,goInt]))
   |slice e=>cases s with
    |slice a n c=>simp only[bK];exact al (by simp[RV,goInt])
    |_=>exact aj
   |map k e=>cases s with
    |map r=>cases r with
     |none=>simp only[dA];exact al (by simp[RV,goInt])
     |some r=>
      simp only[dA,ε];refine ba.getObj (k:=λx=>_) λo ho=>?_
      cases o<;>first|exact ho.elim|exact aj|exact al (by simp[RV,goInt])
    |_=>exact aj
   |chan d e=>cases s with
    |chan r=>cases r with
     |none=>simp only[dX];exact al (by simp[RV,goInt])
     |some r=>
      simp only[dX,ε];refine ba.getObj (k:=λx=>_) λo ho=>?_
      cases o<;>first|exact ho.elim|exact aj
    |_=>exact aj
   |_=>exact aj
theorem PE {ats:Array η}{t:η}{args:Array Φ}:ba P π N V (RV π) (Builtin.cap_ ats t args) (Builtin.cap_ ats t (args.map (Value.ren π))):=by
 unfold Builtin.cap_;simp only[af2];cases h0:ats[0]? with
 |none=>exact aj
 |some sT=>
  cases h1:args[0]? with
  |none=>exact aj
  |some s=>
   simp only[ε];refine(aE sT).bind' λu u' h=>?_
   obtain⟨rfl,hu⟩:=h;cases u with
   |array n e=>cases s<;>(simp only[dK,cA,du,cV,bF,aU,dG,cM,bK,dA,dX,cR,dm,cQ,di];exact al (by simp[RV,goInt]))
   |pointer arr=>
    have tl:∀{α:Type} (f:TypeDesc->Sem Φ),(∀d,ba P π N V (RV π) (f d) (f d))->ba P π N V (RV π) (underlying arr>>=f) (underlying arr>>=f):=λf hf=>(aE arr).bind' λd _ h=>by obtain⟨rfl,_⟩:=h;exact hf d
    cases s<;>(simp only[dK,cA,du,cV,bF,aU,dG,cM,bK,dA,dX,cR,dm,cQ,di];refine tl (α:=Unit) _ λd=>?_;cases d<;>first|exact aj|exact al (by simp[RV,goInt]))
   |slice e=>cases s with
    |slice a n c=>simp only[bK];exact al (by simp[RV,goInt])
    |_=>exact aj
   |chan d e=>cases s with
    |chan r=>cases r with
     |none=>simp only[dX];exact al (by simp[RV,goInt])
     |some r=>
      simp only[dX,ε];refine ba.getObj (k:=λx=>_) λo ho=>?_
      cases o<;>first|exact ho.elim|exact aj
    |_=>exact aj
   |_=>exact aj
theorem IU {ats:Array η}{t:η}{args:Array Φ}(hz:(match ats[0]? with|some t=>OR P t|none=>true)=true):ba P π N V (RV π) (Builtin.clear_ ats t args) (Builtin.clear_ ats t (args.map (Value.ren π))):=by
 unfold Builtin.clear_;simp only[af2];cases h0:ats[0]? with
 |none=>exact aj
 |some sT=>
  cases h1:args[0]? with
  |none=>exact aj
  |some s=>
   simp only[ε];rw[h0] at hz;refine(aE sT).bind' λu u' h=>?_
   obtain⟨rfl,hu⟩:=h;have fin:∀V:Nat->Prop,ba P π N V (RV π) (Pure.pure (.tuple #[])) (Pure.pure (.tuple #[])):=λ_=>al (by simp[RV])
   cases s with
   |map r=>cases r with
    |none=>simp only[dA];cases u<;>exact fin _
    |some r=>
     simp only[dA,ε];cases u<;>
     .refine ba.getObj (k:=λx=>_) λo ho=>?_
      cases o with
      |map es c=>
       have e:=ba.setObj (P:=P) (π:=π) (N:=N) (V:=λi=>V i\/i=r\/inner (.map es c) i) (R:=RV π) (r:=r) (o:= .map #[] c) (k:=Pure.pure (.tuple #[])) (k':=Pure.pure (.tuple #[])) trivial (λ_ h=>h.elim) (fin _);simp only[dE,Array.map_empty] at e;exact e
      |_=>first|exact ho.elim|exact aj
   |slice a n cp=>cases a with
    |none=>simp only[bK];cases u<;>exact fin _
    |some a=>cases n with
     |zero=>simp only[bK];cases u<;>exact fin _
     |succ n=>
      simp only[bK,ε];cases u with
      |slice elem=>
       have XF:zf P elem=true:=by simpa [OR,hu] using hz
       refine(eu XF).bind' λz _ h=>?_
       obtain⟨rfl,k,hk⟩:=h;have key:=fX (P:=P) (π:=π) (N:=N) (V:=V) a (Builtin.zeroCells z.cells (n+1)).toList 0;rw[<-Array.toList_map,ql (π:=π) z.cells (by rw[<-iI,eA hk])] at key;exact key.bind' λ_ _ _=>fin _
      |_=>exact aj
   |_=>cases u<;>exact aj
end
section
variable {P:ω}{π:Nat->Nat}{N V:Nat->Prop}
theorem Ep (hi:∀i j,π i=π j->i=j)(a b:Option Addr):(a.map (aZ π)==b.map (aZ π))=(a==b):=by
 rw[Bool.eq_iff_iff];simp only[ai0];constructor
 .intro h
  cases a<;>cases b<;>simp_all;exact wS hi h
 .intro h;rw[h]
theorem Eo (hi:∀i j,π i=π j->i=j)(a b:Option Nat):(a.map π==b.map π)=(a==b):=by
 rw[Bool.eq_iff_iff];simp only[ai0];constructor
 .intro h
  cases a<;>cases b<;>simp_all;exact hi _ _ h
 .intro h;rw[h]
theorem uZ {α β γ:Type}(f:α->β)(g:γ->β)(p:β->β->Bool)(q:α->γ->Bool):∀(l:List α) (m:List γ),(∀a∈l,∀b∈m,p (f a) (g b)=q a b)->(((l.map f).zip (m.map g)).all λx=>p x.1 x.2)=((l.zip m).all λx=>q x.1 x.2)
 |[],_,_=>by simp
 |_::_,[],_=>by simp
 |a::l,b::m,h=>by
  simp only[List.map_cons,List.zip_cons_cons,List.all_cons];rw[h a (by simp) b (by simp),uZ f g p q l m λa ha b hb=>h a (by simp[ha]) b (by simp[hb])]
theorem AL (hi:∀i j,π i=π j->i=j):∀(n:Nat) (v w:Φ),Instr.sameBits n (Value.ren π v) (Value.ren π w)=Instr.sameBits n v w:=by
 intro n
 induction n with
 |zero=>
  intro v w;cases v<;>cases w<;>simp[Instr.sameBits,Ep hi,Eo hi]
 |succ n ih=>
  intro v w;cases v<;>cases w<;>simp[Instr.sameBits,Ep hi,Eo hi,ih];rw[uZ (Value.ren π) (Value.ren π) (Instr.sameBits n) (Instr.sameBits n) _ _ λa _ b _=>ih a b]
def t9 (P:ω)(t:η):Bool:=match P.underlying t with|some .string=>true|_=>false
theorem AH {t:η}(ht:t9 P t=true)(x y:Φ):ba P π N V Eq (Op.equal t x y) (Op.equal t (Value.ren π x) (Value.ren π y)):=by
 unfold Op.equal;rw[show Op.maxDepth=9999+1 from rfl];unfold Op.equalIn;refine(aE t).bind' λu u' h=>?_
 obtain⟨rfl,hu⟩:=h;simp only[t9,hu] at ht;cases u with
 |string=>
  cases x with
  |string a=>cases y with
   |string b=>simp only[bF];exact al rfl
   |_=>exact aj
  |_=>exact aj
 |_=>simp at ht
theorem nd {empty:Bool}{t:η}(ht:t9 P t=true)(k:Φ):ba P π N V Eq (Instr.checkKey empty 10000 t k) (Instr.checkKey empty 10000 t (Value.ren π k)):=by
 unfold Instr.checkKey;refine(aE t).bind' λu u' h=>?_
 obtain⟨rfl,hu⟩:=h;simp only[t9,hu] at ht;cases u with
 |string=>exact al rfl
 |_=>simp at ht
theorem CP (a b:Φ):Instr.sameNow .string (Value.ren π a) (Value.ren π b)=Instr.sameNow .string a b:=by
 cases a<;>cases b<;>simp[Instr.sameNow]
theorem uM (k:Φ):∀(es:List af5) (i:Nat),Instr.findNow .string (Value.ren π k) (es.map (mh π)) i=(Instr.findNow .string k es i).map (Option.map λp=>(p.1,Value.ren π p.2))
 |[],i=>rfl
 |e::es,i=>by
  simp only[List.map_cons,Instr.findNow];rw[show(mh π e).key=Value.ren π e.key from rfl,CP];cases Instr.sameNow .string k e.key with
  |none=>rfl
  |some b=>cases b with
   |true=>rfl
   |false=>exact uM k es (i+1)
theorem oH {t:η}(ht:t9 P t=true)(k:Φ):∀(es:List af5) (i:Nat),ba P π N V (λr r'=>r'=r.map λp=>(p.1,Value.ren π p.2)) (Instr.findAsking t k es i) (Instr.findAsking t (Value.ren π k) (es.map (mh π)) i)
 |[],i=>al rfl
 |e::es,i=>by
  simp only[List.map_cons,Instr.findAsking];refine(AH ht k e.key).bind' λb b' h=>?_
  subst h;exact cI (al rfl) (oH ht k es (i+1))
theorem oG {t:η}(ht:t9 P t=true)(k:Φ)(es:List af5):ba P π N V (λr r'=>r'=r.map λp=>(p.1,Value.ren π p.2)) (Instr.findKey t k es) (Instr.findKey t (Value.ren π k) (es.map (mh π))):=by
 unfold Instr.findKey;refine(aE t).bind' λu u' h=>?_
 obtain⟨rfl,hu⟩:=h;have ht':=ht;simp only[t9,hu] at ht';cases u with
 |string=>
  rw[uM];cases Instr.findNow .string k es 0 with
  |some r=>exact al rfl
  |none=>exact oH ht k es 0
 |_=>simp at ht'
def Mr (P:ω)(t:η):Bool:=match P.underlying t with
 |some (.map k e)=>t9 P k&&zf P e
 |_=>true
theorem EP {t:η}(hm:Mr P t=true)(x k:Φ)(ok:Bool):ba P π N V (RV π) (Instr.lookup t x k ok) (Instr.lookup t (Value.ren π x) (Value.ren π k) ok):=by
 unfold Instr.lookup;refine(aE t).bind' λu u' h=>?_
 obtain⟨rfl,hu⟩:=h;simp only[Mr,hu] at hm;cases u with
 |map kt e=>
  simp only[ξ] at hm;cases x with
  |map r=>cases r with
   |none=>
    simp only[dA,Option.map_none,pure_bind];refine(nd hm.1 k).bind' λ_ _ _=>?_
    refine(oG hm.1 k #[].toList).bind' λr r' h=>?_
    subst h;cases r with
    |some p=>exact al (by cases ok<;>simp[RV])
    |none=>
     refine(eu hm.2).bind' λz z' h=>?_
     obtain⟨rfl,n,hn⟩:=h;exact al (by cases ok<;>simp[RV,eA hn])
   |some r=>
    simp only[dA,ε];refine ba.getObj (k:=λx=>_) λo ho=>?_
    cases o with
    |map es c=>
     have e1:(es.map (mh π)).isEmpty=es.isEmpty:=by simp[Array.isEmpty]
     have e2:(es.map (mh π)).toList=es.toList.map (mh π):=Array.toList_map;simp only[dE,Sem.bind,pure_bind,e1,e2];refine(nd hm.1 k).bind' λ_ _ _=>?_
     refine(oG hm.1 k _).bind' λr r' h=>?_
     subst h;cases r with
     |some p=>exact al (by cases ok<;>simp[RV])
     |none=>
      refine(eu hm.2).bind' λz z' h=>?_
      obtain⟨rfl,n,hn⟩:=h;exact al (by cases ok<;>simp[RV,eA hn])
    |_=>first|exact ho.elim|exact aj
  |_=>exact aj
 |_=>exact aj
theorem tv (hi:∀i j,π i=π j->i=j)(old new:Φ):ba P π N V (RV π) (Instr.keyThatStays old new) (Instr.keyThatStays (Value.ren π old) (Value.ren π new)):=by
 unfold Instr.keyThatStays;rw[AL hi];refine cI (al rfl) (iz.bind' λc c' h=>?_);subst h;exact al (by by_cases h:c=0<;>simp[RV,h])
theorem Fr (es:Array af5)(i:Nat)(k v:Φ):(es.modify i λe=>{e with key:=k,val:=v}).map (mh π)=(es.map (mh π)).modify i λe=>{e with key:=Value.ren π k,val:=Value.ren π v}:=by
 apply Array.ext
 .simp
 .intro j h1 h2
  simp only[Array.getElem_map,Array.getElem_modify];split<;>rfl
theorem yM (hi:∀i j,π i=π j->i=j){t:η}(hm:Mr P t=true)(x k v:Φ):ba P π N V Eq (Instr.mapUpdate t x k v) (Instr.mapUpdate t (Value.ren π x) (Value.ren π k) (Value.ren π v)):=by
 unfold Instr.mapUpdate;refine(aE t).bind' λu u' h=>?_
 obtain⟨rfl,hu⟩:=h;simp only[Mr,hu] at hm;cases u with
 |map kt e=>
  simp only[ξ] at hm;cases x with
  |map r=>cases r with
   |none=>simp only[dA];exact tn
   |some r=>
    simp only[dA,ε];refine ba.getObj (k:=λx=>_) λo ho=>?_
    cases o with
    |map es c=>
     have e2:(es.map (mh π)).toList=es.toList.map (mh π):=Array.toList_map;simp only[dE,Sem.bind,e2];refine(nd hm.1 k).bind' λ_ _ _=>?_
     refine(oG hm.1 k _).bind' λq q' h=>?_
     subst h;cases q with
     |some p=>
      obtain⟨i,pv⟩:=p;have e3:(((es.map (mh π))[i]?).map (·.key)).getD (Value.ren π k)=Value.ren π (((es[i]?).map (·.key)).getD k):=by
       rw[af2];cases es[i]? <;>rfl
      simp only[ε,e3];refine(tv hi _ k).bind' λkk kk' h=>?_
      rw[show kk'=_ from h,<-Fr];exact ba.setObj (o:= .map (es.modify i λe=>{e with key:=kk,val:=v}) c) trivial (λ_ h=>h.elim) (.pure rfl)
     |none=>
      simp only[Option.map_none];have:=ba.setObj (P:=P) (π:=π) (N:=N) (V:=λi=>V i\/i=r\/inner (.map es c) i) (R:=Eq) (r:=r) (o:= .map (es.push {key:=k,val:=v,born:=c}) (c+1)) (k:=Sem.pure ()) (k':=Sem.pure ()) trivial (λ_ h=>h.elim) (.pure rfl);simp only[dE,Array.map_push] at this;exact this
    |_=>first|exact ho.elim|exact aj
  |_=>exact aj
 |_=>exact aj
theorem IQ {t:η}(x:Φ):ba P π N V (RV π) (Instr.range t x) (Instr.range t (Value.ren π x)):=by
 unfold Instr.range;refine(aE t).bind' λu u' h=>?_
 obtain⟨rfl,hu⟩:=h;have nw:∀(V:Nat->Prop) (o:Obj),nY o->(∀i,¬inner o i)->ba P π N V (RV π) (newObj o>>=λb=>Pure.pure (.pointer (some ⟨b,0,none⟩)):Sem Φ) (newObj (dE π o)>>=λb=>Pure.pure (.pointer (some ⟨b,0,none⟩)):Sem Φ):=λV o h1 h2=>
  ba.new (o:=o) h1 (λi h=>(h2 i h).elim) λb _=> .pure (by simp[RV,aZ])
 cases u with
 |string=>cases x with
  |string s=>simp only[bF,pure_bind];exact nw _ (.stringIter s 0) trivial (λ_ h=>h)
  |_=>exact fV
 |map k e=>cases x with
  |map r=>cases r with
   |none=>simp only[dA,pure_bind];exact nw _ (.mapIter none 0 #[] 0) trivial (λ_ h=>h)
   |some r=>
    simp only[dA,ε];refine ba.getObj (k:=λx=>_) λo ho=>?_
    cases o with
    |map es c=>simp only[dE,Sem.bind,pure_bind];exact nw _ (.mapIter (some r) c #[] c) trivial (λ_ h=>h)
    |_=>first|exact ho.elim|exact aj
  |_=>exact fV
 |_=>exact fV
theorem Lh (it:Φ)(t:η):ba P π N V (RV π) (Instr.next it true t) (Instr.next (Value.ren π it) true t):=by
 unfold Instr.next;have ov:∀V:Nat->Prop,ba P π N V (RV π) (Pure.pure (.tuple #[.bool false])) (Pure.pure (.tuple #[.bool false])):=λ_=>al (by simp[RV])
 cases it with
 |pointer a=>cases a with
  |none=>exact aj
  |some a=>
   obtain⟨r,off,sp⟩:=a;cases off with
   |succ n=>exact aj
   |zero=>
    simp only[aU,ε,aZ];refine ba.getObj (k:=λx=>_) λo ho=>?_
    cases o with
    |stringIter s pos=>
     simp only[dE,Sem.bind];refine cI ?_ (ov _);exact ba.setObj (o:= .stringIter s (pos+(Utf8.decode s pos).2)) trivial (λ_ h=>h.elim) (.pure (by simp[RV,goInt]))
    |mapIter m since seen st=>
     simp only[dE,Sem.bind];cases m<;>exact aj
    |_=>first|exact ho.elim|exact aj
 |_=>exact aj
end
section
variable {P:ω}{π:Nat->Nat}{N V:Nat->Prop}
theorem yN {t:η}(hz:OR P t=true)(l c:Φ):ba P π N V (RV π) (Instr.makeSlice t l c) (Instr.makeSlice t (Value.ren π l) (Value.ren π c)):=by
 unfold Instr.makeSlice;refine(aE t).bind' λu u' h=>?_
 obtain⟨rfl,hu⟩:=h;cases u with
 |slice elem=>
  have XF:zf P elem=true:=by simpa [OR,hu] using hz
  refine(kC l).bind' λa _ h=>?_
  subst h;refine(kC c).bind' λb _ h=>?_
  subst h;refine(eh elem).bind' λi _ h=>?_
  obtain⟨rfl,_⟩:=h;dsimp only;refine cI ?_ ?_
  .refine cI rN (cI rN ?_)
   exact .dead (uQ λn=>by simp only[Sem.bind];exact Dead.bind _ (dD _))
  .refine(oK _).bind' λ_ _ _=>?_
   refine(cL elem).bind' λn _ h=>?_
   obtain⟨rfl,_⟩:=h;have fin:∀z:Array Φ,z.map (Value.ren π)=z->∀k x y,ba P π N V (RV π) (newRow elem ((Array.range k).map λi=>z[i%z.size]!)>>=λa=>Pure.pure (.slice (some a) x y)) (newRow elem ((Array.range k).map λi=>z[i%z.size]!)>>=λa=>Pure.pure (.slice (some a) x y)):=by
    intro z hz k x y;have key:=kO (P:=P) (π:=π) (N:=N) (V:=V) elem ((Array.range k).map λi=>z[i%z.size]!);rw[kS z hz] at key;exact key.bind' λa a' h=>by rw[show a'=_ from h];exact al (by simp[RV])
   refine cI ?_ ?_
   .exact fin #[] (by simp) _ _ _
   .refine(eu XF).bind' λz _ h=>?_
    obtain⟨rfl,k,hk⟩:=h;exact fin _ (by rw[<-iI,eA hk]) _ _ _
 |_=>exact aj
theorem Li (x y:Φ):ba P π N V (RV π) (Builtin.min2 x y) (Builtin.min2 (Value.ren π x) (Value.ren π y)):=by
 unfold Builtin.min2;cases x with
 |int k a=>cases y with
  |int k' b=>simp only[cA];exact dP (mK trivial)
  |pointer p=>cases p<;>first|exact aj|exact aI trivial
  |_=>exact aj
 |float k a=>cases y with
  |float k' b=>
   simp only[du];refine dP ?_;split
   .exact gX pqc λ_ _=>mK trivial
   all_goals exact mK trivial
  |pointer p=>cases p<;>first|exact aj|exact aI trivial
  |_=>exact aj
 |string a=>cases y with
  |string b=>simp only[bF];exact dP (gX (uv _ _ _) λv _=>gX (zS v) λb _=>by cases b<;>exact mK trivial)
  |pointer p=>cases p<;>first|exact aj|exact aI trivial
  |_=>exact aj
 |pointer p=>cases p with
  |some a=>exact aI trivial
  |none=>cases y with
   |pointer p=>cases p<;>first|exact aj|exact aI trivial
   |_=>exact aj
 |_=>cases y with
  |pointer p=>cases p<;>first|exact aj|exact aI trivial
  |_=>exact aj
theorem wz {f f':Φ->Φ->Sem Φ}(hf:∀x y,ba P π N V (RV π) (f x y) (f' (Value.ren π x) (Value.ren π y))):∀(l:List Φ) (x:Φ),ba P π N V (RV π) (l.foldlM f x) ((l.map (Value.ren π)).foldlM f' (Value.ren π x))
 |[],x=>al rfl
 |y::l,x=>by
  simp only[List.foldlM_cons,List.map_cons];refine(hf x y).bind' λz z' h=>?_
  rw[show z'=_ from h];exact wz hf l z
theorem PC {ats:Array η}{t:η}{args:Array Φ}:ba P π N V (RV π) (Builtin.min_ ats t args) (Builtin.min_ ats t (args.map (Value.ren π))):=by
 unfold Builtin.min_;rw[Array.toList_map];cases args.toList with
 |nil=>exact aj
 |cons x l=>exact wz Li l x
theorem qo:∀(n:Nat) (a:Addr) (acc:Ξ),ba P π N V Eq (loadBytes a acc n) (loadBytes (aZ π a) acc n)
 |0,a,acc=>al rfl
 |n+1,a,acc=>by
  simp only[loadBytes];refine(oF a).bind' λv v' h=>?_
  rw[show v'=_ from h];cases v with
  |int k m=>
   simp only[cA];cases k<;>first|exact aj|(rw[<-iP];exact qo n _ _)
  |_=>exact aj
theorem wH {α:Type}{R:α->α->Prop}{f f':Array Φ->Sem α}{args:Array Φ}(h1:∀x y,args=#[x,y]->ba P π N V R (f #[x,y]) (f' #[Value.ren π x,Value.ren π y]))(h2:args.size≠2->ba P π N V R (f args) (f' (args.map (Value.ren π)))):ba P π N V R (f args) (f' (args.map (Value.ren π))):=by
 obtain⟨l⟩:=args
 match l with
 |[x,y]=>simpa using h1 x y rfl
 |[]=>exact h2 (by simp)
 |[_]=>exact h2 (by simp)
 |_::_::_::_=>exact h2 (by simp)
theorem tj {ats:Array η}{t:η}{args:Array Φ}(hN:∀r,V r->¬N r)(hv:∀v∈args,VV V v):ba P π N V (RV π) (Builtin.unsafeString_ ats t args) (Builtin.unsafeString_ ats t (args.map (Value.ren π))):=by
 refine wH (f:=Builtin.unsafeString_ ats t) (f':=Builtin.unsafeString_ ats t) (λx y he=>?_) λh=>?_
 .subst he
  unfold Builtin.unsafeString_;cases x with
  |pointer p=>
   have e:Value.ren π (.pointer p)= .pointer (p.map (aZ π)):=aU _;rw[e];refine(kC y).bind' λn _ h=>?_
   subst h;cases ats[0]? with
   |none=>exact aj
   |some pt=>
    refine cI rN (cI (aI trivial) ?_);cases p with
    |none=>exact cI (al (by simp[RV])) tn
    |some a=>
     have hva:V a.block:=(hv _ (by simp)).ptr;refine cI (al (by simp[RV])) ?_;refine(wE pt).bind' λe _ h=>?_
     subst h;refine(nT hva).bind' λb _ h=>?_
     subst h;refine cI ?_ (aI trivial);refine(qo _ a _).bind' λs _ h=>?_
     subst h;exact ba.freeze hva (hN _ hva) (al (by simp[RV]))
  |_=>exact aj
 .obtain⟨l⟩:=args
  match l,h with
  |[],_=>exact aj
  |[_],_=>exact aj
  |[_,_],h=>exact absurd rfl h
  |_::_::_::_,_=>exact aj
theorem qh {ats:Array η}{t:η}{args:Array Φ}(hv:∀v∈args,VV V v):ba P π N V (RV π) (Builtin.unsafeSliceData_ ats t args) (Builtin.unsafeSliceData_ ats t (args.map (Value.ren π))):=by
 obtain⟨l⟩:=args
 match l,hv with
 |[],_=>exact aj
 |[x],hv=>
  cases x with
  |slice p n c=>
   have e:(Array.mk [Value.slice p n c]).map (Value.ren π)=#[.slice (p.map (aZ π)) n c]:=by simp
   rw[e];unfold Builtin.unsafeSliceData_;cases p with
   |none=>exact al (by simp[RV])
   |some a=>
    have hva:V a.block:=hv (.slice (some a) n c) (by simp) _ (.slice rfl);refine cI (al (by simp[RV])) ?_;refine(qQ hva).bind' λx _ h=>?_
    subst h;cases x with
    |some z=>exact al (by simp[RV])
    |none=>
     refine(wE t).bind' λe _ h=>?_
     subst h;exact oD hva
  |_=>exact aj
 |_::_::_,_=>exact aj
theorem yl {α:Type}:∀(a:Ask α) (w:Θ),(w.ask a).2.heap=w.heap
 |.done a,w=>rfl
 |.ask what range k,w=>by
  simp only[World.ask];split
  .exact yl _ _
  .exact yl _ _
theorem NW {α:Type}{c:Sys}{k:SysRet->Sem α}(h:∀r,Dead P (k r)):Dead P (.sys c k):=by
 intro w hw;have e:(w.sys c).2.heap=w.heap:=by
  unfold World.sys;have:=yl (Kernel.perform c w.os) w;split
  .rfl
  .rename_i r os w' heq
   rw[heq] at this;exact this
 exact h _ _ λb o hb=>hw b o (by rw[<-e];exact hb)
theorem F4 (v:Φ):Dead P (Instr.panic v):=by
 unfold Instr.panic;cases v with
 |iface t v=>exact Dead.halt trivial
 |nilIface=>
  unfold Instr.panicnil;simp only[bind_assoc];refine NW λr=>?_
  cases r with
  |strings env=>
   refine Bv ?_;simp only[pure_bind];exact D8 (Dead.halt trivial) (dD _)
  |_=>exact Dead.halt trivial
 |_=>exact Dead.halt trivial
theorem io:∀(l:List FieldStep) (t:η) (x:Option Φ),ba P π N V (λr r'=>(∃b,r= .error b/\r'= .error b)\/∃t y,r= .ok (t,y)/\r'= .ok (t,y.map (Value.ren π))) (followBlind l t x) (followBlind l t (x.map (Value.ren π)))
 |[],t,x=>al (.inr ⟨_,_,rfl,rfl⟩)
 |s::l,t,x=>by
  simp only[followBlind];refine(aE s.struct).bind' λu _ h=>?_
  obtain⟨rfl,_⟩:=h;cases u with
  |struct fs=>
   dsimp only;cases fs[s.index]? with
   |none=>exact aj
   |some f=>
    dsimp only;cases s.deref with
    |true=>cases x with
     |none=>exact al (.inl ⟨_,rfl,rfl⟩)
     |some x=>cases x with
      |pointer p=>cases p with
       |none=>simp only[ε,aU];exact al (.inl ⟨_,rfl,rfl⟩)
       |some a=>simp only[ε,aU];exact io l f.type none
      |_=>exact aj
    |false=>cases x with
     |none=>exact io l f.type none
     |some x=>cases x with
      |agg cs=>
       simp only[ε,dm];refine(kN f.type cs f.offset).bind' λv v' h=>?_
       obtain⟨rfl,_⟩:=h;exact io l f.type (some v)
      |_=>exact aj
  |_=>exact aj
theorem rO:∀(n:Nat) (t:η) (v:Φ) (name:String),ba P π N V Eq (nilAhead n t v name) (nilAhead n t (Value.ren π v) name)
 |0,_,_,_=>al rfl
 |n+1,t,v,name=>by
  simp only[nilAhead];refine(eh t).bind' λi _ h=>?_
  obtain⟨rfl,_⟩:=h;cases i.methods.find? (λx=>x.name==name) with
  |none=>exact aj
  |some m=>
   dsimp only;refine(io _ t (some v)).bind' λr r' h=>?_
   rcases h with⟨b,rfl,rfl⟩|⟨xt,y,rfl,rfl⟩
   .exact al rfl
   .dsimp only
    cases m.func with
    |none=>cases y with
     |none=>exact al rfl
     |some y=>cases y with
      |iface t v=>simp only[ε,cR];exact rO n t v name
      |nilIface=>simp only[ε,cM];exact al rfl
      |_=>exact aj
    |some q=>
     obtain⟨f,b⟩:=q;cases b with
     |true=>cases y<;>exact al rfl
     |false=>
      refine(aE xt).bind' λu _ h=>?_
      obtain⟨rfl,_⟩:=h;cases u with
      |pointer e=>cases y with
       |none=>exact al rfl
       |some y=>cases y with
        |pointer p=>cases p<;>(simp only[ε,aU];exact al rfl)
        |_=>simp only[ε,dK,cA,du,cV,bF,aU,dG,cM,bK,dA,dX,cR,dm,cQ,di];exact al rfl
      |_=>cases y<;>exact al rfl
end
section
variable {P:ω}{π:Nat->Nat}{N V:Nat->Prop}
theorem ER (v:Φ):ba P π N V Eq (Extern.Bytes.asByte v) (Extern.Bytes.asByte (Value.ren π v)):=by
 unfold Extern.Bytes.asByte;cases v with
 |int k n=>simp only[cA];cases k<;>first|exact aj|exact al rfl
 |_=>exact aj
theorem oE:∀(n:Nat) (a:Addr) (acc:Ξ),ba P π N V Eq (Extern.Bytes.loadBytes a n acc) (Extern.Bytes.loadBytes (aZ π a) n acc)
 |0,a,acc=>al rfl
 |n+1,a,acc=>by
  simp only[Extern.Bytes.loadBytes];refine(oF a).bind' λv v' h=>?_
  rw[show v'=_ from h];cases v with
  |int k m=>
   simp only[cA];cases k<;>first|exact aj|(rw[<-iP];exact oE n _ _)
  |_=>exact aj
theorem oJ (v:Φ):ba P π N V Eq (Extern.Bytes.bytesOf v) (Extern.Bytes.bytesOf (Value.ren π v)):=by
 unfold Extern.Bytes.bytesOf;cases v with
 |string s=>simp only[bF];exact al rfl
 |slice a n c=>
  simp only[bK];cases a with
  |none=>exact al rfl
  |some a=>exact oE n a _
 |_=>exact aj
theorem AE (args:Array Φ):ba P π N V (RV π) (Extern.AbiNoEscape.same args) (Extern.AbiNoEscape.same (args.map (Value.ren π))):=by
 obtain⟨l⟩:=args
 match l with
 |[]=>exact aj
 |[x]=>
  have e:(Array.mk [x]).map (Value.ren π)=#[Value.ren π x]:=by simp
  rw[e];exact al rfl
 |_::_::_=>exact aj
theorem yO (args:Array Φ):ba P π N V (RV π) (Extern.BytealgIndexByte.indexByte args) (Extern.BytealgIndexByte.indexByte (args.map (Value.ren π))):=by
 refine wH (f:=Extern.BytealgIndexByte.indexByte) (f':=Extern.BytealgIndexByte.indexByte) (λx y he=>?_) λh=>?_
 .refine(oJ x).bind' λb _ h=>?_
  subst h;refine(ER y).bind' λc _ h=>?_
  subst h;cases (List.range b.size).find? λi=>b[i]! ==c with
  |none=>exact al (by simp[RV,goInt])
  |some i=>exact al (by simp[RV,goInt])
 .obtain⟨l⟩:=args
  match l,h with
  |[],_=>exact aj
  |[_],_=>exact aj
  |[_,_],h=>exact absurd rfl h
  |_::_::_::_,_=>exact aj
theorem ww (h0:π 0=0)(hP1:P.globals.size<=1)(name:String):ba P π N V (RA π) (globalAddr name) (globalAddr name):=by
 unfold globalAddr;refine cD.bind' λz z' h=>?_
 rw[h.1,h.2];cases h:P.globals.findIdx? λx=>x.name==name with
 |none=>exact aj
 |some g=>
  have hg:g<P.globals.size:=by
   have:=Array.findIdx?_eq_some_iff_findIdx_eq.1 h;exact this.1
  have:g=0:=by omega
  subst this;exact al (by simp[RA,aZ,h0])
theorem AG (h0:π 0=0)(hP1:P.globals.size<=1)(args:Array Φ):ba P π N V (RV π) (Extern.BytealgIndex.index args) (Extern.BytealgIndex.index (args.map (Value.ren π))):=by
 refine wH (f:=Extern.BytealgIndex.index) (f':=Extern.BytealgIndex.index) (λx y he=>?_) λh=>?_
 .refine(oJ x).bind' λa _ h=>?_
  subst h;refine(oJ y).bind' λb _ h=>?_
  subst h;have hm:ba P π N V Eq Extern.BytealgIndex.maxLen Extern.BytealgIndex.maxLen:=by
   unfold Extern.BytealgIndex.maxLen;refine(ww h0 hP1 _).bind' λg g' h=>?_
   rw[show g'=_ from h];refine(oF g).bind' λv v' h=>?_
   rw[show v'=_ from h];exact kC v
  refine hm.bind' λm _ h=>?_
  subst h;refine cI (aI trivial) (cI (aI trivial) ?_);cases (List.range (a.size+1-b.size)).find? λi=>a.extract i (i+b.size)==b with
  |none=>exact al (by simp[RV,goInt])
  |some i=>exact al (by simp[RV,goInt])
 .obtain⟨l⟩:=args
  match l,h with
  |[],_=>exact aj
  |[_],_=>exact aj
  |[_,_],h=>exact absurd rfl h
  |_::_::_::_,_=>exact aj
theorem xY:∀(n t:Nat) (acc:Array Φ),(Extern.BytealgMakeNoZero.digits n t acc).map (Value.ren π)=Extern.BytealgMakeNoZero.digits n t (acc.map (Value.ren π))
 |0,_,_=>rfl
 |n+1,t,acc=>by
  simp only[Extern.BytealgMakeNoZero.digits];rw[xY n,Array.map_push,cA]
theorem wv (ps rs:Array η)(args:Array Φ):ba P π N V (RV π) (Extern.BytealgMakeNoZero.makeNoZero ps rs args) (Extern.BytealgMakeNoZero.makeNoZero ps rs (args.map (Value.ren π))):=by
 obtain⟨l⟩:=args
 match l with
 |[]=>exact aj
 |[x]=>
  cases x with
  |int k n=>
   have e:(Array.mk [Value.int k n]).map (Value.ren π)=#[.int k n]:=by simp
   rw[e];cases k with
   |i64=>
    unfold Extern.BytealgMakeNoZero.makeNoZero;cases rs[0]? with
    |none=>exact aj
    |some t=>
     refine(aE t).bind' λu _ h=>?_
     obtain⟨rfl,_⟩:=h;cases u with
     |slice elem=>
      refine cI rN ?_;refine iz.bind' λc _ h=>?_
      subst h;refine(oK _).bind' λ_ _ _=>?_
      refine iz.bind' λb _ h=>?_
      subst h;have key:=kO (P:=P) (π:=π) (N:=N) (V:=V) elem (Extern.BytealgMakeNoZero.digits c b #[]);rw[xY,Array.map_empty] at key;refine key.bind' λa a' h=>?_
      rw[show a'=_ from h];exact al (by simp[RV])
     |_=>exact aj
   |_=>exact aj
  |_=>exact aj
 |_::_::_=>exact aj
def RN (π:Nat->Nat)(S:aa9->Bool):Next->Next->Prop
 |.value v,n'=>n'= .value (Value.ren π v)
 |.skip,n'=>n'= .skip
 |.enter f ae,n'=>n'= .enter f (ae.map (Value.ren π))/\S f=true
 |_,_=>False
def nX:aa8->Bool
 |.tmp _|.func _=>true
 |.const v=>i9 8 v
 |.global _=>false
def A9:aa8->Bool
 |.const (.pointer none)=>true
 |_=>false
def Mh (P:ω)(S E:aa9->Bool)(str:Bool)(c:Call):Bool:=match c.callee with
 |.builtin b=>(match b with
  |.len|.cap|.copy|.min=>true
  |.unsafeSliceData|.unsafeString=>str
  |.append=>Zx P c.argTypes
  |.clear=>(match c.argTypes[0]? with|some t=>OR P t|none=>true)
  |_=>false)
 |.value (.func f)=>S f||E f
 |_=>false
def Mf (P:ω)(S E:aa9->Bool)(str:Bool):Op->Bool
 |.move _|.assign _|.pick _ _ _|.box _ _|.load _ _|.store _ _ _|.nilCheck _|.unOp _ _ _|.makeInterface _ _|.makeMap _ _
 |.field _ _ _|.indexAddr _ _ _|.index _ _ _|.range _ _|.extract _ _|.panic _=>true
 |.next _ b=>b
 |.alloc t|.build t _=>zf P t
 |.buildSlice t _ _|.makeSlice t _ _=>OR P t
 |.binOp op t x y _=>(match op with
  |.eql|.neq=>((eqTy P 20 t||(str&&lI P t))&&!P.eqGuardType P.depth t)||A9 x||A9 y
  |_=>true)
 |.convert s d _=>Zf P s d
 |.slice t _ _ _ _=>(match P.underlying t with|some (.pointer _)=>false|_=>true)
 |.fieldAddr s _ f=>Nk P s f
 |.lookup t _ _ _|.mapUpdate t _ _ _=>Mr P t
 |.call c=>Mh P S E str c
 |_=>false
def mj (P:ω)(S E:aa9->Bool)(str:Bool)(o:Oper):Bool:=Mf P S E str o.op&&o.op.operands.all nX
structure Zz (P:ω)(π:Nat->Nat)(N:Nat->Prop)(S E:aa9->Bool)(str:Bool)(V:Nat->Prop):Prop where
 inj:∀i j,π i=π j->i=j
 zero:π 0=0
 y8:P.globals.size<=1
 body:∀f,S f=true->∃fn,P.funcs[f]? =some fn/\(fn.name== "runtime.NumGoroutine")=false/\fn.body.isSome=true
 ext:∀f,E f=true->∀(args:Array Φ) (V:Nat->Prop),ba P π N V (RN π S) (callFunc f args) (callFunc f (args.map (Value.ren π)))
 str:str=true->∀r,V r->¬N r
theorem eT {S:aa9->Bool}{s s':Sem Φ}(h:ba P π N V (RV π) s s'):ba P π N V (RN π S) (do Pure.pure (.value (<-s)):Sem Next) (do Pure.pure (.value (<-s')):Sem Next):=h.bind' λv v' h=>by rw[show v'=_ from h];exact al rfl
theorem SZ {S:aa9->Bool}{s s':Sem Unit}(h:ba P π N V Eq s s'):ba P π N V (RN π S) (do s;Pure.pure .skip:Sem Next) (do s';Pure.pure .skip:Sem Next):=h.bind' λ_ _ _=>al rfl
theorem AI {S E:aa9->Bool}{str:Bool}(h:Zz P π N S E str V){f:aa9}(hf:S f=true\/E f=true)(args:Array Φ):ba P π N V (RN π S) (callFunc f args) (callFunc f (args.map (Value.ren π))):=by
 rcases hf with hf|hf
 .obtain⟨fn,h1,h2,h3⟩:=h.body f hf
  unfold callFunc;refine cD.bind' λz z' h=>?_
  rw[h.1,h.2,h1];dsimp only;have h4:fn.body.isNone=false:=by cases hb:fn.body<;>simp_all
  rw[h2,h4];exact al ⟨rfl,hf⟩
 .exact h.ext f hf args V
theorem m9 {S:aa9->Bool}{f:aa9}{fn:Func}{e:Array Φ->Sem Φ}(hf:P.funcs[f]? =some fn)(h2:(fn.name== "runtime.NumGoroutine")=false)(h3:fn.body.isNone=true)(hn:Extern.findNext fn=none)(he:Extern.find fn=some e){args:Array Φ}
  (h:ba P π N V (RV π) (e args) (e (args.map (Value.ren π)))):ba P π N V (RN π S) (callFunc f args) (callFunc f (args.map (Value.ren π))):=by
 unfold callFunc;refine cD.bind' λz z' h'=>?_
 rw[h'.1,h'.2,hf];dsimp only;rw[h2,h3,hn];refine ba.mark (m:= .extern f) trivial ?_;show ba P π N V _ (match Extern.find fn with|some e=>_|none=>_) (match Extern.find fn with|some e=>_|none=>_);rw[he];exact eT h
theorem SC {xs:Array aa8}(h:xs.all nX=true){x:aa8}(hx:x∈xs):nX x=true:=af0.1 h x hx
theorem qR {S E:aa9->Bool}{str:Bool}(h:Zz P π N S E str V){ρ ρ':aa8->Φ}{o:Oper}(hok:mj P S E str o=true)
  (hρ:∀x∈o.op.operands,nX x=true->ρ' x=Value.ren π (ρ x)/\VV V (ρ x)) (hf:∀f,ρ (.func f)= .func (.func f) #[] #[]/\ρ' (.func f)= .func (.func f) #[] #[]) (hc:∀v,ρ (.const v)=v):
  ba P π N V (RN π S) (execOp ρ o) (execOp ρ' o):=by
 obtain⟨dst,op,ty,pos,after,guard⟩:=o;simp only[mj,ξ] at hok;obtain⟨hop,hall⟩:=hok;have hx:∀x∈op.operands,ρ' x=Value.ren π (ρ x)/\VV V (ρ x):=λx hx=>hρ x hx (SC hall hx)
 clear hρ hall;unfold execOp;cases op with
 |move x=>dsimp only;rw[(hx x (by simp[Op.operands])).1];exact al rfl
 |assign x=>dsimp only;rw[(hx x (by simp[Op.operands])).1];exact al rfl
 |pick c a b=>
  dsimp only;rw[(hx c (by simp[Op.operands])).1,(hx a (by simp[Op.operands])).1,(hx b (by simp[Op.operands])).1];refine(ES _).bind' λt _ h=>?_
  subst h;exact al (by cases t<;>rfl)
 |alloc t=>exact eT (IY hop)
 |box t x=>dsimp only;rw[(hx x (by simp[Op.operands])).1];exact eT (PF t _)
 |build t ps=>
  dsimp only;have:(ps.map λp=>(p.1,ρ' p.2))=(ps.map λp=>(p.1,ρ p.2)).map λp=>(p.1,Value.ren π p.2):=by
   rw[Array.map_map];exact Array.map_congr_left λp hp=>by simp only[Function.comp];rw[(hx p.2 (by simp[Op.operands];exact⟨p.1,hp⟩)).1]
  rw[this];exact eT (IV hop _)
 |buildSlice t n ps=>
  dsimp only;have:(ps.map λp=>(p.1,ρ' p.2))=(ps.map λp=>(p.1,ρ p.2)).map λp=>(p.1,Value.ren π p.2):=by
   rw[Array.map_map];exact Array.map_congr_left λp hp=>by simp only[Function.comp];rw[(hx p.2 (by simp[Op.operands];exact⟨p.1,hp⟩)).1]
  rw[this];exact eT (wF hop n _)
 |load t x=>dsimp only;rw[(hx x (by simp[Op.operands])).1];exact eT (EQ t _)
 |store t x y=>dsimp only;rw[(hx x (by simp[Op.operands])).1,(hx y (by simp[Op.operands])).1];exact SZ (Cv t _ _)
 |nilCheck x=>
  dsimp only;rw[(hx x (by simp[Op.operands])).1];generalize ρ x=v;have hp:∀v:Φ,ba P π N V (RN π S) (Pure.pure (.value v)) (Pure.pure (.value (Value.ren π v))):=λv=>al rfl
  cases v with
  |pointer p=>cases p with
   |none=>exact tn
   |some a=>have:=hp (.pointer (some a));simp only[aU,ε] at this⊢;exact this
  |nilIface=>exact tn
  |nilFunc=>exact tn
  |func fn first Gn=>
   have hf:=hp (.func fn first Gn);cases fn with
   |method name=>
    simp only[di,oU,af2] at hf⊢;cases first[0]? with
    |none=>exact hf
    |some w=>
     simp only[ε];cases w with
     |nilIface=>exact tn
     |iface t w=>
      simp only[cR];refine cD.bind' λz z' h=>?_
      rw[h.1,h.2];refine(rO _ t w name).bind' λr _ h=>?_
      subst h;exact cI (aI trivial) hf
     |_=>simp only[dK,cA,du,cV,bF,aU,dG,cM,bK,dA,dX,cR,dm,cQ,di];exact hf
   |_=>simp only[di,oU] at hf⊢;exact hf
  |bool b=>have:=hp (.bool b);simp only[dK] at this⊢;exact this
  |int k n=>have:=hp (.int k n);simp only[cA] at this⊢;exact this
  |float k n=>have:=hp (.float k n);simp only[du] at this⊢;exact this
  |complex k n m=>have:=hp (.complex k n m);simp only[cV] at this⊢;exact this
  |string s=>have:=hp (.string s);simp only[bF] at this⊢;exact this
  |slice a n m=>have:=hp (.slice a n m);simp only[bK] at this⊢;exact this
  |map r=>have:=hp (.map r);simp only[dA] at this⊢;exact this
  |chan r=>have:=hp (.chan r);simp only[dX] at this⊢;exact this
  |iface t w=>have:=hp (.iface t w);simp only[cR] at this⊢;exact this
  |agg cs=>have:=hp (.agg cs);simp only[dm] at this⊢;exact this
  |tuple cs=>have:=hp (.tuple cs);simp only[cQ] at this⊢;exact this
 |binOp op t x y t2=>
  dsimp only;have ex:=hx x (by simp[Op.operands]);have ey:=hx y (by simp[Op.operands]);have nl:∀z,A9 z=true->ρ z= .pointer none:=λz hz=>by
   unfold A9 at hz;split at hz
   .exact hc _
   .cases hz
  have hq:op= .eql\/op= .neq->((eqTy P 20 t=true\/(str&&lI P t)=true)/\P.eqGuardType P.depth t=false)\/ρ x= .pointer none\/ρ y= .pointer none:=by
   rintro(rfl|rfl)
   all_goals
    simp only[Mf,ag9,ξ,Bool.not_eq_true'] at hop;rcases hop with(h1|h1)|h1
    .exact .inl ⟨h1.1.imp id λh=>by simp[h.1,h.2],h1.2⟩
    .exact .inr (.inl (nl x h1))
    .exact .inr (.inr (nl y h1))
  rw[ex.1,ey.1];refine eT ((CE (n:=20) λe=>(hq e).imp (λh=>⟨h.1.imp id λh=>by simp only[ξ] at h;exact h.2,h.2⟩) id).bind' λ_ _ _=>IW (pe:=str) (n:=20) h.str h.zero h.inj h.y8 (λe=>?_) ex.2 ey.2);rcases hq e with h1|h1
  .exact h1.1.imp id .inr
  .exact .inr (.inl h1)
 |unOp op t x=>dsimp only;rw[(hx x (by simp[Op.operands])).1];exact eT LV
 |convert a b x=>dsimp only;rw[(hx x (by simp[Op.operands])).1];exact eT (CF hop (hx x (by simp[Op.operands])).2)
 |makeInterface t x=>dsimp only;rw[(hx x (by simp[Op.operands])).1];exact eT (rP t _)
 |makeMap t r=>
  dsimp only;have:r.map ρ'=(r.map ρ).map (Value.ren π):=by
   cases r with
   |none=>rfl
   |some x=>simp[(hx x (by simp[Op.operands])).1]
  rw[this];exact eT (Cz t _)
 |makeSlice t x y=>dsimp only;rw[(hx x (by simp[Op.operands])).1,(hx y (by simp[Op.operands])).1];exact eT (yN hop _ _)
 |slice t x l hh m=>
  dsimp only;have ho:∀z:Option aa8,(∀y,z=some y->y∈(Op.slice t x l hh m).operands)->z.map ρ'=(z.map ρ).map (Value.ren π):=λz hz=>by
   cases z with
   |none=>rfl
   |some y=>simp[(hx y (hz y rfl)).1]
  rw[(hx x (by simp[Op.operands])).1,ho l (λy e=>by simp[Op.operands,e]),ho hh (λy e=>by simp[Op.operands,e]),ho m (λy e=>by simp[Op.operands,e])];refine eT (Cw t _ _ _ _ λe he=>?_);simp[Mf,he] at hop
 |fieldAddr t x f=>dsimp only;rw[(hx x (by simp[Op.operands])).1];exact eT (CB hop _)
 |field t x f=>dsimp only;rw[(hx x (by simp[Op.operands])).1];exact eT (IS t _ f)
 |indexAddr t x y=>dsimp only;rw[(hx x (by simp[Op.operands])).1,(hx y (by simp[Op.operands])).1];exact eT (CA t _ _)
 |index t x y=>dsimp only;rw[(hx x (by simp[Op.operands])).1,(hx y (by simp[Op.operands])).1];exact eT (IR t _ _)
 |lookup t x y ok=>dsimp only;rw[(hx x (by simp[Op.operands])).1,(hx y (by simp[Op.operands])).1];exact eT (EP hop _ _ ok)
 |mapUpdate t m k v=>dsimp only;rw[(hx m (by simp[Op.operands])).1,(hx k (by simp[Op.operands])).1,(hx v (by simp[Op.operands])).1];exact SZ (yM h.inj hop _ _ _)
 |range t x=>dsimp only;rw[(hx x (by simp[Op.operands])).1];exact eT (IQ _)
 |next x b=>cases b with
  |false=>cases hop
  |true=>dsimp only;rw[(hx x (by simp[Op.operands])).1];exact eT (Lh _ _)
 |entry _=>cases hop
 |extract x i=>dsimp only;rw[(hx x (by simp[Op.operands])).1];exact eT (CD _ i)
 |panic x=>exact .dead (Dead.bind _ (F4 _))
 |call c=>
  obtain⟨callee,Ih,ats⟩:=c;have ha:Ih.map ρ'=(Ih.map ρ).map (Value.ren π):=by
   rw[Array.map_map];exact Array.map_congr_left λy hy=>(hx y (by simp[Op.operands,Call.operands,hy])).1
  have hav:∀v∈Ih.map ρ,VV V v:=λv hv=>by
   obtain⟨y,hy,rfl⟩:=Array.mem_map.1 hv;exact(hx y (by simp[Op.operands,Call.operands,hy])).2
  simp only[Mf,Mh] at hop;dsimp only;unfold resolve;rw[ha];generalize Ih.map ρ=vs at hav⊢;cases callee with
  |invoke r m=>simp at hop
  |builtin b=>
   dsimp only at hop;cases b<;>first|(exfalso;simp at hop;done)|skip
   case append=>exact eT (ET hop)
   case cap=>exact eT PE
   case clear=>exact eT (IU hop)
   case copy=>exact eT Lj
   case len=>exact eT PD
   case min=>exact eT PC
   case unsafeSliceData=>exact eT (qh hav)
   case unsafeString=>exact eT (tj (h.str hop) hav)
  |value f=>
   cases f with
   |func f=>
    dsimp only at hop⊢;rw[(hf f).1,(hf f).2];have e1:∀ws:Array Φ,#[]++ws++#[]=ws:=λws=>by simp
    have:=AI h (by simpa using hop) vs;show ba P π N V _ (callFunc f (#[]++vs++#[])) (callFunc f (#[]++vs.map (Value.ren π)++#[]));rw[e1,e1];exact this
   |_=>simp at hop
 |_=>simp[Mf] at hop
end
section
variable {π:Nat->Nat}
theorem e9:∀(v:Φ),(∀r,Value.Has r v->π r=r)->Value.ren π v=v
 |.bool _,_|.int _ _,_|.float _ _,_|.complex _ _ _,_|.string _,_|.nilFunc,_|.nilIface,_=>by simp
 |.pointer a,h=>by
  cases a with
  |none=>simp
  |some a=>simp[aZ,h a.block (.ptr rfl)]
 |.slice a n c,h=>by
  cases a with
  |none=>simp
  |some a=>simp[aZ,h a.block (.slice rfl)]
 |.map r,h=>by
  cases r with
  |none=>simp
  |some r=>simp[h r .map]
 |.chan r,h=>by
  cases r with
  |none=>simp
  |some r=>simp[h r .chan]
 |.iface t v,h=>by rw[cR,e9 v λr x=>h r (.iface x)]
 |.agg cs,h=>by rw[dm,cx λv hv=>e9 v λr x=>h r (.agg hv x)]
 |.tuple cs,h=>by rw[cQ,cx λv hv=>e9 v λr x=>h r (.tuple hv x)]
 |.func fn f c,h=>by
  rw[di,cx λv hv=>e9 v λr x=>h r (.first hv x),cx λv hv=>e9 v λr x=>h r (.Gn hv x)];cases fn with
  |yield l=>simp[oU,h l .yield]
  |_=>rfl
termination_by v=>SizeOf.sizeOf v
decreasing_by
 all_goals first
  |(simp_wf;have:=Array.sizeOf_lt_of_mem ‹_∈_›;omega)
  |(simp_wf;omega)
theorem pW {c:Array Φ}{f:Φ->Φ}(h:c.map f=c){x:Φ}(hx:x∈c):f x=x:=by
 obtain⟨i,hi,rfl⟩:=Array.mem_iff_getElem.1 hx;have:=congrArg (·[i]?) h;simp[hi] at this;exact this
theorem nB {r:Nat}{v:Φ}(hr:Value.Has r v):Value.ren π v=v->π r=r:=by
 induction hr with
 |ptr h=>intro e;simp[aZ] at e;rw[<-h];exact congrArg Addr.block e
 |slice h=>intro e;simp[aZ] at e;rw[<-h];exact congrArg Addr.block e
 |map=>intro e;simpa using e
 |chan=>intro e;simpa using e
 |yield=>intro e;simp[oU] at e;exact e.1
 |first hx _ ih=>intro e;rw[di] at e;injection e with _ e1 _;exact ih (pW e1 hx)
 |Gn hx _ ih=>intro e;rw[di] at e;injection e with _ _ e1;exact ih (pW e1 hx)
 |iface _ ih=>intro e;rw[cR] at e;injection e with _ e1;exact ih e1
 |agg hx _ ih=>intro e;rw[dm] at e;injection e with e1;exact ih (pW e1 hx)
 |tuple hx _ ih=>intro e;rw[cQ] at e;injection e with e1;exact ih (pW e1 hx)
inductive j3 (r:Nat):Obj->Prop
 |cells {c:Array Φ} {t:η} {f:Nat×Nat} {v:Φ} (hv:v∈c) (h:Value.Has r v):j3 r (.cells c t f)
 |key {es:Array af5} {c:Nat} {e:af5} (he:e∈es) (h:Value.Has r e.key):j3 r (.map es c)
 |val {es:Array af5} {c:Nat} {e:af5} (he:e∈es) (h:Value.Has r e.val):j3 r (.map es c)
 |iter {a:Nat} {b:Array Nat} {c:Nat}:j3 r (.mapIter (some r) a b c)
 |view {a:Addr} {t:η} (h:a.block=r):j3 r (.view a t)
 |number {a:Addr} {l:Bool} (h:a.block=r):j3 r (.number a l)
theorem oT {o:Obj}(h:∀r,j3 r o->π r=r):dE π o=o:=by
 cases o with
 |cells c t f=>simp only[dE];rw[cx λv hv=>e9 v λr x=>h r (.cells hv x)]
 |map es c=>
  simp only[dE];have:es.map (mh π)=es:=by
   apply Array.ext
   .simp
   .intro i h1 h2
    rw[Array.getElem_map];unfold mh;rw[e9 _ λr x=>h r (.key (Array.getElem_mem _) x),e9 _ λr x=>h r (.val (Array.getElem_mem _) x)]
  rw[this]
 |mapIter m a b c=>cases m with
  |none=>rfl
  |some r=>simp[dE,h r .iter]
 |view a t=>simp[dE,aZ,h a.block (.view rfl)]
 |number a l=>simp[dE,aZ,h a.block (.number rfl)]
 |_=>rfl
theorem FT {r:Nat}{o:Obj}(hr:j3 r o)(h:dE π o=o):π r=r:=by
 cases hr with
 |cells hv x=>simp only[dE] at h;injection h with h1;exact nB x (pW h1 hv)
 |key he x=>
  simp only[dE] at h;injection h with h1;obtain⟨i,hi,rfl⟩:=Array.mem_iff_getElem.1 he;have:=congrArg (·[i]?) h1;simp[hi] at this;exact nB x (congrArg MapEntry.key this)
 |val he x=>
  simp only[dE] at h;injection h with h1;obtain⟨i,hi,rfl⟩:=Array.mem_iff_getElem.1 he;have:=congrArg (·[i]?) h1;simp[hi] at this;exact nB x (congrArg MapEntry.val this)
 |iter=>simpa [dE] using h
 |view x=>simp[dE,aZ] at h;rw[<-x];exact congrArg Addr.block h
 |number x=>simp[dE,aZ] at h;rw[<-x];exact congrArg Addr.block h
theorem JE {o:Obj}{i:Nat}(h:inner o i):j3 i o:=by
 cases o<;>first|exact h.elim|exact .view h.symm|exact .number h.symm
def sg (r M:Nat)(x:Nat):Nat:=if x=r then M else if M<=x then x+1 else x
theorem UE {r M:Nat}(hr:r<M):∀i j,sg r M i=sg r M j->i=j:=by
 intro i j h;unfold sg at h;split at h<;>split at h<;>(try split at h)<;>(try split at h)<;>omega
theorem UF {r M x:Nat}(h:x≠r)(hx:x<M):sg r M x=x:=by unfold sg;rw[ζ h,ζ (by omega)]
theorem PH {r M:Nat}(hr:r<M):sg r M r≠r:=by unfold sg;rw[χ rfl];omega
end
def gV (H:Nat->Prop)(wL:Θ)(r:Nat):Prop:=r<wL.heap.size/\¬H r
structure LW (H Z:Nat->Prop)(wL:Θ):Prop where
 ok:∀(b:Nat) (o:Obj),wL.heap[b]? =some o->¬H b->¬Z b->nY o
 hid:∀(b:Nat) (o:Obj),wL.heap[b]? =some o->H b->o= .cells #[] 1000000 (0,0)
 oq:∀(b:Nat) (o:Obj),wL.heap[b]? =some o->Z b->∃c t,o= .cells c t (0,c.size)
 low:∀b,H b\/Z b->b<wL.heap.size
 apart:∀b,Z b->¬H b
 zero:gV H wL 0
 Sa:∀(b:Nat) (o:Obj),wL.heap[b]? =some o->¬H b->∀r,j3 r o->gV H wL r
section
variable {P:ω}{π:Nat->Nat}{H Z:Nat->Prop}{wL w:Θ}
theorem LW.zU (h:LW H Z wL):ed wL:=by
 intro b o hb
 by_cases hH:H b
 .rw[h.hid b o hb hH];trivial
 .by_cases hZ:Z b
  .obtain⟨c,t,rfl⟩:=h.oq b o hb hZ;trivial
  .exact h.ok b o hb hH hZ
theorem LW.az (h:LW H Z wL)(t:dZ)(d:Nat):LW H Z (az wL t d):=⟨h.ok,h.hid,h.oq,h.low,h.apart,h.zero,h.Sa⟩
theorem LW.self (h:LW H Z wL){σ:Nat->Nat}(hi:∀i j,σ i=σ j->i=j)(hf:∀i,gV H wL i->σ i=i):WR σ H Z wL wL:=by
 have ob:∀(b:Nat) (o:Obj),wL.heap[b]? =some o->¬H b->σ b=b/\dE σ o=o:=λb o hb hH=>
  ⟨hf b ⟨(Ψ.1 hb).1,hH⟩,oT λr hr=>hf r (h.Sa b o hb hH r hr)⟩
 refine {inj:=hi,tape:=rfl,drawn:=rfl,lt:=λb hb hH=>by rw[hf b ⟨hb,hH⟩];exact hb,ok:=λb o hb hH hZ=>⟨h.ok b o hb hH hZ,?_⟩,hid:=h.hid,oq:=λb o hb hZ=>?_,low:=h.low,yx:=λb o hb i hin=>?_}
 .obtain⟨e1,e2⟩:=ob b o hb hH
  rw[e1,e2];exact hb
 .obtain⟨e1,e2⟩:=ob b o hb (h.apart b hZ)
  obtain⟨c,t,rfl⟩:=h.oq b o hb hZ;refine⟨c,t,(0,c.size),rfl,?_⟩;rw[e1];simp only[dE] at e2;injection e2 with e3;rw[e3];exact hb
 .by_cases hH:H b
  .rw[h.hid b o hb hH] at hin;exact hin.elim
  .exact h.Sa b o hb hH i (JE hin)
theorem uW {α:Type}{R:(Nat->Nat)->α->α->Prop}{s:Sem α}(TB:P.cellsOf 1000000=0)(h:LW H Z wL)
  (hs:∀σ:Nat->Nat,(∀i j,σ i=σ j->i=j)->(∀i,gV H wL i->σ i=i)->ba P σ (λb=>H b\/Z b) (gV H wL) (R σ) s s) {x:α} {bI:Θ} (hr:s.run P wL= .ok x bI):
  LW H Z bI/\wL.heap.size<=bI.heap.size/\∀r,¬gV H bI r->∃σ:Nat->Nat,σ r≠r/\R σ x x:=by
 have hsz:=(hs id (λ_ _ h=>h) (λ_ _=>rfl)).mG h.zU (λb hb=>h.low b hb) hr;have FE:∀i,gV H wL i->gV H bI i:=λi hi=>⟨ψ hi.1 hsz.1,hi.2⟩
 have key:∀σ:Nat->Nat,(∀i j,σ i=σ j->i=j)->(∀i,gV H bI i->σ i=i)->R σ x x/\WR σ H Z bI bI:=by
  intro σ hi hf;have hw:=h.self hi λi hv=>hf i (FE i hv)
  obtain⟨x',w',es',g1,g2,g3,_,_⟩:=(hs σ hi λi hv=>hf i (FE i hv)).run TB (λb=>Iff.rfl) hw (λi hv=>hv) hr (λi hlt=>hf _ ⟨hlt,λhH=>by have:=h.low _ (.inl hH);omega⟩) (es:=#[]);have g4:=congrArg Prod.fst g1;rw[Sem.runT_fst,hr] at g4;simp only[Result.ok.injEq] at g4;obtain⟨rfl,rfl⟩:=g4;exact⟨g2,g3⟩
 have mv:∀r,¬gV H bI r->∃σ:Nat->Nat,σ r≠r/\(∀i j,σ i=σ j->i=j)/\∀i,gV H bI i->σ i=i:=by
  intro r hr';refine⟨sg r (max (r+1) (bI.heap.size+1)),PH (by omega),UE (by omega),λi hi=>UF (λe=>hr' (e▸hi)) (by have:=hi.1;omega)⟩
 have w0:=(key id (λ_ _ h=>h) (λ_ _=>rfl)).2;refine⟨⟨λb o hb hH hZ=>(w0.ok b o hb hH hZ).1,w0.hid,λb o hb hZ=>?_,w0.low,h.apart,FE 0 h.zero,λb o hb hH r hr'=>ad9 λhv=>?_⟩,hsz.1,λr hv=>?_⟩
 .obtain⟨c,t,f,e,_⟩:=w0.oq b o hb hZ
  exact⟨c,t,e⟩
 .obtain⟨σ,m1,m2,m3⟩:=mv r hv
  have hb':σ b=b:=m3 b ⟨(Ψ.1 hb).1,hH⟩;have ws:=(key σ m2 m3).2;refine m1 (FT hr' ?_)
  by_cases hZ:Z b
  .obtain⟨c,t,f,rfl,e⟩:=ws.oq b o hb hZ
   rw[hb',hb] at e;simp only[ae9,Obj.cells.injEq] at e;simp only[dE];rw[<-e.1]
  .have:=(ws.ok b o hb hH hZ).2
   rw[hb',hb] at this;exact(ae7 this).symm
 .obtain⟨σ,m1,m2,m3⟩:=mv r hv
  exact⟨σ,m1,(key σ m2 m3).1⟩
end
abbrev lx:=List (Nat×Φ)
def sl (D:lx):List Nat:=D.map (·.1)
def iR (σ:List Nat):aa8->Bool
 |.tmp t=>!σ.contains t
 |_=>true
def A7 (σ:List Nat)(o:Oper):Bool:=match o.dst with|some t=>!σ.contains t|none=>true
def eM (σ:List Nat)(P:ω)(S E:aa9->Bool)(str:Bool)(o:Oper):Bool:=mj P S E str o&&(σ.isEmpty||(o.op.operands.all (iR σ)&&A7 σ o))
def eU (σ:List Nat)(P:ω)(S E:aa9->Bool)(str:Bool):Code->Bool
 |.skip|.exit _|.label _|.ret=>true
 |.region _ ops _=>ops.all (eM σ P S E str)
 |.seq a b=>eU σ P S E str a&&eU σ P S E str b
 |.cond c a b=>(nX c&&iR σ c)&&eU σ P S E str a&&eU σ P S E str b
 |.block _ b|.loop b|.scope b=>eU σ P S E str b
 |.goto _|.refuse _=>true
 |_=>false
def Mi (σ:List Nat)(ops:Array Oper)(o:Oper):Bool:=σ.isEmpty||match o.guard with
 |none=>true
 |some g=>(ops[g.1]?).all (A7 σ)
def cj (σ:List Nat)(P:ω)(S E:aa9->Bool)(str:Bool):Item->Bool
 |.code c|.inLoop c|.inScope c=>eU σ P S E str c
 |.inBlock _=>true
 |.inRegion ops todo=>todo.all λi=>(ops[i]?).all λo=>eM σ P S E str o&&Mi σ ops o
 |_=>false
abbrev xg:=eU []
abbrev A6:=cj []
theorem ph {σ:List Nat}{P:ω}{S E:aa9->Bool}{str:Bool}{ops:Array Oper}{i:Nat}{rest:List Nat}{o:Oper}(h:cj σ P S E str (.inRegion ops (i::rest))=true)(ho:ops[i]? =some o):eM σ P S E str o=true:=by
 simp only[cj,List.all_cons,ξ] at h;have:=h.1;rw[ho] at this;simp only[Option.all_some,ξ] at this;exact this.1
theorem xf {σ:List Nat}{P:ω}{S E:aa9->Bool}{str:Bool}{ops:Array Oper}{i:Nat}{rest:List Nat}{o:Oper}(h:cj σ P S E str (.inRegion ops (i::rest))=true)(ho:ops[i]? =some o):Mi σ ops o=true:=by
 simp only[cj,List.all_cons,ξ] at h;have:=h.1;rw[ho] at this;simp only[Option.all_some,ξ] at this;exact this.2
theorem jN {σ:List Nat}{P:ω}{S E:aa9->Bool}{str:Bool}{ops:Array Oper}{i:Nat}{rest:List Nat}(h:cj σ P S E str (.inRegion ops (i::rest))=true):cj σ P S E str (.inRegion ops rest)=true:=by
 simp only[cj,List.all_cons,ξ] at h⊢;exact h.2
theorem qy {σ:List Nat}{P:ω}{S E:aa9->Bool}{str:Bool}{ops:Array Oper}{id:Nat}{d:Bool}(h:cj σ P S E str (.code (.region id ops d))=true)(l:List Nat):cj σ P S E str (.inRegion ops l)=true:=by
 have h:ops.all (eM σ P S E str)=true:=h;have h':=af0.1 h;simp only[cj];refine ae6.2 λi _=>?_
 cases ho:ops[i]? with
 |none=>rfl
 |some o=>
  simp only[Option.all_some,ξ];refine⟨h' o (Array.mem_of_getElem? ho),?_⟩;unfold Mi
  by_cases e:σ.isEmpty=true
  .rw[e];rfl
  .cases o.guard with
   |none=>simp
   |some g=>
    simp only[ag9];refine .inr ?_;cases hj:ops[g.1]? with
    |none=>rfl
    |some p=>
     have:=h' p (Array.mem_of_getElem? hj);simp only[eM,ξ,ag9] at this;exact(this.2.resolve_left e).2
structure Stat (P:ω)(S E:aa9->Bool)(str:Bool):Prop where
 y8:P.globals.size<=1
 tT:P.cellsOf 1000000=0
 body:∀f,S f=true->∃fn c,P.funcs[f]? =some fn/\(fn.name== "runtime.NumGoroutine")=false/\fn.body=some c/\xg P S E str c=true
 ext:∀f,E f=true->∀(π:Nat->Nat),(∀i j,π i=π j->i=j)->π 0=0->∀(N V:Nat->Prop) (args:Array Φ),ba P π N V (RN π S) (callFunc f args) (callFunc f (args.map (Value.ren π)))
def xd (D:lx)(c:Array Φ):Array Φ:=D.foldl (λc p=>c.setIfInBounds p.1 p.2) c
def aY (π:Nat->Nat)(a:Act)(D:lx):Act:={tmps:=xd D (a.tmps.map (Value.ren π)),defers:=[]}
theorem sf:∀(D:lx) (c:Array Φ) (t:Nat),t∉sl D->(xd D c)[t]? =c[t]?
 |[],_,_,_=>rfl
 |p::D,c,t,h=>by
  have h1:t≠p.1:=λe=>h (by simp[sl,e])
  have h2:t∉sl D:=λe=>h (by simp only[sl,List.map_cons,ab8];exact .inr e)
  show(xd D (c.setIfInBounds p.1 p.2))[t]? =_;rw[sf D _ t h2,aa6 (λe=>h1 e.symm)]
theorem A1:∀(D:lx) (c:Array Φ) (t:Nat) (v:Φ),t∉sl D->(xd D c).setIfInBounds t v=xd D (c.setIfInBounds t v)
 |[],_,_,_,_=>rfl
 |p::D,c,t,v,h=>by
  have h1:t≠p.1:=λe=>h (by simp[sl,e])
  have h2:t∉sl D:=λe=>h (by simp only[sl,List.map_cons,ab8];exact .inr e)
  show(xd D (c.setIfInBounds p.1 p.2)).setIfInBounds t v=xd D ((c.setIfInBounds t v).setIfInBounds p.1 p.2);rw[A1 D _ t v h2,Array.setIfInBounds_comm _ _ (λe=>h1 e.symm)]
theorem G5 {σ:List Nat}{t:Nat}(h:iR σ (.tmp t)=true):t∉σ:=by simpa [iR] using h
theorem eD {σ:List Nat}{o:Oper}(h:A7 σ o=true):∀t,o.dst=some t->t∉σ:=λt e=>by
 unfold A7 at h;rw[e] at h;simpa using h
theorem kU {σ:List Nat}{P:ω}{S E:aa9->Bool}{str:Bool}{o:Oper}(h:eM σ P S E str o=true):mj P S E str o=true/\(∀x∈o.op.operands,iR σ x=true)/\∀t,o.dst=some t->t∉σ:=by
 simp only[eM,ξ,ag9] at h;rcases h.2 with e|e
 .have:σ=[]:=by simpa using e
  subst this;exact⟨h.1,λx _=>by cases x<;>simp[iR],λt _=>by simp⟩
 .exact⟨h.1,af0.1 e.1,eD e.2⟩
section
variable {P:ω}{S E:aa9->Bool}{str:Bool}{π:Nat->Nat}{H Z:Nat->Prop}{wL w:Θ}
theorem Stat.UD (hS:Stat P S E str)(hi:∀i j,π i=π j->i=j)(h0:π 0=0)(hz:str=true->∀b,¬Z b)(V:Nat->Prop)(hV:∀i,V i->¬H i):Zz P π (λb=>H b\/Z b) S E str V:=
 {inj:=hi,zero:=h0,y8:=hS.y8
  body:=λf hf=>by obtain⟨fn,c,h1,h2,h3,_⟩:=hS.body f hf;exact⟨fn,h1,h2,by rw[h3];rfl⟩
  ext:=λf hf args V=>hS.ext f hf π hi h0 _ V args
  str:=λhs r hr hn=>hn.elim (hV r hr) (hz hs r)}
theorem jP (c:Array Φ)(i:Nat):(c.map (Value.ren π)).getD i undef=Value.ren π (c.getD i undef):=by
 simp only[ac3,af2];cases c[i]? <;>simp[undef]
theorem lk (a:Act)(D:lx){x:aa8}(hx:nX x=true)(ho:iR (sl D) x=true:=by rfl):(aY π a D).eval x=Value.ren π (a.eval x):=by
 cases x with
 |tmp t=>
  show(xd D (a.tmps.map (Value.ren π))).getD t undef=_;rw[ac3,sf D _ t (G5 ho),<-ac3];exact jP _ _
 |const v=>exact(eA hx).symm
 |global g=>cases hx
 |func f=>simp[Act.eval,oU]
theorem Ng:∀{n:Nat} {v:Φ},i9 n v=true->∀r,¬Value.Has r v:=by
 intro n v h r hr;have:=nB (π:=λx=>x+1) hr (eA h);omega
theorem lR {V:Nat->Prop}{a:Act}(ha:∀v∈a.tmps,VV V v){x:aa8}(hx:nX x=true):VV V (a.eval x):=by
 cases x with
 |tmp t=>
  show VV V (a.tmps.getD t undef);rw[ac3];cases h:a.tmps[t]? with
  |none=>intro r hr;cases hr with|tuple hx _=>simp[undef] at hx
  |some v=>exact ha v (Array.mem_of_getElem? h)
 |const v=>exactλr hr=>absurd hr (Ng hx r)
 |global g=>cases hx
 |func f=>intro r hr;cases hr<;>simp_all
theorem iq (a:Act)(D:lx)(d:Option Tmp)(v:Φ)(hd:∀t,d=some t->t∉sl D:=by intro _ _ h;cases h):(aY π a D).put d (Value.ren π v)=aY π (a.put d v) D:=by
 cases d with
 |none=>rfl
 |some t=>
  simp only[Act.put,aY];rw[A1 D _ t _ (hd t rfl),Array.map_setIfInBounds]
theorem jo {V:Nat->Prop}{a:Act}(ha:∀v∈a.tmps,VV V v){d:Option Tmp}{v:Φ}(hv:VV V v):∀u∈(a.put d v).tmps,VV V u:=by
 cases d with
 |none=>exact ha
 |some d=>
  intro u hu;simp only[Act.put] at hu;rcases Array.mem_or_eq_of_mem_setIfInBounds hu with h|h
  .exact ha u h
  .rw[h];exact hv
theorem fT {V:Nat->Prop}:VV V undef:=by intro r hr;cases hr with|tuple hx _=>simp at hx
theorem tZ (ops:Array Oper)(c:Array Φ):yielded ops (c.map (Value.ren π))=yielded ops c:=by
 funext j
 unfold yielded;cases (ops[j]?).bind (·.dst) with
 |none=>rfl
 |some t=>
  simp only[Option.bind_some,af2];cases c[t]? with
  |none=>rfl
  |some v=>cases v<;>simp
theorem vX {ops:Array Oper}{c:Array Φ}{D:lx}{o:Oper}(h:Mi (sl D) ops o=true):Region.wanted o (yielded ops (xd D (c.map (Value.ren π))))=Region.wanted o (yielded ops c):=by
 unfold Mi at h;simp only[ag9] at h;rcases h with h|h
 .cases D with
  |nil=>rw[show xd [] (c.map (Value.ren π))=c.map (Value.ren π) from rfl,tZ]
  |cons p D=>simp[sl] at h
 .unfold Region.wanted
  cases hg:o.guard with
  |none=>rfl
  |some g=>
   rw[hg] at h;simp only at h⊢;have e:yielded ops (xd D (c.map (Value.ren π))) g.1=yielded ops c g.1:=by
    rw[<-tZ (π:=π) ops c];unfold yielded;cases ho:ops[g.1]? with
    |none=>rfl
    |some p=>
     rw[ho] at h;simp only[Option.bind_some];cases hd:p.dst with
     |none=>rfl
     |some t=>
      simp only[Option.bind_some];rw[sf D _ t (eD (by simpa using h) t hd)]
   rw[e]
theorem nQ (hS:Stat P S E str)(hi:∀i j,π i=π j->i=j)(h0:π 0=0)(hz:str=true->∀b,¬Z b)(hl:LW H Z wL)(hw:WR π H Z wL w){a:Act}(D:lx)(ha:∀v∈a.tmps,VV (gV H wL) v){o:Oper}(ho':eM (sl D) P S E str o=true)
  {x:Next} {bI:Θ} (hr:(execOp a.eval o).run P wL= .ok x bI) (hag:∀i,wL.heap.size+i<bI.heap.size->π (wL.heap.size+i)=w.heap.size+i):
  LW H Z bI/\wL.heap.size<=bI.heap.size/\∃x' w',(execOp (aY π a D).eval o).run P w= .ok x' w'/\RN π S x x'/\WR π H Z bI w'/\BM π H Z wL bI w w'/\(∀e∈(execOp (aY π a D).eval o).events P w #[],pG π H Z bI.heap.size e)/\
   (match x with|.value v=>VV (gV H bI) v|.enter f ae=>(∀v∈ae,VV (gV H bI) v)|_=>True):=by
 obtain⟨ho,hoff,_⟩:=kU ho';have sim:∀(π:Nat->Nat) (D:lx),(∀x∈o.op.operands,iR (sl D) x=true)->(∀i j,π i=π j->i=j)->π 0=0->ba P π (λb=>H b\/Z b) (gV H wL) (RN π S) (execOp a.eval o) (execOp (aY π a D).eval o):=λπ D hoff hi h0=>
  qR (hS.UD hi h0 hz _ λi hv=>hv.2) ho (λx hm hx=>⟨lk a D hx (hoff x hm),lR ha hx⟩) (λf=>⟨rfl,rfl⟩) (λv=>rfl)
 have self:=uW (R:=λσ=>RN σ S) hS.tT hl (λσ hi hf=>by
  have e:aY σ a []={a with defers:=[]}:=by
   unfold aY;rw[show xd [] (a.tmps.map (Value.ren σ))=a.tmps.map (Value.ren σ) from rfl,cx λv hv=>e9 v λr hr=>hf r (ha v hv r hr)]
  have:=sim σ [] (λx _=>by cases x<;>rfl) hi (hf 0 hl.zero);rw[e] at this;exact this) hr
 obtain⟨l1,l2,l3⟩:=self;obtain⟨x',w',es',g1,g2,g3,g4,g5⟩:=(sim π D hoff hi h0).run hS.tT (λb=>Iff.rfl) hw (λi hv=>hv) hr hag (es:=#[]);refine⟨l1,l2,x',w',?_,g2,g3,g4,λe he=>?_,?_⟩
 .rw[<-Sem.runT_fst P _ w #[],g1]
 .have:(execOp (aY π a D).eval o).events P w #[]=es':=congrArg Prod.snd g1
  rw[this] at he;exact(g5 e he).resolve_left (by simp)
 .cases x with
  |value v=>
   intro r hr';refine ad9 λhv=>?_
   obtain⟨σ,m1,m2⟩:=l3 r hv;simp only[RN,Next.value.injEq] at m2;exact m1 (nB hr' m2.symm)
  |enter f ae=>
   intro v hv r hr';refine ad9 λhv'=>?_
   obtain⟨σ,m1,m2⟩:=l3 r hv';simp only[RN,Next.enter.injEq,true_and] at m2;exact m1 (nB hr' (pW m2.1.symm hv))
  |_=>trivial
theorem Cy {N V:Nat->Prop}{α:Type}{f f':α->Sem Φ}(hf:∀x,ba P π N V (RV π) (f x) (f' x)):∀l:List α,ba P π N V (λa b=>b=a.map (Value.ren π)) (l.mapM f) (l.mapM f')
 |[]=>by simp only[List.mapM_nil];exact al rfl
 |x::l=>by
  simp only[List.mapM_cons];refine(hf x).bind' λv v' h=>?_
  rw[show v'=_ from h];refine(Cy hf l).bind' λc c' h=>?_
  subst h;exact al (by simp)
theorem lC {N V:Nat->Prop}(fn:Func)(c:Array Φ):ba P π N V (RV π) (results fn c) (results fn (c.map (Value.ren π))):=by
 unfold results;rw[Array.mapM_eq_mapM_toList,Array.mapM_eq_mapM_toList,map_eq_pure_bind,map_eq_pure_bind];simp only[bind_assoc,pure_bind];refine(Cy (λr=>?_) _).bind' λvs vs' h=>?_
 .cases r with
  |tmp t=>dsimp only;rw[jP];exact al rfl
  |cell a t=>
   dsimp only;rw[jP];cases c.getD a undef with
   |pointer p=>cases p with
    |none=>exact .dead (Dead.bind (s:=asAddr (.pointer none)) _ (dD .nilDeref))
    |some p=>simp only[aU,ε];exact uh t p
   |_=>exact .dead (Dead.bind _ (Dead.halt trivial))
 .subst h
  refine al ?_
  match vs with
  |[]=>simp[RV]
  |[v]=>simp[RV]
  |_::_::_=>simp[RV]
theorem nP (hS:Stat P S E str)(hi:∀i j,π i=π j->i=j)(hl:LW H Z wL)(hw:WR π H Z wL w){c:Array Φ}(hc:∀v∈c,VV (gV H wL) v)(fn:Func)
  {x:Φ} {bI:Θ} (hr:(results fn c).run P wL= .ok x bI) (hag:∀i,wL.heap.size+i<bI.heap.size->π (wL.heap.size+i)=w.heap.size+i):
  LW H Z bI/\wL.heap.size<=bI.heap.size/\∃w',(results fn (c.map (Value.ren π))).run P w= .ok (Value.ren π x) w'/\WR π H Z bI w'/\BM π H Z wL bI w w'/\(∀e∈(results fn (c.map (Value.ren π))).events P w #[],pG π H Z bI.heap.size e)/\VV (gV H bI) x:=by
 have self:=uW (R:=λσ=>RV σ) hS.tT hl (λσ hi hf=>by
  have e:c.map (Value.ren σ)=c:=cx λv hv=>e9 v λr hr=>hf r (hc v hv r hr)
  have:=lC (P:=P) (π:=σ) (N:=λb=>H b\/Z b) (V:=gV H wL) fn c;rw[e] at this;exact this) hr
 obtain⟨l1,l2,l3⟩:=self;obtain⟨x',w',es',g1,g2,g3,g4,g5⟩:=(lC (P:=P) (π:=π) (N:=λb=>H b\/Z b) (V:=gV H wL) fn c).run hS.tT (λb=>Iff.rfl) hw (λi hv=>hv) hr hag (es:=#[]);have g2':x'=Value.ren π x:=g2;subst g2';refine⟨l1,l2,w',?_,g3,g4,λe he=>?_,?_⟩
 .rw[<-Sem.runT_fst P _ w #[],g1]
 .have:(results fn (c.map (Value.ren π))).events P w #[]=es':=congrArg Prod.snd g1
  rw[this] at he;exact(g5 e he).resolve_left (by simp)
 .intro r hr'
  refine ad9 λhv=>?_
  obtain⟨σ,m1,m2⟩:=l3 r hv;exact m1 (nB hr' (show x=_ from m2).symm)
end
structure Ctx where
 f0:aa9
 gf:κ
 B:κ
 D0:lx
 CS:List κ
 Tl:List Item->List Item->Prop
 fn:B.fn=f0
 kind:B.kind≠.early
 stop:∀x y,Tl x y->∃l r,x= .inRangeFunc l::r
 exit:∀x y id x',Tl x y->exitTo id x=some x'->∃y',exitTo id y=some y'/\Tl x' y'
 bare:∀x y l,Tl x y->gotoIn l x=none
section
variable (P:ω)(S E:aa9->Bool)(str:Bool)(π:Nat->Nat)(c:Ctx)
inductive rv (V:Nat->Prop):aa9->Act->List Item->List Item->List κ->κ->lx->List Item->List κ->Prop
 |bot {a:Act} {t x y:List Item} (ht:∀it∈t,cj (sl c.D0) P S E str it=true) (ha:∀v∈a.tmps,VV V v) (hd:a.defers=[]) (hxy:c.Tl x y):rv V c.f0 a t x [c.gf] c.B c.D0 y c.CS
 |up {f f1:aa9} {a a1:Act} {t t1 x1 y1:List Item} {ops:Array Oper} {i:Nat} {rest:List Nat} {cs1 Kd:List κ} {B1:κ} {D1:lx} (hf:S f=true)
   (ht:∀it∈t,A6 P S E str it=true) (ha:∀v∈a.tmps,VV V v) (hd:a.defers=[]) (hs:rv V f1 a1 (.inRegion ops (i::rest)::t1) x1 cs1 B1 D1 y1 Kd):
   rv V f a t [] ((base f1).at a1 (.inRegion ops (i::rest)::(t1++x1))::cs1) (base f) [] [] (B1.at (aY π a1 D1) (.inRegion ops (i::rest)::(t1++y1))::Kd)
inductive gZ (H:Nat->Prop)(wL:Θ):Ω->Ω->Prop
 |run {f:aa9} {a:Act} {t x:List Item} {cs:List κ} {B:κ} {D:lx} {y:List Item} {cs':List κ} (h:rv P S E str π c (gV H wL) f a t x cs B D y cs'):
   gZ H wL (G ((base f).at a (t++x)) cs) (G (B.at (aY π a D) (t++y)) cs')
 |ret {f:aa9} {a:Act} {t x:List Item} {cs:List κ} {B:κ} {D:lx} {y:List Item} {cs':List κ} {todo todo':List Item} (h:rv P S E str π c (gV H wL) f a t x cs B D y cs'):
   gZ H wL (G {(base f).at a todo with mode:= .returning} cs) (G {B.at (aY π a D) todo' with mode:= .returning} cs')
end
section
variable {σ:List Nat}{P:ω}{S E:aa9->Bool}{str:Bool}{π:Nat->Nat}{c:Ctx}{H Z:Nat->Prop}{wL w:Θ}
theorem rv.mono {V V':Nat->Prop}(hV:∀i,V i->V' i){f:aa9}{a:Act}{t x:List Item}{cs:List κ}{B:κ}{D:lx}{y:List Item}{cs':List κ}(h:rv P S E str π c V f a t x cs B D y cs'):rv P S E str π c V' f a t x cs B D y cs':=by
 induction h with
 |bot ht ha hd hxy=>exact .bot ht (λv hv=>(ha v hv).weak hV) hd hxy
 |up hf ht ha hd _ ih=>exact .up hf ht (λv hv=>(ha v hv).weak hV) hd ih
theorem rv.base {V:Nat->Prop}{f:aa9}{a:Act}{t x:List Item}{cs:List κ}{B:κ}{D:lx}{y:List Item}{cs':List κ}(h:rv P S E str π c V f a t x cs B D y cs'):
  B.fn=f/\B.kind≠.early/\a.defers=[]/\(∀it∈t,cj (sl D) P S E str it=true)/\(∀v∈a.tmps,VV V v):=by
 cases h with
 |bot ht ha hd hxy=>exact⟨c.fn,c.kind,hd,ht,ha⟩
 |up hf ht ha hd _=>exact⟨rfl,by simp[Go.Conc.base],hd,ht,ha⟩
theorem rv.top {V:Nat->Prop}{f:aa9}{a:Act}{t x:List Item}{cs:List κ}{B:κ}{D:lx}{y:List Item}{cs':List κ}(h:rv P S E str π c V f a t x cs B D y cs')
  {a':Act} {t':List Item} (ht:∀it∈t',cj (sl D) P S E str it=true) (ha:∀v∈a'.tmps,VV V v) (hd:a'.defers=[]):rv P S E str π c V f a' t' x cs B D y cs':=by
 cases h with
 |bot _ _ _ hxy=>exact .bot ht ha hd hxy
 |up hf _ _ _ hs=>exact .up hf ht ha hd hs
theorem jF {id:Nat}:∀(t k:List Item),exitTo id (t++k)=match exitTo id t with|some t'=>some (t'++k)|none=>exitTo id k
 |[],k=>rfl
 |it::t,k=>by
  cases it<;>simp only[List.cons_append,exitTo]<;>first|exact jF t k|skip
  split
  .rfl
  .exact jF t k
theorem rh {id:Nat}:∀{t t':List Item},exitTo id t=some t'->∀it∈t',it∈t
 |[],_,h=>by simp[exitTo] at h
 |it::t,t',h=>by
  intro x hx;cases it<;>simp only[exitTo] at h<;>first|exact ah3 _ (rh h x hx)|skip
  split at h
  .cases h;exact ah3 _ hx
  .exact ah3 _ (rh h x hx)
theorem nE {l:Nat}:∀{b r:Code},eU σ P S E str b=true->findLabel b l=some r->eU σ P S E str r=true
 |.seq x y,r,h,hf=>by
  simp only[eU,ξ] at h;simp only[findLabel] at hf;cases hx:findLabel x l with
  |none=>rw[hx] at hf;exact nE h.2 hf
  |some rest=>
   rw[hx] at hf;cases hf;simp only[eU,ξ];exact⟨nE h.1 hx,h.2⟩
 |.label l',r,_,hf=>by
  simp only[findLabel] at hf;split at hf
  .cases hf;rfl
  .cases hf
 |.skip,_,_,hf|.region _ _ _,_,_,hf|.cond _ _ _,_,_,hf|.block _ _,_,_,hf|.loop _,_,_,hf|.rangeFunc _ _ _ _,_,_,hf|.exit _,_,_,hf|.scope _,_,_,hf|.goto _,_,_,hf|.ret,_,_,hf|.refuse _,_,_,hf=>by simp[findLabel] at hf
theorem qD {l:Nat}:∀(t k:List Item),(∀it∈t,cj σ P S E str it=true)->(∃t2,(∀it∈t2,cj σ P S E str it=true)/\∀k,gotoIn l (t++k)=some (t2++k))\/∀k,gotoIn l (t++k)=gotoIn l k
 |[],k,_=> .inr λ_=>rfl
 |it::t,k,h=>by
  have ih:=qD (l:=l) t k λx hx=>h x (by simp[hx])
  cases it with
  |inScope body=>
   cases hf:findLabel body l with
   |some r=>
    have hb:eU σ P S E str body=true:=h (.inScope body) (by simp);refine .inl ⟨.code r::.inScope body::t,λx hx=>?_,λk=>by simp[gotoIn,hf]⟩;simp only[ab8] at hx;rcases hx with rfl|rfl|hx
    .exact nE hb hf
    .exact hb
    .exact h x (by simp[hx])
   |none=>
    rcases ih with⟨t2,h1,h2⟩|h2
    .exact .inl ⟨t2,h1,λk=>by simp only[List.cons_append,gotoIn,hf];exact h2 k⟩
    .exact .inr λk=>by simp only[List.cons_append,gotoIn,hf];exact h2 k
  |_=>
   rcases ih with⟨t2,h1,h2⟩|h2
   .exact .inl ⟨t2,h1,λk=>by simp only[List.cons_append,gotoIn];exact h2 k⟩
   .exact .inr λk=>by simp only[List.cons_append,gotoIn];exact h2 k
theorem oA {main:Bool}{b:κ}{a:Act}{k:List Item}{cs:List κ}{p:Code}:stepG P main (G (b.at a (.code (.scope p)::k)) cs) w= .go (G (b.at a (.code p::.inScope p::k)) cs) w:=by simp[G,stepG,stepG.exec,Frame.at]
theorem l9 {main:Bool}{b:κ}{a:Act}{k:List Item}{cs:List κ}{p:Code}:stepG P main (G (b.at a (.inScope p::k)) cs) w= .go (G (b.at a k) cs) w:=by simp[G,stepG,stepG.exec,Frame.at]
theorem qO {main:Bool}{b:κ}{a:Act}{k k':List Item}{cs:List κ}{l:Nat}(h:gotoIn l k=some k'):stepG P main (G (b.at a (.code (.goto l)::k)) cs) w= .go (G (b.at a k') cs) w:=by simp[G,stepG,stepG.exec,Frame.at,h]
def Res (P:ω)(S E:aa9->Bool)(str:Bool)(π:Nat->Nat)(c:Ctx)(main:Bool)(H Z:Nat->Prop)(wL w:Θ)(g pY:Ω)(bI:Θ):Prop:=
 ∃g' w' es',stepG P main g w= .go g' w' es'/\gZ P S E str π c H bI pY g'/\LW H Z bI/\wL.heap.size<=bI.heap.size/\WR π H Z bI w'/\BM π H Z wL bI w w'/\∀e∈es',pG π H Z bI.heap.size e
theorem cF {main:Bool}{g g' pY:Ω}(hl:LW H Z wL)(hw:WR π H Z wL w)(h:stepG P main g w= .go g' w)(hr:gZ P S E str π c H wL pY g'):Res P S E str π c main H Z wL w g pY wL:=
 ⟨g',w,#[],h,hr,hl,φ _,hw,BM.refl _ _ _ _ _,by simp⟩
theorem all_cons {it:Item}{t:List Item}(h:∀x∈it::t,cj σ P S E str x=true):cj σ P S E str it=true/\∀x∈t,cj σ P S E str x=true:=⟨h it (by simp),λx hx=>h x (by simp[hx])⟩
theorem dM {it:Item}{t:List Item}(h1:cj σ P S E str it=true)(h:∀x∈t,cj σ P S E str x=true):∀x∈it::t,cj σ P S E str x=true:=by
 intro x hx;rcases ab8.1 hx with rfl|hx
 .exact h1
 .exact h x hx
theorem put_defers (a:Act)(d:Option Tmp)(v:Φ):(a.put d v).defers=a.defers:=by cases d<;>rfl
theorem Pt (hS:Stat P S E str)(hi:∀i j,π i=π j->i=j)(h0:π 0=0)(hz:str=true->∀b,¬Z b)(hl:LW H Z wL)(hw:WR π H Z wL w){main:Bool}
  {f:aa9} {a:Act} {t x y:List Item} {cs cs':List κ} {B:κ} {D:lx} {ops:Array Oper} {i:Nat} {rest:List Nat} (h:rv P S E str π c (gV H wL) f a (.inRegion ops (i::rest)::t) x cs B D y cs')
  {pY:Ω} {bI:Θ} {es:Array Event} (hs:stepG P true (G ((base f).at a (.inRegion ops (i::rest)::(t++x))) cs) wL= .go pY bI es) (hn:qj pY)
  (hag:∀i,wL.heap.size+i<bI.heap.size->π (wL.heap.size+i)=w.heap.size+i):Res P S E str π c main H Z wL w (G (B.at (aY π a D) (.inRegion ops (i::rest)::(t++y))) cs') pY bI:=by
 obtain⟨hB,hk,hd,ht,ha⟩:=h.base;obtain⟨hops,ht'⟩:=all_cons ht;cases ho:ops[i]? with
 |none=>
  simp[G,stepG,stepG.exec,Frame.at,ho] at hs;obtain⟨rfl,rfl,rfl⟩:=hs;refine cF (g':=G (B.at (aY π a D) (.inRegion ops rest::(t++y))) cs') hl hw ?_ ?_
  .simp[G,stepG,stepG.exec,Frame.at,ho,Frame.finish,aY]
  .have:=gZ.run (P:=P) (S:=S) (E:=E) (str:=str) (π:=π) (c:=c) (H:=H) (wL:=wL) (h.top (t':= .inRegion ops rest::t) (a':=a) (dM (jN hops) ht') ha hd)
   simpa [G,Frame.at,Frame.finish,ho] using this
 |some o=>
  have s9:eM (sl D) P S E str o=true:=ph hops ho;obtain⟨hok1,hoff,hdst⟩:=kU s9;cases hwd:Region.wanted o (yielded ops a.tmps) with
  |false=>
   rw[stepG_unwanted ho hwd] at hs;cases hs;refine cF hl hw (stepG_unwanted ho (by rw[show(aY π a D).tmps=xd D (a.tmps.map (Value.ren π)) from rfl,vX (xf hops ho)];exact hwd)) ?_;have e:(aY π a D).put o.dst undef=aY π (a.put o.dst undef) D:=by
    have:=iq (π:=π) a D o.dst undef hdst
    rwa [show Value.ren π undef=undef by simp[undef]] at this
   rw[e];exact gZ.run (t:= .inRegion ops rest::t) (h.top (dM (jN hops) ht') (jo ha fT) ((put_defers _ _ _).trans hd))
  |true=>
   have XG:Region.wanted o (yielded ops (aY π a D).tmps)=true:=by rw[show(aY π a D).tmps=xd D (a.tmps.map (Value.ren π)) from rfl,vX (xf hops ho)];exact hwd
   have hka:(base f).kind≠.early:=by simp[base]
   cases hr:(execOp a.eval o).run P wL with
   |halt hh u=>
    exfalso;have hok:kV hh:=by
     have DG:ba P id (λb=>H b\/Z b) (gV H wL) (RN id S) (execOp a.eval o) (execOp (aY id a D).eval o):=
      qR (hS.UD (λ_ _ h=>h) rfl hz _ λi hv=>hv.2) hok1 (λx hm hx=>⟨lk a D hx (hoff x hm),lR ha hx⟩) (λf=>⟨rfl,rfl⟩) (λv=>rfl)
     exact DG.TA hl.zU (λb hb=>hl.low b hb) hr
    rw[stepG_oper ho hwd] at hs;have hk2:(CallKind.normal==CallKind.early)=false:=rfl;cases hh with
    |panic v=>
     simp[stepG.apply,hr,Frame.at,GStep.after] at hs;obtain⟨rfl,_⟩:=hs;exact hn.calm _ rfl
    |stuck m=>simp[stepG.apply,hr,Frame.at,GStep.after] at hs
    |unsupported u=>cases u<;>first|exact hok.elim|(simp[stepG.apply,hr,Frame.at,GStep.after] at hs;done)
    |_=>exact hok.elim
   |ok nx u=>
    have hstep:∃nx',nx=nx':=⟨nx,rfl⟩
    cases nx with
    |value v=>
     rw[stepG_value ho hwd hka hr] at hs;cases hs;obtain⟨l1,l2,x',w',e1,e2,e3,e4,e5,e6⟩:=nQ hS hi h0 hz hl hw D ha s9 hr hag;cases e2;refine⟨_,w',_,stepG_value ho XG hk e1,?_,l1,l2,e3,e4,λe he=>e5 e (mem_listed he)⟩;rw[iq _ _ _ _ hdst];have hm:∀i,gV H wL i->gV H bI i:=λi hv=>⟨ψ hv.1 l2,hv.2⟩
     exact gZ.run (t:= .inRegion ops rest::t) ((h.mono hm).top (dM (jN hops) ht') (jo (λv hv=>(ha v hv).weak hm) e6) ((put_defers _ _ _).trans hd))
    |skip=>
     rw[stepG_none ho hwd hka hr] at hs;cases hs;obtain⟨l1,l2,x',w',e1,e2,e3,e4,e5,e6⟩:=nQ hS hi h0 hz hl hw D ha s9 hr hag;cases e2;refine⟨_,w',_,stepG_none ho XG hk e1,?_,l1,l2,e3,e4,λe he=>e5 e (mem_listed he)⟩;have e:(aY π a D).put o.dst undef=aY π (a.put o.dst undef) D:=by
      have:=iq (π:=π) a D o.dst undef hdst
      rwa [show Value.ren π undef=undef by simp[undef]] at this
     rw[e];have hm:∀i,gV H wL i->gV H bI i:=λi hv=>⟨ψ hv.1 l2,hv.2⟩
     exact gZ.run (t:= .inRegion ops rest::t) ((h.mono hm).top (dM (jN hops) ht') (jo (λv hv=>(ha v hv).weak hm) fT) ((put_defers _ _ _).trans hd))
    |enter f2 ae=>
     rw[stepG_enter ho hwd hka hr] at hs;cases hs;obtain⟨l1,l2,x',w',e1,e2,e3,e4,e5,e6⟩:=nQ hS hi h0 hz hl hw D ha s9 hr hag;obtain⟨rfl,hSf⟩:=e2;obtain⟨fn,cd,b1,b2,b3,b4⟩:=hS.body f2 hSf;refine⟨_,w',_,stepG_enter ho XG hk e1,?_,l1,l2,e3,e4,λe he=>e5 e (mem_listed he)⟩;have hm:∀i,gV H wL i->gV H bI i:=λi hv=>⟨ψ hv.1 l2,hv.2⟩
     have hst:=rv.up (f:=f2) (a:={tmps:=ae++Array.replicate (fn.ntmps-ae.size) undef,defers:=[]}) (t:=[.code cd]) hSf (λit hit=>by simp at hit;subst hit;exact b4)
      (λv hv=>by
       rcases af6.1 hv with hv|hv
       .exact e6 v hv
       .rw[(Array.mem_replicate.1 hv).2];exact fT) rfl (h.mono hm)
     have:=gZ.run hst;rw[enter_at _ b1 b3,enter_at _ b1 b3];have er:aY π {tmps:=ae++Array.replicate (fn.ntmps-ae.size) undef,defers:=[]} []={tmps:=ae.map (Value.ren π)++Array.replicate (fn.ntmps-(ae.map (Value.ren π)).size) undef,defers:=[]}:=by
      simp[aY,xd,undef]
     rw[er] at this;exact this
    |_=>
     exfalso;have:=nQ hS (λ_ _ h=>h) rfl hz hl (hl.self (σ:=id) (λ_ _ h=>h) λ_ _=>rfl) D ha s9 hr (λi _=>rfl);obtain⟨_,_,x',w',_,e2,_⟩:=this;exact e2.elim
theorem WR.draw (hw:WR π H Z wL w):WR π H Z {wL with drawn:=wL.drawn+1} {w with drawn:=w.drawn+1}:=
 {inj:=hw.inj,tape:=hw.tape,drawn:=by show w.drawn+1=wL.drawn+1;rw[hw.drawn],lt:=hw.lt,ok:=hw.ok,hid:=hw.hid,oq:=hw.oq,low:=hw.low,yx:=hw.yx}
theorem LW.draw (hl:LW H Z wL):LW H Z {wL with drawn:=wL.drawn+1}:=⟨hl.ok,hl.hid,hl.oq,hl.low,hl.apart,hl.zero,hl.Sa⟩
theorem Ck (hS:Stat P S E str)(hi:∀i j,π i=π j->i=j)(h0:π 0=0)(hz:str=true->∀b,¬Z b)(hl:LW H Z wL)(hw:WR π H Z wL w){main:Bool}
  {f:aa9} {a:Act} {t x y:List Item} {cs cs':List κ} {B:κ} {D:lx} (h:rv P S E str π c (gV H wL) f a t x cs B D y cs')
  {pY:Ω} {bI:Θ} {es:Array Event} (hs:stepG P true (G ((base f).at a (t++x)) cs) wL= .go pY bI es) (hn:qj pY)
  (hag:∀i,wL.heap.size+i<bI.heap.size->π (wL.heap.size+i)=w.heap.size+i):Res P S E str π c main H Z wL w (G (B.at (aY π a D) (t++y)) cs') pY bI:=by
 obtain⟨hB,hk,hd,ht,ha⟩:=h.base;cases t with
 |nil=>
  cases h with
  |bot _ _ _ hxy=>
   obtain⟨why,r,rfl⟩:=c.stop _ _ hxy;simp[G,stepG,stepG.exec,Frame.at] at hs
  |up hf _ _ _ hst=>
   simp only[List.nil_append] at hs⊢;rw[stepG_end] at hs;cases hs;exact cF hl hw stepG_end (gZ.ret (.up hf ht ha hd hst))
 |cons it t=>
  obtain⟨h1,ht'⟩:=all_cons ht;simp only[List.cons_append] at hs⊢;cases it with
  |code cd=>
   cases cd with
   |skip=>rw[stepG_skip] at hs;cases hs;exact cF hl hw stepG_skip (.run (h.top ht' ha hd))
   |label l=>rw[stepG_label] at hs;cases hs;exact cF hl hw stepG_label (.run (h.top ht' ha hd))
   |ret=>rw[stepG_ret'] at hs;cases hs;exact cF hl hw stepG_ret' (.ret h)
   |seq p q=>
    simp only[cj,eU,ξ] at h1;rw[stepG_seq] at hs;cases hs;exact cF hl hw stepG_seq (gZ.run (t:= .code p::.code q::t) (h.top (dM h1.1 (dM h1.2 ht')) ha hd))
   |cond o p q=>
    simp only[cj,eU,ξ] at h1;have hev:=lk (π:=π) a D h1.1.1.1 h1.1.1.2;cases hb:a.eval o with
    |bool b=>
     rw[hb,dK] at hev;rw[stepG_cond hb] at hs;cases hs;exact cF hl hw (stepG_cond hev) (gZ.run (t:= .code (if b then p else q)::t) (h.top (dM (by cases b;exact h1.2;exact h1.1.2) ht') ha hd))
    |_=>
     exfalso;have he:=Frame.eval_at (base f) a (.code (.cond o p q)::(t++x)) o;simp only[Frame.at] at he;simp[G,stepG,stepG.exec,Frame.at,he,hb] at hs
   |block id p=>rw[stepG_block] at hs;cases hs;exact cF hl hw stepG_block (gZ.run (t:= .code p::.inBlock id::t) (h.top (dM h1 (dM rfl ht')) ha hd))
   |loop p=>rw[stepG_loop] at hs;cases hs;exact cF hl hw stepG_loop (gZ.run (t:= .code p::.inLoop p::t) (h.top (dM h1 (dM h1 ht')) ha hd))
   |exit id=>
    have el:=jF (id:=id) t x;have er:=jF (id:=id) t y;cases he:exitTo id t with
    |some t2=>
     rw[he] at el er;rw[stepG_exit el] at hs;cases hs;exact cF hl hw (stepG_exit er) (.run (h.top (λit hit=>ht' it (rh he it hit)) ha hd))
    |none=>
     rw[he] at el er;dsimp only at el er;cases h with
     |bot _ _ _ hxy=>
      cases hx:exitTo id x with
      |none=>
       exfalso;rw[hx] at el;simp[G,stepG,stepG.exec,Frame.at,el,base] at hs
      |some x2=>
       obtain⟨y2,hy,ahw⟩:=c.exit _ _ _ _ hxy hx;rw[hx] at el;rw[hy] at er;rw[stepG_exit el] at hs;cases hs;exact cF hl hw (stepG_exit er) (gZ.run (t:=[]) (.bot (by simp) ha hd ahw))
     |up hf _ _ _ hst=>
      exfalso;simp[exitTo] at el;simp[G,stepG,stepG.exec,Frame.at,he,base] at hs
   |region id ops draw=>
    cases draw with
    |false=>rw[stepG_region] at hs;cases hs;exact cF hl hw stepG_region (gZ.run (t:= .inRegion ops (List.range ops.size)::t) (h.top (dM (qy h1 _) ht') ha hd))
    |true=>
     rw[stepG_region_draw] at hs;cases hs;refine⟨_,_,#[],stepG_region_draw,?_,hl.draw,φ _,hw.draw,⟨φ _,by simp,λ_ _ _=>rfl,rfl,rfl,rfl,Nat.le_succ _⟩,by simp⟩;rw[show w.tape w.drawn (.order B.fn id)=wL.tape wL.drawn (.order (base f).fn id) by rw[hw.tape,hw.drawn,hB];rfl]
     exact gZ.run (t:= .inRegion ops _::t) (rv.top (h.mono λi hv=>hv) (dM (qy h1 _) ht') ha hd)
   |scope p=>rw[oA] at hs;cases hs;exact cF hl hw oA (gZ.run (t:= .code p::.inScope p::t) (h.top (dM h1 (dM h1 ht')) ha hd))
   |refuse why=>simp[G,stepG,stepG.exec,Frame.at] at hs
   |goto l=>
    rcases qD (l:=l) t x ht' with⟨t2,ht2,hg⟩|hg
    .rw[qO (hg x)] at hs;cases hs
     exact cF hl hw (qO (hg y)) (gZ.run (t:=t2) (h.top ht2 ha hd))
    .exfalso
     have hx:gotoIn l x=none:=by
      cases h with
      |bot _ _ _ hxy=>exact c.bare _ _ _ hxy
      |up=>rfl
     have:=hg x;rw[hx] at this;simp[G,stepG,stepG.exec,Frame.at,this,base] at hs
   |_=>simp[cj,eU] at h1
  |inBlock id=>rw[stepG_inBlock] at hs;cases hs;exact cF hl hw stepG_inBlock (.run (h.top ht' ha hd))
  |inScope p=>rw[l9] at hs;cases hs;exact cF hl hw l9 (.run (h.top ht' ha hd))
  |inLoop p=>rw[stepG_inLoop] at hs;cases hs;exact cF hl hw stepG_inLoop (gZ.run (t:= .code p::.inLoop p::t) (h.top (dM h1 (dM h1 ht')) ha hd))
  |inRegion ops todo=>
   cases todo with
   |nil=>rw[stepG_region_end] at hs;cases hs;exact cF hl hw stepG_region_end (.run (h.top ht' ha hd))
   |cons i rest=>exact Pt hS hi h0 hz hl hw h hs hn hag
  |_=>simp[cj] at h1
theorem step_ret (hS:Stat P S E str)(hi:∀i j,π i=π j->i=j)(hl:LW H Z wL)(hw:WR π H Z wL w){main:Bool}
  {f:aa9} {a:Act} {t x y:List Item} {cs cs':List κ} {B:κ} {D:lx} {todo todo':List Item} (h:rv P S E str π c (gV H wL) f a t x cs B D y cs') (hne:cs≠[c.gf])
  {pY:Ω} {bI:Θ} {es:Array Event} (hs:stepG P true (G {(base f).at a todo with mode:= .returning} cs) wL= .go pY bI es)
  (hag:∀i,wL.heap.size+i<bI.heap.size->π (wL.heap.size+i)=w.heap.size+i):Res P S E str π c main H Z wL w (G {B.at (aY π a D) todo' with mode:= .returning} cs') pY bI:=by
 cases h with
 |bot=>exact absurd rfl hne
 |@up f f1 a a1 t t1 x1 y1 ops i rest cs1 Kd B1 D1 hf ht ha hd hst=>
  obtain⟨fn,cd,b1,b2,b3,b4⟩:=hS.body f hf;obtain⟨hB1,hk1,hd1,ht1,ha1⟩:=hst.base;obtain⟨hops,ht1'⟩:=all_cons ht1;have hfin:∀(b:κ) (a:Act) (k:List Item) (v:Φ),(b.at a (.inRegion ops (i::rest)::k)).finish v=b.at (a.put ((ops[i]?).bind (·.dst)) v) (.inRegion ops rest::k):=λb a k v=>Frame.finish_at b a ops i rest k v
  have gen:∀(main:Bool) (b:κ) (a:Act) (todo:List Item) (cr:κ) (EB:List κ) (w:Θ),b.kind= .normal->a.defers=[]->b.fn=f->stepG P main (G {b.at a todo with mode:= .returning} (cr::EB)) w=
    GStep.after (seen P f ((results fn a.tmps).events P w #[])) (match(results fn a.tmps).run P w with
     |.ok v w=> .go (G (cr.finish v) EB) w
     |.halt (.stuck s) w=> .ended (.stuck s (Frame.pos P {b.at a todo with mode:= .returning})) w
     |.halt _ w=> .ended (.stuck "return: the result variables cannot be read" (Frame.pos P {b.at a todo with mode:= .returning})) w):=by
   intro main b a todo cr EB w e1 e2 e3;subst e3;simp[G,stepG,unwind,doReturn,Frame.at,e1,e2,b1];cases (results fn a.tmps).run P w with
   |ok v u=>rfl
   |halt h u=>cases h<;>rfl
  rw[gen true (base f) a todo _ cs1 wL rfl hd rfl] at hs;cases hr:(results fn a.tmps).run P wL with
  |halt h u=>rw[hr] at hs;cases h<;>simp[GStep.after] at hs
  |ok v u=>
   rw[hr] at hs;simp only[GStep.after,GStep.go.injEq] at hs;obtain⟨rfl,rfl,_⟩:=hs;obtain⟨l1,l2,w',e1,e3,e4,e5,e6⟩:=nP hS hi hl hw ha fn hr hag;have hT:=gen main (base f) (aY π a []) todo' (B1.at (aY π a1 D1) (.inRegion ops (i::rest)::(t1++y1))) Kd w rfl rfl rfl;rw[show(aY π a []).tmps=a.tmps.map (Value.ren π) from rfl,e1] at hT;simp only[GStep.after] at hT
   refine⟨_,w',_,hT,?_,l1,l2,e3,e4,λe he=>e5 e (by simpa using mem_seen (by simpa using he))⟩;rw[hfin,hfin,iq _ _ _ _ (λt ht=>by
    cases ho:ops[i]? with
    |none=>rw[ho] at ht;cases ht
    |some o=>rw[ho] at ht;exact(kU (ph hops ho)).2.2 t ht)]
   have hm:∀i,gV H wL i->gV H u i:=λi hv=>⟨ψ hv.1 l2,hv.2⟩
   exact gZ.run (t:= .inRegion ops rest::t1) ((hst.mono hm).top (dM (jN hops) ht1') (jo (λv hv=>(ha1 v hv).weak hm) e6) ((put_defers _ _ _).trans hd1))
end
def dH (P:ω):κ:=(base 0).at {tmps:=#[],defers:=[{target:= .fn (.func P.funcs.size) #[],args:=#[]}]} [.code (.refuse "")]
inductive KE (P:ω):κ->List κ->Prop
 |top {fr:κ} {ch:List PanicEntry} (hm:fr.mode= .panicking ch) (hf:fr.defers=(dH P).defers):KE P fr []
 |up {fr cr:κ} {cs:List κ} {ch:List PanicEntry} (hm:fr.mode= .panicking ch) (hd:fr.defers=[]) (hf:fr.catches P=false) (h:∀ch,KE P (cr.raise ch) cs):KE P fr (cr::cs)
section
variable {P:ω}{S E:aa9->Bool}{str:Bool}{c:Ctx}{H Z:Nat->Prop}{w:Θ}
def Jn (P:ω)(S E:aa9->Bool)(str:Bool)(c:Ctx)(H Z:Nat->Prop)(gL:Ω)(w:Θ):Prop:=
 LW H Z w/\((∃g,gZ P S E str id c H w gL g)\/gL=G (dH P) [])
def Ez (P:ω)(J:Ω->Θ->Prop)(gL:Ω)(w:Θ)(t:dZ)(d:Nat):Prop:=
 (∃o u es,stepG P true gL (az w t d)= .ended o u es)\/
 (∃fr cs u es,stepG P true gL (az w t d)= .go (G fr cs) u es/\KE P fr cs)\/
 ∃fr cs u es k,stepG P true gL (az w t d)= .go (G fr cs) u es/\qj (G fr cs)/\J (G fr cs) u/\u=az u t (d+k)/\
  ∀t2 d2,(∀i,i<k->t2 (d2+i)=t (d+i))->stepG P true gL (az w t2 d2)= .go (G fr cs) (az u t2 (d2+k)) es
theorem mO {fr:κ}{cs:List κ}(h:∀ch,fr.mode≠.panicking ch):qj (G fr cs):=⟨rfl,rfl,rfl,h⟩
theorem qU {J:Ω->Θ->Prop}{gL:Ω}{fr:κ}{cs:List κ}(t:dZ)(d:Nat)(h:∀w,stepG P true gL w= .go (G fr cs) w)(hm:∀ch,fr.mode≠.panicking ch)(hj:J (G fr cs) (az w t d)):Ez P J gL w t d:=
 .inr (.inr ⟨fr,cs,_,#[],0,h _,mO hm,hj,rfl,λt2 d2 _=>h _⟩)
theorem rv.lost (hS:Stat P S E str)(hgf:c.gf=dH P)(h0:∃fn,P.funcs[c.f0]? =some fn){π:Nat->Nat}{V:Nat->Prop}{f:aa9}{a:Act}{t x:List Item}{cs:List κ}{B:κ}{D:lx}{y:List Item}{cs':List κ}(h:rv P S E str π c V f a t x cs B D y cs'):
  ∀(todo:List Item) (ch:List PanicEntry),KE P {(Go.Conc.base f).at a todo with mode:= .panicking ch} cs:=by
 have cat:∀(f:aa9) (a:Act) (todo:List Item) (ch:List PanicEntry),(∃fn,P.funcs[f]? =some fn)->Frame.catches P {(Go.Conc.base f).at a todo with mode:= .panicking ch}=false:=by
  rintro f a todo ch ⟨fn,hf⟩;simp[Frame.catches,Frame.at,Go.Conc.base,hf]
 induction h with
 |bot ht ha hd hxy=>
  intro todo ch;refine .up rfl hd (cat _ _ _ _ h0) λch'=>?_
  rw[hgf];exact .top rfl rfl
 |up hf ht ha hd _ ih=>
  intro todo ch;obtain⟨fn,cd,b1,_⟩:=hS.body _ hf;exact .up rfl hd (cat _ _ _ _ ⟨fn,b1⟩) λch'=>ih _ ch'
theorem ML (hS:Stat P S E str)(hz:str=true->∀b,¬Z b){w:Θ}(hl:LW H Z w){f:aa9}{a:Act}{t x y:List Item}{cs cs':List κ}{B:κ}{D:lx}(h:rv P S E str id c (gV H w) f a t x cs B D y cs')
  {pY:Ω} {w':Θ} {es:Array Event} (hs:stepG P true (G ((base f).at a (t++x)) cs) w= .go pY w' es) (hn:qj pY):Jn P S E str c H Z pY w':=by
 obtain⟨g',_,_,_,hr,l,_⟩:=Ck hS (λ_ _ h=>h) rfl hz hl (hl.self (σ:=id) (λ_ _ h=>h) λ_ _=>rfl) (main:=true) h hs hn λi _=>rfl
 exact⟨l,.inl ⟨g',hr⟩⟩
theorem Wz (hS:Stat P S E str)(hz:str=true->∀b,¬Z b)(hgf:c.gf=dH P)(h0:∃fn,P.funcs[c.f0]? =some fn)(hl:LW H Z w)(t0:dZ)(d0:Nat)
  {f:aa9} {a:Act} {t x y:List Item} {cs cs':List κ} {B:κ} {D:lx} {ops:Array Oper} {i:Nat} {rest:List Nat} (h:rv P S E str id c (gV H w) f a (.inRegion ops (i::rest)::t) x cs B D y cs'):
  Ez P (Jn P S E str c H Z) (G ((base f).at a (.inRegion ops (i::rest)::(t++x))) cs) w t0 d0:=by
 obtain⟨hB,hk,hd,ht,ha⟩:=h.base;obtain⟨hops,ht'⟩:=all_cons ht;have jr:∀{pY:Ω} {w':Θ} {es:Array Event},stepG P true (G ((base f).at a (.inRegion ops (i::rest)::(t++x))) cs) (az w t0 d0)= .go pY w' es->qj pY->Jn P S E str c H Z pY w':=λhs hn=>
  ML hS hz (hl.az t0 d0) (h.mono λi hv=>hv) hs hn
 cases ho:ops[i]? with
 |none=>
  have e:∀w,stepG P true (G ((base f).at a (.inRegion ops (i::rest)::(t++x))) cs) w= .go (G ((base f).at a (.inRegion ops rest::(t++x))) cs) w:=λw=>by
   simp[G,stepG,stepG.exec,Frame.at,ho,Frame.finish]
  exact qU _ _ e (λch=>by simp[Frame.at]) (jr (e _) (mO λch=>by simp[Frame.at]))
 |some o=>
  have hoS:eM (sl D) P S E str o=true:=ph hops ho;have s9:mj P S E str o=true:=(kU hoS).1;cases hwd:Region.wanted o (yielded ops a.tmps) with
  |false=>
   have e:∀w,stepG P true (G ((base f).at a (.inRegion ops (i::rest)::(t++x))) cs) w= .go (G ((base f).at (a.put o.dst undef) (.inRegion ops rest::(t++x))) cs) w #[]:=λw=>stepG_unwanted ho hwd
   exact qU _ _ e (λch=>by simp[Frame.at]) (jr (e _) (mO λch=>by simp[Frame.at]))
  |true=>
   have hka:(base f).kind≠.early:=by simp[base]
   have DG:ba P id (λb=>H b\/Z b) (gV H w) (RN id S) (execOp a.eval o) (execOp (aY id a []).eval o):=
    qR (hS.UD (λ_ _ h=>h) rfl hz _ λi hv=>hv.2) s9 (λx _ hx=>⟨lk a [] hx (by cases x<;>rfl),lR ha hx⟩) (λf=>⟨rfl,rfl⟩) (λv=>rfl)
   have hl1:=hl.az t0 d0;cases hr:(execOp a.eval o).run P (az w t0 d0) with
   |halt hh u=>
    have hok:kV hh:=DG.TA hl1.zU (λb hb=>hl1.low b hb) hr;unfold Ez;rw[stepG_oper ho hwd];cases hh with
    |panic v=>
     refine .inr (.inl ⟨_,cs,u,listed P f a o (az w t0 d0),?_,h.lost hS hgf h0 (.inRegion ops (i::rest)::(t++x)) [{v,recovered:=false}]⟩);simp[stepG.apply,hr,Frame.at,GStep.after,base,G,listed,Frame.raise]
    |stuck m=>exact .inl ⟨_,_,_,by simp[stepG.apply,hr,Frame.at,GStep.after,base];exact⟨rfl,rfl,rfl⟩⟩
    |unsupported u=>cases u<;>first|exact hok.elim|exact .inl ⟨_,_,_,by simp[stepG.apply,hr,Frame.at,GStep.after,base];exact⟨rfl,rfl,rfl⟩⟩
    |_=>exact hok.elim
   |ok nx u=>
    have hrT:(execOp a.eval o).runT P (az w t0 d0) #[]=(.ok nx u,(execOp a.eval o).events P (az w t0 d0) #[]):=by rw[Sem.runT_eq,hr]
    obtain⟨k,hk1,hk2⟩:=DG.EU hl.zU (λb hb=>hl.low b hb) hrT;have sh:∀t2 d2,(∀i,i<k->t2 (d2+i)=t0 (d0+i))->(execOp a.eval o).run P (az w t2 d2)= .ok nx (az u t2 (d2+k))/\listed P f a o (az w t2 d2)=listed P f a o (az w t0 d0):=λt2 d2 hag=>by
     have:=hk2 t2 d2 hag;refine⟨by rw[<-Sem.runT_fst P _ _ #[],this],?_⟩;unfold listed;rw[show(execOp a.eval o).events P (az w t2 d2) #[]=_ from congrArg Prod.snd this]
    cases nx with
    |value v=>
     have e:=stepG_value (main:=true) (cs:=cs) (k:=t++x) (rest:=rest) ho hwd hka hr;refine .inr (.inr ⟨_,_,u,_,k,e,mO λch=>by simp[Frame.at],jr e (mO λch=>by simp[Frame.at]),hk1,λt2 d2 hag=>?_⟩);obtain⟨s1,s2⟩:=sh t2 d2 hag;rw[stepG_value ho hwd hka s1];rw[show listed P (base f).fn a o (az w t2 d2)=_ from s2];rfl
    |skip=>
     have e:=stepG_none (main:=true) (cs:=cs) (k:=t++x) (rest:=rest) ho hwd hka hr;refine .inr (.inr ⟨_,_,u,_,k,e,mO λch=>by simp[Frame.at],jr e (mO λch=>by simp[Frame.at]),hk1,λt2 d2 hag=>?_⟩);obtain⟨s1,s2⟩:=sh t2 d2 hag;rw[stepG_none ho hwd hka s1];rw[show listed P (base f).fn a o (az w t2 d2)=_ from s2];rfl
    |enter f2 ae=>
     have e:=stepG_enter (main:=true) (cs:=cs) (k:=t++x) (rest:=rest) ho hwd hka hr;refine .inr (.inr ⟨_,_,u,_,k,e,mO λch=>by simp[Frame.enter],jr e (mO λch=>by simp[Frame.enter]),hk1,λt2 d2 hag=>?_⟩);obtain⟨s1,s2⟩:=sh t2 d2 hag;rw[stepG_enter ho hwd hka s1];rw[show listed P (base f).fn a o (az w t2 d2)=_ from s2];rfl
    |_=>
     exfalso;have:=nQ hS (λ_ _ h=>h) rfl hz hl1 (hl1.self (σ:=id) (λ_ _ h=>h) λ_ _=>rfl) D ha hoS hr (λi _=>rfl);obtain⟨_,_,x',w',_,e2,_⟩:=this;exact e2.elim
theorem Qm (hS:Stat P S E str)(hz:str=true->∀b,¬Z b)(hgf:c.gf=dH P)(h0:∃fn,P.funcs[c.f0]? =some fn)(hl:LW H Z w)(t0:dZ)(d0:Nat)
  {f:aa9} {a:Act} {t x y:List Item} {cs cs':List κ} {B:κ} {D:lx} (h:rv P S E str id c (gV H w) f a t x cs B D y cs'):
  Ez P (Jn P S E str c H Z) (G ((base f).at a (t++x)) cs) w t0 d0:=by
 obtain⟨hB,hk,hd,ht,ha⟩:=h.base;have jr:∀{pY:Ω} {w':Θ} {es:Array Event},stepG P true (G ((base f).at a (t++x)) cs) (az w t0 d0)= .go pY w' es->qj pY->Jn P S E str c H Z pY w':=λhs hn=>
  ML hS hz (hl.az t0 d0) (h.mono λi hv=>hv) hs hn
 have CK:∀{fr:κ},(∀w,stepG P true (G ((base f).at a (t++x)) cs) w= .go (G fr cs) w)->(∀ch,fr.mode≠.panicking ch)->Ez P (Jn P S E str c H Z) (G ((base f).at a (t++x)) cs) w t0 d0:=λe hm=>
  qU _ _ e hm (jr (e _) (mO hm))
 cases t with
 |nil=>
  cases h with
  |bot _ _ _ hxy=>
   obtain⟨why,r,rfl⟩:=c.stop _ _ hxy;exact .inl ⟨_,_,_,by simp[G,stepG,stepG.exec,Frame.at];exact⟨rfl,rfl,rfl⟩⟩
  |up hf _ _ _ hst=>exact CK (λw=>stepG_end) (λch=>by simp)
 |cons it t=>
  obtain⟨h1,ht'⟩:=all_cons ht;simp only[List.cons_append] at jr CK⊢;cases it with
  |code cd=>
   cases cd with
   |skip=>exact CK (λw=>stepG_skip) (λch=>by simp[Frame.at])
   |label l=>exact CK (λw=>stepG_label) (λch=>by simp[Frame.at])
   |ret=>exact CK (λw=>stepG_ret') (λch=>by simp)
   |seq p q=>exact CK (λw=>stepG_seq) (λch=>by simp[Frame.at])
   |cond o p q=>
    cases hb:a.eval o with
    |bool b=>exact CK (λw=>stepG_cond hb) (λch=>by simp[Frame.at])
    |_=>
     have he:=Frame.eval_at (base f) a (.code (.cond o p q)::(t++x)) o;simp only[Frame.at] at he;exact .inl ⟨_,_,_,by simp[G,stepG,stepG.exec,Frame.at,he,hb];exact⟨rfl,rfl,rfl⟩⟩
   |block id p=>exact CK (λw=>stepG_block) (λch=>by simp[Frame.at])
   |loop p=>exact CK (λw=>stepG_loop) (λch=>by simp[Frame.at])
   |exit id=>
    cases he:exitTo id (t++x) with
    |some k'=>exact CK (λw=>stepG_exit he) (λch=>by simp[Frame.at])
    |none=>exact .inl ⟨_,_,_,by simp[G,stepG,stepG.exec,Frame.at,he,base];exact⟨rfl,rfl,rfl⟩⟩
   |region id ops draw=>
    cases draw with
    |false=>exact CK (λw=>stepG_region) (λch=>by simp[Frame.at])
    |true=>
     have e:=stepG_region_draw (P:=P) (main:=true) (b:=base f) (a:=a) (k:=t++x) (cs:=cs) (w:=az w t0 d0) (id:=id) (ops:=ops);refine .inr (.inr ⟨_,_,_,_,1,e,mO λch=>by simp[Frame.at],jr e (mO λch=>by simp[Frame.at]),rfl,λt2 d2 hag=>?_⟩);rw[stepG_region_draw];have:=hag 0 (by omega);simp only[Nat.add_zero] at this
     show GStep.go (G ((base f).at a (.inRegion ops (Region.schedule (P.follows .mixedOrders) ops (t2 d2 (.order f id)))::(t++x))) cs) _ _=_;rw[this];rfl
   |scope p=>exact CK (λw=>oA) (λch=>by simp[Frame.at])
   |refuse why=>exact .inl ⟨_,_,_,by simp[G,stepG,stepG.exec,Frame.at];exact⟨rfl,rfl,rfl⟩⟩
   |goto l=>
    cases he:gotoIn l (t++x) with
    |some k'=>exact CK (λw=>qO he) (λch=>by simp[Frame.at])
    |none=>exact .inl ⟨_,_,_,by simp[G,stepG,stepG.exec,Frame.at,he,base];exact⟨rfl,rfl,rfl⟩⟩
   |_=>simp[cj,eU] at h1
  |inScope p=>exact CK (λw=>l9) (λch=>by simp[Frame.at])
  |inBlock id=>exact CK (λw=>stepG_inBlock) (λch=>by simp[Frame.at])
  |inLoop p=>exact CK (λw=>stepG_inLoop) (λch=>by simp[Frame.at])
  |inRegion ops todo=>
   cases todo with
   |nil=>exact CK (λw=>stepG_region_end) (λch=>by simp[Frame.at])
   |cons i rest=>exact Wz hS hz hgf h0 hl t0 d0 h
  |_=>simp[cj] at h1
theorem Bn {f:aa9}{fn:Func}(hf:P.funcs[f]? =some fn){main:Bool}{b:κ}{a:Act}{todo:List Item}{cr:κ}{EB:List κ}{w:Θ}(e1:b.kind= .normal)(e2:a.defers=[])(e3:b.fn=f):
  stepG P main (G {b.at a todo with mode:= .returning} (cr::EB)) w=
    GStep.after (seen P f ((results fn a.tmps).events P w #[])) (match(results fn a.tmps).run P w with
     |.ok v w=> .go (G (cr.finish v) EB) w
     |.halt (.stuck s) w=> .ended (.stuck s (Frame.pos P {b.at a todo with mode:= .returning})) w
     |.halt _ w=> .ended (.stuck "return: the result variables cannot be read" (Frame.pos P {b.at a todo with mode:= .returning})) w):=by
 subst e3;simp[G,stepG,unwind,doReturn,Frame.at,e1,e2,hf];cases (results fn a.tmps).run P w with
 |ok v u=>rfl
 |halt h u=>cases h<;>rfl
theorem Qn (hS:Stat P S E str)(hz:str=true->∀b,¬Z b)(hgf:c.gf=dH P)(h0:∃fn,P.funcs[c.f0]? =some fn)(hl:LW H Z w)(t0:dZ)(d0:Nat)
  {f:aa9} {a:Act} {t x y:List Item} {cs cs':List κ} {B:κ} {D:lx} {todo:List Item} (h:rv P S E str id c (gV H w) f a t x cs B D y cs'):
  Ez P (Jn P S E str c H Z) (G {(base f).at a todo with mode:= .returning} cs) w t0 d0:=by
 obtain⟨hB,hk,hd,ht,ha⟩:=h.base;have hfn:∃fn,P.funcs[f]? =some fn:=by
  cases h with
  |bot=>exact h0
  |up hf=>obtain⟨fn,cd,b1,_⟩:=hS.body _ hf;exact⟨fn,b1⟩
 obtain⟨fn,hfn⟩:=hfn;have hl1:=hl.az t0 d0;have main:∀cr EB,cs=cr::EB->(∀v ch,(cr.finish v).mode≠.panicking ch)->(∀v u es,stepG P true (G {(base f).at a todo with mode:= .returning} cs) (az w t0 d0)= .go (G (cr.finish v) EB) u es->LW H Z u->Jn P S E str c H Z (G (cr.finish v) EB) u)->
   Ez P (Jn P S E str c H Z) (G {(base f).at a todo with mode:= .returning} cs) w t0 d0:=by
  intro cr EB hcs hm hj;subst hcs;have gen:∀w,_:=λw=>Bn (P:=P) hfn (main:=true) (b:=base f) (a:=a) (todo:=todo) (cr:=cr) (EB:=EB) (w:=w) rfl hd rfl
  cases hr:(results fn a.tmps).run P (az w t0 d0) with
  |halt hh u=>
   refine .inl ?_;rw[gen,hr];cases hh<;>exact⟨_,_,_,rfl⟩
  |ok v u=>
   have DG:=lC (P:=P) (π:=id) (N:=λb=>H b\/Z b) (V:=gV H w) fn a.tmps;have hrT:(results fn a.tmps).runT P (az w t0 d0) #[]=(.ok v u,(results fn a.tmps).events P (az w t0 d0) #[]):=by rw[Sem.runT_eq,hr]
   obtain⟨k,hk1,hk2⟩:=DG.EU hl.zU (λb hb=>hl.low b hb) hrT;obtain⟨l1,_⟩:=nP hS (π:=id) (λ_ _ h=>h) hl1 (hl1.self (σ:=id) (λ_ _ h=>h) λ_ _=>rfl) (λv hv=>ha v hv) fn hr λi _=>rfl
   have e:stepG P true (G {(base f).at a todo with mode:= .returning} (cr::EB)) (az w t0 d0)= .go (G (cr.finish v) EB) u (seen P f ((results fn a.tmps).events P (az w t0 d0) #[])):=by
    rw[gen,hr];simp[GStep.after]
   refine .inr (.inr ⟨_,_,u,_,k,e,mO (hm v),hj v u _ e l1,hk1,λt2 d2 hag=>?_⟩);have h2:=hk2 t2 d2 hag;have h3:(results fn a.tmps).run P (az w t2 d2)= .ok v (az u t2 (d2+k)):=by rw[<-Sem.runT_fst P _ _ #[],h2]
   have h4:(results fn a.tmps).events P (az w t2 d2) #[]=(results fn a.tmps).events P (az w t0 d0) #[]:=by
    show((results fn a.tmps).runT P (az w t2 d2) #[]).2=_;rw[h2]
   rw[gen,h3,h4];simp[GStep.after]
 cases h with
 |bot _ _ _ hxy=>
  refine main c.gf [] rfl (λv ch=>by rw[hgf];simp[dH,Frame.finish,Frame.at]) λv u es _ l=>⟨l,.inr ?_⟩
  rw[hgf];simp[dH,Frame.finish,Frame.at]
 |@up _ f1 _ a1 _ t1 x1 y1 ops i rest cs1 Kd B1 D1 hf _ _ _ hst=>
  refine main _ cs1 rfl (λv ch=>by rw[Frame.finish_at];simp[Frame.at]) λv u es hs l=>?_
  obtain⟨g',_,_,_,hr,l2,_⟩:=step_ret hS (π:=id) (c:=c) (main:=true) (todo':=[]) (λ_ _ h=>h) hl1 (hl1.self (σ:=id) (λ_ _ h=>h) λ_ _=>rfl) (rv.mono (λi hv=>hv) (.up hf ht ha hd hst)) (by
   intro e;cases hst<;>simp at e) hs λi _=>rfl
  exact⟨l2,.inl ⟨g',hr⟩⟩
theorem abY (hS:Stat P S E str)(hz:str=true->∀b,¬Z b)(hgf:c.gf=dH P)(h0:∃fn,P.funcs[c.f0]? =some fn){gL:Ω}(h:Jn P S E str c H Z gL w)(t0:dZ)(d0:Nat):Ez P (Jn P S E str c H Z) gL w t0 d0:=by
 obtain⟨hl,⟨g,hr⟩|rfl⟩:=h
 .cases hr with
  |run h=>exact Qm hS hz hgf h0 hl t0 d0 h
  |ret h=>exact Qn hS hz hgf h0 hl t0 d0 h
 .exact .inl ⟨_,_,_,by simp[G,dH,stepG,stepG.exec,Frame.at];exact⟨rfl,rfl,rfl⟩⟩
end
section
variable {P:ω}{S E:aa9->Bool}{str:Bool}{c:Ctx}{H Z:Nat->Prop}
theorem gZ.az {π:Nat->Nat}{wL:Θ}{gL g:Ω}(h:gZ P S E str π c H wL gL g)(t:dZ)(d:Nat):gZ P S E str π c H (az wL t d) gL g:=by
 cases h with
 |run h=>exact .run (h.mono λi hv=>hv)
 |ret h=>exact .ret (h.mono λi hv=>hv)
theorem shifts (hS:Stat P S E str)(hz:str=true->∀b,¬Z b)(hgf:c.gf=dH P)(h0:∃fn,P.funcs[c.f0]? =some fn):Shifts P (Jn P S E str c H Z):=by
 intro g w t d g' w' es hj hs hn;rcases abY hS hz hgf h0 hj t d with⟨o,u,es2,h⟩|⟨fr,cs,u,es2,h,hl⟩|⟨fr,cs,u,es2,k,h,_,hj',hk,hk2⟩
 .rw[h] at hs;cases hs
 .rw[h] at hs
  cases hs;exfalso;cases hl with
  |top hm _=>exact hn.calm _ hm
  |up hm _ _ _=>exact hn.calm _ hm
 .rw[h] at hs
  cases hs;exact⟨hj',k,hk,hk2⟩
theorem xn:∀(n:Nat) {fr:κ} {cs:List κ} {w:Θ} {fr':κ} {cs':List κ} {w':Θ},KE P fr cs->runN P n (lone fr cs w)= .next (lone fr' cs' w')->∃ch,fr'.mode= .panicking ch
 |0,fr,cs,w,fr',cs',w',h,hr=>by
  simp only[runN,Stepped.next.injEq,lone,Machine.mk.injEq] at hr;have h1:=hr.2.1;simp at h1;obtain⟨rfl,_⟩:=h1;cases h with
  |top hm _=>exact⟨_,hm⟩
  |up hm _ _ _=>exact⟨_,hm⟩
 |n+1,fr,cs,w,fr',cs',w',h,hr=>by
  simp only[runN] at hr;cases h with
  |top hm hf=>
   have:step P (lone fr [] w)= .ended (.stuck "call: no such function" (Frame.pos P {fr with defers:=[]})) w:=by
    refine step_lone_ended ?_;simp[stepG,unwind,hm,hf,dH,callDeferred,Frame.at,invoke,callFunc,program,stuck,bind,Sem.bind,Sem.run,GStep.after]
   rw[this] at hr;cases hr
  |@up _ cr cs ch hm hd hc h=>
   have:step P (lone fr (cr::cs) w)= .next (lone (cr.raise ch) cs w):=by
    refine step_lone_go ?_;simp[stepG,unwind,hm,hd,hc]
   rw[this] at hr;exact xn n (h ch) hr
theorem lG (hS:Stat P S E str)(hz:str=true->∀b,¬Z b)(hgf:c.gf=dH P)(h0:∃fn,P.funcs[c.f0]? =some fn):∀(n:Nat) {fr:κ} {cs:List κ} {w:Θ} {fr':κ} {cs':List κ} {w':Θ},
  Jn P S E str c H Z (G fr cs) w->runN P n (lone fr cs w)= .next (lone fr' cs' w')->(∀ch,fr'.mode≠.panicking ch)->Run P n (G fr cs) w (G fr' cs') w'/\Jn P S E str c H Z (G fr' cs') w'
 |0,fr,cs,w,fr',cs',w',hj,hr,_=>by
  simp only[runN,Stepped.next.injEq,lone,Machine.mk.injEq] at hr;have h1:=hr.2.1;simp at h1;obtain⟨rfl,rfl⟩:=h1;obtain rfl:=hr.1;exact⟨⟨rfl,rfl⟩,hj⟩
 |n+1,fr,cs,w,fr',cs',w',hj,hr,hm=>by
  simp only[runN] at hr;rcases abY hS hz hgf h0 hj w.tape w.drawn with⟨o,u,es2,h⟩|⟨fr2,cs2,u,es2,h,hl⟩|⟨fr2,cs2,u,es2,k,h,hn,hj',_,_⟩
  .rw[oP] at h
   have:step P (lone fr cs w)= .ended o u:=step_lone_ended (by
    show(stepG P true (G fr cs) w).bare=_;rw[h];rfl)
   rw[this] at hr;cases hr
  .rw[oP] at h
   have:step P (lone fr cs w)= .next (lone fr2 cs2 u):=step_lone_go (by
    show(stepG P true (G fr cs) w).bare=_;rw[h];rfl)
   rw[this] at hr;obtain⟨ch,hc⟩:=xn n hl hr;exact absurd hc (hm ch)
  .rw[oP] at h
   have:step P (lone fr cs w)= .next (lone fr2 cs2 u):=step_lone_go (by
    show(stepG P true (G fr cs) w).bare=_;rw[h];rfl)
   rw[this] at hr;obtain⟨r1,r2⟩:=lG hS hz hgf h0 n hj' hr hm;exact⟨⟨_,u,es2,h,hn,r1⟩,r2⟩
def kL:Option Nat->List Item
 |none=>[.inRangeFunc 0]
 |some id=>[.inRangeFunc 0,.inBlock id,.inRangeFunc 0]
def TO (f0:aa9)(P:ω)(gv:Option Nat):Exit->Act->Ω->Prop
 |.normal,a,g=>g=G ((base f0).at a (kL gv)) [dH P]
 |.exit id,a,g=>gv=some id/\g=G ((base f0).at a [.inRangeFunc 0]) [dH P]
 |.ret,a,g=>∃todo,g=G {(base f0).at a todo with mode:= .returning} [dH P]
 |_,_,_=>False
def aiM (f0:aa9)(P:ω)(gv:Option Nat)(Q:Exit->Act->Θ->Prop)(g:Ω)(w:Θ):Prop:=∃e a,Q e a w/\TO f0 P gv e a g
structure QOk (gv:Option Nat)(Q:Exit->Act->Θ->Prop):Prop where
 tape:∀e a w t d,Q e a (az w t d)↔Q e a w
 out:∀e a w,Q e a w->e= .normal\/e= .ret\/∃id,e= .exit id/\gv=some id
def WpT (P:ω)(t:List Item)(Q:Exit->Act->Θ->Prop)(a:Act)(w:Θ):Prop:=∀(b:κ) (k:List Item) (cs:List κ),∃e a' w',Q e a' w'/\Arrives P (lone (b.at a (t++k)) cs w) b k cs e a' w'
theorem FZ (hS:Stat P S E str)(hz:str=true->∀b,¬Z b)(hgf:c.gf=dH P)(h0:∃fn,P.funcs[c.f0]? =some fn){t0:List Item}{Q:Exit->Act->Θ->Prop}{a:Act}{wL:Θ}{gv:Option Nat}(hQ:QOk gv Q)
  (hj:Jn P S E str c H Z (G ((base c.f0).at a (t0++kL gv)) [dH P]) wL) (h:∀t d,WpT P t0 Q a (az wL t d)):Ends P (aiM c.f0 P gv Q) (G ((base c.f0).at a (t0++kL gv)) [dH P]) wL:=by
 intro t d;obtain⟨e,a',w',q,harr⟩:=h t d (base c.f0) (kL gv) [dH P];have hj':Jn P S E str c H Z (G ((base c.f0).at a (t0++kL gv)) [dH P]) (az wL t d):=⟨hj.1.az t d,hj.2.imp (λ⟨g,h⟩=>⟨g,h.az t d⟩) id⟩
 rcases hQ.out e a' w' q with rfl|rfl|⟨id,rfl,hx⟩
 .obtain⟨n,hn⟩:=harr
  exact⟨n,_,w',(lG hS hz hgf h0 n hj' hn λch=>by simp[Frame.at]).1,.normal,a',q,rfl⟩
 .obtain⟨todo,n,hn⟩:=harr
  exact⟨n,_,w',(lG hS hz hgf h0 n hj' hn λch=>by simp).1,.ret,a',q,todo,rfl⟩
 .subst hx
  obtain⟨n,hn⟩:=harr [.inRangeFunc 0] (by simp[kL,exitTo]);exact⟨n,_,w',(lG hS hz hgf h0 n hj' hn λch=>by simp[Frame.at]).1,.exit id,a',q,rfl,rfl⟩
end
def TY (O RO:Nat->Prop)(n n':Nat)(e:Event):Prop:=
 (∃b,(O b\/(n<=b/\b<n')\/(RO b/\e.write=false))/\((∃a:Addr,e.loc= .cell a/\a.block=b)\/e.loc= .obj b))\/∃m,e.loc= .mark m/\pi m
structure kx (O RO:Nat->Prop)(w w':Θ)(es:Array Event):Prop where
 size:w.heap.size<=w'.heap.size
 keep:∀k,k<w.heap.size->¬O k->w'.heap[k]? =w.heap[k]?
 os:w'.os=w.os
 output:w'.output=w.output
 tape:w'.tape=w.tape
 ev:∀e∈es,TY O RO w.heap.size w'.heap.size e
structure ON {S0:Type}(C:Co S0)(own:S0->Nat->Prop)(RO:Nat->Prop):Prop where
 rel:∀s w w₁,C.R s w w₁->w.heap.size<=w₁.heap.size/\w₁.tape=w.tape/\∀b,b<w.heap.size->own s b\/RO b->w₁.heap[b]? =w.heap[b]?
 guar:∀s w w' es,kx (own s) RO w w' es->C.D s w w' es
 up:∀s w w' b,own (C.up s w w') b↔own s b\/(w.heap.size<=b/\b<w'.heap.size)
structure Link (H Z:Nat->Prop)(O RO:Nat->Prop)(π:Nat->Nat)(wL w:Θ):Prop where
 inj:∀i j,π i=π j->i=j
 zero:π 0=0
 lt:∀b,b<wL.heap.size->π b<w.heap.size
 lw:LW H Z wL
 wr:WR π H Z (az wL w.tape w.drawn) w
 own:∀b,gV H wL b->¬Z b->O (π b)
 ro:∀b,Z b->RO (π b)
section
variable {P:ω}{S E:aa9->Bool}{str:Bool}{c:Ctx}{H Z:Nat->Prop}{O RO:Nat->Prop}{π cu:Nat->Nat}{wL w w₁:Θ}
theorem tA {v:Φ}:∀(h:∀r,Value.Has r v->π r=cu r),Value.ren π v=Value.ren cu v:=by
 suffices h:∀n (v:Φ),SizeOf.sizeOf v<n->(∀r,Value.Has r v->π r=cu r)->Value.ren π v=Value.ren cu v from h _ v (Nat.lt_succ_self _)
 intro n
 induction n with
 |zero=>intro v h;omega
 |succ n ih=>
  intro v hv h;have arr:∀(cs:Array Φ),SizeOf.sizeOf cs<n->(∀x∈cs,∀r,Value.Has r x->π r=cu r)->cs.map (Value.ren π)=cs.map (Value.ren cu):=by
   intro cs hs hh;exact Array.map_congr_left λx hx=>ih x (by have:=Array.sizeOf_lt_of_mem hx;omega) (hh x hx)
  cases v with
  |pointer a=>cases a with
   |none=>simp
   |some a=>simp[aZ,h a.block (.ptr rfl)]
  |slice a _ _=>cases a with
   |none=>simp
   |some a=>simp[aZ,h a.block (.slice rfl)]
  |map r=>cases r with
   |none=>simp
   |some r=>simp[h r .map]
  |chan r=>cases r with
   |none=>simp
   |some r=>simp[h r .chan]
  |iface t v=>rw[cR,cR,ih v (by simp at hv;omega) λr x=>h r (.iface x)]
  |agg cs=>rw[dm,dm,arr cs (by simp at hv;omega) λx hx r y=>h r (.agg hx y)]
  |tuple cs=>rw[cQ,cQ,arr cs (by simp at hv;omega) λx hx r y=>h r (.tuple hx y)]
  |func fn f c=>
   rw[di,di,arr f (by simp at hv;omega) λx hx r y=>h r (.first hx y),arr c (by simp at hv;omega) λx hx r y=>h r (.Gn hx y)];cases fn with
   |yield l=>simp[oU,h l .yield]
   |_=>rfl
  |_=>simp
theorem kW {cs:Array Φ}(h:∀x∈cs,∀r,Value.Has r x->π r=cu r):cs.map (Value.ren π)=cs.map (Value.ren cu):=Array.map_congr_left λx hx=>tA (h x hx)
theorem wR {o:Obj}(h:∀r,j3 r o->π r=cu r):dE π o=dE cu o:=by
 cases o with
 |cells c t f=>simp only[dE];rw[kW λv hv r x=>h r (.cells hv x)]
 |map es c=>
  simp only[dE];have:es.map (mh π)=es.map (mh cu):=Array.map_congr_left λe he=>by
   unfold mh;rw[tA λr x=>h r (.key he x),tA λr x=>h r (.val he x)]
  rw[this]
 |mapIter m a b c=>cases m with
  |none=>rfl
  |some r=>simp[dE,h r .iter]
 |view a t=>simp[dE,aZ,h a.block (.view rfl)]
 |number a l=>simp[dE,aZ,h a.block (.number rfl)]
 |_=>rfl
theorem rv.congr {V:Nat->Prop}(hV:∀i,V i->π i=cu i){f:aa9}{a:Act}{t x:List Item}{cs:List κ}{B:κ}{D:lx}{y:List Item}{cs':List κ}(h:rv P S E str π c V f a t x cs B D y cs'):rv P S E str cu c V f a t x cs B D y cs':=by
 induction h with
 |bot ht ha hd hxy=>exact .bot ht ha hd hxy
 |@up f f1 a a1 t t1 x1 y1 ops i rest cs1 Kd B1 D1 hf ht ha hd hs ih=>
  have e:aY π a1 D1=aY cu a1 D1:=by
   unfold aY;rw[kW λv hv r x=>hV r (hs.base.2.2.2.2 v hv r x)]
  rw[e];exact .up hf ht ha hd ih
theorem gZ.congr (hV:∀i,gV H wL i->π i=cu i){gL g:Ω}(h:gZ P S E str π c H wL gL g):gZ P S E str cu c H wL gL g:=by
 cases h with
 |@run f a t x cs B D y cs' h=>
  have e:aY π a D=aY cu a D:=by
   unfold aY;rw[kW λv hv r x=>hV r (h.base.2.2.2.2 v hv r x)]
  rw[e];exact .run (h.congr hV)
 |@ret f a t x cs B D y cs' todo todo' h=>
  have e:aY π a D=aY cu a D:=by
   unfold aY;rw[kW λv hv r x=>hV r (h.base.2.2.2.2 v hv r x)]
  rw[e];exact .ret (h.congr hV)
theorem Link.rely (h:Link H Z O RO π wL w)(hs:w.heap.size<=w₁.heap.size)(ht:w₁.tape=w.tape)(hk:∀b,b<w.heap.size->O b\/RO b->w₁.heap[b]? =w.heap[b]?):
  ∃cu,Link H Z O RO cu wL w₁/\(∀b,b<wL.heap.size->π b=cu b)/\∀i,cu (wL.heap.size+i)=w₁.heap.size+i:=by
 refine⟨λi=>if i<wL.heap.size then π i else w₁.heap.size+(i-wL.heap.size),?_,λb hb=>(χ hb).symm,λi=>by show(if wL.heap.size+i<wL.heap.size then π (wL.heap.size+i) else w₁.heap.size+(wL.heap.size+i-wL.heap.size))=_;rw[ζ (by omega)];omega⟩;have e:∀b,b<wL.heap.size->(if b<wL.heap.size then π b else w₁.heap.size+(b-wL.heap.size))=π b:=λb hb=>χ hb
 have lo:∀b,H b\/Z b->b<wL.heap.size:=h.lw.low;have hz0:0<wL.heap.size:=h.lw.zero.1;have oc:∀(b:Nat) (o:Obj),wL.heap[b]? =some o->¬H b->dE (λi=>if i<wL.heap.size then π i else w₁.heap.size+(i-wL.heap.size)) o=dE π o:=λb o hb hH=>wR λr hr=>e r (h.lw.Sa b o hb hH r hr).1
 have at_:∀b,gV H wL b->w₁.heap[π b]? =w.heap[π b]? :=λb hb=>hk _ (h.lt b hb.1) (by
  by_cases hZ:Z b
  .exact .inr (h.ro b hZ)
  .exact .inl (h.own b hb hZ))
 refine {inj:=λi j hij=>?_,zero:=by rw[e 0 hz0];exact h.zero,lt:=λb hb=>by rw[e b hb];have:=h.lt b hb;omega,lw:=h.lw,wr:=?_,own:=λb hb hZ=>by rw[e b hb.1];exact h.own b hb hZ,ro:=λb hZ=>by rw[e b (lo b (.inr hZ))];exact h.ro b hZ}
 .split at hij<;>split at hij
  .exact h.inj _ _ hij
  .have:=h.lt i (by assumption);omega
  .have:=h.lt j (by assumption);omega
  .omega
 .have hw:=h.wr
  refine {inj:=?_,tape:=rfl,drawn:=rfl,lt:=λb hb hH=>?_,ok:=λb o hb hH hZ=>?_,hid:=hw.hid,oq:=λb o hb hZ=>?_,low:=hw.low,yx:=hw.yx}
  .intro i j hij
   split at hij<;>split at hij
   .exact h.inj _ _ hij
   .have:=h.lt i (by assumption);omega
   .have:=h.lt j (by assumption);omega
   .omega
  .rw[e b hb]
   have:=h.lt b hb;omega
  .have hlt:=(Ψ.1 hb).1
   refine⟨(hw.ok b o hb hH hZ).1,?_⟩;rw[e b hlt,at_ b ⟨hlt,hH⟩,oc b o hb hH];exact(hw.ok b o hb hH hZ).2
  .have hlt:=(Ψ.1 hb).1
   obtain⟨c,t,f,rfl,h2⟩:=hw.oq b o hb hZ;refine⟨c,t,f,rfl,?_⟩;have hH:=h.lw.apart b hZ;rw[e b hlt,at_ b ⟨hlt,hH⟩];have:=oc b _ hb hH;simp only[dE,Obj.cells.injEq] at this;rw[this.1];exact h2
theorem Link.sc (h:Link H Z O RO π wL w){bI w':Θ}{es:Array Event}(hag:∀i,wL.heap.size+i<bI.heap.size->π (wL.heap.size+i)=w.heap.size+i)
  (l:LW H Z bI) (hsz:wL.heap.size<=bI.heap.size) (hw:WR π H Z bI w') (hc:BM π H Z (az wL w.tape w.drawn) bI w w') (he:∀e∈es,pG π H Z bI.heap.size e):
  kx O RO w w' es/\∀O':Nat->Prop,(∀b,O' b↔O b\/(w.heap.size<=b/\b<w'.heap.size))->Link H Z O' RO π bI w':=by
 have hS:w'.heap.size=w.heap.size+(bI.heap.size-wL.heap.size):=hc.size;have new:∀b,wL.heap.size<=b->b<bI.heap.size->w.heap.size<=π b/\π b<w'.heap.size:=λb h1 h2=>by
  have:=hag (b-wL.heap.size) (by omega);rw[show wL.heap.size+(b-wL.heap.size)=b by omega] at this;omega
 refine⟨⟨by omega,λk hk hO=>hc.keep k hk λb hb hH hZ e=>hO (e▸h.own b ⟨hb,hH⟩ hZ),hc.os,hc.output,hc.tape,λe hE=>?_⟩,λO' hO'=>?_⟩
 .rcases he e hE with⟨b,hb,hH,hZ,hloc⟩|hm
  .refine .inl ⟨π b,?_,hloc⟩
   by_cases hlt:b<wL.heap.size
   .by_cases hz:Z b
    .refine .inr (.inr ⟨h.ro b hz,?_⟩)
     cases hwr:e.write with
     |false=>rfl
     |true=>exact absurd hz (hZ hwr)
    .exact .inl (h.own b ⟨hlt,hH⟩ hz)
   .exact .inr (.inl (new b (by omega) hb))
  .exact .inr hm
 .refine {inj:=h.inj,zero:=h.zero,lt:=λb hb=>?_,lw:=l,wr:=?_,own:=λb hb hZ=>?_,ro:=h.ro}
  .by_cases hlt:b<wL.heap.size
   .have:=h.lt b hlt;omega
   .exact(new b (by omega) hb).2
  .have e:az bI w'.tape w'.drawn=bI:=by
    unfold az;rw[hw.tape,hw.drawn]
   rw[e];exact hw
  .rw[hO']
   by_cases hlt:b<wL.heap.size
   .exact .inl (h.own b ⟨hlt,hb.2⟩ hZ)
   .exact .inr (new b (by omega) hb.1)
inductive TlX (gv:Option Nat)(kT:List Item):List Item->List Item->Prop
 |nil:TlX gv kT (kL gv) kT
 |exit {id:Nat} {y:List Item} (h:gv=some id) (hy:exitTo id kT=some y):TlX gv kT [.inRangeFunc 0] y
def aek (B:κ)(kT:List Item)(CS:List κ):Exit->Act->Ω->Prop
 |.normal,a,g=>g=G (B.at a kT) CS
 |.exit id,a,g=>∃y,exitTo id kT=some y/\g=G (B.at a y) CS
 |.ret,a,g=>∃todo,g=G {B.at a todo with mode:= .returning} CS
 |_,_,_=>False
def StopA {S0:Type}(own:S0->Nat->Prop)(RO:Nat->Prop)(H Z:Nat->Prop)(B:κ)(D0:lx)(kT:List Item)(CS:List κ)(Q:Exit->Act->Θ->Prop)(aak:Nat->Nat)(n₀:Nat)(s:S0)(g:Ω)(w:Θ):Prop:=
 ∃e a wL π,Q e a wL/\Link H Z (own s) RO π wL w/\a.defers=[]/\(∀v∈a.tmps,VV (gV H wL) v)/\aek B kT CS e (aY π a D0) g/\(∀b,b<n₀->π b=aak b)/\n₀<=wL.heap.size
def aev (P:ω)(f0:aa9)(B:κ)(D0:lx)(CS:List κ)(gv:Option Nat)(kT:List Item)(hf:B.fn=f0)(hk:B.kind≠.early)(hx:∀id,gv=some id->∃y,exitTo id kT=some y):Ctx where
 f0:=f0
 gf:=dH P
 B:=B
 D0:=D0
 CS:=CS
 Tl:=TlX gv kT
 fn:=hf
 kind:=hk
 stop:=λx y h=>by
  cases h with
  |nil=>cases gv<;>exact⟨_,_,rfl⟩
  |exit=>exact⟨_,_,rfl⟩
 exit:=λx y id x' h hx'=>by
  cases h with
  |nil=>
   cases gv with
   |none=>simp[kL,exitTo] at hx'
   |some i=>
    simp only[kL,exitTo] at hx';split at hx'
    .rename_i he
     have:i=id:=by simpa using he
     subst this;cases hx';obtain⟨y',hy'⟩:=hx i rfl;exact⟨y',hy',.exit rfl hy'⟩
    .cases hx'
  |exit=>simp[exitTo] at hx'
 bare:=λx y l h=>by
  cases h with
  |nil=>cases gv<;>rfl
  |exit=>rfl
theorem Ay {V:Nat->Prop}{f:aa9}{a:Act}{t x:List Item}{gf:κ}{B:κ}{D:lx}{y:List Item}{cs':List κ}(h:rv P S E str π c V f a t x [gf] B D y cs'):f=c.f0/\B=c.B/\D=c.D0/\cs'=c.CS/\c.Tl x y:=by
 cases h with
 |bot _ _ _ hxy=>exact⟨rfl,rfl,rfl,rfl,hxy⟩
 |up _ _ _ _ hs=>cases hs
theorem uq {gL g:Ω}(h:gZ P S E str π c H wL gL g){f0:aa9}{aL:Act}{todo:List Item}{gf:κ}(e:gL=G ((base f0).at aL todo) [gf]):
  ∃t x y,todo=t++x/\(∀it∈t,cj (sl c.D0) P S E str it=true)/\c.Tl x y/\aL.defers=[]/\(∀v∈aL.tmps,VV (gV H wL) v)/\g=G (c.B.at (aY π aL c.D0) (t++y)) c.CS:=by
 cases h with
 |@run f a t x cs B D y cs' h=>
  simp only[G,Frame.at,base,Goroutine.mk.injEq,Frame.mk.injEq] at e;obtain⟨⟨e1,e2,e3,e4,_⟩,e5,_⟩:=e;subst e5;obtain⟨_,_,hd,ht,ha⟩:=h.base;obtain⟨_,rfl,rfl,rfl,hxy⟩:=Ay h;obtain⟨tm,df⟩:=a;obtain⟨tm',df'⟩:=aL;simp only at e2 e4;subst e2;subst e4;exact⟨t,x,y,e3.symm,ht,hxy,hd,ha,rfl⟩
 |ret h=>
  simp only[G,Frame.at,base,Goroutine.mk.injEq,Frame.mk.injEq] at e;exact absurd e.1.2.2.2.2.1 (by simp)
theorem C1 {gL g:Ω}(h:gZ P S E str π c H wL gL g){f0:aa9}{aL:Act}{todo:List Item}{gf:κ}(e:gL=G {(base f0).at aL todo with mode:= .returning} [gf]):
  aL.defers=[]/\(∀v∈aL.tmps,VV (gV H wL) v)/\∃todo',g=G {c.B.at (aY π aL c.D0) todo' with mode:= .returning} c.CS:=by
 cases h with
 |run h=>
  simp only[G,Frame.at,base,Goroutine.mk.injEq,Frame.mk.injEq] at e;exact absurd e.1.2.2.2.2.1 (by simp)
 |@ret f a t x cs B D y cs' td td' h=>
  simp only[G,Frame.at,base,Goroutine.mk.injEq,Frame.mk.injEq] at e;obtain⟨⟨e1,e2,e3,e4,_⟩,e5,_⟩:=e;subst e5;obtain⟨_,_,hd,ht,ha⟩:=h.base;obtain⟨_,rfl,rfl,rfl,hxy⟩:=Ay h;obtain⟨tm,df⟩:=a;obtain⟨tm',df'⟩:=aL;simp only at e2 e4;subst e2;subst e4;exact⟨hd,ha,td',rfl⟩
theorem QZ (gv:Option Nat):∃r,kL gv= .inRangeFunc 0::r:=by cases gv<;>exact⟨_,rfl⟩
theorem tail_nil {σ:List Nat}{t x:List Item}{r:List Item}(h:Item.inRangeFunc 0::r=t++x)(ht:∀it∈t,cj σ P S E str it=true):t=[]:=by
 cases t with
 |nil=>rfl
 |cons it t=>
  simp only[List.cons_append,List.cons.injEq] at h;have:=ht it (by simp);rw[<-h.1] at this;simp[cj] at this
theorem MD (hS:Stat P S E str)(hz:str=true->∀b,¬Z b){f0:aa9}(h0:∃fn,P.funcs[f0]? =some fn){S0:Type}{C:Co S0}{own:S0->Nat->Prop}(hC:ON C own RO){gv:Option Nat}{Q:Exit->Act->Θ->Prop}(hQ:QOk gv Q)
  {B:κ} {D0:lx} {CS:List κ} {kT:List Item} (hf:B.fn=f0) (hk:B.kind≠.early) (hx:∀id,gv=some id->∃y,exitTo id kT=some y) {t0:List Item} (BN:∀it∈t0,cj (sl D0) P S E str it=true)
  {a:Act} {s:S0} (hl:Link H Z (own s) RO π wL w) (ha:∀v∈a.tmps,VV (gV H wL) v) (hd:a.defers=[]) (hwp:∀t d,WpT P t0 Q a (az wL t d)) {main:Bool}:
  aD P main C (StopA own RO H Z B D0 kT CS Q π wL.heap.size) s (G (B.at (aY π a D0) (t0++kT)) CS) w:=by
 let c:=aev P f0 B D0 CS gv kT hf hk hx
 have hj:Jn P S E str c H Z (G ((base f0).at a (t0++kL gv)) [dH P]) wL:=
  ⟨hl.lw,.inl ⟨_,gZ.run (t:=t0) (x:=kL gv) (rv.bot (c:=c) BN ha hd (.nil (kT:=kT)))⟩⟩
 have adm:=FZ hS hz (c:=c) (Z:=Z) rfl h0 hQ hj hwp;have hlt:=Av (shifts hS hz (c:=c) (H:=H) (Z:=Z) rfl h0) (λg w t d=>by
  constructor
  .rintro⟨e,a,q,x⟩;exact⟨e,a,(hQ.tape e a w t d).1 q,x⟩
  .rintro⟨e,a,q,x⟩;exact⟨e,a,(hQ.tape e a w t d).2 q,x⟩) hj adm
 refine Dt (λs gL bI g w=>∃cu,Link H Z (own s) RO cu bI w/\gZ P S E str cu c H bI gL g/\(∀b,b<wL.heap.size->cu b=π b)/\wL.heap.size<=bI.heap.size) ?_ ?_ ?_ hlt ⟨π,hl,gZ.run (t:=t0) (x:=kL gv) (rv.bot (c:=c) BN ha hd (.nil (kT:=kT))),λ_ _=>rfl,φ _⟩
 ·
  rintro s gL wL g w ⟨π,hl,hr,XZ,hsz0⟩ ⟨e,aL,q,hg⟩ w₁ hR;obtain⟨r1,r2,r3⟩:=hC.rel s w w₁ hR;obtain⟨cu,hl',Hj,_⟩:=hl.rely r1 r2 r3;have hr':=hr.congr (cu:=cu) λi hv=>Hj i hv.1
  have Rj:=λb (hb:b<_)=>(Hj b (ψ hb hsz0)).symm.trans (XZ b hb)
  refine⟨e,aL,wL,cu,q,hl',?_⟩;rcases hQ.out e aL wL q with rfl|rfl|⟨id,rfl,hxi⟩
  .obtain⟨t,x,y,e1,ht,hxy,h1,h2,rfl⟩:=uq hr' hg
   obtain⟨r,hr2⟩:=QZ gv;obtain rfl:=tail_nil (hr2▸e1) ht;refine⟨h1,h2,?_⟩;have hxy':TlX gv kT x y:=hxy;simp only[List.nil_append] at e1⊢;subst e1;cases hk2:gv with
   |none=>
    rw[hk2] at hxy';generalize hz2:kL none=z at hxy';cases hxy' with
    |nil=>exact⟨rfl,Rj,hsz0⟩
    |exit h _=>cases h
   |some i=>
    rw[hk2] at hxy';generalize hz2:kL (some i)=z at hxy';cases hxy' with
    |nil=>exact⟨rfl,Rj,hsz0⟩
    |exit _ _=>simp[kL] at hz2
  .obtain⟨todo,hg⟩:=hg
   obtain⟨h1,h2,todo',rfl⟩:=C1 hr' hg;exact⟨h1,h2,⟨todo',rfl⟩,Rj,hsz0⟩
  .obtain⟨t,x,y,e1,ht,hxy,h1,h2,rfl⟩:=uq hr' hg.2
   obtain rfl:=tail_nil e1 ht;refine⟨h1,h2,?_⟩;have hxy':TlX gv kT x y:=hxy;simp only[List.nil_append] at e1⊢;subst e1;subst hxi;generalize hz2:[Item.inRangeFunc 0]=z at hxy';cases hxy' with
   |nil=>simp[kL] at hz2
   |exit h hy=>
    cases h;exact⟨⟨_,hy,rfl⟩,Rj,hsz0⟩
 .rintro s gL wL g w ⟨π,hl,hr,_⟩
  cases hr<;>rfl
 .rintro s gL wL g w ⟨π,hl,hr,XZ,hsz0⟩ w₁ hR pY bI es hs hn hk
  obtain⟨r1,r2,r3⟩:=hC.rel s w w₁ hR;obtain⟨cu,hl',Hj,hag⟩:=hl.rely r1 r2 r3;have hr':=hr.congr (cu:=cu) λi hv=>Hj i hv.1
  have hag':∀i,(az wL w₁.tape w₁.drawn).heap.size+i<bI.heap.size->cu ((az wL w₁.tape w₁.drawn).heap.size+i)=w₁.heap.size+i:=λi _=>hag i
  have res:Res P S E str cu c main H Z (az wL w₁.tape w₁.drawn) w₁ g pY bI:=by
   have hl1:LW H Z (az wL w₁.tape w₁.drawn):=hl'.lw.az _ _;cases hr' with
   |run h=>exact Ck hS hl'.inj hl'.zero hz hl1 hl'.wr (h.mono λi hv=>hv) hs hn hag'
   |@ret f a t x cs B D y cs' todo todo' h=>
    by_cases hne:cs=[dH P]
    .exfalso
     subst hne;obtain⟨_,_,hda,_,_⟩:=h.base;obtain⟨hf0,_⟩:=Ay h;have ahQ:f=f0:=hf0;subst ahQ;obtain⟨fn,hfn⟩:=h0;rw[Bn hfn rfl hda rfl] at hs;cases hres:(results fn a.tmps).run P (az wL w₁.tape w₁.drawn) with
     |halt hh u=>rw[hres] at hs;cases hh<;>simp[GStep.after] at hs
     |ok v u=>
      rw[hres] at hs;simp only[GStep.after,GStep.go.injEq] at hs;obtain⟨rfl,rfl,_⟩:=hs;have hfin:(dH P).finish v=dH P:=by simp[dH,Frame.finish,Frame.at]
      rw[hfin] at hk;cases hk with
      |stop hF=>
       obtain⟨e,a2,q,x⟩:=hF;cases e<;>simp[TO,G] at x
      |step nx hst _ _=>
       have:=hst (λ_ _=>0) 0;simp[G,dH,stepG,stepG.exec,Frame.at] at this
    .exact step_ret hS hl'.inj hl1 hl'.wr (h.mono λi hv=>hv) hne hs hag'
  obtain⟨g',w',es',e1,e2,e3,e4,e5,e6,e7⟩:=res;obtain⟨o1,o2⟩:=hl'.sc (λi hi=>hag i) e3 e4 e5 e6 e7;exact⟨g',w',es',e1,hC.guar s w₁ w' es' o1,cu,o2 _ (hC.up s w₁ w'),e2,λb hb=>(Hj b (ψ hb hsz0)).symm.trans (XZ b hb),ae3 hsz0 e4⟩
end
end
section
open Go.Conc
open Go.ConcM (OsLater)
namespace aG
def vo:bg->Bool
 |.m=>true
 |_=>false
theorem Bg {n0:Nat}(h:0<n0)(r:bg):(gid n0 r==0)=vo r:=by cases r<;>simp[gid,vo];omega
structure Cx (Δ:Type) where
 Fd:Nat
 M:Nat
 Wg:Nat
 tF:η
 tW:η
 Dat:Δ->Δ->Obj->Prop
 fin:bg->Δ
 c0:bg->Δ
 N:bg->Nat
structure Gh (Δ:Type) where
 ro:Nat->Prop
 own:Nat->Prop
 mine:Δ
 other:Δ
section
variable {Δ:Type}(X:Cx Δ)
def mA:Addr:=⟨X.Fd,0,none⟩
def msA:Addr:=⟨X.Fd,1,none⟩
def wA:Addr:=⟨X.Wg,0,none⟩
def KI:Addr:=⟨X.Wg,1,none⟩
def ShAt (w:Θ)(s:Sh):Prop:=w.heap[X.Fd]? =some (.cells #[.int .i32 s.mu,.int .u32 s.ms,.map (some X.M)] X.tF)/\w.heap[X.Wg]? =some (.cells #[.int .u64 s.wg,.int .u32 s.ws] X.tW)
def BK (r:bg)(mine other:Δ)(o:Obj):Prop:=match r with
 |.a=>X.Dat mine other o
 |_=>X.Dat other mine o
structure RX (ro own:Nat->Prop)(w w₁:Θ):Prop where
 tape:w₁.tape=w.tape
 output:w₁.output=w.output
 size:w.heap.size<=w₁.heap.size
 os:OsLater w.os w₁.os
 keep:∀b,b<w.heap.size->own b\/ro b->w₁.heap[b]? =w.heap[b]?
 live:(∃s,ShAt X w s)->∃s,ShAt X w₁ s
def EvX (ro own:Nat->Prop)(n n':Nat)(e:Event):Prop:=
 (∃c,(own c\/(n<=c/\c<n')\/(ro c/\e.write=false))/\lX c e.loc)\/(e.loc= .cell ⟨X.Fd,2,none⟩/\e.write=false/\e.sync=false)\/∃m,e.loc= .mark m/\pi m
structure DX (deaf:Bool)(ro own:Nat->Prop)(w w':Θ)(es:Array Event):Prop where
 tape:w'.tape=w.tape
 output:w'.output=w.output
 size:w.heap.size<=w'.heap.size
 os:OsLater w.os w'.os
 keep:∀b,b<w.heap.size->¬own b->w'.heap[b]? =w.heap[b]?
 ev:∀e∈es,EvX X ro own w.heap.size w'.heap.size e
 mute:deaf=true->es=#[]
theorem RX.refl (ro own:Nat->Prop)(w:Θ):RX X ro own w w:=⟨rfl,rfl,φ _,.refl _,λ_ _ _=>rfl,id⟩
theorem RX.trans {ro own:Nat->Prop}{a b c:Θ}(h:RX X ro own a b)(k:RX X ro own b c):RX X ro own a c:=
 ⟨k.tape.trans h.tape,k.output.trans h.output,ae3 h.size k.size,h.os.trans k.os,λx hx ho=>(k.keep x (ψ hx h.size) ho).trans (h.keep x hx ho),λl=>k.live (h.live l)⟩
theorem RX.at (ro own:Nat->Prop)(w:Θ)(d:Nat):RX X ro own w (w.at d):=⟨rfl,rfl,φ _,.refl _,λ_ _ _=>rfl,id⟩
def fq (deaf:Bool)(ro:Nat->Prop):Co (Nat->Prop) where
 R:=λown w w₁=>RX X ro own w w₁
 D:=λown w w' es=>DX X deaf ro own w w' es
 up:=λown w w' b=>own b\/(w.heap.size<=b/\b<w'.heap.size)
 refl:=λown w=>RX.refl X ro own w
 trans:=λ_ _ _ _ h k=>h.trans X k
def gp:Pc->Nat
 |.un|.out|.la|.ur|.ud|.wk|.k1|.g1|.k2|.g2|.kw|.aq|.fin|.bad=>0
 |_=>1
def eQ (p:Pc):Bool:=decide (gp p≠0)||p== .wk
inductive EvK where
 |dis|en|aeL|abv|abu|aeK|S4|S3|book
def i7 (T T':Lo):EvK:=match T.pc with
 |.out=>if T'.pc= .l0 then .dis else .abu
 |.le|.ue|.e1|.e2|.ke=> .en
 |.la=> .aeL
 |.ur=> .abv
 |.ud|.wk|.k1|.k2|.kw=> .dis
 |.aq=> .aeK
 |.p1|.p2=> .S4
 |.pw=> .S3
 |_=> .book
def qA (m:Mark):Event:=⟨.mark m,false,true⟩
def EvStop (T T':Lo)(es:Array Event):Prop:=match i7 T T' with
 |.dis=>es=#[qA .disable]
 |.en=>es=#[qA .enable]
 |.aeL=>es=#[qA (.acquire (mA X))]
 |.abv=>es=#[qA (.releaseMerge (mA X))]
 |.abu=>es=#[qA (.releaseMerge (wA X))]
 |.aeK=>es=#[qA (.acquire (wA X))]
 |.S4=>es=#[qA (.read (KI X))]
 |.S3=>es=#[qA (.write (KI X))]
 |.book=>ConcM.BookOK X.Fd X.Wg 1 1 es/\∀e∈es,∀a:Addr,e.loc= .cell a->a.block=X.Fd->a.off≠2
variable (P:ω)
def iS (pc:Pc)(own:Nat->Prop):Nat->Prop:=match pc with
 |.la=>λb=>own b\/b=X.M
 |.ur=>λb=>own b/\b≠X.M
 |_=>own
def dR (Nx:Lo->Gh Δ->Ω->Θ->Prop)(T':Lo)(γ:Gh Δ):(Nat->Prop)->Ω->Θ->Prop:=
 λown g w=>∃c,(T'.pc≠.ur->c=γ.mine)/\Nx T' {γ with own:=own,mine:=c} g w
def After (Nx:Lo->Gh Δ->Ω->Θ->Prop)(r:bg)(T':Lo)(γ:Gh Δ)(g:Ω)(w:Θ):Prop:=
 if T'.pc= .quit then ∃q,QuitsD P q 1 g else aD P (vo r) (fq X (eQ T'.pc) γ.ro) (dR Nx T' γ) γ.own g w
def ZC (Nx:Lo->Gh Δ->Ω->Θ->Prop)(r:bg)(T:Lo)(γ:Gh Δ)(g:Ω)(w:Θ):Prop:=
 g.status= .running/\g.offers=none/\((T.pc= .us\/T.pc= .d4)->mayWake P g=true)/\
 (T.pc= .ur->∃o,w.heap[X.M]? =some o/\BK X r γ.mine γ.other o)/\
 ∀s,ShAt X w s->s.fits->
  (mv T s=[]->stepG P (vo r) g w= .go {g with status:= .blocked} w #[])/\
  ∀d:Δ,(T.pc= .la->∃o,w.heap[X.M]? =some o/\BK X r γ.mine d o)->mv T s≠[]->
   ∃q∈mv T s,q.1.pc≠.bad->(q.1.pc= .wk->γ.mine=X.fin r)/\∃g' w' es,stepG P (vo r) g w= .go g' w' es/\ShAt X w' q.2/\ConcM.Eff X.Fd X.Wg w w'/\EvStop X T q.1 es/\
    After X P Nx r q.1 {γ with own:=iS X T.pc γ.own,other:=if T.pc= .la then d else γ.other} g' w'
def In:Nat->bg->Lo->Gh Δ->Ω->Θ->Prop
 |0,_,_,_,_,_=>True
 |k+1,r,T,γ,g,w=>ZC X P (In k r) r T γ g w
def given (γ:Gh Δ):Gh Δ:={γ with ro:=λb=>γ.ro b\/γ.own b,own:=λ_=>False}
def eY:Pc->bg
 |.g1=> .a
 |_=> .b
def il:Pc->Lo
 |.g1=>at_ .k2 0
 |_=>at_ .kw 0
def OM (Nx:Lo->Gh Δ->Ω->Θ->Prop)(T:Lo)(γ:Gh Δ)(g:Ω)(w:Θ):Prop:=
 g.status= .running/\g.offers=none/\∃g' child,stepG P true g w= .spawn g' child w #[]/\
  (∀K,aD P false (fq X false (given γ).ro) (dR (In X P K (eY T.pc)) (at_ .out (X.N (eY T.pc))) {given γ with mine:=X.c0 (eY T.pc)}) (λ_=>False) child w)/\
  aD P true (fq X false (given γ).ro) (dR Nx (il T.pc) (given γ)) (λ_=>False) g' w
variable (Post:Gh Δ->Ω->Θ->Prop)
def Ua (γ:Gh Δ)(g:Ω)(w:Θ):Prop:=
 g.status= .running/\g.offers=none/\∀o,w.heap[X.M]? =some o->X.Dat (X.fin .a) (X.fin .b) o->∃g',stepG P true g w= .go g' w #[qA (.acquire (wA X))]/\Post γ g' w
def zu:Nat->Lo->Gh Δ->Ω->Θ->Prop
 |0,_,_,_,_=>True
 |k+1,T,γ,g,w=>if T.pc= .g1\/T.pc= .g2 then OM X P (zu k) T γ g w else if T.pc= .aq then Ua X P Post γ g w else ZC X P (zu k) .m T γ g w
def AtR (k:Nat):bg->Lo->Gh Δ->Ω->Θ->Prop
 |.m=>zu X P Post k
 |r=>In X P k r
end
section
variable {Δ:Type}{X:Cx Δ}{P:ω}{Post:Gh Δ->Ω->Θ->Prop}{r:bg}{k:Nat}{T:Lo}{γ:Gh Δ}{g:Ω}{w:Θ}
theorem AtR.running (h:AtR X P Post (k+1) r T γ g w):g.status= .running/\g.offers=none:=by
 cases r with
 |m=>
  have h':zu X P Post (k+1) T γ g w:=h;unfold zu at h';split at h'
  .exact⟨h'.1,h'.2.1⟩
  .split at h'
   .exact⟨h'.1,h'.2.1⟩
   .exact⟨h'.1,h'.2.1⟩
 |a=>exact⟨h.1,h.2.1⟩
 |b=>exact⟨h.1,h.2.1⟩
theorem AtR.law (h:AtR X P Post (k+1) r T γ g w)(hg:¬(T.pc= .g1\/T.pc= .g2))(ha:T.pc≠.aq):ZC X P (AtR X P Post k r) r T γ g w:=by
 cases r with
 |m=>
  have h':zu X P Post (k+1) T γ g w:=h;unfold zu at h';rw[ζ hg,ζ ha] at h';exact h'
 |a=>exact h
 |b=>exact h
end
def iV:Pc->Bool
 |.k1|.x1|.p1|.e1|.g1|.k2|.x2|.p2|.e2|.g2|.kw|.w1|.w2|.pw|.w3|.w4|.ke|.aq|.fin|.bad=>false
 |_=>true
def mP:Pc->Bool
 |.k1|.x1|.p1|.e1|.g1|.k2|.x2|.p2|.e2|.g2|.kw|.w1|.w2|.pw|.w3|.w4|.ke|.aq=>true
 |_=>false
def fO:Pc->Bool
 |.l0|.r0|.sq|.r1|.c2|.s1|.t2|.r2|.a1|.r3|.u0|.uc|.ul|.us=>true
 |_=>false
def jE:Pc->Bool
 |.d1|.d2|.d3|.d4=>true
 |_=>false
def kK:Pc->Bool
 |.le|.la|.ur|.ud|.ue|.wk|.k1|.p1|.e1|.k2|.p2|.e2|.kw|.pw|.ke=>true
 |_=>false
def kf:Pc->Bool
 |.x1|.x2|.w1|.w2|.w3|.w4=>true
 |_=>false
def lr:Pc->Nat
 |.le=>5|.la=>4|.ur=>3|.ud=>2|.u0=>1|.ue=>10|.out=>9|.wk=>8|.d1=>7
 |.k1=>4|.x1=>3|.p1=>3|.e1=>2|.g1=>1|.k2=>4|.x2=>3|.p2=>3|.e2=>2|.g2=>1|.kw=>2|.w1=>1|.pw=>2|.w3=>1|.ke=>3|.aq=>2|.fin=>1
 |_=>0
theorem Dq (p:Pc):lr p<=10:=by cases p<;>simp[lr]
def i6 (T:Lo)(n:Nat):Lo:={T with n:=n}
theorem ado (T:Lo)(n:Nat):hd (i6 T n)=i6 (hd T) n:=by
 obtain⟨pc,old,nw,aw,sv,it,m⟩:=T;simp only[hd,apply_ite (λx=>i6 x n)];rfl
theorem aex (T:Lo)(n:Nat):cl (i6 T n)=i6 (cl T) n:=by
 obtain⟨pc,old,nw,aw,sv,it,m⟩:=T;simp only[cl,apply_ite (λx=>i6 x n)];rfl
theorem ag6 (T:Lo)(n:Nat):pm (i6 T n)=pm T:=by
 obtain⟨pc,old,nw,aw,sv,it,m⟩:=T;cases pc<;>rfl
theorem DJ (T:Lo):(hd T).pc= .c2\/(hd T).pc= .sq\/(hd T).pc= .bad:=by
 simp only[hd]
 (repeat' split)<;>simp
theorem Ic (T:Lo):(cl T).pc= .c2:=by
 simp only[cl]
 (repeat' split)<;>simp
theorem adn (T:Lo):(hd T).n=T.n:=by
 simp only[hd]
 (repeat' split)<;>simp
theorem aew (T:Lo):(cl T).n=T.n:=by
 simp only[cl]
 (repeat' split)<;>simp
theorem QQ {T:Lo}{s:Sh}(hT:fO T.pc=true):mv T s=(mv (i6 (pm T) 1) ⟨s.mu,s.ms,0,0⟩).map (λq=>(i6 q.1 T.n,⟨q.2.mu,q.2.ms,s.wg,s.ws⟩)):=by
 obtain⟨pc,old,nw,aw,sv,it,n⟩:=T;obtain⟨mu,ms,wg,ws⟩:=s;have h1:∀(T:Lo),i6 (hd (i6 T 1)) n=hd (i6 T n):=λT=>by rw[ado,ado];rfl
 have h2:∀(T:Lo),i6 (cl (i6 T 1)) n=cl (i6 T n):=λT=>by rw[aex,aex];rfl
 cases pc<;>simp only[fO,ι] at hT
 case r0=>simpa [mv,pm,i6] using(h1 {pc:= .r0,old:=mu}).symm
 case r1=>simpa [mv,pm,i6] using(h1 {pc:= .r1,old:=mu,nw:=nw,aw:=aw,sv:=sv,it:=IntKind.i64.wrap (it+1)}).symm
 case r3=>simpa [mv,pm,i6] using(h1 {pc:= .r3,old:=mu,nw:=nw,aw:=aw,sv:=sv,it:=it}).symm
 case sq=>
  have e:=(h2 {pc:= .sq,old:=old,nw:=nw,aw:=aw,sv:=sv,it:=it}).symm;simp only[i6] at e;simp only[mv,pm,i6]
  by_cases hi:it<4
  .simp[hi];exact e
  .simp[hi];exact e
 case a1=>
  by_cases hp:(mu=12/\nw=-11)\/(mu=20/\(nw=-7\/nw=-11))
  .have e1:mv ⟨.a1,old,nw,aw,sv,it,n⟩ ⟨mu,ms,wg,ws⟩=[(at_ .le n,⟨mu+nw,ms,wg,ws⟩)]:=χ hp
   have e2:mv (i6 (pm ⟨.a1,old,nw,aw,sv,it,n⟩) 1) ⟨mu,ms,0,0⟩=[(at_ .le 1,⟨mu+nw,ms,0,0⟩)]:=χ hp;exact e1.trans (by show _=List.map _ (mv (i6 (pm ⟨.a1,old,nw,aw,sv,it,n⟩) 1) ⟨mu,ms,0,0⟩);rw[e2];rfl)
  .have e1:mv ⟨.a1,old,nw,aw,sv,it,n⟩ ⟨mu,ms,wg,ws⟩=[(at_ .bad n,⟨mu,ms,wg,ws⟩)]:=ζ hp
   have e2:mv (i6 (pm ⟨.a1,old,nw,aw,sv,it,n⟩) 1) ⟨mu,ms,0,0⟩=[(at_ .bad 1,⟨mu,ms,0,0⟩)]:=ζ hp;exact e1.trans (by show _=List.map _ (mv (i6 (pm ⟨.a1,old,nw,aw,sv,it,n⟩) 1) ⟨mu,ms,0,0⟩);rw[e2];rfl)
 case r2=>
  have e:=(h1 {pc:= .r2,old:=mu,nw:=nw,aw:=true,sv:=sv,it:=0}).symm;simp only[i6] at e;simp only[mv,pm,i6]
  (repeat' split)<;>simp_all
 all_goals
  simp only[mv,pm,i6]
  (repeat' split)<;>simp_all
theorem Bc {T:Lo}{s:Sh}{q:Lo×Sh}(hT:fO T.pc=true)(h:q∈mv T s):q.1.pc≠.wk/\q.1.n=T.n/\(q.1.pc= .bad\/(iV q.1.pc=true/\pw q.1={pc:= .out})):=by
 have hh:=DJ;have hc:=Ic;have hn:=adn;have cn:=aew;have pwh:∀T,(hd T).pc= .bad\/(iV (hd T).pc=true/\pw (hd T)={pc:= .out}):=λT=>by
  rcases hh T with e|e|e
  .exact .inr ⟨by rw[e];rfl,by unfold pw;rw[e]⟩
  .exact .inr ⟨by rw[e];rfl,by unfold pw;rw[e]⟩
  .exact .inl e
 have hw:∀T,(hd T).pc≠.wk:=λT=>by rcases hh T with e|e|e<;>rw[e]<;>simp
 have pwc:∀T,iV (cl T).pc=true/\pw (cl T)={pc:= .out}:=λT=>⟨by rw[hc T];rfl,by unfold pw;rw[hc T]⟩
 obtain⟨pc,old,nw,aw,sv,it,n⟩:=T;obtain⟨mu,ms,wg,ws⟩:=s;cases pc<;>simp only[fO,ι] at hT<;>simp only[mv] at h
 case r0=>simp only[ad2] at h;subst h;exact⟨hw _,hn _,pwh _⟩
 case r1=>simp only[ad2] at h;subst h;exact⟨hw _,hn _,pwh _⟩
 case r3=>simp only[ad2] at h;subst h;exact⟨hw _,hn _,pwh _⟩
 case sq=>
  rcases ab8.1 h with rfl|h
  .exact⟨by rw[hc];simp,cn _,.inr (pwc _)⟩
  .split at h
   .simp only[ad2] at h;subst h;exact⟨by simp,rfl,.inr ⟨rfl,rfl⟩⟩
   .simp at h
 case r2=>
  split at h
  .simp only[ad2] at h;subst h;exact⟨hw _,hn _,pwh _⟩
  ·(repeat' split at h)<;>simp only[ad2] at h<;>subst h<;>simp[iV,pw]
 all_goals ((repeat' split at h)<;>simp only[ab8,List.not_mem_nil,or_false] at h<;>first|contradiction|(obtain rfl:=h;simp[iV,pw];done)|(obtain rfl:=h;simp[iV,pw];split<;>simp)|(rcases h with rfl|rfl<;>simp[iV,pw]))
theorem vG {T:Lo}{s:Sh}{q:Lo×Sh}(hT:fO T.pc=true)(h:q∈mv T s):(pm q.1,q.2.mu,q.2.ms)∈yw (pm T) s.mu s.ms/\q.2.wg=s.wg/\q.2.ws=s.ws:=by
 have hpc:=(Bc hT h).1;rw[QQ hT] at h;obtain⟨q0,h0,rfl⟩:=ae0.1 h;refine⟨ae0.2 ⟨q0,af9.2 ⟨h0,by simpa [i6] using hpc⟩,by rw[ag6]⟩,rfl,rfl⟩
theorem G2 {T:Lo}(hT:fO T.pc=true):pw T={pc:= .out}:=by
 unfold pw;cases hp:T.pc<;>rw[hp] at hT<;>simp[fO] at hT<;>rfl
theorem vF {T:Lo}{s:Sh}{q:Lo×Sh}(hT:jE T.pc=true)(h:q∈mv T s):(pw q.1,q.2.wg,q.2.ws)∈Tj (pw T) s.wg s.ws/\q.2.mu=s.mu/\q.2.ms=s.ms/\q.1.n=T.n/\(q.1.pc= .bad\/(iV q.1.pc=true/\pm q.1=pm T/\lr q.1.pc<=lr T.pc)):=by
 obtain⟨pc,old,nw,aw,sv,it,n⟩:=T;obtain⟨mu,ms,wg,ws⟩:=s;cases pc<;>simp only[jE,ι] at hT<;>simp only[mv] at h<;>simp only[pw,Tj,gw,mv]
 all_goals ((repeat' split at h)<;>simp only[ad2] at h<;>subst h<;>simp_all [iV,pm,pw,lr])
theorem Ha {T:Lo}{s:Sh}{q:Lo×Sh}(hT:kf T.pc=true)(h:q∈mv T s):(p0 q.1,q.2.wg,q.2.ws)∈mv0 (p0 T) s.wg s.ws/\q.2.mu=s.mu/\q.2.ms=s.ms/\(q.1.pc= .bad\/mP q.1.pc=true):=by
 obtain⟨pc,old,nw,aw,sv,it,n⟩:=T;obtain⟨mu,ms,wg,ws⟩:=s;cases pc<;>simp only[kf,ι] at hT<;>simp only[mv] at h<;>simp only[p0,mv0,mv]
 all_goals ((repeat' split at h)<;>simp only[ad2,List.not_mem_nil] at h<;>first|(subst h;simp_all [mP,p0])|contradiction)
theorem sm {T:Lo}{s:Sh}{q:Lo×Sh}(hT:kK T.pc=true)(h:q∈mv T s):q.2=s/\(iV T.pc=true->pm q.1=pm T)/\pw q.1=pw T/\p0 q.1=p0 T/\lr q.1.pc<lr T.pc/\iV q.1.pc=iV T.pc/\mP q.1.pc=mP T.pc/\q.1.pc≠.bad/\(iV T.pc=true->q.1.n=T.n):=by
 obtain⟨pc,old,nw,aw,sv,it,n⟩:=T;cases pc<;>simp only[kK,ι] at hT<;>simp only[mv,ad2] at h<;>subst h<;>simp[pm,pw,p0,lr,iV,mP]
def oo (L:bg->Lo)(r1 r2:Nat):Nat:=((L .a).n+(L .b).n)*1400+(r1+r2)*32+(lr (L .m).pc+lr (L .a).pc+lr (L .b).pc)
def upd {α:Type}(L:bg->α)(r:bg)(x:α):bg->α:=λy=>if y=r then x else L y
theorem upd_same {α:Type}(L:bg->α)(r:bg)(x:α):upd L r x r=x:=by simp[upd]
theorem upd_ne {α:Type}(L:bg->α){r y:bg}(x:α)(h:y≠r):upd L r x y=L y:=by simp[upd,h]
structure vu (L:bg->Lo)(s:Sh)(r1 r2:Nat):Prop where
 ZY:KG ⟨pm (L .a),pm (L .b),s.mu,s.ms⟩ r1
 lm:r1<27
 Q4:O5 ⟨p0 (L .m),pw (L .a),pw (L .b),s.wg,s.ws⟩ r2
 st:mP (L .m).pc=true
 wa:iV (L .a).pc=true
 wb:iV (L .b).pc=true
section
variable {L:bg->Lo}{s:Sh}{r1 r2:Nat}{q:Lo×Sh}
theorem vu.WL (h:vu L s r1 r2)(hq:q∈mv (L .a) s)(hu:(L .a).pc≠.un):q.1.pc≠.bad/\∃r1' r2',vu (upd L .a q.1) q.2 r1' r2'/\oo (upd L .a q.1) r1' r2'<oo L r1 r2:=by
 have hl:=Dq q.1.pc;have hw:=h.wa;obtain⟨hM,hl1,hG,hst,yy,hwb⟩:=h;have oh:∀r1' r2',oo (upd L .a q.1) r1' r2'=(q.1.n+(L .b).n)*1400+(r1'+r2')*32+(lr (L .m).pc+lr q.1.pc+lr (L .b).pc):=λr1' r2'=>by simp[oo,upd]<;>omega
 have lO:oo L r1 r2=((L .a).n+(L .b).n)*1400+(r1+r2)*32+(lr (L .m).pc+lr (L .a).pc+lr (L .b).pc):=by simp[oo]<;>omega
 have FM:=hM.facts;have FG:=hG.facts
 by_cases c1:kK (L .a).pc=true
 .obtain⟨e0,e1,e2,_,e4,e5,_,e7,e8⟩:=sm c1 hq
  have e1:=e1 hw;have e8:=e8 hw;refine⟨e7,r1,r2,⟨?_,hl1,?_,by simpa [upd] using hst,?_,?_⟩,by rw[oh,lO,e8];omega⟩
  .simp[upd,e0,e1];exact hM
  .simp[upd,e0,e2];exact hG
  .simp[upd,e5,hw,yy]
  .simp[upd,e5,hw,hwb]
 by_cases c2:fO (L .a).pc=true
 .obtain⟨m1,m2,m3⟩:=vG c2 hq
  obtain⟨_,n1,n2⟩:=Bc c2 hq;obtain⟨r1',i1,i2,i3⟩:=hM.SY m1;have hnb:q.1.pc≠.bad:=λe=>by
   have:=FM.noA _ m1
   apply this
   simp[pm,e]
  obtain⟨w1,w2⟩:=n2.resolve_left hnb;have hlt:r1'<r1:=i2.resolve_left (λe=>by
   have e:(pm (L .a)).pc= .out:=e
   revert e
   cases hp:(L .a).pc<;>rw[hp] at c2<;>simp[fO] at c2<;>simp[pm,hp])
  refine⟨hnb,r1',r2,⟨?_,i3,?_,by simpa [upd] using hst,?_,?_⟩,by rw[oh,lO,n1];have:=Dq (L .a).pc;omega⟩
  .simp[upd];exact i1
  .rw[G2 c2] at hG
   simp[upd,m2,m3,w2];exact hG
  .simp[upd,w1,yy]
  .simp[upd,w1,hwb]
 by_cases c3:jE (L .a).pc=true
 .obtain⟨m1,m2,m3,m4,m5⟩:=vF c3 hq
  obtain⟨r2',i1,i2⟩:=hG.step (H:=⟨p0 (L .m),pw q.1,pw (L .b),q.2.wg,q.2.ws⟩) (by
   unfold GG.succs;exact List.mem_append_left _ (List.mem_append_right _ (ae0.2 ⟨_,m1,rfl⟩)))
  have hnb:q.1.pc≠.bad:=λe=>by
   have:=(FG.no ⟨p0 (L .m),pw q.1,pw (L .b),q.2.wg,q.2.ws⟩ (by
    unfold GG.succs;exact List.mem_append_left _ (List.mem_append_right _ (ae0.2 ⟨_,m1,rfl⟩)))).2.1
   apply this
   simp[pw,e]
  obtain⟨w1,w2,w3⟩:=m5.resolve_left hnb;refine⟨hnb,r1,r2',⟨?_,hl1,?_,by simpa [upd] using hst,?_,?_⟩,by rw[oh,lO,m4];omega⟩
  .simp[upd,m2,m3,w2];exact hM
  .simp[upd];exact i1
  .simp[upd,w1,yy]
  .simp[upd,w1,hwb]
 .have ho:(L .a).pc= .out\/(L .a).pc= .quit:=by
   revert c1 c2 c3 hw hu
   cases (L .a).pc<;>simp[kK,fO,jE,iV]
  rcases ho with ho|ho
  .have Y8:pm (L .a)={pc:= .out}:=by simp[pm,ho]
   have epw:pw (L .a)={pc:= .out}:=by simp[pw,ho]
   rw[Y8] at hM;rw[epw] at hG;simp only[mv,ho] at hq;rcases ab8.1 hq with rfl|hq
   .refine⟨by simp,r1,r2,⟨?_,hl1,?_,by simpa [upd] using hst,?_,?_⟩,by rw[oh,lO,ho];simp[lr]⟩
    .simp[upd,pm];exact hM
    .simp[upd,pw];exact hG
    .first|(simp[upd];done)|(simp[upd];first|exact yy|exact hwb|rfl)
    .first|(simp[upd];done)|(simp[upd];first|exact yy|exact hwb|rfl)
   .split at hq
    .rename_i hn
     simp only[ad2] at hq;subst hq;obtain⟨r1',i1,_,i3⟩:=hM.SY (q:=({pc:= .l0},s.mu,s.ms)) (by simp[yw,mv,pm]);refine⟨by simp,r1',r2,⟨?_,i3,?_,by simpa [upd] using hst,?_,?_⟩,by rw[oh,lO,ho];simp[lr];omega⟩
     .simp[upd,pm];exact i1
     .simp[upd,pw];exact hG
     .first|(simp[upd];done)|(simp[upd];first|exact yy|exact hwb|rfl)
     .first|(simp[upd];done)|(simp[upd];first|exact yy|exact hwb|rfl)
    .simp at hq
  .simp[mv,ho] at hq
theorem vu.WK (h:vu L s r1 r2)(hq:q∈mv (L .b) s)(hu:(L .b).pc≠.un):q.1.pc≠.bad/\∃r1' r2',vu (upd L .b q.1) q.2 r1' r2'/\oo (upd L .b q.1) r1' r2'<oo L r1 r2:=by
 have hl:=Dq q.1.pc;have hw:=h.wb;obtain⟨hM,hl1,hG,hst,yy,hwb⟩:=h;have oh:∀r1' r2',oo (upd L .b q.1) r1' r2'=(q.1.n+(L .a).n)*1400+(r1'+r2')*32+(lr (L .m).pc+lr q.1.pc+lr (L .a).pc):=λr1' r2'=>by simp[oo,upd]<;>omega
 have lO:oo L r1 r2=((L .b).n+(L .a).n)*1400+(r1+r2)*32+(lr (L .m).pc+lr (L .b).pc+lr (L .a).pc):=by simp[oo]<;>omega
 have FM:=hM.facts;have FG:=hG.facts
 by_cases c1:kK (L .b).pc=true
 .obtain⟨e0,e1,e2,_,e4,e5,_,e7,e8⟩:=sm c1 hq
  have e1:=e1 hw;have e8:=e8 hw;refine⟨e7,r1,r2,⟨?_,hl1,?_,by simpa [upd] using hst,?_,?_⟩,by rw[oh,lO,e8];omega⟩
  .simp[upd,e0,e1];exact hM
  .simp[upd,e0,e2];exact hG
  .simp[upd,e5,hw,yy]
  .simp[upd,e5,hw,hwb]
 by_cases c2:fO (L .b).pc=true
 .obtain⟨m1,m2,m3⟩:=vG c2 hq
  obtain⟨_,n1,n2⟩:=Bc c2 hq;obtain⟨r1',i1,i2,i3⟩:=hM.SX m1;have hnb:q.1.pc≠.bad:=λe=>by
   have:=FM.noB _ m1
   apply this
   simp[pm,e]
  obtain⟨w1,w2⟩:=n2.resolve_left hnb;have hlt:r1'<r1:=i2.resolve_left (λe=>by
   have e:(pm (L .b)).pc= .out:=e
   revert e
   cases hp:(L .b).pc<;>rw[hp] at c2<;>simp[fO] at c2<;>simp[pm,hp])
  refine⟨hnb,r1',r2,⟨?_,i3,?_,by simpa [upd] using hst,?_,?_⟩,by rw[oh,lO,n1];have:=Dq (L .b).pc;omega⟩
  .simp[upd];exact i1
  .rw[G2 c2] at hG
   simp[upd,m2,m3,w2];exact hG
  .simp[upd,w1,yy]
  .simp[upd,w1,hwb]
 by_cases c3:jE (L .b).pc=true
 .obtain⟨m1,m2,m3,m4,m5⟩:=vF c3 hq
  obtain⟨r2',i1,i2⟩:=hG.step (H:=⟨p0 (L .m),pw (L .a),pw q.1,q.2.wg,q.2.ws⟩) (by
   unfold GG.succs;exact List.mem_append_right _ (ae0.2 ⟨_,m1,rfl⟩))
  have hnb:q.1.pc≠.bad:=λe=>by
   have:=(FG.no ⟨p0 (L .m),pw (L .a),pw q.1,q.2.wg,q.2.ws⟩ (by
    unfold GG.succs;exact List.mem_append_right _ (ae0.2 ⟨_,m1,rfl⟩))).2.2
   apply this
   simp[pw,e]
  obtain⟨w1,w2,w3⟩:=m5.resolve_left hnb;refine⟨hnb,r1,r2',⟨?_,hl1,?_,by simpa [upd] using hst,?_,?_⟩,by rw[oh,lO,m4];omega⟩
  .simp[upd,m2,m3,w2];exact hM
  .simp[upd];exact i1
  .simp[upd,w1,yy]
  .simp[upd,w1,hwb]
 .have ho:(L .b).pc= .out\/(L .b).pc= .quit:=by
   revert c1 c2 c3 hw hu
   cases (L .b).pc<;>simp[kK,fO,jE,iV]
  rcases ho with ho|ho
  .have Y8:pm (L .b)={pc:= .out}:=by simp[pm,ho]
   have epw:pw (L .b)={pc:= .out}:=by simp[pw,ho]
   rw[Y8] at hM;rw[epw] at hG;simp only[mv,ho] at hq;rcases ab8.1 hq with rfl|hq
   .refine⟨by simp,r1,r2,⟨?_,hl1,?_,by simpa [upd] using hst,?_,?_⟩,by rw[oh,lO,ho];simp[lr]⟩
    .simp[upd,pm];exact hM
    .simp[upd,pw];exact hG
    .first|(simp[upd];done)|(simp[upd];first|exact yy|exact hwb|rfl)
    .first|(simp[upd];done)|(simp[upd];first|exact yy|exact hwb|rfl)
   .split at hq
    .rename_i hn
     simp only[ad2] at hq;subst hq;obtain⟨r1',i1,_,i3⟩:=hM.SX (q:=({pc:= .l0},s.mu,s.ms)) (by simp[yw,mv,pm]);refine⟨by simp,r1',r2,⟨?_,i3,?_,by simpa [upd] using hst,?_,?_⟩,by rw[oh,lO,ho];simp[lr];omega⟩
     .simp[upd,pm];exact i1
     .simp[upd,pw];exact hG
     .first|(simp[upd];done)|(simp[upd];first|exact yy|exact hwb|rfl)
     .first|(simp[upd];done)|(simp[upd];first|exact yy|exact hwb|rfl)
    .simp at hq
  .simp[mv,ho] at hq
theorem vu.WJ (h:vu L s r1 r2)(hq:q∈mv (L .m) s):q.1.pc≠.bad/\∃r1' r2',vu (upd L .m q.1) q.2 r1' r2'/\oo (upd L .m q.1) r1' r2'<oo L r1 r2:=by
 have hl:=Dq q.1.pc;obtain⟨hM,hl1,hG,hst,yy,hwb⟩:=h;have oh:∀r1' r2',oo (upd L .m q.1) r1' r2'=((L .a).n+(L .b).n)*1400+(r1'+r2')*32+(lr q.1.pc+lr (L .a).pc+lr (L .b).pc):=λr1' r2'=>by simp[oo,upd]
 have lO:oo L r1 r2=((L .a).n+(L .b).n)*1400+(r1+r2)*32+(lr (L .m).pc+lr (L .a).pc+lr (L .b).pc):=rfl;have FG:=hG.facts
 by_cases c1:kK (L .m).pc=true
 .obtain⟨e0,_,_,e3,e4,_,e6,e7,_⟩:=sm c1 hq
  refine⟨e7,r1,r2,⟨?_,hl1,?_,?_,?_,?_⟩,by rw[oh,lO];omega⟩
  .simp[upd,e0];exact hM
  .simp[upd,e0,e3];exact hG
  .simp[upd,e6,hst]
  .simp[upd,yy]
  .simp[upd,hwb]
 by_cases c2:kf (L .m).pc=true
 .obtain⟨m1,m2,m3,m5⟩:=Ha c2 hq
  have hm:(⟨p0 q.1,pw (L .a),pw (L .b),q.2.wg,q.2.ws⟩:GG)∈GG.succs ⟨p0 (L .m),pw (L .a),pw (L .b),s.wg,s.ws⟩:=by
   unfold GG.succs;exact List.mem_append_left _ (List.mem_append_left _ (List.mem_append_right _ (ae0.2 ⟨_,m1,rfl⟩)))
  obtain⟨r2',i1,i2⟩:=hG.step hm;have hnb:q.1.pc≠.bad:=λe=>by
   have:=(FG.no _ hm).1
   apply this
   simp[p0,e]
  refine⟨hnb,r1,r2',⟨?_,hl1,?_,?_,?_,?_⟩,by rw[oh,lO];omega⟩
  .simp[upd,m2,m3];exact hM
  .simp[upd];exact i1
  .simp[upd,m5.resolve_left hnb]
  .simp[upd,yy]
  .simp[upd,hwb]
 .exfalso
  revert c1 c2 hst hq
  cases hp:(L .m).pc<;>simp[kK,kf,mP,mv,hp]
theorem vu.move (h:vu L s r1 r2){r:bg}(hq:q∈mv (L r) s)(hu:(L r).pc≠.un):q.1.pc≠.bad/\∃r1' r2',vu (upd L r q.1) q.2 r1' r2'/\oo (upd L r q.1) r1' r2'<oo L r1 r2:=by
 cases r with
 |m=>exact h.WJ hq
 |a=>exact h.WL hq hu
 |b=>exact h.WK hq hu
theorem vu.fits (h:vu L s r1 r2):s.fits:=⟨h.ZY.facts.fits.1,h.ZY.facts.fits.2.1,h.Q4.facts.fits.2.2.1,h.Q4.facts.fits.2.2.2⟩
theorem vu.go {N:Nat}(h:vu L s r1 r2)(hg:(L .m).pc= .g1\/(L .m).pc= .g2)(hn:(L (eY (L .m).pc)).n=N):
  (L (eY (L .m).pc)).pc= .un/\∃r2',vu (upd (upd L .m (il (L .m).pc)) (eY (L .m).pc) (at_ .out N)) s r1 r2'/\oo (upd (upd L .m (il (L .m).pc)) (eY (L .m).pc) (at_ .out N)) r1 r2'<oo L r1 r2:=by
 obtain⟨hM,hl1,hG,hst,yy,hwb⟩:=h;have FG:=hG.facts;have SU:∀T:Lo,(pw T).pc= .un->T.pc= .un:=λT=>by cases hp:T.pc<;>simp[pw,hp]
 rcases hg with hg|hg
 .have e0:p0 (L .m)={pc:= .g1}:=by simp[p0,hg]
  rw[e0] at hG FG;have ha:(L .a).pc= .un:=SU _ (FG.un1 (.inr rfl)).1;have Y8:pm (L .a)={pc:= .out}:=by simp[pm,ha]
  have epw:pw (L .a)={pc:= .un}:=by simp[pw,ha]
  have hc:eY (L .m).pc= .a:=by rw[hg];rfl
  rw[hc] at hn⊢;have hb:il (L .m).pc=at_ .k2 0:=by rw[hg];rfl
  rw[hb];rw[Y8] at hM;obtain⟨r2',i1,i2⟩:=hG.step (H:=⟨{pc:= .x2},{pc:= .out},pw (L .b),s.wg,s.ws⟩) (by unfold GG.succs;simp);refine⟨ha,r2',⟨?_,hl1,?_,?_,?_,?_⟩,?_⟩
  .simp[upd,pm];exact hM
  .simp[upd,pw,p0];exact i1
  .first|(simp[upd];done)|(simp[upd];rfl)
  .first|(simp[upd];done)|(simp[upd];first|exact yy|exact hwb|rfl)
  .simp[upd,hwb]
  .simp[oo,upd,lr,hg,ha,hn];omega
 .have e0:p0 (L .m)={pc:= .g2}:=by simp[p0,hg]
  rw[e0] at hG FG;have ha:(L .b).pc= .un:=SU _ (FG.un2 (.inr rfl)).2;have Y8:pm (L .b)={pc:= .out}:=by simp[pm,ha]
  have epw:pw (L .b)={pc:= .un}:=by simp[pw,ha]
  have hc:eY (L .m).pc= .b:=by rw[hg];rfl
  rw[hc] at hn⊢;have hb:il (L .m).pc=at_ .kw 0:=by rw[hg];rfl
  rw[hb];rw[Y8] at hM;obtain⟨r2',i1,i2⟩:=hG.step (H:=⟨{pc:= .w1},pw (L .a),{pc:= .out},s.wg,s.ws⟩) (by unfold GG.succs;simp);refine⟨ha,r2',⟨?_,hl1,?_,?_,?_,?_⟩,?_⟩
  .simp[upd,pm];exact hM
  .simp[upd,pw,p0];exact i1
  .first|(simp[upd];done)|(simp[upd];rfl)
  .simp[upd,yy]
  .first|(simp[upd];done)|(simp[upd];first|exact yy|exact hwb|rfl)
  .simp[oo,upd,lr,hg,ha,hn];omega
end
def born (L:bg->Lo)(r:bg):Prop:=(L r).pc≠.un
instance (L:bg->Lo)(r:bg):Decidable (born L r):=by unfold born;infer_instance
def nb (L:bg->Lo):Nat:=(if(L .a).pc= .un then 0 else 1)+(if(L .b).pc= .un then 0 else 1)
def Lo.sleeps (T:Lo)(s:Sh):Bool:=(T.pc== .s1&&s.ms==0)||(T.pc== .w3&&s.ws==0)
def past:Pc->Bool
 |.wk|.d1|.d2|.d3|.d4|.quit=>true
 |_=>false
def Mc:bg->bg
 |.a=> .b
 |_=> .a
def hold (L:bg->Lo):Option bg:=if(L .a).pc= .ur then some .a else if(L .b).pc= .ur then some .b else none
section
variable {Δ:Type}(X:Cx Δ)(P:ω)(Post:Gh Δ->Ω->Θ->Prop)
def Sit (k:Nat)(r:bg)(T:Lo)(γ:Gh Δ)(ρ:Rk)(aw d q:Nat)(s:Sh)(g:Ω)(w:Θ):Prop:=
 (T.pc≠.quit/\d=gp T.pc/\aw=1/\hU P (vo r) (fq X (eQ T.pc) γ.ro) (dR (AtR X P Post k r) T γ) ρ γ.own g w)\/
 (T.pc≠.quit/\d=gp T.pc/\aw=0/\T.sleeps s=true/\∃g₀,g={g₀ with status:= .blocked}/\∀w₁,RX X γ.ro γ.own w w₁->dR (AtR X P Post k r) T γ γ.own g₀ w₁)\/
 (T.pc= .quit/\aw=0/\QuitsD P q d g)
end
section
variable {Δ:Type}{X:Cx Δ}{P:ω}{Post:Gh Δ->Ω->Θ->Prop}{k:Nat}{r:bg}{T:Lo}{γ:Gh Δ}{ρ:Rk}{aw d q:Nat}{s s':Sh}{g x x':Ω}{w w₁:Θ}
theorem iL {own:Nat->Prop}(h:dR (AtR X P Post (k+1) r) T γ own g w):g.status= .running/\g.offers=none:=let⟨_,_,h⟩:=h;h.running
theorem iU {b:Bool}{own:Nat->Prop}(h:hU P (vo r) (fq X b γ.ro) (dR (AtR X P Post (k+1) r) T γ) ρ own g w):g.status= .running:=by
 cases ρ with
 |zero=>exact(iL (h w (RX.refl X _ _ w))).1
 |mk f=>exact h.elim (λh=>(iL (h w (RX.refl X _ _ w))).1) λh=>h.1
theorem xv {b:Bool}{S:(Nat->Prop)->Ω->Θ->Prop}{own:Nat->Prop}(h:∀w₁,RX X γ.ro own w w₁->S own g w₁):hU P (vo r) (fq X b γ.ro) S ρ own g w:=by
 cases ρ with
 |zero=>exact h
 |mk f=>exact .inl h
theorem Sit.status (h:Sit X P Post (k+1) r T γ ρ aw d q s g w):g.status= .running\/g.status= .blocked\/g.status= .finished:=by
 rcases h with⟨_,_,_,hg⟩|⟨_,_,_,_,g₀,rfl,_⟩|⟨_,_,hq⟩
 .exact .inl (iU hg)
 .exact .inr (.inl rfl)
 .exact hq.status.elim .inl λx=> .inr (.inr x)
theorem Sit.other (h:Sit X P Post (k+1) r T γ ρ aw d q s g w)(hr:RX X γ.ro γ.own w w₁)(hw:T.sleeps s=true->T.sleeps s'=true\/(mayWake P x=true/\x'.status= .running)):
  ∃aw',Sit X P Post (k+1) r T γ ρ aw' d q s' (woken P x x' w₁ g) w₁:=by
 rcases h with⟨h1,h2,h3,hg⟩|⟨h1,h2,h3,h4,g₀,rfl,hg⟩|⟨h1,h2,hq⟩
 .refine⟨1,.inl ⟨h1,h2,rfl,?_⟩⟩
  have:woken P x x' w₁ g=g:=by unfold woken;split;exact again_running _ (.inl (iU hg));rfl
  rw[this];exact hg.rely hr
 .have hst:=hg w₁ hr
  have hg':∀w₂,RX X γ.ro γ.own w₁ w₂->dR (AtR X P Post (k+1) r) T γ γ.own g₀ w₂:=λw₂ h₂=>hg w₂ (hr.trans X h₂)
  by_cases hc:(mayWake P x&&x'.status != .blocked&&x'.status != .waiting)=true
  .refine⟨1,.inl ⟨h1,h2,rfl,?_⟩⟩
   have:woken P x x' w₁ {g₀ with status:= .blocked}=g₀:=by unfold woken;rw[χ hc];exact ConcR.again_blocked (iL hst).1 (iL hst).2 _
   rw[this];exact xv hg'
  .have:woken P x x' w₁ {g₀ with status:= .blocked}={g₀ with status:= .blocked}:=by unfold woken;rw[ζ hc]
   rw[this];rcases hw h4 with h5|⟨h5,h6⟩
   .exact⟨0,.inr (.inl ⟨h1,h2,rfl,h5,g₀,rfl,hg'⟩)⟩
   .exact absurd (by simp[h5,h6]) hc
 .exact⟨0,.inr (.inr ⟨h1,rfl,by rw[woken_quitsD hq];exact hq⟩)⟩
theorem Sit.rely (h:Sit X P Post (k+1) r T γ ρ aw d q s g w)(hr:RX X γ.ro γ.own w w₁):Sit X P Post (k+1) r T γ ρ aw d q s g w₁:=by
 rcases h with⟨h1,h2,h3,hg⟩|⟨h1,h2,h3,h4,g₀,rfl,hg⟩|h
 .exact .inl ⟨h1,h2,h3,hg.rely hr⟩
 .exact .inr (.inl ⟨h1,h2,h3,h4,g₀,rfl,λw₂ h₂=>hg w₂ (hr.trans X h₂)⟩)
 .exact .inr (.inr h)
end
section
variable {Δ:Type}(X:Cx Δ)(S0:Nat->Prop)
def yC (l:Loc):Prop:=∃a:Addr,l= .cell a/\(S0 a.block\/a.block=X.Wg\/(a.block=X.Fd/\a.off≠2))
def OL (γ:bg->Gh Δ)(L:bg->Lo)(r:bg)(l:Loc):Prop:=born L r/\((∃c,(γ r).ro c/\lX c l)\/∃sp,l= .cell ⟨X.Fd,2,sp⟩)
structure Lay (γ:bg->Gh Δ)(L:bg->Lo)(B:Nat):Prop where
 sp:∀r c,(γ r).own c\/(γ r).ro c->c≠X.Fd/\c≠X.Wg/\¬S0 c/\c<B
 ZT:∀r,¬(γ r).ro X.M
 vh:∀r,(γ r).own X.M↔(L r).pc= .ur
 apart:∀r r' c,(γ r).own c->(γ r').own c->r=r'
 zT:∀r r' c,(γ r).own c->¬(γ r').ro c
 lv:∀r c,(γ r).own c\/(γ r).ro c->born L r
 fm:X.Fd≠X.M
 fw:X.Fd≠X.Wg
 mw:X.M≠X.Wg
 s0:∀c,S0 c->c<B/\c≠X.Fd/\c≠X.M/\c≠X.Wg
 vn:X.Fd<B
 Bb:X.M<B
 tJ:X.Wg<B
end
section
variable {Δ:Type}{X:Cx Δ}{S0:Nat->Prop}{γ:bg->Gh Δ}{L:bg->Lo}{B:Nat}
theorem GQ {l:Loc}(h:yC X S0 l):l.isMemory=true:=by obtain⟨a,rfl,_⟩:=h;rfl
theorem k6 {c:Nat}{a:Addr}(h:lX c (.cell a)):a.block=c:=by
 rcases h with⟨a',e,h⟩|h
 .cases e;exact h
 .cases h
theorem Lay.ap (h:Lay X S0 γ L B)(hx:¬((L .a).pc= .ur/\(L .b).pc= .ur))(hm:(L .m).pc≠.ur):Ap (yC X S0) (OL X γ L) (born L) (λr=>(γ r).own) X.M (hold L) B:=by
 have G8:∀c l,c≠X.Fd->c≠X.Wg->¬S0 c->lX c l->¬yC X S0 l:=λc l h1 h2 h3 hb ⟨a,e,ha⟩=>by
  subst e;have:=k6 hb;subst this;rcases ha with ha|ha|ha
  .exact h3 ha
  .exact h2 ha
  .exact h1 ha.1
 have Ml:∀r c l,(∀r',¬(γ r').ro c)->c≠X.Fd->lX c l->¬OL X γ L r l:=λr c l h1 h2 hb ⟨_,hr⟩=>by
  rcases hr with⟨c',h3,hb'⟩|⟨sp,e⟩
  .exact h1 r (lX.uniq hb hb'▸h3)
  .subst e
   exact h2 (k6 hb).symm
 refine⟨λr c l ho hb=>?_,λr c l r' ho hb=>?_,h.apart,λr l hr hs=>?_,λl hb=>⟨?_,λr=>?_⟩,λr ho=>?_,λr c ho=>h.lv r c (.inl ho),λc l hb hc=>⟨?_,λr=>?_⟩,h.Bb,λr c ho=>(h.sp r c (.inl ho)).2.2.2,λl=>GQ,λr l hr=>?_⟩
 .obtain⟨a1,a2,a3,_⟩:=h.sp r c (.inl ho)
  exact G8 c l a1 a2 a3 hb
 .obtain⟨a1,a2,a3,_⟩:=h.sp r c (.inl ho)
  exact Ml r' c l (λr''=>h.zT r r'' c ho) a1 hb
 .rcases hr.2 with⟨c,h3,hb⟩|⟨sp,e⟩
  .obtain⟨a1,a2,a3,_⟩:=h.sp r c (.inr h3)
   exact G8 c l a1 a2 a3 hb hs
  .subst e
   obtain⟨a,e,ha⟩:=hs;cases e;rcases ha with ha|ha|ha
   .exact(h.s0 _ ha).2.1 rfl
   .exact h.fw ha
   .exact ha.2 rfl
 .exact G8 X.M l (λe=>h.fm e.symm) h.mw (λe=>(h.s0 _ e).2.2.1 rfl) hb
 .exact Ml r X.M l h.ZT (λe=>h.fm e.symm) hb
 .have hu:=(h.vh r).1 ho
  unfold hold;cases r with
  |m=>exact absurd hu hm
  |a=>rw[χ hu]
  |b=>rw[ζ λe=>hx ⟨e,hu⟩,χ hu]
 .refine G8 c l (λe=>?_) (λe=>?_) (λe=>?_) hb
  .have:=h.vn;omega
  .have:=h.tJ;omega
  .have:=(h.s0 _ e).1;omega
 .refine Ml r c l (λr' e=>?_) (λe=>?_) hb
  .have:=(h.sp r' c (.inr e)).2.2.2;omega
  .have:=h.vn;omega
 .rcases hr.2 with⟨c,_,hb⟩|⟨sp,rfl⟩
  .exact hb.mem
  .rfl
theorem Lay.grow (h:Lay X S0 γ L B){r:bg}{B':Nat}(hB:B<=B')(hr:born L r):
  Lay X S0 (upd γ r {γ r with own:=λb=>(γ r).own b\/(B<=b/\b<B')}) L B':=by
 have ho:∀r' c,(upd γ r {γ r with own:=λb=>(γ r).own b\/(B<=b/\b<B')} r').own c->(γ r').own c\/(r'=r/\B<=c/\c<B'):=λr' c h'=>by
  by_cases e:r'=r
  .subst e;rw[upd_same] at h';exact h'.imp id λz=>⟨rfl,z⟩
  .rw[upd_ne _ _ e] at h';exact .inl h'
 have hro:∀r' c,(upd γ r {γ r with own:=λb=>(γ r).own b\/(B<=b/\b<B')} r').ro c->(γ r').ro c:=λr' c h'=>by
  by_cases e:r'=r
  .subst e;rw[upd_same] at h';exact h'
  .rw[upd_ne _ _ e] at h';exact h'
 refine⟨λr' c h'=>?_,λr' h'=>h.ZT r' (hro _ _ h'),λr'=>⟨λh'=>?_,λh'=>?_⟩,λr' r'' c h' h''=>?_,λr' r'' c h' h''=>?_,λr' c h'=>?_,h.fm,h.fw,h.mw,λc hc=>⟨ψ (h.s0 c hc).1 hB,(h.s0 c hc).2⟩,ψ h.vn hB,ψ h.Bb hB,ψ h.tJ hB⟩
 .rcases h' with h'|h'
  .rcases ho _ _ h' with h'|⟨_,h1,h2⟩
   .obtain⟨a1,a2,a3,a4⟩:=h.sp r' c (.inl h')
    exact⟨a1,a2,a3,by omega⟩
   .exact⟨λe=>by have:=h.vn;omega,λe=>by have:=h.tJ;omega,λe=>by have:=(h.s0 c e).1;omega,h2⟩
  .obtain⟨a1,a2,a3,a4⟩:=h.sp r' c (.inr (hro _ _ h'))
   exact⟨a1,a2,a3,by omega⟩
 .rcases ho _ _ h' with h'|⟨_,h1,_⟩
  .exact(h.vh r').1 h'
  .have:=h.Bb;omega
 .have:=(h.vh r').2 h'
  by_cases e:r'=r
  .subst e;rw[upd_same];exact .inl this
  .rw[upd_ne _ _ e];exact this
 .rcases ho _ _ h' with h1|⟨e1,h1,_⟩<;>rcases ho _ _ h'' with h2|⟨e2,h2,_⟩
  .exact h.apart _ _ c h1 h2
  .have:=(h.sp r' c (.inl h1)).2.2.2;omega
  .have:=(h.sp r'' c (.inl h2)).2.2.2;omega
  .rw[e1,e2]
 .rcases ho _ _ h' with h1|⟨_,h1,_⟩
  .exact h.zT _ _ c h1 (hro _ _ h'')
  .have:=(h.sp r'' c (.inr (hro _ _ h''))).2.2.2;omega
 .rcases h' with h'|h'
  .rcases ho _ _ h' with h'|⟨rfl,_⟩
   .exact h.lv r' c (.inl h')
   .exact hr
  .exact h.lv r' c (.inr (hro _ _ h'))
end
theorem TI.mono {n0:Nat}{Sh:Loc->Prop}{RO RO':bg->Loc->Prop}{lv lv':bg->Prop}{own own':bg->Nat->Prop}{M:Nat}{hold:Option bg}{mA wA:Addr}{B:Nat}{t:Trace}
  (h:TI n0 Sh RO lv own M hold mA wA B t) (h1:∀r l,RO' r l->RO r l) (h2:∀r,lv' r↔lv r) (h3:∀r c,own' r c->own r c):TI n0 Sh RO' lv' own' M hold mA wA B t:=by
 have e:lv'=lv:=funext λr=>propext (h2 r)
 subst e;exact⟨h.clean,h.quiet,λr c ho=>h.own r c (h3 r c ho),λr i x hx hr=>h.ro r i x hx (h1 r _ hr),h.guard,h.base,h.work,h.over,h.ids,h.Qz,h.nrW,h.low⟩
end aG
end
section
open Go.Conc
open Go.ConcN (sumTo)
open Go.ConcM (OsLater)
namespace aG
structure Cf (Δ:Type) where
 n0:Nat
 L:bg->Lo
 γ:bg->Gh Δ
 k:bg->Nat
 ρ:bg->Rk
 aw:bg->Nat
 ds:bg->Nat
 q:Nat->Nat
 s:Sh
 r1:Nat
 r2:Nat
def LtF (a b:bg->Rk):Prop:=∃r,Rk.Lt (a r) (b r)/\∀r',r'≠r->a r'=b r'
theorem WX:WellFounded LtF:=by
 have key:∀x:Rk,Acc Rk.Lt x->∀y:Rk,Acc Rk.Lt y->∀z:Rk,Acc Rk.Lt z->∀f:bg->Rk,f .m=x->f .a=y->f .b=z->Acc LtF f:=by
  intro x hx
  induction hx with
  |intro x _ ihx=>
  intro y hy
  induction hy with
  |intro y hy' ihy=>
  intro z hz
  induction hz with
  |intro z hz' ihz=>
  intro f h1 h2 h3;refine⟨_,λg hg=>?_⟩;obtain⟨r,hl,he⟩:=hg;cases r with
  |m=>exact ihx _ (h1▸hl) _ (Rk.acc _) _ (Rk.acc _) g rfl rfl rfl
  |a=>exact ihy _ (h2▸hl) _ (Rk.acc _) g ((he .m (by simp)).trans h1) rfl rfl
  |b=>exact ihz _ (h3▸hl) g ((he .m (by simp)).trans h1) ((he .a (by simp)).trans h2) rfl
 exact⟨λf=>key _ (Rk.acc _) _ (Rk.acc _) _ (Rk.acc _) f rfl rfl rfl⟩
abbrev Ms:=Nat×(bg->Rk)×Nat×Nat
def TZ:Ms->Ms->Prop:=Prod.Lex (·<·) (Prod.Lex LtF (Prod.Lex (·<·) (·<·)))
theorem WW:WellFounded TZ:=(Prod.lex Nat.lt_wfRel (Prod.lex ⟨LtF,WX⟩ (Prod.lex Nat.lt_wfRel Nat.lt_wfRel))).wf
def awS (aw:bg->Nat):Nat:=aw .m+aw .a+aw .b
def Cf.ms {Δ:Type}(C:Cf Δ)(n:Nat):Ms:=(oo C.L C.r1 C.r2,C.ρ,sumTo n C.q,awS C.aw)
section
variable {Δ:Type}(X:Cx Δ)(P:ω)(Post:Gh Δ->Ω->Θ->Prop)(S0:Nat->Prop)
structure Core (C:Cf Δ)(gs:Array Ω)(w:Θ)(t:Trace):Prop where
 sj:0<C.n0
 size:gs.size=C.n0+nb C.L
 tab:vu C.L C.s C.r1 C.r2
 fuel:∀r,born C.L r->oo C.L C.r1 C.r2<C.k r
 sh:ShAt X w C.s
 sit:∀r,born C.L r->∃g,gs[gid C.n0 r]? =some g/\Sit X P Post (C.k r) r (C.L r) (C.γ r) (C.ρ r) (C.aw r) (C.ds r) (C.q (gid C.n0 r)) C.s g w
 ST:∀r,¬born C.L r->(C.γ r).mine=X.c0 r/\(C.L r).n=X.N r
 old:∀i g,0<i->i<C.n0->gs[i]? =some g->QuitsD P (C.q i) (Deaf t i) g
 above:∀j,gs.size<=j->Deaf t j=0
 deaf:∀r,born C.L r->Deaf t (gid C.n0 r)=C.ds r
 data:(C.L .a).pc≠.ur->(C.L .b).pc≠.ur->∃o,w.heap[X.M]? =some o/\X.Dat (C.γ .a).mine (C.γ .b).mine o
 F7:∀r,(C.L r).pc= .ur->(C.γ r).other=(C.γ (Mc r)).mine
 fin:∀r,past (C.L r).pc=true->(C.γ r).mine=X.fin r
 rel:∀r,past (C.L r).pc=true->∃p,ConcN.RelBy (wA X) t (gid C.n0 r) p
 lay:Lay X S0 C.γ C.L w.heap.size
 ti:TI C.n0 (yC X S0) (OL X C.γ C.L) (born C.L) (λr=>(C.γ r).own) X.M (hold C.L) (mA X) (wA X) w.heap.size t
def BJ (n0:Nat)(μ:Ms)(m:Machine)(t:Trace):Prop:=∃(C:Cf Δ) (gs:Array Ω) (w:Θ) (sl:Option (Nat×Nat)),C.n0=n0/\m=crowd gs w sl/\Core X P Post S0 C gs w t/\μ=C.ms gs.size
end
section
variable {Δ:Type}{X:Cx Δ}{P:ω}{Post:Gh Δ->Ω->Θ->Prop}{S0:Nat->Prop}{C:Cf Δ}{gs:Array Ω}{w w':Θ}{t:Trace}{sl:Option (Nat×Nat)}{r:bg}{x x':Ω}{es:Array Event}
theorem lP {L:bg->Lo}{s:Sh}{r1 r2:Nat}(h:vu L s r1 r2):¬((L .a).pc= .ur/\(L .b).pc= .ur):=λ⟨x,y⟩=>h.ZY.facts.excl ⟨by simp[pm,x],by simp[pm,y]⟩
theorem jj {L:bg->Lo}{s:Sh}{r1 r2:Nat}(h:vu L s r1 r2){p:Pc}(hp:mP p=false):(L .m).pc≠p:=λe=>by have:=h.st;rw[e,hp] at this;cases this
theorem Core.ap (c:Core X P Post S0 C gs w t):Ap (yC X S0) (OL X C.γ C.L) (born C.L) (λr=>(C.γ r).own) X.M (hold C.L) w.heap.size:=c.lay.ap (lP c.tab) (jj c.tab rfl)
theorem Core.pC (c:Core X P Post S0 C gs w t):born C.L .m:=jj c.tab rfl
theorem Core.kpos (c:Core X P Post S0 C gs w t)(hr:born C.L r):∃k',C.k r=k'+1:=by
 have:=c.fuel r hr;exact⟨C.k r-1,by omega⟩
theorem I8 (lay:Lay X S0 C.γ C.L w.heap.size){deaf:Bool}(h:DX X deaf (C.γ r).ro (C.γ r).own w w' es){r':bg}(hne:r'≠r):RX X (C.γ r').ro (C.γ r').own w w':=by
 have no:∀b,b=X.Fd\/b=X.Wg->¬(C.γ r).own b:=λb hb ho=>by
  obtain⟨a1,a2,_⟩:=lay.sp r b (.inl ho);exact hb.elim a1 a2
 refine⟨h.tape,h.output,h.size,h.os,λb hb ho=>h.keep b hb λho'=>?_,λ⟨s,hs⟩=>⟨s,?_,?_⟩⟩
 .rcases ho with ho|ho
  .exact hne (lay.apart _ _ b ho ho')
  .exact lay.zT _ _ b ho' ho
 .rw[h.keep _ lay.vn (no _ (.inl rfl))];exact hs.1
 .rw[h.keep _ lay.tJ (no _ (.inr rfl))];exact hs.2
theorem PG (lay:Lay X S0 C.γ C.L w.heap.size){deaf:Bool}(h:DX X deaf (C.γ r).ro (C.γ r).own w w' es){s:Sh}(hs:ShAt X w s):ShAt X w' s:=by
 have no:∀b,b=X.Fd\/b=X.Wg->¬(C.γ r).own b:=λb hb ho=>by
  obtain⟨a1,a2,_⟩:=lay.sp r b (.inl ho);exact hb.elim a1 a2
 exact⟨by rw[h.keep _ lay.vn (no _ (.inl rfl))];exact hs.1,by rw[h.keep _ lay.tJ (no _ (.inr rfl))];exact hs.2⟩
theorem I9 (lay:Lay X S0 C.γ C.L w.heap.size)(h:ConcM.Eff X.Fd X.Wg w w'){s:Sh}(hs:ShAt X w' s)(r':bg):RX X (C.γ r').ro (C.γ r').own w w':=
 ⟨h.tape,h.output,by rw[h.size];exact φ _,h.os,λb _ ho=>by
  obtain⟨a1,a2,_⟩:=lay.sp r' b ho;exact h.block b a1 a2,λ_=>⟨s,hs⟩⟩
theorem Bm (c:Core X P Post S0 C gs w t)(hr:born C.L r):gid C.n0 r<gs.size:=by
 obtain⟨g,hg,_⟩:=c.sit r hr;exact(Ψ.1 hg).1
theorem vL {n0:Nat}(hn:0<n0){i:Nat}(h0:0<i)(h1:i<n0)(r:bg):gid n0 r≠i:=by cases r<;>simp[gid]<;>omega
theorem Core.others (c:Core X P Post S0 C gs w t)(hr:born C.L r)(acV:∀r',r'≠r->RX X (C.γ r').ro (C.γ r').own w w'){s':Sh}
  (hw:∀r',r'≠r->(C.L r').sleeps C.s=true->(C.L r').sleeps s'=true\/(mayWake P x=true/\x'.status= .running)):
  ∃aw':bg->Nat,∀r',r'≠r->born C.L r'->∃g,((gs.map (woken P x x' w')).setIfInBounds (gid C.n0 r) x')[gid C.n0 r']? =some g/\Sit X P Post (C.k r') r' (C.L r') (C.γ r') (C.ρ r') (aw' r') (C.ds r') (C.q (gid C.n0 r')) s' g w':=by
 have key:∀r',∃a,r'≠r->born C.L r'->∃g,((gs.map (woken P x x' w')).setIfInBounds (gid C.n0 r) x')[gid C.n0 r']? =some g/\Sit X P Post (C.k r') r' (C.L r') (C.γ r') (C.ρ r') a (C.ds r') (C.q (gid C.n0 r')) s' g w':=λr'=>by
  by_cases h:r'≠r/\born C.L r'
  .obtain⟨h1,h2⟩:=h
   obtain⟨g,hg,hs⟩:=c.sit r' h2;obtain⟨k',hk⟩:=c.kpos h2;rw[hk] at hs⊢;obtain⟨a,ha⟩:=hs.other (x:=x) (x':=x') (acV r' h1) (hw r' h1);exact⟨a,λ_ _=>⟨_,by rw[ConcN.get_map_set _ _ _ _ (λe=>h1 (kq c.sj e).symm),hg];rfl,ha⟩⟩
  .exact⟨0,λh1 h2=>absurd ⟨h1,h2⟩ h⟩
 exact⟨λr'=>(key r').choose,λr'=>(key r').choose_spec⟩
theorem uz {g:Nat}{fn:aa9}{pos:String}{es:Array Event}:∀op∈MemOp.ofEvents g fn pos es,op.g=g:=λop h=>by obtain⟨e,_,rfl⟩:=Go.Conc.mem_ofEvents h;rfl
theorem Core.olds (c:Core X P Post S0 C gs w t){fn:aa9}{pos:String}{es:Array Event}:∀i g,0<i->i<C.n0->((gs.map (woken P x x' w')).setIfInBounds (gid C.n0 r) x')[i]? =some g->QuitsD P (C.q i) (Deaf (t++MemOp.ofEvents (gid C.n0 r) fn pos es) i) g:=by
 intro i g h0 h1 hg;rw[ConcN.get_map_set _ _ _ _ (vL c.sj h0 h1 r)] at hg;obtain⟨y,hy,rfl⟩:=τ.1 hg;have hq:=c.old i y h0 h1 hy;rw[woken_quitsD hq,Deaf_other t (vL c.sj h0 h1 r) _ uz];exact hq
theorem xZ (c:Core X P Post S0 C gs w t)(hr:born C.L r){fn:aa9}{pos:String}{es:Array Event}{n:Nat}(hn:n=gs.size):∀j,n<=j->Deaf (t++MemOp.ofEvents (gid C.n0 r) fn pos es) j=0:=by
 intro j hj;have:=Bm c hr;rw[Deaf_other t (g':=gid C.n0 r) (by omega) _ uz];exact c.above j (by omega)
theorem uP (c:Core X P Post S0 C gs w t){fn:aa9}{pos:String}{es:Array Event}{r':bg}(hne:r'≠r)(hr':born C.L r'):Deaf (t++MemOp.ofEvents (gid C.n0 r) fn pos es) (gid C.n0 r')=C.ds r':=by
 rw[Deaf_other t (λe=>hne (kq c.sj e).symm) _ uz];exact c.deaf r' hr'
theorem wU (c:Core X P Post S0 C gs w t){fn:aa9}{pos:String}{es:Array Event}{r':bg}(hne:r'≠r){p:Nat}(h:ConcN.RelBy (wA X) t (gid C.n0 r') p):ConcN.RelBy (wA X) (t++MemOp.ofEvents (gid C.n0 r) fn pos es) (gid C.n0 r') p:=
 ConcN.RelBy.appOther h uz λe=>hne (kq c.sj e).symm
theorem si {m:Mark}(h:pi m):(MemAct.mark m).touch? =none/\m≠.disable/\m≠.enable/\(∀a,m≠.release a)/\∀B,(MemAct.mark m).low B:=by
 cases m<;>simp[pi] at h<;>simp[MemAct.touch?,MemAct.low]
theorem dB {e:Event}{m:Mark}(h:e.loc= .mark m):MemAct.ofEvent e= .mark m:=by
 obtain⟨l,a,b⟩:=e;cases h;cases a<;>cases b<;>rfl
theorem pj {e:Event}{c:Nat}(h:lX c e.loc):(∀m,MemAct.ofEvent e≠.mark m)/\(∀B,c<B->(MemAct.ofEvent e).low B)/\∀z,(MemAct.ofEvent e).touch? =some z->z.loc=e.loc/\z.write=e.write:=by
 obtain⟨l,a,b⟩:=e;rcases h with⟨ad,h,hc⟩|h
 .simp only at h
  subst h;refine⟨λm=>by cases a<;>cases b<;>simp[MemAct.ofEvent],λB hB=>?_,λz hz=>?_⟩
  .have:(MemAct.access ⟨.cell ad,a,b⟩).low B:=by show ad.block<B;omega
   cases a<;>cases b<;>exact this
  .cases a<;>cases b<;>simp[MemAct.ofEvent,MemAct.touch?] at hz<;>subst hz<;>exact⟨rfl,rfl⟩
 .simp only at h
  subst h;refine⟨λm=>by cases a<;>cases b<;>simp[MemAct.ofEvent],λB hB=>?_,λz hz=>?_⟩
  .have h1:(MemAct.access ⟨.obj c,a,b⟩).low B:=hB
   have h2:(MemAct.close c).low B:=hB;cases a<;>cases b<;>first|exact h1|exact h2
  .cases a<;>cases b<;>simp[MemAct.ofEvent,MemAct.touch?] at hz<;>subst hz<;>exact⟨rfl,rfl⟩
theorem Jk (c:Core X P Post S0 C gs w t)(hr:born C.L r){deaf:Bool}(h:DX X deaf (C.γ r).ro (C.γ r).own w w' es){fn:aa9}{pos:String}:
  ∀op∈MemOp.ofEvents (gid C.n0 r) fn pos es,OkOp C.n0 (yC X S0) (OL X C.γ C.L) (λr=>(C.γ r).own) (mA X) (wA X) w.heap.size w'.heap.size r op/\op.act≠.mark .disable/\op.act≠.mark .enable:=by
 intro op hop;obtain⟨e,he,rfl⟩:=Go.Conc.mem_ofEvents hop;rcases h.ev e he with⟨b,hb,hin⟩|⟨h1,h2,h3⟩|⟨m,h1,h2⟩
 .obtain⟨e1,e2,e3⟩:=pj hin
  have hlow:b<w'.heap.size:=by
   rcases hb with hb|hb|hb
   .have:=(c.lay.sp r b (.inl hb)).2.2.2;have:=h.size;omega
   .exact hb.2
   .have:=(c.lay.sp r b (.inr hb.1)).2.2.2;have:=h.size;omega
  refine⟨⟨rfl,e1 _,e1 _,e2 _ hlow,λz hz=>?_⟩,e1 _,e1 _⟩;obtain⟨z1,z2⟩:=e3 z hz;rw[z1,z2];rcases hb with hb|hb|hb
  .exact .inr (.inl ⟨b,hin,.inl hb⟩)
  .exact .inr (.inl ⟨b,hin,.inr hb⟩)
  .exact .inr (.inr (.inl ⟨⟨hr,.inl ⟨b,hb.1,hin⟩⟩,hb.2⟩))
 .have hin:lX X.Fd e.loc:=by rw[h1];exact .inl ⟨_,rfl,rfl⟩
  obtain⟨e1,e2,e3⟩:=pj hin;refine⟨⟨rfl,e1 _,e1 _,e2 _ (ψ c.lay.vn h.size),λz hz=>?_⟩,e1 _,e1 _⟩;obtain⟨z1,z2⟩:=e3 z hz;rw[z1,z2];exact .inr (.inr (.inl ⟨⟨hr,.inr ⟨none,h1⟩⟩,h2⟩))
 .obtain⟨m1,m2,m3,m4,m5⟩:=si h2
  have e0:=dB h1;refine⟨⟨rfl,?_,?_,?_,λz hz=>?_⟩,?_,?_⟩<;>simp only[e0]
  .simpa using m4 _
  .simpa using m4 _
  .exact m5 _
  .simp only[e0,m1] at hz;cases hz
  .simpa using m2
  .simpa using m3
theorem x5 {g:Nat}{fn:aa9}{pos:String}{es:Array Event}(hd:Deaf t g=0)(hes:∀e∈es,e.loc≠.mark .disable/\e.loc≠.mark .enable){i:Nat}{z:Touch}(hi:t.size<=i)
  (hz:touchAt (t++MemOp.ofEvents g fn pos es) i=some z) (hm:z.loc.isMemory=true):(t++MemOp.ofEvents g fn pos es).counts i:=by
 refine⟨z,hz,hm,.inr ?_⟩;obtain⟨op,ho,_⟩:=touch_of hz;have hg:op.g=g:=by
  rcases getElem?_append_cases ho with⟨h,_⟩|⟨_,h⟩
  .omega
  .exact uz op h
 have hlt:=lt_size_of_getElem? ho;have hsz:(MemOp.ofEvents g fn pos es).size=es.size:=by rw[ofEvents_eq];simp
 refine⟨g,by simp[Trace.g?,ho,hg],?_⟩;have:=deaf_inside t g fn pos es (i-t.size) (by rw[Array.size_append,hsz] at hlt;omega);rw[show t.size+(i-t.size)=i by omega] at this;rw[this,deafBehind_still (λe he=>hes e (by
  obtain⟨j,hj⟩:=Array.mem_iff_getElem?.1 he;rw[Array.getElem?_extract] at hj;split at hj
  .exact Array.mem_of_getElem? hj
  .cases hj)),hd]
theorem La (c:Core X P Post S0 C gs w t)(hr:born C.L r)(hx:gs[gid C.n0 r]? =some x){f:Θ->Rk}(hρ:C.ρ r= .mk f)(hnq:(C.L r).pc≠.quit)(hdd:C.ds r=gp (C.L r).pc)
  (hs:stepG P (vo r) x w= .go x' w' es) (hD:DX X (eQ (C.L r).pc) (C.γ r).ro (C.γ r).own w w' es)
  (hl:hU P (vo r) (fq X (eQ (C.L r).pc) (C.γ r).ro) (dR (AtR X P Post (C.k r) r) (C.L r) (C.γ r)) (f w) (λb=>(C.γ r).own b\/(w.heap.size<=b/\b<w'.heap.size)) x' w'):
  ∃m₁ ops μ',runT P (crowd gs w sl) (gid C.n0 r)=(.next m₁,ops)/\TZ μ' (C.ms gs.size)/\BJ X P Post S0 C.n0 μ' m₁ (t++ops):=by
 have hrun:=runT_crowd_go (P:=P) (sl:=sl) (i:=gid C.n0 r) hx (by rw[Bg c.sj];exact hs);obtain⟨aw',haw⟩:=c.others (x:=x) (x':=x') hr (λr' h=>I8 c.lay hD h) (s':=C.s) λr' _ h=> .inl h
 have hok:=Jk c hr hD (fn:=x.frame.fn) (pos:=x.frame.place);have hmarks:∀e∈es,e.loc≠.mark .disable/\e.loc≠.mark .enable:=λe he=>by
  have:=hok {g:=gid C.n0 r,fn:=x.frame.fn,pos:=x.frame.place,act:= .ofEvent e} (by rw[ofEvents_eq];exact Array.mem_map.2 ⟨e,he,rfl⟩);exact⟨λh=>this.2.1 (dB h),λh=>this.2.2 (dB h)⟩
 have hdeaf:Deaf (t++MemOp.ofEvents (gid C.n0 r) x.frame.fn x.frame.place es) (gid C.n0 r)=C.ds r:=by
  rw[Deaf_own,deafBehind_still hmarks];exact c.deaf r hr
 have hcnt:r≠.m->∀i z,t.size<=i->touchAt (t++MemOp.ofEvents (gid C.n0 r) x.frame.fn x.frame.place es) i=some z->z.loc.isMemory=true->(t++MemOp.ofEvents (gid C.n0 r) x.frame.fn x.frame.place es).counts i\/(yC X S0 z.loc/\z.kind= .atomic):=λ_ i z hi hz hm=>by
  by_cases hd0:gp (C.L r).pc=0
  .exact .inl (x5 (by rw[c.deaf r hr,hdd,hd0]) hmarks hi hz hm)
  .have he:=hD.mute (by simp[eQ,hd0])
   subst he;obtain⟨op,ho,_⟩:=touch_of hz;have:=lt_size_of_getElem? ho;simp[ofEvents_none] at this;omega
 have hti:=TI.app c.sj c.ap c.ti hr hD.size (λop ho=>(hok op ho).1) hcnt;have hsz:((gs.map (woken P x x' w')).setIfInBounds (gid C.n0 r) x').size=gs.size:=by simp
 let own':Nat->Prop:=λb=>(C.γ r).own b\/(w.heap.size<=b/\b<w'.heap.size)
 let C':Cf Δ:={C with γ:=upd C.γ r {C.γ r with own:=own'},ρ:=upd C.ρ r (f w),aw:=upd aw' r 1}
 have nZ:∀r',(C'.γ r').mine=(C.γ r').mine/\(C'.γ r').other=(C.γ r').other/\(C'.γ r').ro=(C.γ r').ro:=λr'=>by
  by_cases e:r'=r
  .subst e;simp[C',upd_same]
  .simp[C',upd_ne _ _ e]
 refine⟨_,_,C'.ms gs.size,hrun,.right _ (.left _ _ ⟨r,?_,λr' h=>upd_ne _ _ h⟩),C',_,w',sl,rfl,rfl,?_,by rw[hsz]⟩
 .show Rk.Lt (upd C.ρ r (f w) r) (C.ρ r)
  rw[upd_same,hρ];exact⟨f,w,rfl,rfl⟩
 .refine⟨c.sj,by rw[hsz];exact c.size,c.tab,c.fuel,PG c.lay hD c.sh,λr' hr'=>?_,λr' hr'=>?_,c.olds,xZ c hr hsz,λr' hr'=>?_,λh1 h2=>?_,λr' h=>?_,λr' h=>?_,λr' h=>?_,c.lay.grow hD.size hr,?_⟩
  .by_cases e:r'=r
   .subst e
    refine⟨x',ConcN.get_map_set_same _ _ _ (Bm c hr),.inl ⟨hnq,hdd,by simp[C',upd_same],?_⟩⟩;simp only[C',upd_same];exact hl
   .obtain⟨g,h1,h2⟩:=haw r' e hr'
    refine⟨g,h1,?_⟩;simp only[C',upd_ne _ _ e];exact h2
  .rw[(nZ r').1];exact c.ST r' hr'
  .by_cases e:r'=r
   .subst e;exact hdeaf
   .exact uP c e hr'
  .obtain⟨o,h3,h4⟩:=c.data h1 h2
   refine⟨o,?_,by rw[(nZ .a).1,(nZ .b).1];exact h4⟩;rw[hD.keep _ c.lay.Bb λho=>?_]
   .exact h3
   .have:=(c.lay.vh r).1 ho
    cases r with
    |m=>exact jj c.tab rfl this
    |a=>exact h1 this
    |b=>exact h2 this
  .rw[(nZ r').2.1,(nZ _).1];exact c.F7 r' h
  .rw[(nZ r').1];exact c.fin r' h
  .obtain⟨p,hp⟩:=c.rel r' h
   by_cases e:r'=r
   .subst e
    have he:=hD.mute (by
     revert h
     cases (C.L r').pc<;>simp[past,eQ,gp])
    subst he;rw[ofEvents_none,Array.append_empty];exact⟨p,hp⟩
   .exact⟨p,wU c e hp⟩
  .refine TI.mono hti (λr' l h=>?_) (λ_=>Iff.rfl) (λr' b h=>?_)
   .exact⟨h.1,by have:=h.2;rw[(nZ r').2.2] at this;exact this⟩
   .by_cases e:r'=r
    .subst e
     simp only[C',upd_same] at h;exact h.imp id λz=>⟨rfl,z⟩
    .simp only[C',upd_ne _ _ e] at h
     exact .inl h
end
end aG
end
end
end Go.Proofs.YtchcmhodnkgojaaGreat
